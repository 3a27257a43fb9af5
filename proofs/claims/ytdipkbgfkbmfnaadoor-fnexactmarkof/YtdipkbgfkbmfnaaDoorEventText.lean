/-
  THE CONTRACTS OF EventText of the program and of the model: the words of an event with a blank between each two, or nothing; nothing that was there is written.
  Condition: for the program's the library's table of powers of ten holds what its text lays.
-/
import Derived.Test.YtdipkbgfkbmfnaaDoorEventOk
import Derived.Test.YtdipkbgfkbmfnaaDoorNumLaw
import Derived.Test.YtdipkbgfkbmfnaaDoorGrow
import Derived.Lib.Join
namespace Go.Proofs.YtdipkbgfkbmfnaaDoor.dat
open Go.RowKit Go.Proofs.YtdipkbgfkbmfnaaDoor.win
open Go.Proofs.YtdipkbgfkbmfnaaDoor.num (Pow Pow.below Texted NumText_spec NumText_impl)

def bstr (l : List UInt8) : ByteArray := ⟨l.toArray⟩
/-- The words behind the first one. -/
def evWords (e : EventD) : List (List UInt8) := Lib.itoa e.t :: (e.ds.map Lib.itoa ++ [Lib.itoa e.v])
def evText (e : EventD) : List UInt8 := [101] ++ Lib.joinTail [32] (evWords e)
/-- EventText. -/
def evD (c : ConfD) (e : EventD) : List UInt8 := if eventB c e then evText e else []

theorem ev_bounds {c : ConfD} {e : EventD} (h : eventB c e = true) : (-100000 ≤ e.t ∧ e.t ≤ 100000) ∧ e.ds.length ≤ 3 ∧ (∀ x ∈ e.ds, 0 ≤ x ∧ x ≤ 99) ∧ (-1000000 ≤ e.v ∧ e.v ≤ 1000000) := by
  unfold eventB at h
  simp only [Bool.and_eq_true, beq_iff_eq, List.all_eq_true] at h
  obtain ⟨⟨⟨⟨h1, h2⟩, h3⟩, h4⟩, h5⟩ := h
  have hc : upB c.d 3 = true := by
    unfold confD at h1
    simp only [Bool.and_eq_true] at h1
    exact h1.1.1.1.1
  unfold upB at hc
  have hc := of_decide_eq_true hc
  refine ⟨of_decide_eq_true h2, by omega, fun x hx => ?_, of_decide_eq_true h5⟩
  exact of_decide_eq_true (h4 x hx)
theorem joinTail_append (sep : List UInt8) (a b : List (List UInt8)) : Lib.joinTail sep (a ++ b) = Lib.joinTail sep a ++ Lib.joinTail sep b := by simp [Lib.joinTail]
theorem joinTail_one (sep x : List UInt8) : Lib.joinTail sep [x] = sep ++ x := by simp [Lib.joinTail]
theorem joinTail_len {l : List (List UInt8)} {n : Nat} (h : ∀ x ∈ l, x.length ≤ n) : (Lib.joinTail [32] l).length ≤ l.length * (n + 1) := by
  induction l with
  | nil => simp [Lib.joinTail]
  | cons x r ih =>
    have h1 := h x (by simp)
    have h2 := ih (fun y hy => h y (by simp [hy]))
    have : Lib.joinTail [32] (x :: r) = (32 :: x) ++ Lib.joinTail [32] r := by simp [Lib.joinTail]
    rw [this, List.length_append, List.length_cons, List.length_cons, Nat.succ_mul]
    omega
theorem ev_itoa {c : ConfD} {e : EventD} (h : eventB c e = true) : ∀ x ∈ evWords e, x.length ≤ 21 := by
  obtain ⟨h1, h2, h3, h4⟩ := ev_bounds h
  intro x hx
  simp only [evWords, List.mem_cons, List.mem_append, List.mem_map, List.not_mem_nil, or_false] at hx
  rcases hx with rfl | ⟨y, hy, rfl⟩ | rfl
  · exact Lib.itoa_length_le _ (by omega) (by omega)
  · have := h3 y hy
    exact Lib.itoa_length_le _ (by omega) (by omega)
  · exact Lib.itoa_length_le _ (by omega) (by omega)
theorem evText_len {c : ConfD} {e : EventD} (h : eventB c e = true) : (evText e).length ≤ 200 := by
  have h1 := joinTail_len (ev_itoa h)
  have h2 : (evWords e).length ≤ 5 := by have := (ev_bounds h).2.1; simp [evWords]; omega
  have h3 : (evWords e).length * (21 + 1) ≤ 5 * (21 + 1) := Nat.mul_le_mul_right _ h2
  unfold evText
  rw [List.length_append, List.length_singleton]
  omega

theorem info_strs : ∃ i, Tryd.prog.info? 9 = some i ∧ i.zero = some (.string ByteArray.empty) ∧ i.size = 1 ∧ i.bytes = 16 := by
  obtain ⟨i, hi, h⟩ := Option.map_eq_some_iff.1 (show (Tryd.prog.info? 9).map (fun i => (i.zero, i.size, i.bytes)) = some (some (.string ByteArray.empty), 1, 16) by kernel_rfl)
  simp only [Prod.mk.injEq] at h
  exact ⟨i, hi, h.1, h.2.1, h.2.2⟩

/-- The words so far, as strings. -/
def wordsTo (e : EventD) (j : Nat) : List ByteArray := bstr [101] :: bstr (Lib.itoa e.t) :: (e.ds.take j).map fun d => bstr (Lib.itoa d)
theorem wordsTo_succ (e : EventD) {j : Nat} {x : Int} (h : e.ds[j]? = some x) : wordsTo e (j + 1) = wordsTo e j ++ [bstr (Lib.itoa x)] := by
  simp [wordsTo, List.take_add_one, h]
theorem wordsTo_len (e : EventD) (j : Nat) : (wordsTo e j).length ≤ j + 2 := by simp [wordsTo]; omega
theorem words_join (e : EventD) : Lib.join ((wordsTo e e.ds.length ++ [bstr (Lib.itoa e.v)]).map (·.data.toList)) (ByteArray.mk #[32]).data.toList = evText e := by
  have : (wordsTo e e.ds.length ++ [bstr (Lib.itoa e.v)]).map (·.data.toList) = [101] :: evWords e := by
    simp [wordsTo, evWords, bstr]
  rw [this, Lib.join_cons]
  rfl
theorem bstr_size (l : List UInt8) : (bstr l).size = l.length := by simp [bstr, ByteArray.size]

theorem cat_two (x y : List UInt8) (hx : x.length ≤ 1000) (hy : y.length ≤ 1000) (t u : ByteArray) (ht : t = ⟨x.toArray⟩) (hu : u = ⟨y.toArray⟩) : ∀ w, (Op.stringOp .add t u).run Tryd.prog w = .ok (.string (bstr (x ++ y))) w := by
  subst ht hu
  exact fun w => run_string_add_lists w x y (by omega) (by omega)
/-- The text so far. -/
def preTo (e : EventD) (j : Nat) : List UInt8 := [101] ++ Lib.joinTail [32] (Lib.itoa e.t :: (e.ds.take j).map Lib.itoa)
theorem preTo_succ (e : EventD) {j : Nat} {x : Int} (h : e.ds[j]? = some x) : preTo e (j + 1) = preTo e j ++ [32] ++ Lib.itoa x := by
  unfold preTo
  rw [List.take_add_one, h]
  have : Lib.itoa e.t :: (e.ds.take j ++ (some x).toList).map Lib.itoa = (Lib.itoa e.t :: (e.ds.take j).map Lib.itoa) ++ [Lib.itoa x] := by simp
  rw [this, joinTail_append, joinTail_one]
  simp
theorem preTo_all (e : EventD) {j : Nat} (h : e.ds.length ≤ j) : preTo e j ++ [32] ++ Lib.itoa e.v = evText e := by
  unfold preTo evText evWords
  rw [List.take_of_length_le h]
  have : Lib.itoa e.t :: (e.ds.map Lib.itoa ++ [Lib.itoa e.v]) = (Lib.itoa e.t :: e.ds.map Lib.itoa) ++ [Lib.itoa e.v] := by simp
  rw [this, joinTail_append _ (_ :: _), joinTail_one]
  simp
theorem preTo_len {c : ConfD} {e : EventD} (h : eventB c e = true) (j : Nat) : (preTo e j).length ≤ 200 := by
  have h1 : ∀ x ∈ (Lib.itoa e.t :: (e.ds.take j).map Lib.itoa), x.length ≤ 21 := by
    intro x hx
    refine ev_itoa h x ?_
    simp only [List.mem_cons, List.mem_map] at hx
    simp only [evWords, List.mem_cons, List.mem_append, List.mem_map]
    rcases hx with rfl | ⟨y, hy, rfl⟩
    · exact .inl rfl
    · exact .inr (.inl ⟨y, List.mem_of_mem_take hy, rfl⟩)
  have h2 := joinTail_len h1
  have h3 : (Lib.itoa e.t :: (e.ds.take j).map Lib.itoa).length ≤ 4 := by have := (ev_bounds h).2.1; simp; omega
  have h4 : (Lib.itoa e.t :: (e.ds.take j).map Lib.itoa).length * (21 + 1) ≤ 4 * (21 + 1) := Nat.mul_le_mul_right _ h3
  unfold preTo
  rw [List.length_append, List.length_singleton]
  omega

end Go.Proofs.YtdipkbgfkbmfnaaDoor.dat
