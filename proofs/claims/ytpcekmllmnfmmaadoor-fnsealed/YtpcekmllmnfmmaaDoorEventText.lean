/-
  THE CONTRACTS OF EventText of the program and of the model: the words of an event with a blank between each two, or nothing; nothing that was there is written.
  Condition: for the program's the library's table of powers of ten holds what its text lays.
-/
import Derived.Test.YtpcekmllmnfmmaaDoorEventOk
import Derived.Test.YtpcekmllmnfmmaaDoorNumsText
namespace Go.Proofs.YtpcekmllmnfmmaaDoor.dat
open Go.RowKit Go.Proofs.YtpcekmllmnfmmaaDoor.win
open Go.Proofs.YtpcekmllmnfmmaaDoor.num (Pow Pow.below Texted NumText_spec NumText_impl)

/-- The words behind the first one. -/
def evWords (e : EventD) : List (List UInt8) := Lib.itoa e.t :: (e.ds.map Lib.itoa ++ [Lib.itoa e.v])
def evText (e : EventD) : List UInt8 := [101] ++ Lib.joinTail [32] (evWords e)
/-- EventText. -/
def evD (c : ConfD) (e : EventD) : List UInt8 := if eventB c e then evText e else []

theorem ev_bounds {c : ConfD} {e : EventD} (h : eventB c e = true) : (-100000 ≤ e.t ∧ e.t ≤ 100000) ∧ e.ds.length ≤ 3 ∧ (∀ x ∈ e.ds, 0 ≤ x ∧ x ≤ 99) ∧ (-1000000 ≤ e.v ∧ e.v ≤ 1000000) := by
  unfold eventB at h
  simp only [Bool.and_eq_true, beq_iff_eq, List.all_eq_true] at h
  obtain ⟨⟨⟨⟨h1, h2⟩, h3⟩, h4⟩, h5⟩ := h
  have hc : upB c.d 3 = true := by
    unfold confD at h1
    simp only [Bool.and_eq_true] at h1
    exact h1.1.1.1.1
  unfold upB at hc
  have hc := of_decide_eq_true hc
  refine ⟨of_decide_eq_true h2, by omega, fun x hx => ?_, of_decide_eq_true h5⟩
  exact of_decide_eq_true (h4 x hx)
theorem joinTail_append (sep : List UInt8) (a b : List (List UInt8)) : Lib.joinTail sep (a ++ b) = Lib.joinTail sep a ++ Lib.joinTail sep b := by simp [Lib.joinTail]
theorem joinTail_one (sep x : List UInt8) : Lib.joinTail sep [x] = sep ++ x := by simp [Lib.joinTail]
theorem ev_itoa {c : ConfD} {e : EventD} (h : eventB c e = true) : ∀ x ∈ evWords e, x.length ≤ 21 := by
  obtain ⟨h1, h2, h3, h4⟩ := ev_bounds h
  intro x hx
  simp only [evWords, List.mem_cons, List.mem_append, List.mem_map, List.not_mem_nil, or_false] at hx
  rcases hx with rfl | ⟨y, hy, rfl⟩ | rfl
  · exact Lib.itoa_length_le _ (by omega) (by omega)
  · have := h3 y hy
    exact Lib.itoa_length_le _ (by omega) (by omega)
  · exact Lib.itoa_length_le _ (by omega) (by omega)
theorem evText_len {c : ConfD} {e : EventD} (h : eventB c e = true) : (evText e).length ≤ 200 := by
  have h1 := joinTail_len (ev_itoa h)
  have h2 : (evWords e).length ≤ 5 := by have := (ev_bounds h).2.1; simp [evWords]; omega
  have h3 : (evWords e).length * (21 + 1) ≤ 5 * (21 + 1) := Nat.mul_le_mul_right _ h2
  unfold evText
  rw [List.length_append, List.length_singleton]
  omega

/-- The words so far, as strings. -/
def wordsTo (e : EventD) (j : Nat) : List ByteArray := bstr [101] :: bstr (Lib.itoa e.t) :: (e.ds.take j).map fun d => bstr (Lib.itoa d)
theorem wordsTo_succ (e : EventD) {j : Nat} {x : Int} (h : e.ds[j]? = some x) : wordsTo e (j + 1) = wordsTo e j ++ [bstr (Lib.itoa x)] := by
  simp [wordsTo, List.take_add_one, h]
theorem wordsTo_len (e : EventD) (j : Nat) : (wordsTo e j).length ≤ j + 2 := by simp [wordsTo]; omega
theorem words_join (e : EventD) : Lib.join ((wordsTo e e.ds.length ++ [bstr (Lib.itoa e.v)]).map (·.data.toList)) (ByteArray.mk #[32]).data.toList = evText e := by
  have : (wordsTo e e.ds.length ++ [bstr (Lib.itoa e.v)]).map (·.data.toList) = [101] :: evWords e := by
    simp [wordsTo, evWords, bstr]
  rw [this, Lib.join_cons]
  rfl
theorem cat_two_ev (x y : List UInt8) (hx : x.length ≤ 1000) (hy : y.length ≤ 1000) (t u : ByteArray) (ht : t = ⟨x.toArray⟩) (hu : u = ⟨y.toArray⟩) : ∀ w, (Op.stringOp .add t u).run Tryd.prog w = .ok (.string (bstr (x ++ y))) w := by
  subst ht hu
  exact fun w => run_string_add_lists w x y (by omega) (by omega)
/-- The text so far. -/
def preTo (e : EventD) (j : Nat) : List UInt8 := [101] ++ Lib.joinTail [32] (Lib.itoa e.t :: (e.ds.take j).map Lib.itoa)
theorem preTo_succ (e : EventD) {j : Nat} {x : Int} (h : e.ds[j]? = some x) : preTo e (j + 1) = preTo e j ++ [32] ++ Lib.itoa x := by
  unfold preTo
  rw [List.take_add_one, h]
  have : Lib.itoa e.t :: (e.ds.take j ++ (some x).toList).map Lib.itoa = (Lib.itoa e.t :: (e.ds.take j).map Lib.itoa) ++ [Lib.itoa x] := by simp
  rw [this, joinTail_append, joinTail_one]
  simp
theorem preTo_all (e : EventD) {j : Nat} (h : e.ds.length ≤ j) : preTo e j ++ [32] ++ Lib.itoa e.v = evText e := by
  unfold preTo evText evWords
  rw [List.take_of_length_le h]
  have : Lib.itoa e.t :: (e.ds.map Lib.itoa ++ [Lib.itoa e.v]) = (Lib.itoa e.t :: e.ds.map Lib.itoa) ++ [Lib.itoa e.v] := by simp
  rw [this, joinTail_append _ (_ :: _), joinTail_one]
  simp
theorem preTo_len {c : ConfD} {e : EventD} (h : eventB c e = true) (j : Nat) : (preTo e j).length ≤ 200 := by
  have h1 : ∀ x ∈ (Lib.itoa e.t :: (e.ds.take j).map Lib.itoa), x.length ≤ 21 := by
    intro x hx
    refine ev_itoa h x ?_
    simp only [List.mem_cons, List.mem_map] at hx
    simp only [evWords, List.mem_cons, List.mem_append, List.mem_map]
    rcases hx with rfl | ⟨y, hy, rfl⟩
    · exact .inl rfl
    · exact .inr (.inl ⟨y, List.mem_of_mem_take hy, rfl⟩)
  have h2 := joinTail_len h1
  have h3 : (Lib.itoa e.t :: (e.ds.take j).map Lib.itoa).length ≤ 4 := by have := (ev_bounds h).2.1; simp; omega
  have h4 : (Lib.itoa e.t :: (e.ds.take j).map Lib.itoa).length * (21 + 1) ≤ 4 * (21 + 1) := Nat.mul_le_mul_right _ h3
  unfold preTo
  rw [List.length_append, List.length_singleton]
  omega

set_option maxRecDepth 100000 in
set_option maxHeartbeats 2000000 in
theorem spec_EventText (c : ConfD) (ch : ConfigH) (cf : List Nat) (e : EventD) (eh : EventH) (ef : List Nat) (w : World) (hc : Config.Is w c ch cf) (he : Event.Is w e eh ef) :
    Calls Tryd.prog 27 #[.agg (Config.list c ch).toArray, .agg (Event.list e eh).toArray] w (Texted (evD c e) w) := by
  have HC := Lib.hid hc
  have HE := Lib.hid he
  have HO := Lib.hid (fun w h1 h2 => spec_EventOk c ch cf e eh ef w h1 h2)
  obtain ⟨f0, rfl, r0, u0, v0⟩ := he
  have HG := Lib.hid r0
  have HL := Lib.hid r0.1
  clear hc r0
  obtain ⟨r, hr⟩ : ∃ r, evD c e = r := ⟨_, rfl⟩
  rw [hr]
  unfold evD at hr
  have HR := Lib.hid hr
  clear hr
  simp only [Config.list, Event.list] at *
  go_enter Tryd.func27, Tryd.ntmps27
  go_wp2_with fail
  refine calls_gen (fun W => Below w.heap.size w W ∧ Blk W (w.heap.size + 1) 56 (Event.list e eh)) ⟨by repeat (first | exact Below.refl _ _ | refine Below.setCell ?_ (by first | omega | (simp; done) | (simp; omega)) _ | refine Below.alloc ?_ (by first | omega | (simp; done) | (simp; omega)) _ | apply Below.drew), by unfold Event.list; with_reducible (repeat (first | (refine blk_new_at _ _ _ _ ?_; first | rfl | (simp; done)) | refine Blk.alloc ?_ _ | apply Blk.drew | refine Blk.setOther ?_ (by first | (simp; done) | (simp; omega)) _))⟩ ?_
  rintro W1 ⟨b1, m1⟩
  refine (HO.out _ (HC.out.below b1) (HE.out.below b1)).mono ?_
  rintro e' W2 ⟨rfl, b2⟩
  have B2 := Lib.hid (b1.trans (b2.mono b1.size))
  have M2 := Lib.hid (m1.below b2 m1.lt)
  clear b1 m1 b2
  have d0 := M2.out.cell 0
  simp [Event.list] at d0
  cases p1 : eventB c e with
  | false =>
    have hR := HR.out
    rw [p1] at hR
    have HR2 := Lib.hid hR
    clear hR p1 HR
    go_wp2_with fail
    go_ret
    rw [← HR2.out]
    exact ⟨rfl, B2.out⟩
  | true =>
  have hR := HR.out
  rw [p1, if_pos rfl] at hR
  have HR2 := Lib.hid hR
  have HEV := Lib.hid p1
  have HBd := Lib.hid (ev_bounds p1)
  clear hR p1 HR
  have hcat := cat_two_ev [101, 32] (Lib.itoa e.t) (by simp) (by have := Lib.itoa_length_le e.t (by have := HBd.out.1; omega) (by have := HBd.out.1; omega); omega) ⟨#[101, 32]⟩ ⟨(Lib.itoa e.t).toArray⟩ rfl rfl
  have hpre : [101, 32] ++ Lib.itoa e.t = preTo e 0 := by simp [preTo, joinTail_one]
  rw [hpre] at hcat
  clear hpre
  go_wp2_with fail
  refine (NumText_spec e.t _ (by have := HBd.out.1; omega) (by have := HBd.out.1; omega)).mono ?_
  rintro e' W3 ⟨rfl, b3⟩
  have B3 := Lib.hid (B2.out.trans (b3.mono B2.out.size))
  have M3 := Lib.hid (M2.out.below b3 M2.out.lt)
  clear b3 d0
  go_wp2_with fail
  clear hcat
  go_loopg [5, 6] eh.dsl (fun k v i wr => ∃ j : Nat, j + k = eh.dsl ∧ i = .int .i64 j ∧ v = .string (bstr (preTo e j)) ∧ Below W3.heap.size W3 wr)
  case atStart => exact ⟨0, by omega, rfl, rfl, Below.refl _ _⟩
  case round =>
    obtain ⟨j, hj, rfl, rfl, hB3⟩ := hrel
    have H3 := Lib.hid hB3
    have hB := B3.out.trans (hB3.mono B3.out.size)
    have HB := Lib.hid hB
    have m1 := (M3.out.below hB3 M3.out.lt).cell 1
    simp [Event.list] at m1
    have hpl := preTo_len HEV.out j
    have hc1 := cat_two_ev (preTo e j) [32] (by omega) (by simp) (bstr (preTo e j)) ⟨#[32]⟩ rfl rfl
    by_cases hlt : j < eh.dsl
    · obtain ⟨b, off, x, f, cs, hab, hbl, hx, hcl, hRx, hcc⟩ := HG.out.at hlt
      obtain ⟨rfl, rfl⟩ := hRx
      have hcell : wr.cell? ⟨b, off + j, none⟩ = some (.int .i64 x) := by
        have := (hB.cell (p := ⟨b, off + j * 1 + 0, none⟩) hbl).trans (hcc 0 (by omega))
        simpa using this
      rw [hab] at m1
      have hlt2 : (j : Int) < (eh.dsl : Int) := by omega
      have h02 : (0 : Int) ≤ (j : Int) := by omega
      have hxb := HBd.out.2.2.1 x (List.mem_of_getElem? hx)
      have hitl := Lib.itoa_length_le x (by omega) (by omega)
      have hc2 := cat_two_ev (preTo e j ++ [32]) (Lib.itoa x) (by simp; omega) (by omega) (bstr (preTo e j ++ [32])) ⟨(Lib.itoa x).toArray⟩ rfl rfl
      rw [← preTo_succ e hx] at hc2
      clear hB hB3 hx hcc hab hpl
      go_wp2_with fail
      refine (NumText_spec x _ (by omega) (by omega)).mono ?_
      rintro e' w3 ⟨rfl, b3⟩
      have H33 := Lib.hid (H3.out.trans (b3.mono H3.out.size))
      clear b3 hcell m1
      go_wp2_with fail
      go_roundg (eh.dsl - (j + 1))
      case measure => omega
      case rel => exact ⟨j + 1, by omega, by go_num, rfl, H33.out⟩
    · have hjl : e.ds.length ≤ j := by have := HL.out; omega
      have hv := HBd.out.2.2.2
      have m2 := (M3.out.below hB3 M3.out.lt).cell 2
      simp [Event.list] at m2
      have hitl := Lib.itoa_length_le e.v (by omega) (by omega)
      have hc2 := cat_two_ev (preTo e j ++ [32]) (Lib.itoa e.v) (by simp; omega) (by omega) (bstr (preTo e j ++ [32])) ⟨(Lib.itoa e.v).toArray⟩ rfl rfl
      rw [preTo_all e hjl] at hc2
      clear hB hB3 hpl
      go_wp2_with fail
      refine (NumText_spec e.v _ (by omega) (by omega)).mono ?_
      rintro e' w3 ⟨rfl, b3⟩
      have H33 := Lib.hid (B3.out.trans ((H3.out.trans (b3.mono H3.out.size)).mono B3.out.size))
      clear b3 m1 m2
      go_wp2_with fail
      go_ret
      rw [← HR2.out]
      exact ⟨rfl, H33.out⟩
end Go.Proofs.YtpcekmllmnfmmaaDoor.dat
