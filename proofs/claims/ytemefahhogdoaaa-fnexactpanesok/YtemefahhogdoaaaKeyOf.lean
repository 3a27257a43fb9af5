/-
  THE CONTRACTS OF KeyOf of the program and of the model: what each call answers, in memory of its own; nothing that was there is written.
-/
import Derived.Test.YtemefahhogdoaaaBridge
import Derived.Test.YtemefahhogdoaaaGrow
namespace Go.Proofs.Ytemefahhogdoaaa.dat
open Go.RowKit Go.Proofs.Ytemefahhogdoaaa.win

/-- Bit i of a mask. -/
def bitB (m : Int) (i : Nat) : Bool := m / (2 : Int) ^ i % 2 == 1
/-- What a mask keeps of the first j. -/
def keyTo (m : Int) (l : List Int) : Nat → List Int
  | 0 => []
  | j + 1 => keyTo m l j ++ (if bitB m j then l[j]?.toList else [])
theorem keyTo_len (m : Int) (l : List Int) : ∀ j, (keyTo m l j).length ≤ j
  | 0 => by simp [keyTo]
  | j + 1 => by
    have := keyTo_len m l j
    simp only [keyTo, List.length_append]
    split
    · cases l[j]? <;> simp <;> omega
    · simp; omega
theorem keyTo_yes {m : Int} {l : List Int} {j : Nat} {x : Int} (h : bitB m j = true) (hx : l[j]? = some x) : keyTo m l (j + 1) = keyTo m l j ++ [x] := by
  simp [keyTo, h, hx]
theorem keyTo_no {m : Int} {l : List Int} {j : Nat} (h : bitB m j = false) : keyTo m l (j + 1) = keyTo m l j := by
  simp [keyTo, h]
def keyOk (c : ConfD) (m : Int) (l : List Int) : Bool := confD c && inB c.d m && ((l.length : Int) == c.d)
/-- KeyOf. -/
def keyD (c : ConfD) (m : Int) (l : List Int) : List Int := if keyOk c m l then keyTo m l l.length else []
theorem keyD_len (c : ConfD) (m : Int) (l : List Int) : (keyD c m l).length ≤ l.length := by
  unfold keyD
  split
  · exact keyTo_len m l _
  · simp
theorem conf_dims {c : ConfD} (h : confD c = true) : 0 ≤ c.d ∧ c.d ≤ 3 := by
  unfold confD at h
  simp only [Bool.and_eq_true] at h
  have := h.1.1.1.1
  unfold upB at this
  simpa using this
theorem key_small {c : ConfD} {m : Int} {l : List Int} (h : keyOk c m l = true) : 0 ≤ m ∧ m < 8 ∧ l.length ≤ 3 := by
  unfold keyOk at h
  simp only [Bool.and_eq_true, beq_iff_eq] at h
  have h1 := conf_dims h.1.1
  have h2 := h.1.2
  unfold inB at h2
  have h2 := of_decide_eq_true h2
  have h3 : pw c.d ≤ 8 := by unfold pw; repeat (first | omega | split)
  omega

theorem mask_bit {m : Int} {j : Nat} (h0 : 0 ≤ m) (h8 : m < 8) (hj : j < 3) : maskB ((2 : Int) ^ j) m = bitB m j := by
  have h1 : m = 0 ∨ m = 1 ∨ m = 2 ∨ m = 3 ∨ m = 4 ∨ m = 5 ∨ m = 6 ∨ m = 7 := by omega
  have h2 : j = 0 ∨ j = 1 ∨ j = 2 := by omega
  rcases h1 with rfl | rfl | rfl | rfl | rfl | rfl | rfl | rfl <;> rcases h2 with rfl | rfl | rfl <;> decide

set_option maxHeartbeats 2000000 in
theorem l03Bit {m : Int} {j : Nat} (h0 : 0 ≤ m) (h8 : m < 8) (hj : j < 3) (w : World) : Calls Try.prog 132 #[.int .i64 m, .int .i64 j] w fun e w' => e = .returned (.bool (bitB m j)) ∧ w = w' := by
  have h1 : m = 0 ∨ m = 1 ∨ m = 2 ∨ m = 3 ∨ m = 4 ∨ m = 5 ∨ m = 6 ∨ m = 7 := by omega
  have h2 : j = 0 ∨ j = 1 ∨ j = 2 := by omega
  clear h0 h8 hj
  rcases h2 with rfl | rfl | rfl <;> rcases h1 with rfl | rfl | rfl | rfl | rfl | rfl | rfl | rfl
  all_goals (
    go_enter Try.func132, Try.ntmps132
    go_wp2_with fail
    go_ret
    exact ⟨rfl, rfl⟩)

theorem info_ints : ∃ i, Try.prog.info? 3 = some i ∧ i.zero = some (.int .i64 0) ∧ i.size = 1 ∧ i.bytes = 8 := by
  obtain ⟨i, hi, h⟩ := Option.map_eq_some_iff.1 info_int
  simp only [Prod.mk.injEq] at h
  exact ⟨i, hi, h.1, h.2.1, h.2.2⟩

/-- A slice of numbers, as a call answers it: a row; its own. -/
def GiveI (w : World) (l : List Int) (r : Ending) (w' : World) : Prop := ∃ (a : Option Addr) (n c : Nat) (f : List Nat), r = .returned (.slice a n c) ∧ GRow 1 RInt w' a n l f ∧ n ≤ c ∧ c ≤ 9223372036854775807 ∧ Own w.heap.size w' f ∧ Below w.heap.size w w'
theorem give_of {w wr : World} {base : Nat} {v : Value} {l : List Int} (h : Grows 1 RInt 3 base wr v l) (hb : w.heap.size ≤ base) (hB : Below w.heap.size w wr) : GiveI w l (.returned v) wr := by
  obtain ⟨a, cap, fp, rfl, hg, h1, h2, ho⟩ := h.done
  exact ⟨a, _, cap, fp, rfl, hg, h1, h2, ho.mono hb, hB⟩

/-- The row's length, from its data's. -/
theorem keyD_yes {c : ConfD} {m : Int} {l : List Int} {len : Nat} (hl : l.length = len) (h : keyOk c m l = true) : keyD c m l = keyTo m l len := by
  unfold keyD; rw [if_pos h, hl]
theorem keyD_no {c : ConfD} {m : Int} {l : List Int} (h : keyOk c m l = false) : keyD c m l = [] := by
  unfold keyD; rw [h]; rfl
theorem give_nil {w w' : World} (hB : Below w.heap.size w w') : GiveI w [] (.returned (.slice none 0 0)) w' :=
  ⟨none, 0, 0, [], rfl, GRow.nil, Nat.le_refl _, Nat.zero_le _, Own.nil, hB⟩

theorem give_drop {w W : World} {L K : List Int} {r : Ending} {w' : World} (hb : Below w.heap.size w W) (h : GiveI W L r w') (e : K = L) : ∃ (a : Option Addr) (n c' : Nat) (f : List Nat), r = .returned (.slice a n c') ∧ GRow 1 RInt w' a n K f ∧ n ≤ c' ∧ c' ≤ 9223372036854775807 ∧ Below w.heap.size w w' := by
  subst e
  obtain ⟨a, n, c', f, h1, h2, h3, h4, _, h5⟩ := h
  exact ⟨a, n, c', f, h1, h2, h3, h4, hb.trans (h5.mono hb.size)⟩

end Go.Proofs.Ytemefahhogdoaaa.dat
