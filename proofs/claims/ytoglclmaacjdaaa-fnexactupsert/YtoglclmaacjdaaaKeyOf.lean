/-
  THE CONTRACTS OF KeyOf of the program and of the model: what each call answers, in memory of its own; nothing that was there is written.
-/
import Derived.Test.YtoglclmaacjdaaaBridge
import Derived.Test.YtoglclmaacjdaaaGrow
namespace Go.Proofs.Ytoglclmaacjdaaa.dat
open Go.RowKit Go.Proofs.Ytoglclmaacjdaaa.win

/-- Bit i of a mask. -/
def bitB (m : Int) (i : Nat) : Bool := m / (2 : Int) ^ i % 2 == 1
/-- What a mask keeps of the first j. -/
def keyTo (m : Int) (l : List Int) : Nat → List Int
  | 0 => []
  | j + 1 => keyTo m l j ++ (if bitB m j then l[j]?.toList else [])
theorem keyTo_len (m : Int) (l : List Int) : ∀ j, (keyTo m l j).length ≤ j
  | 0 => by simp [keyTo]
  | j + 1 => by
    have := keyTo_len m l j
    simp only [keyTo, List.length_append]
    split
    · cases l[j]? <;> simp <;> omega
    · simp; omega
theorem keyTo_yes {m : Int} {l : List Int} {j : Nat} {x : Int} (h : bitB m j = true) (hx : l[j]? = some x) : keyTo m l (j + 1) = keyTo m l j ++ [x] := by
  simp [keyTo, h, hx]
theorem keyTo_no {m : Int} {l : List Int} {j : Nat} (h : bitB m j = false) : keyTo m l (j + 1) = keyTo m l j := by
  simp [keyTo, h]
def keyOk (c : ConfD) (m : Int) (l : List Int) : Bool := confD c && inB c.d m && ((l.length : Int) == c.d)
/-- KeyOf. -/
def keyD (c : ConfD) (m : Int) (l : List Int) : List Int := if keyOk c m l then keyTo m l l.length else []
theorem keyD_len (c : ConfD) (m : Int) (l : List Int) : (keyD c m l).length ≤ l.length := by
  unfold keyD
  split
  · exact keyTo_len m l _
  · simp
theorem conf_dims {c : ConfD} (h : confD c = true) : 0 ≤ c.d ∧ c.d ≤ 3 := by
  unfold confD at h
  simp only [Bool.and_eq_true] at h
  have := h.1.1.1.1
  unfold upB at this
  simpa using this
theorem key_small {c : ConfD} {m : Int} {l : List Int} (h : keyOk c m l = true) : 0 ≤ m ∧ m < 8 ∧ l.length ≤ 3 := by
  unfold keyOk at h
  simp only [Bool.and_eq_true, beq_iff_eq] at h
  have h1 := conf_dims h.1.1
  have h2 := h.1.2
  unfold inB at h2
  have h2 := of_decide_eq_true h2
  have h3 : pw c.d ≤ 8 := by unfold pw; repeat (first | omega | split)
  omega

theorem mask_bit {m : Int} {j : Nat} (h0 : 0 ≤ m) (h8 : m < 8) (hj : j < 3) : maskB ((2 : Int) ^ j) m = bitB m j := by
  have h1 : m = 0 ∨ m = 1 ∨ m = 2 ∨ m = 3 ∨ m = 4 ∨ m = 5 ∨ m = 6 ∨ m = 7 := by omega
  have h2 : j = 0 ∨ j = 1 ∨ j = 2 := by omega
  rcases h1 with rfl | rfl | rfl | rfl | rfl | rfl | rfl | rfl <;> rcases h2 with rfl | rfl | rfl <;> decide

set_option maxHeartbeats 2000000 in
theorem l03Bit {m : Int} {j : Nat} (h0 : 0 ≤ m) (h8 : m < 8) (hj : j < 3) (w : World) : Calls Try.prog 183 #[.int .i64 m, .int .i64 j] w fun e w' => e = .returned (.bool (bitB m j)) ∧ w = w' := by
  have h1 : m = 0 ∨ m = 1 ∨ m = 2 ∨ m = 3 ∨ m = 4 ∨ m = 5 ∨ m = 6 ∨ m = 7 := by omega
  have h2 : j = 0 ∨ j = 1 ∨ j = 2 := by omega
  clear h0 h8 hj
  rcases h2 with rfl | rfl | rfl <;> rcases h1 with rfl | rfl | rfl | rfl | rfl | rfl | rfl | rfl
  all_goals (
    go_enter Try.func183, Try.ntmps183
    go_wp2_with fail
    go_ret
    exact ⟨rfl, rfl⟩)

theorem info_ints : ∃ i, Try.prog.info? 3 = some i ∧ i.zero = some (.int .i64 0) ∧ i.size = 1 ∧ i.bytes = 8 := by
  obtain ⟨i, hi, h⟩ := Option.map_eq_some_iff.1 info_int
  simp only [Prod.mk.injEq] at h
  exact ⟨i, hi, h.1, h.2.1, h.2.2⟩

/-- A slice of numbers, as a call answers it: a row; its own. -/
def GiveI (w : World) (l : List Int) (r : Ending) (w' : World) : Prop := ∃ (a : Option Addr) (n c : Nat) (f : List Nat), r = .returned (.slice a n c) ∧ GRow 1 RInt w' a n l f ∧ n ≤ c ∧ c ≤ 9223372036854775807 ∧ Own w.heap.size w' f ∧ Below w.heap.size w w'
theorem give_of {w wr : World} {base : Nat} {v : Value} {l : List Int} (h : Grows 1 RInt 3 base wr v l) (hb : w.heap.size ≤ base) (hB : Below w.heap.size w wr) : GiveI w l (.returned v) wr := by
  obtain ⟨a, cap, fp, rfl, hg, h1, h2, ho⟩ := h.done
  exact ⟨a, _, cap, fp, rfl, hg, h1, h2, ho.mono hb, hB⟩

set_option maxRecDepth 100000 in
set_option maxHeartbeats 2000000 in
theorem l03Key (m : Int) (a : Option Addr) (len cap : Nat) (l : List Int) (fp : List Nat) (w : World) (h0 : 0 ≤ m) (h8 : m < 8) (hl3 : len ≤ 3) (hrow : GRow 1 RInt w a len l fp) :
    Calls Try.prog 205 #[.int .i64 m, .slice a len cap] w (GiveI w (keyTo m l len)) := by
  have HR := Lib.hid hrow
  clear hrow
  obtain ⟨i0, hi, hz0, hz1, hz2⟩ := info_ints
  go_enter Try.func205, Try.ntmps205
  go_wp2_with fail
  go_loopg [5, 6] len (fun k v i wr => ∃ j : Nat, j + k = len ∧ i = .int .i64 j ∧ Grows 1 RInt 3 w.heap.size wr v (keyTo m l j) ∧ Below w.heap.size w wr)
  case atStart => exact ⟨0, by omega, rfl, Grows.made _ _ (Nat.le_refl _) (by simp [maxLen]) (by simp), by repeat (first | exact Below.refl _ _ | refine Below.setCell ?_ (by first | omega | (simp; done) | (simp; omega)) _ | refine Below.alloc ?_ (by first | omega | (simp; done) | (simp; omega)) _ | apply Below.drew)⟩
  case round =>
    obtain ⟨j, hj, rfl, hG, hB⟩ := hrel
    have HG := Lib.hid hG
    have HB := Lib.hid hB
    by_cases hlt : j < len
    case neg =>
      obtain rfl : j = len := by omega
      clear hG hB
      go_wp2_with fail
      go_ret
      exact give_of HG.out (Nat.le_refl _) HB.out
    obtain ⟨b, off, x, f, cs, rfl, hbl, hx, hcl, hR, hc⟩ := HR.out.at hlt
    obtain ⟨rfl, rfl⟩ := hR
    have c0 : wr.cell? ⟨b, off + j, none⟩ = some (.int .i64 x) := by have := (hB.cell (p := ⟨b, off + j * 1 + 0, none⟩) hbl).trans (hc 0 (by omega)); simpa using this
    have hlt2 : (j : Int) < (len : Int) := by omega
    have h02 : (0 : Int) ≤ (j : Int) := by omega
    have HX := Lib.hid hx
    clear hx hc hG hB
    cases hp : bitB m j with
    | false =>
      have HP := Lib.hid (keyTo_no (l := l) hp)
      have hbit : ∀ w, Calls Try.prog 183 #[.int .i64 m, .int .i64 j] w fun e w' => e = .returned (.bool false) ∧ w = w' := by rw [← hp]; exact l03Bit h0 h8 (by omega)
      have HBit := Lib.hid hbit
      clear hp hbit
      go_wp2_with fail
      refine (HBit.out _).mono ?_
      rintro e w3 ⟨rfl, rfl⟩
      go_wp2_with fail
      go_roundg (len - (j + 1))
      case measure => omega
      case rel => exact ⟨j + 1, by omega, by go_num, by rw [HP.out]; exact HG.out, HB.out⟩
    | true =>
      have HP := Lib.hid (keyTo_yes hp HX.out)
      have hbit : ∀ w, Calls Try.prog 183 #[.int .i64 m, .int .i64 j] w fun e w' => e = .returned (.bool true) ∧ w = w' := by rw [← hp]; exact l03Bit h0 h8 (by omega)
      have HBit := Lib.hid hbit
      clear hp hbit
      have hk := keyTo_len m l j
      go_wp2_with fail
      refine (HBit.out _).mono ?_
      rintro e w3 ⟨rfl, rfl⟩
      go_wp2_with (at_builtin; refine push local_int rfl _ _ 29 rfl i0 (.int .i64 0) 8 Try.underlying29 hi hz0 hz1 hz2 rfl (by decide) rfl HG.out ((Below.refl _ _).alloc (Nat.le_refl _) _) wr.heap.size 1 rfl [.int .i64 x] rfl (fun u hu => by simp at hu; subst hu; rfl) (fun j u hj => by have := cell_one_new wr (.int .i64 x) 3 j u hj; rwa [Go.WideShapes.add_plain, Nat.zero_add] at this) x [] ⟨rfl, rfl⟩ Own.nil (by omega) (by unfold maxLen; omega) HB.out.size ?_; intro v' w3 hG3 hb3)
      go_roundg (len - (j + 1))
      case measure => omega
      case rel => exact ⟨j + 1, by omega, by go_num, by rw [HP.out]; exact hG3, (HB.out.alloc HB.out.size _).trans hb3⟩

/-- The row's length, from its data's. -/
theorem keyD_yes {c : ConfD} {m : Int} {l : List Int} {len : Nat} (hl : l.length = len) (h : keyOk c m l = true) : keyD c m l = keyTo m l len := by
  unfold keyD; rw [if_pos h, hl]
theorem keyD_no {c : ConfD} {m : Int} {l : List Int} (h : keyOk c m l = false) : keyD c m l = [] := by
  unfold keyD; rw [h]; rfl
theorem give_nil {w w' : World} (hB : Below w.heap.size w w') : GiveI w [] (.returned (.slice none 0 0)) w' :=
  ⟨none, 0, 0, [], rfl, GRow.nil, Nat.le_refl _, Nat.zero_le _, Own.nil, hB⟩

theorem give_drop {w W : World} {L K : List Int} {r : Ending} {w' : World} (hb : Below w.heap.size w W) (h : GiveI W L r w') (e : K = L) : ∃ (a : Option Addr) (n c' : Nat) (f : List Nat), r = .returned (.slice a n c') ∧ GRow 1 RInt w' a n K f ∧ n ≤ c' ∧ c' ≤ 9223372036854775807 ∧ Below w.heap.size w w' := by
  subst e
  obtain ⟨a, n, c', f, h1, h2, h3, h4, _, h5⟩ := h
  exact ⟨a, n, c', f, h1, h2, h3, h4, hb.trans (h5.mono hb.size)⟩

end Go.Proofs.Ytoglclmaacjdaaa.dat
