/-
  THE CONTRACTS OF pick AND same OF THE LAWS: a number within its range; two slices of the same numbers are the same.
  Condition: the code is a slice of bytes, at most 2,000,000 of them; the slices' elements are the numbers of a list, at most 2,000,000.
-/
import Derived.Test.YtpjimeanimghdaaIntRows
import Derived.Test.YtpjimeanimghdaaCurBase
namespace Go.Proofs.Ytpjimeanimghdaa.win
open Go.RowKit


theorem big_any (a : Option Addr) (len cap : Nat) (t : Bool) (w : World) (ht : decide (1048576 < len) = t) : Calls Try.prog 10 #[.slice a len cap] w fun e w' => e = .returned (.bool t) ∧ w = w' := by
  by_cases h : 1048576 < len
  · have : t = true := by rw [← ht]; simp [h]
    subst this; exact cur.big_yes a len cap w h
  · have : t = false := by rw [← ht]; simp; omega
    subst this; exact cur.big_no a len cap w h

set_option maxRecDepth 100000 in
set_option maxHeartbeats 400000 in
theorem same_same (a a' : Option Addr) (len cap cap' : Nat) (l : List Int) (w : World) (hmax : len ≤ 2000000) (hrow : Row w a len l) (hrow' : Row w a' len l) :
    Calls Try.prog 21 #[.slice a len cap, .slice a' len cap'] w fun e w' => e = .returned (.bool true) ∧ Below w.heap.size w w' := by
  have HC := Lib.hid hrow.2
  have HC' := Lib.hid hrow'.2
  clear hrow hrow'
  go_enter Try.func21, Try.ntmps21
  go_wp2_with fail
  go_loopg [5] len (fun k i wr => ∃ j : Nat, j + k = len ∧ i = .int .i64 j ∧ Below w.heap.size w wr)
  case atStart => exact ⟨0, by omega, rfl, Below.refl _ _⟩
  case round =>
    obtain ⟨j, hj, rfl, hb⟩ := hrel
    by_cases hlt : j < len
    · obtain ⟨b, off, rfl, hbl, hc⟩ := HC.out (by omega)
      obtain ⟨b', off', rfl, hbl', hc'⟩ := HC'.out (by omega)
      obtain ⟨v, hveq⟩ : ∃ v, l.getD j 0 = v := ⟨_, rfl⟩
      have hcell : wr.cell? ⟨b, off + j, none⟩ = some (.int .i64 v) := by
        rw [hb.cell (p := ⟨b, off + j, none⟩) hbl, ← hveq]
        exact hc j hlt
      have hcell' : wr.cell? ⟨b', off' + j, none⟩ = some (.int .i64 v) := by
        rw [hb.cell (p := ⟨b', off' + j, none⟩) hbl', ← hveq]
        exact hc' j hlt
      have hlt2 : (j : Int) < (len : Int) := by omega
      have h02 : (0 : Int) ≤ (j : Int) := by omega
      have HB := Lib.hid hb
      clear hb hveq hc hc' HC HC'
      go_wp2_with fail
      go_quiet (fail)
      go_wp2_with fail
      go_roundg (len - (j + 1))
      case measure => omega
      case rel => exact ⟨j + 1, by omega, by go_num, below_drewN HB.out _⟩
    · have HB := Lib.hid hb
      clear hb
      go_wp2_with fail
      go_ret
      exact ⟨rfl, HB.out⟩

set_option maxRecDepth 100000 in
set_option maxHeartbeats 1000000 in
theorem pick1_any (a : Option Addr) (len cap : Nat) (n : Int) (w : World) (hle : len ≤ 2000000) (hcode : cur.Code w a len) :
    Calls Try.prog 19 #[.slice a len cap, .int .i64 1, .int .i64 n] w fun e w' => ∃ r : Int, e = .returned (.int .i64 r) ∧ 0 ≤ r ∧ (r < n ∨ r = 0) ∧ Below w.heap.size w w' := by
  by_cases h0 : len = 0
  · subst h0
    go_enter Try.func19, Try.ntmps19
    go_wp2
    go_ret
    exact ⟨0, rfl, by omega, .inr rfl, Below.refl _ _⟩
  · have b0 : ((len : Int) == 0) = false := by simp; omega
    have b0' : (len == 0) = false := by simp; omega
    by_cases hn : n < 2
    · go_enter Try.func19, Try.ntmps19
      go_wp2
      go_ret
      exact ⟨0, rfl, by omega, .inr rfl, Below.refl _ _⟩
    · obtain ⟨b, off, rfl, hbl, hcs⟩ := hcode (by omega)
      have HCS := Lib.hid hcs
      clear hcs hcode
      go_enter Try.func19, Try.ntmps19
      go_wp2_with fail
      go_loopg [7, 8] 3 (fun r sx sk wr => ∃ (j : Nat) (x : Int), j + r = 3 ∧ sx = .int .i64 x ∧ sk = .int .i64 j ∧ 0 ≤ x ∧ x ≤ [0, 255, 8160, 253215].getD j 0 ∧ w = wr)
      case atStart => exact ⟨0, 0, by omega, rfl, rfl, by omega, by simp, rfl⟩
      case round =>
        obtain ⟨j, x, hj, rfl, rfl, x0, x1, rfl⟩ := hrel
        by_cases hlt : j < 3
        · have x2 : x ≤ 8160 ∧ 31 * x + 255 ≤ [0, 255, 8160, 253215].getD (j + 1) 0 := by
            have : j = 0 ∨ j = 1 ∨ j = 2 := by omega
            rcases this with rfl | rfl | rfl <;> simp at x1 ⊢ <;> omega
          obtain ⟨x3, x4⟩ := x2
          have X4 := Lib.hid x4
          obtain ⟨i, hi⟩ : ∃ i : Int, (1 + (j : Int)) % (len : Int) = i := ⟨_, rfl⟩
          have i0 : 0 ≤ i := by rw [← hi]; exact Int.emod_nonneg _ (by omega)
          have i1 : i < (len : Int) := by rw [← hi]; exact Int.emod_lt_of_pos _ (by omega)
          obtain ⟨v, v0, v1, hv⟩ := HCS.out i.toNat (by omega)
          have t0 : (1 + (j : Int)).tmod (len : Int) = i := by rw [Int.tmod_eq_emod_of_nonneg (by omega)]; exact hi
          have n2 : ¬ (len : Int) = 0 := by omega
          have w1 : IntKind.i64.wrap (31 * x + v) = 31 * x + v := IntWalk.i64_in _ (by omega)
          have HI := Lib.hid hi
          clear x1 x4 HCS
          go_wp2_with fail
          go_roundg (3 - (j + 1))
          case measure => omega
          case rel => exact ⟨j + 1, 31 * x + v, by omega, rfl, by go_num, by omega, by have := X4.out; omega, rfl⟩
        · have x2 : x ≤ 253215 := by
            have : j = 3 := by omega
            subst this; simpa using x1
          obtain rfl : j = 3 := by omega
          clear x1
          go_wp2_with fail
          go_ret
          exact ⟨(x + 1) % n, rfl, Int.emod_nonneg _ (by omega), .inl (Int.emod_lt_of_pos _ (by omega)), Below.refl _ _⟩
end Go.Proofs.Ytpjimeanimghdaa.win
