/-
  THE CONTRACTS OF pick AND same OF THE LAWS: a number within its range; two slices of the same numbers are the same.
  Condition: the code is a slice of bytes, at most 2,000,000 of them; the slices' elements are the numbers of a list, at most 2,000,000.
-/
import Derived.Test.YtoglclmaacjdaaaIntRows
import Derived.Test.YtoglclmaacjdaaaCurBase
namespace Go.Proofs.Ytoglclmaacjdaaa.win
open Go.RowKit


theorem big_any (a : Option Addr) (len cap : Nat) (t : Bool) (w : World) (ht : decide (1048576 < len) = t) : Calls Try.prog 9 #[.slice a len cap] w fun e w' => e = .returned (.bool t) ∧ w = w' := by
  by_cases h : 1048576 < len
  · have : t = true := by rw [← ht]; simp [h]
    subst this; exact cur.big_yes a len cap w h
  · have : t = false := by rw [← ht]; simp; omega
    subst this; exact cur.big_no a len cap w h

set_option maxRecDepth 100000 in
set_option maxHeartbeats 400000 in
theorem same_same (a a' : Option Addr) (len cap cap' : Nat) (l : List Int) (w : World) (hmax : len ≤ 2000000) (hrow : Row w a len l) (hrow' : Row w a' len l) :
    Calls Try.prog 69 #[.slice a len cap, .slice a' len cap'] w fun e w' => e = .returned (.bool true) ∧ Below w.heap.size w w' := by
  have HC := Lib.hid hrow.2
  have HC' := Lib.hid hrow'.2
  clear hrow hrow'
  go_enter Try.func69, Try.ntmps69
  go_wp2_with fail
  go_loopg [5] len (fun k i wr => ∃ j : Nat, j + k = len ∧ i = .int .i64 j ∧ Below w.heap.size w wr)
  case atStart => exact ⟨0, by omega, rfl, Below.refl _ _⟩
  case round =>
    obtain ⟨j, hj, rfl, hb⟩ := hrel
    by_cases hlt : j < len
    · obtain ⟨b, off, rfl, hbl, hc⟩ := HC.out (by omega)
      obtain ⟨b', off', rfl, hbl', hc'⟩ := HC'.out (by omega)
      obtain ⟨v, hveq⟩ : ∃ v, l.getD j 0 = v := ⟨_, rfl⟩
      have hcell : wr.cell? ⟨b, off + j, none⟩ = some (.int .i64 v) := by
        rw [hb.cell (p := ⟨b, off + j, none⟩) hbl, ← hveq]
        exact hc j hlt
      have hcell' : wr.cell? ⟨b', off' + j, none⟩ = some (.int .i64 v) := by
        rw [hb.cell (p := ⟨b', off' + j, none⟩) hbl', ← hveq]
        exact hc' j hlt
      have hlt2 : (j : Int) < (len : Int) := by omega
      have h02 : (0 : Int) ≤ (j : Int) := by omega
      have HB := Lib.hid hb
      clear hb hveq hc hc' HC HC'
      go_wp2_with fail
      go_quiet (fail)
      go_wp2_with fail
      go_roundg (len - (j + 1))
      case measure => omega
      case rel => exact ⟨j + 1, by omega, by go_num, below_drewN HB.out _⟩
    · have HB := Lib.hid hb
      clear hb
      go_wp2_with fail
      go_ret
      exact ⟨rfl, HB.out⟩

end Go.Proofs.Ytoglclmaacjdaaa.win
