/-
  PLAIN MATHEMATICS OF PARTS (no program): a moment of a window is in just one part of it.
  No condition.
-/
import Derived.Test.YtoaallfoackjaaaFnStartsMath
namespace Go.Proofs.Ytoaallfoackjaaa.win

/-- The place of the part that a moment is in. -/
theorem part_of {z r : Int} (hz : 1 ≤ z) (hr : 0 ≤ r) {m : Nat} (hm : r < z * (m : Int)) : ∃ q : Nat, q < m ∧ z * (q : Int) ≤ r ∧ r < z * (q : Int) + z := by
  have h1 := Int.emod_nonneg r (show z ≠ 0 by omega)
  have h2 := Int.emod_lt_of_pos r (show 0 < z by omega)
  have h3 := Int.mul_ediv_add_emod r z
  have h4 : 0 ≤ r / z := Int.ediv_nonneg hr (by omega)
  have h5 : ((r / z).toNat : Int) = r / z := by omega
  refine ⟨(r / z).toNat, ?_, by rw [h5]; omega, by rw [h5]; omega⟩
  apply Classical.byContradiction
  intro hn
  have := mul_le hz (show m ≤ (r / z).toNat by omega)
  rw [h5] at this
  omega

theorem part_cover {z s t : Int} (hP : WinP z z) (ht : -100000 ≤ t ∧ t ≤ 100000) (hs : s % z = 0) {q : Nat} (h1 : s + z * (q : Int) ≤ t) (h2 : t < s + z * (q : Int) + z) (k : Nat) :
    coversB z z (s + z * (k : Int)) t = decide (k = q) := by
  have hz : 1 ≤ z := hP.1
  by_cases hk : k = q
  · subst hk
    rw [decide_eq_true rfl]
    exact (coversB_iff ..).2 ⟨hP, ht, ap_mul hs k, h1, h2⟩
  · rw [decide_eq_false hk]
    refine (coversB_not ..).2 fun h => ?_
    rcases Nat.lt_or_gt_of_ne hk with h3 | h3
    · have := mul_le hz (show k + 1 ≤ q by omega)
      rw [mul_succ] at this
      omega
    · have := mul_le hz (show q + 1 ≤ k by omega)
      rw [mul_succ] at this
      omega

/-- How many of the first j are it. -/
def cnt (q j : Nat) : Int := if q < j then 1 else 0
theorem cnt_zero (q : Nat) : cnt q 0 = 0 := rfl
theorem cnt_all {q j : Nat} (h : q < j) : cnt q j = 1 := if_pos h
theorem cnt_hit (q : Nat) : cnt q q = 0 ∧ cnt q (q + 1) = 1 := by simp [cnt]
theorem cnt_miss {q j : Nat} (h : j ≠ q) : cnt q (j + 1) = cnt q j := by
  unfold cnt
  by_cases h1 : q < j
  · rw [if_pos h1, if_pos (by omega)]
  · rw [if_neg h1, if_neg (by omega)]
theorem cnt_bd (q j : Nat) : 0 ≤ cnt q j ∧ cnt q j ≤ 1 := by unfold cnt; split <;> omega
end Go.Proofs.Ytoaallfoackjaaa.win
