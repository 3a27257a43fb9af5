/-
  PLAIN MATHEMATICS OF COVERS AND STARTS (no program): each start covers its moment, the ones beside the first and the last do not.
  No condition.
-/
import Derived.Test.YtpjimeanimghdaaStartsMath
namespace Go.Proofs.Ytpjimeanimghdaa.win

theorem coversB_iff (z l s t : Int) : coversB z l s t = true ↔ WinP z l ∧ (-100000 ≤ t ∧ t ≤ 100000) ∧ s % l = 0 ∧ s ≤ t ∧ t < s + z := by simp [coversB]
theorem coversB_not (z l s t : Int) : coversB z l s t = false ↔ ¬ (WinP z l ∧ (-100000 ≤ t ∧ t ≤ 100000) ∧ s % l = 0 ∧ s ≤ t ∧ t < s + z) := by simp [coversB]

theorem ap_mul {a l : Int} (ha : a % l = 0) (k : Nat) : (a + l * (k : Int)) % l = 0 := by
  rw [Int.add_mul_emod_self_left]; exact ha

theorem starts_cover {z l t : Int} (hP : WinP z l) (ht : -100000 ≤ t ∧ t ≤ 100000) {m : Nat} (hz : z = l * (m : Int)) {k : Nat} (hk : k < m) : coversB z l (up l (t - z + 1) + l * (k : Int)) t = true := by
  have hl : 1 ≤ l := hP.2.2.1
  obtain ⟨b1, b2⟩ := up_bd (t - z + 1) hl
  have hE := ends_span (fr := t - z + 1) hl hz
  have h1 := hE.2 k hk
  have h0 := mul_le hl (Nat.zero_le k)
  simp at h0
  exact (coversB_iff ..).2 ⟨hP, ht, ap_mul (up_mul _) k, by omega, by omega⟩

theorem starts_ahead {z l t : Int} (hP : WinP z l) : coversB z l (up l (t - z + 1) - l) t = false := by
  have hl : 1 ≤ l := hP.2.2.1
  obtain ⟨b1, b2⟩ := up_bd (t - z + 1) hl
  refine (coversB_not ..).2 fun h => ?_
  omega

theorem starts_behind {z l t : Int} (hP : WinP z l) {m : Nat} (hz : z = l * (m : Int)) : coversB z l (up l (t - z + 1) + l * (m : Int)) t = false := by
  have hl : 1 ≤ l := hP.2.2.1
  have hE := ends_span (fr := t - z + 1) hl hz
  have h1 := hE.1
  refine (coversB_not ..).2 fun h => ?_
  omega
end Go.Proofs.Ytpjimeanimghdaa.win
