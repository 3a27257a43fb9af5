/-
  PLAIN MATHEMATICS OF WINDOWS (no program): which kinds of windows there are, which moments they cover, and the starts as a rising row.
  No condition.
-/
import Derived.KernelRfl
namespace Go.Proofs.Ytoglclmaacjdaaa.win

def timeB (t : Int) : Bool := decide (-100000 ≤ t ∧ t ≤ 100000)
theorem timeB_iff (t : Int) : timeB t = true ↔ -100000 ≤ t ∧ t ≤ 100000 := by simp [timeB]
theorem timeB_not (t : Int) : timeB t = false ↔ t < -100000 ∨ 100000 < t := by
  rw [← Bool.not_eq_true, timeB_iff]; omega

/-- Two numbers are a kind of windows: Size, Slide. -/
def WinP (z l : Int) : Prop := 1 ≤ z ∧ z ≤ 20000 ∧ 1 ≤ l ∧ l ≤ 20000 ∧ z % l = 0 ∧ z / l ≤ 12
instance (z l : Int) : Decidable (WinP z l) := by unfold WinP; infer_instance
def winB (z l : Int) : Bool := decide (WinP z l)
theorem winB_iff (z l : Int) : winB z l = true ↔ WinP z l := by simp [winB]
theorem winB_not (z l : Int) : winB z l = false ↔ ¬ WinP z l := by simp [winB]

def coversB (z l s t : Int) : Bool := decide (WinP z l ∧ (-100000 ≤ t ∧ t ≤ 100000) ∧ s % l = 0 ∧ s ≤ t ∧ t < s + z)
def finerB (z l z' l' : Int) : Bool := decide (WinP z l ∧ WinP z' l' ∧ l = z ∧ l' % l = 0)

theorem tmod_zero (a : Int) {l : Int} : a.tmod l = 0 ↔ a % l = 0 := by
  rw [← Int.dvd_iff_tmod_eq_zero, Int.dvd_iff_emod_eq_zero]

end Go.Proofs.Ytoglclmaacjdaaa.win
