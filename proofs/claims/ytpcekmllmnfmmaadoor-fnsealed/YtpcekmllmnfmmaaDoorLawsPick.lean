/-
  THE CONTRACTS OF pick AND same OF THE LAWS: a number within its range; two slices of the same numbers are the same.
  Condition: the code is a slice of bytes, at most 2,000,000 of them; the slices' elements are the numbers of a list, at most 2,000,000.
-/
import Derived.Test.YtpcekmllmnfmmaaDoorIntRows
import Derived.Test.YtpcekmllmnfmmaaDoorCurBase
namespace Go.Proofs.YtpcekmllmnfmmaaDoor.win
open Go.RowKit


theorem big_any (a : Option Addr) (len cap : Nat) (t : Bool) (w : World) (ht : decide (1048576 < len) = t) : Calls Tryd.prog 14 #[.slice a len cap] w fun e w' => e = .returned (.bool t) ∧ w = w' := by
  by_cases h : 1048576 < len
  · have : t = true := by rw [← ht]; simp [h]
    subst this; exact cur.big_yes a len cap w h
  · have : t = false := by rw [← ht]; simp; omega
    subst this; exact cur.big_no a len cap w h

end Go.Proofs.YtpcekmllmnfmmaaDoor.win
