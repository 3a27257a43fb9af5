/-
  THE DRAWS: the contract of win: it answers some two numbers, and writes nothing but the cursor and new memory.
  Condition: the cursor is one, and has been asked fewer than 2^38 times.
-/
import Derived.Test.YtpcekmllmnfmmaaDoorCurBase
import Derived.Deep.DeepCutAuto
namespace Go.Proofs.YtpcekmllmnfmmaaDoor.cur
open Go.RowKit

/-- What the drawing of a kind of windows leaves on its way: the two numbers in block x. -/
def WinAt (w : World) (g : Nat) (a : Option Addr) (len cap m x : Nat) (wx : World) : Prop :=
  ∃ z l : Int, Own2 wx x z l ∧ Own2 wx w.heap.size 0 0 ∧ Curs g a len cap m wx ∧ Only g w wx

theorem WinAt.only {w wx wy : World} {g : Nat} {a : Option Addr} {len cap m m' x : Nat} (h : WinAt w g a len cap m x wx) (ho : Only g wx wy) (hc : Curs g a len cap m' wy) (hx : x ≠ g) (hw : w.heap.size ≠ g) : WinAt w g a len cap m' x wy := by
  obtain ⟨z, l, h1, h2, h3, h4⟩ := h
  exact ⟨z, l, h1.only ho (cell_lt h1.1.1) hx, h2.only ho (cell_lt h2.1.1) hw, hc, h4.trans ho⟩

end Go.Proofs.YtpcekmllmnfmmaaDoor.cur
