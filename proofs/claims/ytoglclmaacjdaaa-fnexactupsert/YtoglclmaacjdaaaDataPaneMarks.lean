/-
  DATA: Pane, []Pane: the notions; THE CONTRACTS OF the laws' own functions (copies, sizes, equality) over them. Written by tools/gendata.py.
-/
import Derived.Test.YtoglclmaacjdaaaDataPanes
import Derived.Test.YtoglclmaacjdaaaDataMarks
import Derived.Test.YtoglclmaacjdaaaDataMark2
namespace Go.Proofs.Ytoglclmaacjdaaa.dat
open Go.RowKit Go.Proofs.Ytoglclmaacjdaaa.win
set_option linter.unusedVariables false

def mkPane (k : Int) (x : PaneD) : PaneD := { win := k, mask := k + 1, start := k + 2, key := markL mkInt cnInt (k + 3) x.key, a := { n := k + 3 + (cntL cnInt x.key : Nat), sm := k + 3 + (cntL cnInt x.key : Nat) + 1, mn := k + 3 + (cntL cnInt x.key : Nat) + 2, mx := k + 3 + (cntL cnInt x.key : Nat) + 3 } }
def cnPane (x : PaneD) : Nat := 7 + cntL cnInt x.key
theorem cn_le_Pane (x : PaneD) : cnPane x ≤ 8 * (Pane.sz x + 1) := by
  have h := cntL_le' cn_le_int x.key
  unfold cnPane Pane.sz
  omega

def Pane.markV (k : Int) (x : PaneD) : PaneD := { x with key := markL mkInt cnInt (k) x.key }
def Pane.cntV (x : PaneD) : Nat := cntL cnInt x.key
theorem Pane.cntV_le (x : PaneD) : Pane.cntV x ≤ 8 * Pane.sz x := by
  have h0 := cntL_le' cn_le_int x.key
  unfold Pane.cntV Pane.sz
  omega

def MarkedPane (lo : Nat) (w : World) (x : PaneD) (h : PaneH) (fp : List Nat) (m : Int) (e : Ending) (w' : World) : Prop := e = .returned (.int .i64 (m + (Pane.cntV x : Nat))) ∧ Pane.Is w' (Pane.markV m x) h fp ∧ Own lo w' fp ∧ Apart fp w w'
end Go.Proofs.Ytoglclmaacjdaaa.dat
