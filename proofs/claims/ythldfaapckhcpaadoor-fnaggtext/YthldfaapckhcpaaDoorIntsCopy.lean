/-
  THE CONTRACTS OF toIntS AND eqIntS: a copy of a row of numbers in new memory; two slices of the same numbers are the same.
  Condition: the slices' elements are the numbers of a list, at most 2,000,000 of them.
-/
import Derived.Test.YthldfaapckhcpaaDoorAggCells
import Derived.Deep.LoopGhost
import Derived.Deep.OwnRows
namespace Go.Proofs.YthldfaapckhcpaaDoor.agg
open Go.RowKit

theorem info_int : (Tryd.prog.info? 3).map (fun i => (i.zero, i.size, i.bytes)) = some (some (.int .i64 0), 1, 8) := by kernel_rfl

/-- What toIntS leaves: a new row that holds the list. -/
def Copied (w : World) (len : Nat) (l : List Int) (e : Ending) (w' : World) : Prop :=
  e = .returned (.slice (some ⟨w.heap.size, 0, none⟩) len len) ∧ Below w.heap.size w w' ∧ w'.rowIs w.heap.size 3 len (fun i => .int .i64 (l.getD i 0))

theorem Copied.row {w w' : World} {len : Nat} {l : List Int} (hl : l.length = len) (hr : w'.rowIs w.heap.size 3 len (fun i => .int .i64 (l.getD i 0))) : Row w' (some ⟨w.heap.size, 0, none⟩) len l :=
  ⟨hl, fun _ => ⟨w.heap.size, 0, rfl, hr.lt, fun i hi => by rw [Nat.zero_add]; exact hr.cell hi⟩⟩

def half (l : List Int) (j : Nat) (i : Nat) : Value := if i < j then .int .i64 (l.getD i 0) else .int .i64 0

end Go.Proofs.YthldfaapckhcpaaDoor.agg
