/-
  THE CONTRACTS OF AggList, of the program and of its model: what each call answers, and that nothing that was there is written.
  Condition: the slice's elements are the numbers of a list, at most 2^20 of them.
-/
import Derived.Test.YthldfaapckhcpaaDoorAggCells
import Derived.Deep.LoopGhost
import Derived.Deep.RegionHeld3
import Derived.Deep.DeepCutAuto
namespace Go.Proofs.YthldfaapckhcpaaDoor.agg
open Go.RowKit

/-- At a round's head: the answer's block as it was laid, all else below it as before, and the sum so far in the block behind it. -/
def ListInv (w : World) (wr : World) (q : Q) : Prop :=
  Below (w.heap.size + 1) (w.alloc (.cells #[.int .i64 0, .int .i64 0, .int .i64 0, .int .i64 0] 25)) wr ∧ w.heap.size + 1 < wr.heap.size ∧ Own4 wr (w.heap.size + 1) q

theorem isVal_bd {v : Int} (h : isVal v = true) : -1000000 ≤ v ∧ v ≤ 1000000 := (isVal_iff v).1 h

set_option maxHeartbeats 400000 in
theorem isValue_any (v : Int) (w : World) : Calls Tryd.prog 49 #[.int .i64 v] w fun e w' => e = .returned (.bool (isVal v)) ∧ w = w' := by
  by_cases h1 : -1000000 ≤ v
  · by_cases h2 : v ≤ 1000000
    · go_enter Tryd.func49, Tryd.ntmps49
      go_wp2
      go_ret
      exact ⟨ret_bool ((isVal_iff v).2 ⟨h1, h2⟩).symm, rfl⟩
    · have hd : decide (v ≤ 1000000) = false := by simp; omega
      go_enter Tryd.func49, Tryd.ntmps49
      go_wp2
      go_ret
      exact ⟨ret_bool ((isVal_not v).2 (by omega)).symm, rfl⟩
  · go_enter Tryd.func49, Tryd.ntmps49
    go_wp2
    go_ret
    exact ⟨ret_bool ((isVal_not v).2 (by omega)).symm, rfl⟩

end Go.Proofs.YthldfaapckhcpaaDoor.agg
