/-
  THE WALK OF THE LAW FnExactAggText, out of the contracts: it answers true, and nothing that was there is written.
  Condition: the library's table of powers of ten holds what its text lays.
-/
import Derived.Test.YthldfaapckhcpaaDoorAggText
namespace Go.Proofs.YthldfaapckhcpaaDoor.num
open Go.RowKit
open Go.Proofs.YthldfaapckhcpaaDoor.agg (toAgg)

set_option maxHeartbeats 400000 in
theorem walk_AggText (n s mn mx : Int) (w : World) (_ : (Lit.int .i64 n).wf = true) (_ : (Lit.int .i64 s).wf = true) (_ : (Lit.int .i64 mn).wf = true) (_ : (Lit.int .i64 mx).wf = true) (hp : Pow w) :
    Calls Tryd.prog 4 #[.agg #[.int .i64 n, .int .i64 s, .int .i64 mn, .int .i64 mx]] w fun e w' => e = .returned (.bool true) ∧ Below w.heap.size w w' := by
  have HP := Lib.hid hp
  clear hp
  go_enter Tryd.func4, Tryd.ntmps4
  go_wp2_with fail
  refine (toAgg _ _ _ _ _).mono ?_
  rintro e w1 ⟨rfl, hb1⟩
  have B1 := Lib.hid (((Below.refl w.heap.size w).alloc (Nat.le_refl _) _).trans (hb1.mono (by simp)))
  have I1 := Lib.hid ((ints4_alloc w n s mn mx 32).below hb1 (by simp))
  clear hb1
  go_wp2_with fail
  refine (spec_AggText n s mn mx _).mono ?_
  rintro e w2 ⟨rfl, hb2⟩
  have hI := I1.out.below hb2 I1.out.1
  have B2 := Lib.hid (B1.out.trans (hb2.mono B1.out.size))
  clear hb2 I1 B1
  obtain ⟨-, i0, i1, i2, i3⟩ := hI
  go_wp2_with fail
  refine (toAgg _ _ _ _ _).mono ?_
  rintro e w3 ⟨rfl, hb3⟩
  have B3 := Lib.hid (B2.out.trans (hb3.mono B2.out.size))
  clear hb3 B2 i0 i1 i2 i3
  go_wp2_with fail
  refine (impl_AggText n s mn mx _ (HP.out.below B3.out HP.out.2)).mono ?_
  rintro e w4 ⟨rfl, hb4⟩
  have B4 := Lib.hid (B3.out.trans (hb4.mono B3.out.size))
  clear hb4 B3
  go_wp2_with fail
  go_ret
  exact ⟨rfl, B4.out⟩
end Go.Proofs.YthldfaapckhcpaaDoor.num
