/-
  THE WALK OF THE LAW FnExactPaneAt out of the contracts: it answers true, and nothing that was there is written. Written by tools/genlaw.py.
-/
import Derived.Test.YtpjimeanimghdaaPaneAt
namespace Go.Proofs.Ytpjimeanimghdaa.dat
open Go.RowKit Go.Proofs.Ytpjimeanimghdaa.win
set_option linter.unusedVariables false



set_option maxRecDepth 100000 in
set_option maxHeartbeats 8000000 in
theorem walk_PaneAt (a0 : Option Addr) (n0 c0 : Nat) (l0 : List PaneD) (f0 : List Nat) (a1 : Int) (a2 : Int) (a3 : Int) (a4 : Option Addr) (n4 c4 : Nat) (l4 : List Int) (f4 : List Nat) (w : World) (i0 : GRow 8 RPane w a0 n0 l0 f0) (u0 : n0 ≤ c0) (v0 : c0 ≤ 9223372036854775807) (i1 : (Lit.int .i64 a1).wf = true) (i2 : (Lit.int .i64 a2).wf = true) (i3 : (Lit.int .i64 a3).wf = true) (i4 : GRow 1 RInt w a4 n4 l4 f4) (u4 : n4 ≤ c4) (v4 : c4 ≤ 9223372036854775807)  :
    Calls Try.prog 9 #[.slice a0 n0 c0, .int .i64 a1, .int .i64 a2, .int .i64 a3, .slice a4 n4 c4] w fun e w' => e = .returned (.bool true) ∧ Below w.heap.size w w' := by
  have I0 := Lib.hid i0
  have I4 := Lib.hid i4
  clear i0 i4
  go_enter Try.func9, Try.ntmps9
  by_cases z4 : (n4 : Int) ≤ 1048576
  case neg =>
    go_wp2_with fail
    go_ret
    exact ⟨rfl, by repeat (first | exact Below.refl _ _ | refine Below.setCell ?_ (by first | omega | (simp; done) | (simp; omega)) _ | refine Below.alloc ?_ (by first | omega | (simp; done) | (simp; omega)) _ | apply Below.drew)⟩
  have y4 : l4.length ≤ 2000000 := by have := I4.out.1; omega
  go_wp2_with fail
  refine calls_gen (fun W => Below w.heap.size w W) (by repeat (first | exact Below.refl _ _ | refine Below.setCell ?_ (by first | omega | (simp; done) | (simp; omega)) _ | refine Below.alloc ?_ (by first | omega | (simp; done) | (simp; omega)) _ | apply Below.drew)) ?_
  intro W0 b
  have BB := Lib.hid b
  clear b
  refine (sz_PaneS a0 n0 c0 l0 f0 1048576 W0 (by omega) (by omega) u0 v0 (I0.out.below local_Pane BB.out)).mono ?_
  rintro e W1 ⟨rfl, bel⟩
  have BB_ := Lib.hid (BB.out.trans (bel.mono BB.out.size))
  clear BB
  have BB := BB_
  clear BB_
  clear bel
  by_cases z0 : ((szL Pane.sz l0 : Nat) : Int) ≤ 1048576
  case neg =>
    rw [if_neg z0]
    go_wp2_with fail
    go_ret
    exact ⟨rfl, BB.out⟩
  rw [if_pos z0]
  skip
  go_wp2_with fail
  have y0 : szL Pane.sz l0 ≤ 2000000 := by omega
  have Z4 := Lib.hid z4
  have Z0 := Lib.hid z0
  have Y0 := Lib.hid y0
  have Y4 := Lib.hid y4
  clear z4 z0 y0 y4
  refine (to_PaneS a0 n0 c0 l0 f0 _ Y0.out (I0.out.below local_Pane (BB.out))).mono ?_
  rintro e W2 ⟨sg0, sf0, rfl, sis0, sow0, bel⟩
  have BB_ := Lib.hid (BB.out.trans (bel.mono BB.out.size))
  clear BB
  have BB := BB_
  clear BB_
  clear bel
  have sI0 := Lib.hid sis0
  have sO0 := Lib.hid sow0
  clear sis0 sow0
  go_wp2_with fail
  refine (to_IntS a4 n4 c4 l4 f4 _ Y4.out (I4.out.below local_int (BB.out))).mono ?_
  rintro e W3 ⟨sg4, sf4, rfl, sis4, sow4, bel⟩
  have BB_ := Lib.hid (BB.out.trans (bel.mono BB.out.size))
  clear BB
  have BB := BB_
  clear BB_
  have sI0_ := Lib.hid (sI0.out.below local_Pane bel)
  clear sI0
  have sI0 := sI0_
  clear sI0_
  have sO0_ := Lib.hid (sO0.out.below bel)
  clear sO0
  have sO0 := sO0_
  clear sO0_
  clear bel
  have sI4 := Lib.hid sis4
  have sO4 := Lib.hid sow4
  clear sis4 sow4
  go_wp2_with fail
  refine (spec_PaneAt (some ⟨sg0, 0, none⟩) n0 n0 l0 sf0 a1 a2 a3 (some ⟨sg4, 0, none⟩) n4 n4 l4 sf4 _ sI0.out (Nat.le_refl _) (Nat.le_trans u0 v0) i1 i2 i3 sI4.out (Nat.le_refl _) (Nat.le_trans u4 v4) Y0.out Y4.out).mono ?_
  rintro e W4 ⟨rfl, bel⟩
  have BB_ := Lib.hid (BB.out.trans (bel.mono BB.out.size))
  clear BB
  have BB := BB_
  clear BB_
  have sI0_ := Lib.hid (sI0.out.below local_Pane bel)
  clear sI0
  have sI0 := sI0_
  clear sI0_
  have sO0_ := Lib.hid (sO0.out.below bel)
  clear sO0
  have sO0 := sO0_
  clear sO0_
  have sI4_ := Lib.hid (sI4.out.below local_int bel)
  clear sI4
  have sI4 := sI4_
  clear sI4_
  have sO4_ := Lib.hid (sO4.out.below bel)
  clear sO4
  have sO4 := sO4_
  clear sO4_
  clear bel
  clear sI0 sI4 sO0 sO4
  go_wp2_with fail
  refine (to_PaneS a0 n0 c0 l0 f0 _ Y0.out (I0.out.below local_Pane (BB.out))).mono ?_
  rintro e W5 ⟨xg0, xf0, rfl, xis0, xow0, bel⟩
  have BB_ := Lib.hid (BB.out.trans (bel.mono BB.out.size))
  clear BB
  have BB := BB_
  clear BB_
  clear bel
  have xI0 := Lib.hid xis0
  have xO0 := Lib.hid xow0
  clear xis0 xow0
  go_wp2_with fail
  refine (to_IntS a4 n4 c4 l4 f4 _ Y4.out (I4.out.below local_int (BB.out))).mono ?_
  rintro e W6 ⟨xg4, xf4, rfl, xis4, xow4, bel⟩
  have BB_ := Lib.hid (BB.out.trans (bel.mono BB.out.size))
  clear BB
  have BB := BB_
  clear BB_
  have xI0_ := Lib.hid (xI0.out.below local_Pane bel)
  clear xI0
  have xI0 := xI0_
  clear xI0_
  have xO0_ := Lib.hid (xO0.out.below bel)
  clear xO0
  have xO0 := xO0_
  clear xO0_
  clear bel
  have xI4 := Lib.hid xis4
  have xO4 := Lib.hid xow4
  clear xis4 xow4
  go_wp2_with fail
  refine (impl_PaneAt (some ⟨xg0, 0, none⟩) n0 n0 l0 xf0 a1 a2 a3 (some ⟨xg4, 0, none⟩) n4 n4 l4 xf4 _ xI0.out (Nat.le_refl _) (Nat.le_trans u0 v0) i1 i2 i3 xI4.out (Nat.le_refl _) (Nat.le_trans u4 v4) Y0.out Y4.out).mono ?_
  rintro e W7 ⟨rfl, bel⟩
  have BB_ := Lib.hid (BB.out.trans (bel.mono BB.out.size))
  clear BB
  have BB := BB_
  clear BB_
  have xI0_ := Lib.hid (xI0.out.below local_Pane bel)
  clear xI0
  have xI0 := xI0_
  clear xI0_
  have xO0_ := Lib.hid (xO0.out.below bel)
  clear xO0
  have xO0 := xO0_
  clear xO0_
  have xI4_ := Lib.hid (xI4.out.below local_int bel)
  clear xI4
  have xI4 := xI4_
  clear xI4_
  have xO4_ := Lib.hid (xO4.out.below bel)
  clear xO4
  have xO4 := xO4_
  clear xO4_
  clear bel
  go_wp2_with fail
  refine (to_PaneS a0 n0 c0 l0 f0 _ Y0.out (I0.out.below local_Pane (BB.out))).mono ?_
  rintro e W8 ⟨qg0, qf0, rfl, qis0, qow0, bel⟩
  have BB_ := Lib.hid (BB.out.trans (bel.mono BB.out.size))
  clear BB
  have BB := BB_
  clear BB_
  have xI0_ := Lib.hid (xI0.out.below local_Pane bel)
  clear xI0
  have xI0 := xI0_
  clear xI0_
  have xO0_ := Lib.hid (xO0.out.below bel)
  clear xO0
  have xO0 := xO0_
  clear xO0_
  have xI4_ := Lib.hid (xI4.out.below local_int bel)
  clear xI4
  have xI4 := xI4_
  clear xI4_
  have xO4_ := Lib.hid (xO4.out.below bel)
  clear xO4
  have xO4 := xO4_
  clear xO4_
  clear bel
  go_wp2_with fail
  refine (eq_PaneS (some ⟨xg0, 0, none⟩) (some ⟨qg0, 0, none⟩) n0 n0 n0 l0 _ _ W8 Y0.out xI0.out qis0).mono ?_
  rintro e W9 ⟨rfl, bel⟩
  have BB_ := Lib.hid (BB.out.trans (bel.mono BB.out.size))
  clear BB
  have BB := BB_
  clear BB_
  have xI0_ := Lib.hid (xI0.out.below local_Pane bel)
  clear xI0
  have xI0 := xI0_
  clear xI0_
  have xO0_ := Lib.hid (xO0.out.below bel)
  clear xO0
  have xO0 := xO0_
  clear xO0_
  have xI4_ := Lib.hid (xI4.out.below local_int bel)
  clear xI4
  have xI4 := xI4_
  clear xI4_
  have xO4_ := Lib.hid (xO4.out.below bel)
  clear xO4
  have xO4 := xO4_
  clear xO4_
  clear bel qis0 qow0
  go_wp2_with fail
  refine (to_IntS a4 n4 c4 l4 f4 _ Y4.out (I4.out.below local_int (BB.out))).mono ?_
  rintro e W10 ⟨qg4, qf4, rfl, qis4, qow4, bel⟩
  have BB_ := Lib.hid (BB.out.trans (bel.mono BB.out.size))
  clear BB
  have BB := BB_
  clear BB_
  have xI0_ := Lib.hid (xI0.out.below local_Pane bel)
  clear xI0
  have xI0 := xI0_
  clear xI0_
  have xO0_ := Lib.hid (xO0.out.below bel)
  clear xO0
  have xO0 := xO0_
  clear xO0_
  have xI4_ := Lib.hid (xI4.out.below local_int bel)
  clear xI4
  have xI4 := xI4_
  clear xI4_
  have xO4_ := Lib.hid (xO4.out.below bel)
  clear xO4
  have xO4 := xO4_
  clear xO4_
  clear bel
  go_wp2_with fail
  refine (eq_IntS (some ⟨xg4, 0, none⟩) (some ⟨qg4, 0, none⟩) n4 n4 n4 l4 _ _ W10 Y4.out xI4.out qis4).mono ?_
  rintro e W11 ⟨rfl, bel⟩
  have BB_ := Lib.hid (BB.out.trans (bel.mono BB.out.size))
  clear BB
  have BB := BB_
  clear BB_
  have xI0_ := Lib.hid (xI0.out.below local_Pane bel)
  clear xI0
  have xI0 := xI0_
  clear xI0_
  have xO0_ := Lib.hid (xO0.out.below bel)
  clear xO0
  have xO0 := xO0_
  clear xO0_
  have xI4_ := Lib.hid (xI4.out.below local_int bel)
  clear xI4
  have xI4 := xI4_
  clear xI4_
  have xO4_ := Lib.hid (xO4.out.below bel)
  clear xO4
  have xO4 := xO4_
  clear xO4_
  clear bel qis4 qow4
  go_wp2_with fail
  go_ret
  exact ⟨rfl, BB.out⟩
end Go.Proofs.Ytpjimeanimghdaa.dat
