/-
  THE WALK OF THE LAW FnExactLowest out of the contracts: it answers true, and nothing that was there is written. Written by tools/genlaw.py.
-/
import Derived.Test.YtpoojmodebgioaaLowest
import Derived.Test.YtpoojmodebgioaaDataReads
namespace Go.Proofs.Ytpoojmodebgioaa.dat
open Go.RowKit Go.Proofs.Ytpoojmodebgioaa.win
set_option linter.unusedVariables false



set_option maxRecDepth 100000 in
set_option maxHeartbeats 8000000 in
theorem walk_Lowest (a0 : Option Addr) (n0 c0 : Nat) (l0 : List Int) (f0 : List Nat) (w : World) (i0 : GRow 1 RInt w a0 n0 l0 f0) (u0 : n0 ≤ c0) (v0 : c0 ≤ 9223372036854775807)  :
    Calls Try.prog 4 #[.slice a0 n0 c0] w fun e w' => e = .returned (.bool true) ∧ Below w.heap.size w w' := by
  have I0 := Lib.hid i0
  clear i0
  go_enter Try.func4, Try.ntmps4
  by_cases z0 : (n0 : Int) ≤ 1048576
  case neg =>
    go_wp2_with fail
    go_ret
    exact ⟨rfl, by repeat (first | exact Below.refl _ _ | refine Below.setCell ?_ (by first | omega | (simp; done) | (simp; omega)) _ | refine Below.alloc ?_ (by first | omega | (simp; done) | (simp; omega)) _ | apply Below.drew)⟩
  have y0 : l0.length ≤ 2000000 := by have := I0.out.1; omega
  go_wp2_with fail
  refine calls_gen (fun W => Below w.heap.size w W) (by repeat (first | exact Below.refl _ _ | refine Below.setCell ?_ (by first | omega | (simp; done) | (simp; omega)) _ | refine Below.alloc ?_ (by first | omega | (simp; done) | (simp; omega)) _ | apply Below.drew)) ?_
  intro W0 b
  have BB := Lib.hid b
  clear b
  have Z0 := Lib.hid z0
  have Y0 := Lib.hid y0
  clear z0 y0
  refine (to_IntS a0 n0 c0 l0 f0 _ Y0.out (I0.out.below local_int (BB.out))).mono ?_
  rintro e W1 ⟨sg0, sf0, rfl, sis0, sow0, bel⟩
  have BB_ := Lib.hid (BB.out.trans (bel.mono BB.out.size))
  clear BB
  have BB := BB_
  clear BB_
  clear bel
  have sI0 := Lib.hid sis0
  have sO0 := Lib.hid sow0
  clear sis0 sow0
  go_wp2_with fail
  refine (spec_Lowest (some ⟨sg0, 0, none⟩) n0 n0 l0 sf0 _ sI0.out (Nat.le_refl _) (Nat.le_trans u0 v0) Y0.out).mono ?_
  rintro e W2 ⟨rfl, bel⟩
  have BB_ := Lib.hid (BB.out.trans (bel.mono BB.out.size))
  clear BB
  have BB := BB_
  clear BB_
  have sI0_ := Lib.hid (sI0.out.below local_int bel)
  clear sI0
  have sI0 := sI0_
  clear sI0_
  have sO0_ := Lib.hid (sO0.out.below bel)
  clear sO0
  have sO0 := sO0_
  clear sO0_
  clear bel
  clear sI0 sO0
  go_wp2_with fail
  refine (to_IntS a0 n0 c0 l0 f0 _ Y0.out (I0.out.below local_int (BB.out))).mono ?_
  rintro e W3 ⟨xg0, xf0, rfl, xis0, xow0, bel⟩
  have BB_ := Lib.hid (BB.out.trans (bel.mono BB.out.size))
  clear BB
  have BB := BB_
  clear BB_
  clear bel
  have xI0 := Lib.hid xis0
  have xO0 := Lib.hid xow0
  clear xis0 xow0
  go_wp2_with fail
  refine (impl_Lowest (some ⟨xg0, 0, none⟩) n0 n0 l0 xf0 _ xI0.out (Nat.le_refl _) (Nat.le_trans u0 v0) Y0.out).mono ?_
  rintro e W4 ⟨rfl, bel⟩
  have BB_ := Lib.hid (BB.out.trans (bel.mono BB.out.size))
  clear BB
  have BB := BB_
  clear BB_
  have xI0_ := Lib.hid (xI0.out.below local_int bel)
  clear xI0
  have xI0 := xI0_
  clear xI0_
  have xO0_ := Lib.hid (xO0.out.below bel)
  clear xO0
  have xO0 := xO0_
  clear xO0_
  clear bel
  go_wp2_with fail
  refine (to_IntS a0 n0 c0 l0 f0 _ Y0.out (I0.out.below local_int (BB.out))).mono ?_
  rintro e W5 ⟨qg0, qf0, rfl, qis0, qow0, bel⟩
  have BB_ := Lib.hid (BB.out.trans (bel.mono BB.out.size))
  clear BB
  have BB := BB_
  clear BB_
  have xI0_ := Lib.hid (xI0.out.below local_int bel)
  clear xI0
  have xI0 := xI0_
  clear xI0_
  have xO0_ := Lib.hid (xO0.out.below bel)
  clear xO0
  have xO0 := xO0_
  clear xO0_
  clear bel
  go_wp2_with fail
  refine (eq_IntS (some ⟨xg0, 0, none⟩) (some ⟨qg0, 0, none⟩) n0 n0 n0 l0 _ _ W5 Y0.out xI0.out qis0).mono ?_
  rintro e W6 ⟨rfl, bel⟩
  have BB_ := Lib.hid (BB.out.trans (bel.mono BB.out.size))
  clear BB
  have BB := BB_
  clear BB_
  have xI0_ := Lib.hid (xI0.out.below local_int bel)
  clear xI0
  have xI0 := xI0_
  clear xI0_
  have xO0_ := Lib.hid (xO0.out.below bel)
  clear xO0
  have xO0 := xO0_
  clear xO0_
  clear bel qis0 qow0
  go_wp2_with fail
  go_ret
  exact ⟨rfl, BB.out⟩
end Go.Proofs.Ytpoojmodebgioaa.dat
