/-
  THE WALK OF THE LAW FnExactUpsert out of the contracts: it answers true, and nothing that was there is written. Written by tools/genlaw.py.
-/
import Derived.Test.YtoglclmaacjdaaaUpsertTop
import Derived.Test.YtoglclmaacjdaaaDataRowMarks
import Derived.Test.YtoglclmaacjdaaaDataReads
import Derived.Test.YtoglclmaacjdaaaDataStateReads
namespace Go.Proofs.Ytoglclmaacjdaaa.dat
open Go.RowKit Go.Proofs.Ytoglclmaacjdaaa.win
set_option linter.unusedVariables false



set_option maxRecDepth 100000 in
set_option maxHeartbeats 8000000 in
theorem walk_Upsert (a0 : Option Addr) (n0 c0 : Nat) (l0 : List RowD) (f0 : List Nat) (a1 : Option Addr) (n1 c1 : Nat) (l1 : List RowD) (f1 : List Nat) (w : World) (i0 : GRow 9 RRow w a0 n0 l0 f0) (u0 : n0 ≤ c0) (v0 : c0 ≤ 9223372036854775807) (i1 : GRow 9 RRow w a1 n1 l1 f1) (u1 : n1 ≤ c1) (v1 : c1 ≤ 9223372036854775807)  :
    Calls Try.prog 7 #[.slice a0 n0 c0, .slice a1 n1 c1] w fun e w' => e = .returned (.bool true) ∧ Below w.heap.size w w' := by
  have I0 := Lib.hid i0
  have I1 := Lib.hid i1
  clear i0 i1
  go_enter Try.func7, Try.ntmps7
  go_wp2_with fail
  refine calls_gen (fun W => Below w.heap.size w W) (by repeat (first | exact Below.refl _ _ | refine Below.setCell ?_ (by first | omega | (simp; done) | (simp; omega)) _ | refine Below.alloc ?_ (by first | omega | (simp; done) | (simp; omega)) _ | apply Below.drew)) ?_
  intro W0 b
  have BB := Lib.hid b
  clear b
  refine (sz_RowS a0 n0 c0 l0 f0 1048576 W0 (by omega) (by omega) u0 v0 (I0.out.below local_Row BB.out)).mono ?_
  rintro e W1 ⟨rfl, bel⟩
  have BB_ := Lib.hid (BB.out.trans (bel.mono BB.out.size))
  clear BB
  have BB := BB_
  clear BB_
  clear bel
  by_cases z0 : ((szL Row.sz l0 : Nat) : Int) ≤ 1048576
  case neg =>
    rw [if_neg z0]
    go_wp2_with fail
    go_ret
    exact ⟨rfl, BB.out⟩
  rw [if_pos z0]
  skip
  go_wp2_with fail
  skip
  go_wp2_with fail
  refine (sz_RowS a1 n1 c1 l1 f1 (1048576 - ((szL Row.sz l0 : Nat) : Int)) W1 (by omega) (by omega) u1 v1 (I1.out.below local_Row BB.out)).mono ?_
  rintro e W2 ⟨rfl, bel⟩
  have BB_ := Lib.hid (BB.out.trans (bel.mono BB.out.size))
  clear BB
  have BB := BB_
  clear BB_
  clear bel
  by_cases z1 : ((szL Row.sz l1 : Nat) : Int) ≤ (1048576 - ((szL Row.sz l0 : Nat) : Int))
  case neg =>
    rw [if_neg z1]
    go_wp2_with fail
    go_ret
    exact ⟨rfl, BB.out⟩
  rw [if_pos z1]
  skip
  go_wp2_with fail
  have y0 : szL Row.sz l0 ≤ 2000000 := by omega
  have y1 : szL Row.sz l1 ≤ 2000000 := by omega
  have Y01 := Lib.hid (show szL Row.sz l0 + szL Row.sz l1 ≤ 2000000 by omega)
  have Z0 := Lib.hid z0
  have Z1 := Lib.hid z1
  have Y0 := Lib.hid y0
  have Y1 := Lib.hid y1
  clear z0 z1 y0 y1
  refine (to_RowS a0 n0 c0 l0 f0 _ Y0.out (I0.out.below local_Row (BB.out))).mono ?_
  rintro e W3 ⟨sg0, sf0, rfl, sis0, sow0, bel⟩
  have BB_ := Lib.hid (BB.out.trans (bel.mono BB.out.size))
  clear BB
  have BB := BB_
  clear BB_
  clear bel
  have sI0 := Lib.hid sis0
  have sO0 := Lib.hid sow0
  clear sis0 sow0
  go_wp2_with fail
  refine (to_RowS a1 n1 c1 l1 f1 _ Y1.out (I1.out.below local_Row (BB.out))).mono ?_
  rintro e W4 ⟨sg1, sf1, rfl, sis1, sow1, bel⟩
  have BB_ := Lib.hid (BB.out.trans (bel.mono BB.out.size))
  clear BB
  have BB := BB_
  clear BB_
  have sI0_ := Lib.hid (sI0.out.below local_Row bel)
  clear sI0
  have sI0 := sI0_
  clear sI0_
  have sO0_ := Lib.hid (sO0.out.below bel)
  clear sO0
  have sO0 := sO0_
  clear sO0_
  clear bel
  have sI1 := Lib.hid sis1
  have sO1 := Lib.hid sow1
  clear sis1 sow1
  go_wp2_with fail
  refine (spec_Upsert (some ⟨sg0, 0, none⟩) n0 n0 l0 sf0 (some ⟨sg1, 0, none⟩) n1 n1 l1 sf1 _ sI0.out (Nat.le_refl _) (Nat.le_trans u0 v0) sI1.out (Nat.le_refl _) (Nat.le_trans u1 v1) Y0.out Y1.out Y01.out).mono ?_
  rintro e W5 ⟨sra0, srn0, src0, srf0, rfl, srrow0, srle0, srmx0, bel⟩
  have BB_ := Lib.hid (BB.out.trans (bel.mono BB.out.size))
  clear BB
  have BB := BB_
  clear BB_
  have sI0_ := Lib.hid (sI0.out.below local_Row bel)
  clear sI0
  have sI0 := sI0_
  clear sI0_
  have sO0_ := Lib.hid (sO0.out.below bel)
  clear sO0
  have sO0 := sO0_
  clear sO0_
  have sI1_ := Lib.hid (sI1.out.below local_Row bel)
  clear sI1
  have sI1 := sI1_
  clear sI1_
  have sO1_ := Lib.hid (sO1.out.below bel)
  clear sO1
  have sO1 := sO1_
  clear sO1_
  clear bel
  have srR0 := Lib.hid srrow0
  clear srrow0
  clear sI0 sI1 sO0 sO1
  go_wp2_with fail
  have LW0 := Lib.hid BB.out.size
  have D0_0 := Lib.hid (show ∀ b ∈ srf0, b < W5.heap.size from fun b hb => srR0.out.lt local_Row b hb)
  refine (to_RowS a0 n0 c0 l0 f0 _ Y0.out (I0.out.below local_Row (BB.out))).mono ?_
  rintro e W6 ⟨xg0, xf0, rfl, xis0, xow0, bel⟩
  have BB_ := Lib.hid (BB.out.trans (bel.mono BB.out.size))
  clear BB
  have BB := BB_
  clear BB_
  have srR0_ := Lib.hid (srR0.out.below local_Row bel)
  clear srR0
  have srR0 := srR0_
  clear srR0_
  clear bel
  have xI0 := Lib.hid xis0
  have xO0 := Lib.hid xow0
  clear xis0 xow0
  go_wp2_with fail
  have LW1 := Lib.hid BB.out.size
  have D0_1 := Lib.hid (show ∀ b ∈ srf0, b < W6.heap.size from fun b hb => srR0.out.lt local_Row b hb)
  have DX0_1 := Lib.hid (show ∀ b ∈ xf0, b < W6.heap.size from fun b hb => (xO0.out.2 b hb).2.lt)
  refine (to_RowS a1 n1 c1 l1 f1 _ Y1.out (I1.out.below local_Row (BB.out))).mono ?_
  rintro e W7 ⟨xg1, xf1, rfl, xis1, xow1, bel⟩
  have BB_ := Lib.hid (BB.out.trans (bel.mono BB.out.size))
  clear BB
  have BB := BB_
  clear BB_
  have srR0_ := Lib.hid (srR0.out.below local_Row bel)
  clear srR0
  have srR0 := srR0_
  clear srR0_
  have xI0_ := Lib.hid (xI0.out.below local_Row bel)
  clear xI0
  have xI0 := xI0_
  clear xI0_
  have xO0_ := Lib.hid (xO0.out.below bel)
  clear xO0
  have xO0 := xO0_
  clear xO0_
  clear bel
  have xI1 := Lib.hid xis1
  have xO1 := Lib.hid xow1
  clear xis1 xow1
  go_wp2_with fail
  have EX0 := Lib.hid (show ∀ b ∈ xf0, b < W7.heap.size from fun b hb => (xO0.out.2 b hb).2.lt)
  have EX1 := Lib.hid (show ∀ b ∈ xf1, b < W7.heap.size from fun b hb => (xO1.out.2 b hb).2.lt)
  have ES0 := Lib.hid (show ∀ b ∈ srf0, b < W7.heap.size from fun b hb => srR0.out.lt local_Row b hb)
  have LWG := Lib.hid BB.out.size
  refine (impl_Upsert (some ⟨xg0, 0, none⟩) n0 n0 l0 xf0 (some ⟨xg1, 0, none⟩) n1 n1 l1 xf1 _ xI0.out (Nat.le_refl _) (Nat.le_trans u0 v0) xI1.out (Nat.le_refl _) (Nat.le_trans u1 v1) Y0.out Y1.out Y01.out).mono ?_
  rintro e W8 ⟨gra0, grn0, grc0, grf0, rfl, grrow0, grle0, grmx0, grown0, bel⟩
  have BB_ := Lib.hid (BB.out.trans (bel.mono BB.out.size))
  clear BB
  have BB := BB_
  clear BB_
  have srR0_ := Lib.hid (srR0.out.below local_Row bel)
  clear srR0
  have srR0 := srR0_
  clear srR0_
  have xI0_ := Lib.hid (xI0.out.below local_Row bel)
  clear xI0
  have xI0 := xI0_
  clear xI0_
  have xO0_ := Lib.hid (xO0.out.below bel)
  clear xO0
  have xO0 := xO0_
  clear xO0_
  have xI1_ := Lib.hid (xI1.out.below local_Row bel)
  clear xI1
  have xI1 := xI1_
  clear xI1_
  have xO1_ := Lib.hid (xO1.out.below bel)
  clear xO1
  have xO1 := xO1_
  clear xO1_
  clear bel
  have grR0 := Lib.hid grrow0
  clear grrow0
  have grO0 := Lib.hid grown0
  clear grown0
  obtain rfl : grn0 = srn0 := grR0.out.1.symm.trans srR0.out.1
  have HBD : szL Row.sz (upsertD l0 l1) ≤ 2000000 := (Nat.le_trans (sz_upsert l1 l0) Y01.out)
  have HBd := Lib.hid HBD
  clear HBD
  go_wp2_with fail
  refine (eq_RowS gra0 sra0 grn0 grc0 src0 (upsertD l0 l1) _ _ W8 HBd.out grR0.out srR0.out).mono ?_
  rintro e W9 ⟨rfl, bel⟩
  have BB_ := Lib.hid (BB.out.trans (bel.mono BB.out.size))
  clear BB
  have BB := BB_
  clear BB_
  have srR0_ := Lib.hid (srR0.out.below local_Row bel)
  clear srR0
  have srR0 := srR0_
  clear srR0_
  have xI0_ := Lib.hid (xI0.out.below local_Row bel)
  clear xI0
  have xI0 := xI0_
  clear xI0_
  have xO0_ := Lib.hid (xO0.out.below bel)
  clear xO0
  have xO0 := xO0_
  clear xO0_
  have xI1_ := Lib.hid (xI1.out.below local_Row bel)
  clear xI1
  have xI1 := xI1_
  clear xI1_
  have xO1_ := Lib.hid (xO1.out.below bel)
  clear xO1
  have xO1 := xO1_
  clear xO1_
  have grR0_ := Lib.hid (grR0.out.below local_Row bel)
  clear grR0
  have grR0 := grR0_
  clear grR0_
  have grO0_ := Lib.hid (grO0.out.below bel)
  clear grO0
  have grO0 := grO0_
  clear grO0_
  clear bel
  go_wp2_with fail
  refine (to_RowS a0 n0 c0 l0 f0 _ Y0.out (I0.out.below local_Row (BB.out))).mono ?_
  rintro e W10 ⟨qg0, qf0, rfl, qis0, qow0, bel⟩
  have BB_ := Lib.hid (BB.out.trans (bel.mono BB.out.size))
  clear BB
  have BB := BB_
  clear BB_
  have srR0_ := Lib.hid (srR0.out.below local_Row bel)
  clear srR0
  have srR0 := srR0_
  clear srR0_
  have xI0_ := Lib.hid (xI0.out.below local_Row bel)
  clear xI0
  have xI0 := xI0_
  clear xI0_
  have xO0_ := Lib.hid (xO0.out.below bel)
  clear xO0
  have xO0 := xO0_
  clear xO0_
  have xI1_ := Lib.hid (xI1.out.below local_Row bel)
  clear xI1
  have xI1 := xI1_
  clear xI1_
  have xO1_ := Lib.hid (xO1.out.below bel)
  clear xO1
  have xO1 := xO1_
  clear xO1_
  have grR0_ := Lib.hid (grR0.out.below local_Row bel)
  clear grR0
  have grR0 := grR0_
  clear grR0_
  have grO0_ := Lib.hid (grO0.out.below bel)
  clear grO0
  have grO0 := grO0_
  clear grO0_
  clear bel
  go_wp2_with fail
  refine (eq_RowS (some ⟨xg0, 0, none⟩) (some ⟨qg0, 0, none⟩) n0 n0 n0 l0 _ _ W10 Y0.out xI0.out qis0).mono ?_
  rintro e W11 ⟨rfl, bel⟩
  have BB_ := Lib.hid (BB.out.trans (bel.mono BB.out.size))
  clear BB
  have BB := BB_
  clear BB_
  have srR0_ := Lib.hid (srR0.out.below local_Row bel)
  clear srR0
  have srR0 := srR0_
  clear srR0_
  have xI0_ := Lib.hid (xI0.out.below local_Row bel)
  clear xI0
  have xI0 := xI0_
  clear xI0_
  have xO0_ := Lib.hid (xO0.out.below bel)
  clear xO0
  have xO0 := xO0_
  clear xO0_
  have xI1_ := Lib.hid (xI1.out.below local_Row bel)
  clear xI1
  have xI1 := xI1_
  clear xI1_
  have xO1_ := Lib.hid (xO1.out.below bel)
  clear xO1
  have xO1 := xO1_
  clear xO1_
  have grR0_ := Lib.hid (grR0.out.below local_Row bel)
  clear grR0
  have grR0 := grR0_
  clear grR0_
  have grO0_ := Lib.hid (grO0.out.below bel)
  clear grO0
  have grO0 := grO0_
  clear grO0_
  clear bel qis0 qow0
  go_wp2_with fail
  refine (to_RowS a1 n1 c1 l1 f1 _ Y1.out (I1.out.below local_Row (BB.out))).mono ?_
  rintro e W12 ⟨qg1, qf1, rfl, qis1, qow1, bel⟩
  have BB_ := Lib.hid (BB.out.trans (bel.mono BB.out.size))
  clear BB
  have BB := BB_
  clear BB_
  have srR0_ := Lib.hid (srR0.out.below local_Row bel)
  clear srR0
  have srR0 := srR0_
  clear srR0_
  have xI0_ := Lib.hid (xI0.out.below local_Row bel)
  clear xI0
  have xI0 := xI0_
  clear xI0_
  have xO0_ := Lib.hid (xO0.out.below bel)
  clear xO0
  have xO0 := xO0_
  clear xO0_
  have xI1_ := Lib.hid (xI1.out.below local_Row bel)
  clear xI1
  have xI1 := xI1_
  clear xI1_
  have xO1_ := Lib.hid (xO1.out.below bel)
  clear xO1
  have xO1 := xO1_
  clear xO1_
  have grR0_ := Lib.hid (grR0.out.below local_Row bel)
  clear grR0
  have grR0 := grR0_
  clear grR0_
  have grO0_ := Lib.hid (grO0.out.below bel)
  clear grO0
  have grO0 := grO0_
  clear grO0_
  clear bel
  go_wp2_with fail
  refine (eq_RowS (some ⟨xg1, 0, none⟩) (some ⟨qg1, 0, none⟩) n1 n1 n1 l1 _ _ W12 Y1.out xI1.out qis1).mono ?_
  rintro e W13 ⟨rfl, bel⟩
  have BB_ := Lib.hid (BB.out.trans (bel.mono BB.out.size))
  clear BB
  have BB := BB_
  clear BB_
  have srR0_ := Lib.hid (srR0.out.below local_Row bel)
  clear srR0
  have srR0 := srR0_
  clear srR0_
  have xI0_ := Lib.hid (xI0.out.below local_Row bel)
  clear xI0
  have xI0 := xI0_
  clear xI0_
  have xO0_ := Lib.hid (xO0.out.below bel)
  clear xO0
  have xO0 := xO0_
  clear xO0_
  have xI1_ := Lib.hid (xI1.out.below local_Row bel)
  clear xI1
  have xI1 := xI1_
  clear xI1_
  have xO1_ := Lib.hid (xO1.out.below bel)
  clear xO1
  have xO1 := xO1_
  clear xO1_
  have grR0_ := Lib.hid (grR0.out.below local_Row bel)
  clear grR0
  have grR0 := grR0_
  clear grR0_
  have grO0_ := Lib.hid (grO0.out.below bel)
  clear grO0
  have grO0 := grO0_
  clear grO0_
  clear bel qis1 qow1
  go_wp2_with fail
  have CL0 := Lib.hid (cntL_le cn_le_Row l0)
  refine (mark_RowS (some ⟨xg0, 0, none⟩) n0 n0 l0 xf0 (1) (W5.heap.size) W13 (by have := xI0.out.1; have := Y0.out; unfold szL at *; omega) (by omega) (by have := CL0.out; have := Y0.out; omega) xI0.out xO0.out).mono ?_
  rintro e W14 ⟨rfl, mis, mow, mp⟩
  have BB_ := Lib.hid (BB.out.trans (mp.below (lo := w.heap.size) (fun b hb => by have h1 := (xO0.out.2 b hb).1; have h2 := LW0.out; omega) (by have := BB.out.size; omega)))
  clear BB
  have BB := BB_
  clear BB_
  have srR0_ := Lib.hid (srR0.out.apart local_Row mp (apart_lt D0_0.out xO0.out))
  have xI1_ := Lib.hid (xI1.out.apart local_Row mp (apart_gt DX0_1.out xO1.out))
  have xO1_ := Lib.hid (xO1.out.apart mp (apart_gt DX0_1.out xO1.out))
  have grR0_ := Lib.hid (grR0.out.apart local_Row mp (apart_gt EX0.out grO0.out))
  have grO0_ := Lib.hid (grO0.out.apart mp (apart_gt EX0.out grO0.out))
  clear mis mow mp srR0 xI0 xO0 xI1 xO1 grR0 grO0
  have srR0 := srR0_
  clear srR0_
  have xI1 := xI1_
  clear xI1_
  have xO1 := xO1_
  clear xO1_
  have grR0 := grR0_
  clear grR0_
  have grO0 := grO0_
  clear grO0_
  go_wp2_with fail
  have CL1 := Lib.hid (cntL_le cn_le_Row l1)
  refine (mark_RowS (some ⟨xg1, 0, none⟩) n1 n1 l1 xf1 (1 + (cntL cnRow l0 : Nat)) (W6.heap.size) W14 (by have := xI1.out.1; have := Y1.out; unfold szL at *; omega) (by omega) (by have := CL0.out; have := Y0.out; have := CL1.out; have := Y1.out; omega) xI1.out xO1.out).mono ?_
  rintro e W15 ⟨rfl, mis, mow, mp⟩
  have BB_ := Lib.hid (BB.out.trans (mp.below (lo := w.heap.size) (fun b hb => by have h1 := (xO1.out.2 b hb).1; have h2 := LW1.out; omega) (by have := BB.out.size; omega)))
  clear BB
  have BB := BB_
  clear BB_
  have srR0_ := Lib.hid (srR0.out.apart local_Row mp (apart_lt D0_1.out xO1.out))
  have grR0_ := Lib.hid (grR0.out.apart local_Row mp (apart_gt EX1.out grO0.out))
  have grO0_ := Lib.hid (grO0.out.apart mp (apart_gt EX1.out grO0.out))
  clear mis mow mp srR0 xI1 xO1 grR0 grO0
  have srR0 := srR0_
  clear srR0_
  have grR0 := grR0_
  clear grR0_
  have grO0 := grO0_
  clear grO0_
  have hcl0 := CL0.out
  have hcl1 := CL1.out
  go_wp2_with fail
  refine (eq_RowS gra0 sra0 grn0 grc0 src0 (upsertD l0 l1) _ _ W15 HBd.out grR0.out srR0.out).mono ?_
  rintro e W16 ⟨rfl, bel⟩
  have BB_ := Lib.hid (BB.out.trans (bel.mono BB.out.size))
  clear BB
  have BB := BB_
  clear BB_
  have srR0_ := Lib.hid (srR0.out.below local_Row bel)
  clear srR0
  have srR0 := srR0_
  clear srR0_
  have grR0_ := Lib.hid (grR0.out.below local_Row bel)
  clear grR0
  have grR0 := grR0_
  clear grR0_
  have grO0_ := Lib.hid (grO0.out.below bel)
  clear grO0
  have grO0 := grO0_
  clear grO0_
  clear bel
  clear hcl0 hcl1
  go_wp2_with fail
  have CG := Lib.hid (cntL_le cn_le_Row (upsertD l0 l1))
  refine (mark_RowS gra0 grn0 grc0 (upsertD l0 l1) grf0 1 (W7.heap.size) W16 (by have := grR0.out.1; have := HBd.out; unfold szL at *; omega) (by omega) (by have := CG.out; have := HBd.out; omega) grR0.out grO0.out).mono ?_
  rintro e W17 ⟨rfl, mis, mow, mp⟩
  have BB_ := Lib.hid (BB.out.trans (mp.below (lo := w.heap.size) (fun b hb => by have h1 := (grO0.out.2 b hb).1; have h2 := LWG.out; omega) (by have := BB.out.size; omega)))
  clear BB
  have BB := BB_
  clear BB_
  have srR0_ := Lib.hid (srR0.out.apart local_Row mp (apart_lt ES0.out grO0.out))
  have MI := Lib.hid mis
  clear mis mow mp srR0 grR0 grO0
  have srR0 := srR0_
  clear srR0_
  go_wp2_with fail
  refine (held_RowS gra0 grn0 grc0 (upsertD l0 l1) grf0 1 W17 (by have := MI.out.1; rw [markL_length] at this; have := HBd.out; unfold szL at *; omega) (by omega) (by have := CG.out; have := HBd.out; omega) MI.out).mono ?_
  rintro e W18 ⟨rfl, bel⟩
  have BB_ := Lib.hid (BB.out.trans (bel.mono BB.out.size))
  clear BB
  have BB := BB_
  clear BB_
  have srR0_ := Lib.hid (srR0.out.below local_Row bel)
  clear srR0
  have srR0 := srR0_
  clear srR0_
  have MI_ := Lib.hid (MI.out.below local_Row bel)
  clear MI
  have MI := MI_
  clear MI_
  clear bel
  go_wp2_with fail
  refine (to_RowS a0 n0 c0 l0 f0 _ Y0.out (I0.out.below local_Row (BB.out))).mono ?_
  rintro e W19 ⟨yg0, yf0, rfl, yis0, yow0, bel⟩
  have BB_ := Lib.hid (BB.out.trans (bel.mono BB.out.size))
  clear BB
  have BB := BB_
  clear BB_
  have srR0_ := Lib.hid (srR0.out.below local_Row bel)
  clear srR0
  have srR0 := srR0_
  clear srR0_
  have MI_ := Lib.hid (MI.out.below local_Row bel)
  clear MI
  have MI := MI_
  clear MI_
  clear bel
  have yI0 := Lib.hid yis0
  have yO0 := Lib.hid yow0
  clear yis0 yow0
  go_wp2_with fail
  refine (to_RowS a1 n1 c1 l1 f1 _ Y1.out (I1.out.below local_Row (BB.out))).mono ?_
  rintro e W20 ⟨yg1, yf1, rfl, yis1, yow1, bel⟩
  have BB_ := Lib.hid (BB.out.trans (bel.mono BB.out.size))
  clear BB
  have BB := BB_
  clear BB_
  have srR0_ := Lib.hid (srR0.out.below local_Row bel)
  clear srR0
  have srR0 := srR0_
  clear srR0_
  have MI_ := Lib.hid (MI.out.below local_Row bel)
  clear MI
  have MI := MI_
  clear MI_
  have yI0_ := Lib.hid (yI0.out.below local_Row bel)
  clear yI0
  have yI0 := yI0_
  clear yI0_
  have yO0_ := Lib.hid (yO0.out.below bel)
  clear yO0
  have yO0 := yO0_
  clear yO0_
  clear bel
  have yI1 := Lib.hid yis1
  have yO1 := Lib.hid yow1
  clear yis1 yow1
  go_wp2_with fail
  refine (impl_Upsert (some ⟨yg0, 0, none⟩) n0 n0 l0 yf0 (some ⟨yg1, 0, none⟩) n1 n1 l1 yf1 _ yI0.out (Nat.le_refl _) (Nat.le_trans u0 v0) yI1.out (Nat.le_refl _) (Nat.le_trans u1 v1) Y0.out Y1.out Y01.out).mono ?_
  rintro e W21 ⟨yra0, yrn0, yrc0, yrf0, rfl, yrrow0, yrle0, yrmx0, yrown0, bel⟩
  have BB_ := Lib.hid (BB.out.trans (bel.mono BB.out.size))
  clear BB
  have BB := BB_
  clear BB_
  have srR0_ := Lib.hid (srR0.out.below local_Row bel)
  clear srR0
  have srR0 := srR0_
  clear srR0_
  have MI_ := Lib.hid (MI.out.below local_Row bel)
  clear MI
  have MI := MI_
  clear MI_
  have yI0_ := Lib.hid (yI0.out.below local_Row bel)
  clear yI0
  have yI0 := yI0_
  clear yI0_
  have yO0_ := Lib.hid (yO0.out.below bel)
  clear yO0
  have yO0 := yO0_
  clear yO0_
  have yI1_ := Lib.hid (yI1.out.below local_Row bel)
  clear yI1
  have yI1 := yI1_
  clear yI1_
  have yO1_ := Lib.hid (yO1.out.below bel)
  clear yO1
  have yO1 := yO1_
  clear yO1_
  clear bel
  have yrR0 := Lib.hid yrrow0
  clear yrrow0
  have yrO0 := Lib.hid yrown0
  clear yrown0
  obtain rfl : yrn0 = grn0 := yrR0.out.1.symm.trans srR0.out.1
  go_wp2_with fail
  refine (eq_RowS yra0 sra0 yrn0 yrc0 src0 (upsertD l0 l1) _ _ W21 HBd.out yrR0.out srR0.out).mono ?_
  rintro e W22 ⟨rfl, bel⟩
  have BB_ := Lib.hid (BB.out.trans (bel.mono BB.out.size))
  clear BB
  have BB := BB_
  clear BB_
  have srR0_ := Lib.hid (srR0.out.below local_Row bel)
  clear srR0
  have srR0 := srR0_
  clear srR0_
  have MI_ := Lib.hid (MI.out.below local_Row bel)
  clear MI
  have MI := MI_
  clear MI_
  have yI0_ := Lib.hid (yI0.out.below local_Row bel)
  clear yI0
  have yI0 := yI0_
  clear yI0_
  have yO0_ := Lib.hid (yO0.out.below bel)
  clear yO0
  have yO0 := yO0_
  clear yO0_
  have yI1_ := Lib.hid (yI1.out.below local_Row bel)
  clear yI1
  have yI1 := yI1_
  clear yI1_
  have yO1_ := Lib.hid (yO1.out.below bel)
  clear yO1
  have yO1 := yO1_
  clear yO1_
  have yrR0_ := Lib.hid (yrR0.out.below local_Row bel)
  clear yrR0
  have yrR0 := yrR0_
  clear yrR0_
  have yrO0_ := Lib.hid (yrO0.out.below bel)
  clear yrO0
  have yrO0 := yrO0_
  clear yrO0_
  clear bel
  go_wp2_with fail
  refine (held_RowS gra0 yrn0 grc0 (upsertD l0 l1) grf0 1 W22 (by have := MI.out.1; rw [markL_length] at this; have := HBd.out; unfold szL at *; omega) (by omega) (by have := CG.out; have := HBd.out; omega) MI.out).mono ?_
  rintro e W23 ⟨rfl, bel⟩
  have BB_ := Lib.hid (BB.out.trans (bel.mono BB.out.size))
  clear BB
  have BB := BB_
  clear BB_
  have srR0_ := Lib.hid (srR0.out.below local_Row bel)
  clear srR0
  have srR0 := srR0_
  clear srR0_
  have MI_ := Lib.hid (MI.out.below local_Row bel)
  clear MI
  have MI := MI_
  clear MI_
  have yI0_ := Lib.hid (yI0.out.below local_Row bel)
  clear yI0
  have yI0 := yI0_
  clear yI0_
  have yO0_ := Lib.hid (yO0.out.below bel)
  clear yO0
  have yO0 := yO0_
  clear yO0_
  have yI1_ := Lib.hid (yI1.out.below local_Row bel)
  clear yI1
  have yI1 := yI1_
  clear yI1_
  have yO1_ := Lib.hid (yO1.out.below bel)
  clear yO1
  have yO1 := yO1_
  clear yO1_
  have yrR0_ := Lib.hid (yrR0.out.below local_Row bel)
  clear yrR0
  have yrR0 := yrR0_
  clear yrR0_
  have yrO0_ := Lib.hid (yrO0.out.below bel)
  clear yrO0
  have yrO0 := yrO0_
  clear yrO0_
  clear bel
  go_wp2_with fail
  go_ret
  exact ⟨rfl, BB.out⟩
end Go.Proofs.Ytoglclmaacjdaaa.dat
