/-
  THE WALK OF THE LAW FnExactPanesOk out of the contracts: it answers true, and nothing that was there is written. Written by tools/genlaw.py.
-/
import Derived.Test.YtemefahhogdoaaaPanesSpecOk
namespace Go.Proofs.Ytemefahhogdoaaa.dat
open Go.RowKit Go.Proofs.Ytemefahhogdoaaa.win
set_option linter.unusedVariables false

theorem keep_PanesOk_5_5 {W w' : World} {p0 : Nat} {t0 : TypeId} {v0_0 v0_1 v0_2 v0_3 v0_4 : Value} (h0 : Blk W p0 t0 [v0_0, v0_1, v0_2, v0_3, v0_4]) {p1 : Nat} {t1 : TypeId} {v1_0 v1_1 v1_2 v1_3 v1_4 : Value} (h1 : Blk W p1 t1 [v1_0, v1_1, v1_2, v1_3, v1_4]) (h : Below W.heap.size W w') : w'.cell? ⟨p0, 0, none⟩ = some v0_0 ∧ w'.cell? ⟨p0, 1, none⟩ = some v0_1 ∧ w'.cell? ⟨p0, 2, none⟩ = some v0_2 ∧ w'.cell? ⟨p0, 3, none⟩ = some v0_3 ∧ w'.cell? ⟨p0, 4, none⟩ = some v0_4 ∧ w'.cell? ⟨p1, 0, none⟩ = some v1_0 ∧ w'.cell? ⟨p1, 1, none⟩ = some v1_1 ∧ w'.cell? ⟨p1, 2, none⟩ = some v1_2 ∧ w'.cell? ⟨p1, 3, none⟩ = some v1_3 ∧ w'.cell? ⟨p1, 4, none⟩ = some v1_4 := ⟨by have := (h0.below h h0.lt).cell 0; simpa using this, by have := (h0.below h h0.lt).cell 1; simpa using this, by have := (h0.below h h0.lt).cell 2; simpa using this, by have := (h0.below h h0.lt).cell 3; simpa using this, by have := (h0.below h h0.lt).cell 4; simpa using this, by have := (h1.below h h1.lt).cell 0; simpa using this, by have := (h1.below h h1.lt).cell 1; simpa using this, by have := (h1.below h h1.lt).cell 2; simpa using this, by have := (h1.below h h1.lt).cell 3; simpa using this, by have := (h1.below h h1.lt).cell 4; simpa using this⟩

set_option maxRecDepth 100000 in
set_option maxHeartbeats 8000000 in
theorem walk_PanesOk (x0 : ConfD) (h0 : ConfigH) (f0 : List Nat) (a1 : Option Addr) (n1 c1 : Nat) (l1 : List PaneD) (f1 : List Nat) (w : World) (i0 : Config.Is w x0 h0 f0) (i1 : GRow 8 RPane w a1 n1 l1 f1) (u1 : n1 ≤ c1) (v1 : c1 ≤ 9223372036854775807)  :
    Calls Try.prog 12 #[.agg (Config.list x0 h0).toArray, .slice a1 n1 c1] w fun e w' => e = .returned (.bool true) ∧ Below w.heap.size w w' := by
  have I0 := Lib.hid i0
  have I1 := Lib.hid i1
  clear i0 i1
  simp only [Config.list]
  go_enter Try.func12, Try.ntmps12
  go_wp2_with fail
  refine calls_gen (fun W => Below w.heap.size w W ∧ Blk W w.heap.size 64 (Config.list x0 h0)) ⟨by repeat (first | exact Below.refl _ _ | refine Below.setCell ?_ (by first | omega | (simp; done) | (simp; omega)) _ | refine Below.alloc ?_ (by first | omega | (simp; done) | (simp; omega)) _ | apply Below.drew), by unfold Config.list; with_reducible (repeat (first | (refine blk_new_at _ _ _ _ ?_; first | rfl | (simp; done)) | refine Blk.alloc ?_ _ | apply Blk.drew | refine Blk.setOther ?_ (by first | (simp; done) | (simp; omega)) _))⟩ ?_
  rintro W0 ⟨b, k0⟩
  have K0 := Lib.hid k0
  clear k0
  have BB := Lib.hid b
  clear b
  refine (sz_Config x0 h0 f0 1048576 W0 (by omega) (by omega) (I0.out.below BB.out)).mono ?_
  rintro e W1 ⟨rfl, bel⟩
  have BB_ := Lib.hid (BB.out.trans (bel.mono BB.out.size))
  clear BB
  have BB := BB_
  clear BB_
  have K0_ := Lib.hid (K0.out.below bel K0.out.lt)
  clear K0
  have K0 := K0_
  clear K0_
  clear bel
  by_cases z0 : ((Config.sz x0 : Nat) : Int) ≤ 1048576
  case neg =>
    rw [if_neg z0]
    go_wp2_with fail
    go_ret
    exact ⟨rfl, BB.out⟩
  rw [if_pos z0]
  have k0_0 := K0.out.cell 0
  have k0_1 := K0.out.cell 1
  have k0_2 := K0.out.cell 2
  have k0_3 := K0.out.cell 3
  have k0_4 := K0.out.cell 4
  simp [Config.list] at k0_0 k0_1 k0_2 k0_3 k0_4
  have k0_l := K0.out.lt
  skip
  go_wp2_with fail
  clear k0_0 k0_1 k0_2 k0_3 k0_4 k0_l
  skip
  go_wp2_with fail
  refine (sz_PaneS a1 n1 c1 l1 f1 (1048576 - ((Config.sz x0 : Nat) : Int)) W1 (by omega) (by omega) u1 v1 (I1.out.below local_Pane BB.out)).mono ?_
  rintro e W2 ⟨rfl, bel⟩
  have BB_ := Lib.hid (BB.out.trans (bel.mono BB.out.size))
  clear BB
  have BB := BB_
  clear BB_
  have K0_ := Lib.hid (K0.out.below bel K0.out.lt)
  clear K0
  have K0 := K0_
  clear K0_
  clear bel
  by_cases z1 : ((szL Pane.sz l1 : Nat) : Int) ≤ (1048576 - ((Config.sz x0 : Nat) : Int))
  case neg =>
    rw [if_neg z1]
    go_wp2_with fail
    go_ret
    exact ⟨rfl, BB.out⟩
  rw [if_pos z1]
  have k0_0 := K0.out.cell 0
  have k0_1 := K0.out.cell 1
  have k0_2 := K0.out.cell 2
  have k0_3 := K0.out.cell 3
  have k0_4 := K0.out.cell 4
  simp [Config.list] at k0_0 k0_1 k0_2 k0_3 k0_4
  have k0_l := K0.out.lt
  skip
  go_wp2_with fail
  have y0 : Config.sz x0 ≤ 2000000 := by omega
  have y1 : szL Pane.sz l1 ≤ 2000000 := by omega
  have Z0 := Lib.hid z0
  have Z1 := Lib.hid z1
  have Y0 := Lib.hid y0
  have Y1 := Lib.hid y1
  clear z0 z1 y0 y1
  clear k0_0 k0_1 k0_2 k0_3 k0_4 k0_l
  refine (to_Config x0 h0 f0 _ Y0.out (I0.out.below (BB.out))).mono ?_
  rintro e W3 ⟨sh0, sf0, rfl, sis0, sow0, bel⟩
  have BB_ := Lib.hid (BB.out.trans (bel.mono BB.out.size))
  clear BB
  have BB := BB_
  clear BB_
  have K0_ := Lib.hid (K0.out.below bel K0.out.lt)
  clear K0
  have K0 := K0_
  clear K0_
  clear bel
  have sI0 := Lib.hid sis0
  have sO0 := Lib.hid sow0
  clear sis0 sow0
  simp only [Config.list]
  go_wp2_with fail
  refine (to_PaneS a1 n1 c1 l1 f1 _ Y1.out (I1.out.below local_Pane (BB.out))).mono ?_
  rintro e W4 ⟨sg1, sf1, rfl, sis1, sow1, bel⟩
  have BB_ := Lib.hid (BB.out.trans (bel.mono BB.out.size))
  clear BB
  have BB := BB_
  clear BB_
  have K0_ := Lib.hid (K0.out.below bel K0.out.lt)
  clear K0
  have K0 := K0_
  clear K0_
  have sI0_ := Lib.hid (sI0.out.below bel)
  clear sI0
  have sI0 := sI0_
  clear sI0_
  have sO0_ := Lib.hid (sO0.out.below bel)
  clear sO0
  have sO0 := sO0_
  clear sO0_
  clear bel
  have sI1 := Lib.hid sis1
  have sO1 := Lib.hid sow1
  clear sis1 sow1
  go_wp2_with fail
  refine (spec_PanesOk x0 sh0 sf0 (some ⟨sg1, 0, none⟩) n1 n1 l1 sf1 _ sI0.out sI1.out (Nat.le_refl _) (Nat.le_trans u1 v1) Y0.out Y1.out).mono ?_
  rintro e W5 ⟨rfl, bel⟩
  have BB_ := Lib.hid (BB.out.trans (bel.mono BB.out.size))
  clear BB
  have BB := BB_
  clear BB_
  have K0_ := Lib.hid (K0.out.below bel K0.out.lt)
  clear K0
  have K0 := K0_
  clear K0_
  have sI0_ := Lib.hid (sI0.out.below bel)
  clear sI0
  have sI0 := sI0_
  clear sI0_
  have sO0_ := Lib.hid (sO0.out.below bel)
  clear sO0
  have sO0 := sO0_
  clear sO0_
  have sI1_ := Lib.hid (sI1.out.below local_Pane bel)
  clear sI1
  have sI1 := sI1_
  clear sI1_
  have sO1_ := Lib.hid (sO1.out.below bel)
  clear sO1
  have sO1 := sO1_
  clear sO1_
  clear bel
  clear sI0 sI1 sO0 sO1
  have k0_0 := K0.out.cell 0
  have k0_1 := K0.out.cell 1
  have k0_2 := K0.out.cell 2
  have k0_3 := K0.out.cell 3
  have k0_4 := K0.out.cell 4
  simp [Config.list] at k0_0 k0_1 k0_2 k0_3 k0_4
  have k0_l := K0.out.lt
  go_wp2_with fail
  clear k0_0 k0_1 k0_2 k0_3 k0_4 k0_l
  refine (to_Config x0 h0 f0 _ Y0.out (I0.out.below (BB.out))).mono ?_
  rintro e W6 ⟨xh0, xf0, rfl, xis0, xow0, bel⟩
  have BB_ := Lib.hid (BB.out.trans (bel.mono BB.out.size))
  clear BB
  have BB := BB_
  clear BB_
  have K0_ := Lib.hid (K0.out.below bel K0.out.lt)
  clear K0
  have K0 := K0_
  clear K0_
  clear bel
  have xI0 := Lib.hid xis0
  have xO0 := Lib.hid xow0
  clear xis0 xow0
  simp only [Config.list]
  have k0_0 := K0.out.cell 0
  have k0_1 := K0.out.cell 1
  have k0_2 := K0.out.cell 2
  have k0_3 := K0.out.cell 3
  have k0_4 := K0.out.cell 4
  simp [Config.list] at k0_0 k0_1 k0_2 k0_3 k0_4
  have k0_l := K0.out.lt
  go_wp2_with fail
  clear k0_0 k0_1 k0_2 k0_3 k0_4 k0_l
  refine calls_gen (fun X => Below W6.heap.size W6 X ∧ Blk X W6.heap.size 71 (Config.list x0 xh0)) ⟨by repeat (first | exact Below.refl _ _ | refine Below.setCell ?_ (by first | omega | (simp; done) | (simp; omega)) _ | refine Below.alloc ?_ (by first | omega | (simp; done) | (simp; omega)) _ | apply Below.drew), by unfold Config.list; with_reducible (repeat (first | (refine blk_new_at _ _ _ _ ?_; first | rfl | (simp; done)) | refine Blk.alloc ?_ _ | apply Blk.drew | refine Blk.setOther ?_ (by first | (simp; done) | (simp; omega)) _))⟩ ?_
  rintro W7 ⟨bel, kx⟩
  have BB_ := Lib.hid (BB.out.trans (bel.mono BB.out.size))
  clear BB
  have BB := BB_
  clear BB_
  have K0_ := Lib.hid (K0.out.below bel K0.out.lt)
  clear K0
  have K0 := K0_
  clear K0_
  have xI0_ := Lib.hid (xI0.out.below bel)
  clear xI0
  have xI0 := xI0_
  clear xI0_
  have xO0_ := Lib.hid (xO0.out.below bel)
  clear xO0
  have xO0 := xO0_
  clear xO0_
  have X0 := Lib.hid kx
  clear bel kx
  refine (to_PaneS a1 n1 c1 l1 f1 _ Y1.out (I1.out.below local_Pane (BB.out))).mono ?_
  rintro e W8 ⟨xg1, xf1, rfl, xis1, xow1, bel⟩
  have BB_ := Lib.hid (BB.out.trans (bel.mono BB.out.size))
  clear BB
  have BB := BB_
  clear BB_
  have K0_ := Lib.hid (K0.out.below bel K0.out.lt)
  clear K0
  have K0 := K0_
  clear K0_
  have xI0_ := Lib.hid (xI0.out.below bel)
  clear xI0
  have xI0 := xI0_
  clear xI0_
  have xO0_ := Lib.hid (xO0.out.below bel)
  clear xO0
  have xO0 := xO0_
  clear xO0_
  have X0_ := Lib.hid (X0.out.below bel X0.out.lt)
  clear X0
  have X0 := X0_
  clear X0_
  clear bel
  have xI1 := Lib.hid xis1
  have xO1 := Lib.hid xow1
  clear xis1 xow1
  have k0_0 := K0.out.cell 0
  have k0_1 := K0.out.cell 1
  have k0_2 := K0.out.cell 2
  have k0_3 := K0.out.cell 3
  have k0_4 := K0.out.cell 4
  simp [Config.list] at k0_0 k0_1 k0_2 k0_3 k0_4
  have k0_l := K0.out.lt
  have x_0_0 := X0.out.cell 0
  have x_0_1 := X0.out.cell 1
  have x_0_2 := X0.out.cell 2
  have x_0_3 := X0.out.cell 3
  have x_0_4 := X0.out.cell 4
  simp [Config.list] at x_0_0 x_0_1 x_0_2 x_0_3 x_0_4
  have x_0_l := X0.out.lt
  go_wp2_with fail
  clear k0_0 k0_1 k0_2 k0_3 k0_4 k0_l
  clear x_0_0 x_0_1 x_0_2 x_0_3 x_0_4 x_0_l
  refine (impl_PanesOk x0 xh0 xf0 (some ⟨xg1, 0, none⟩) n1 n1 l1 xf1 _ xI0.out xI1.out (Nat.le_refl _) (Nat.le_trans u1 v1) Y0.out Y1.out).mono ?_
  rintro e W9 ⟨rfl, bel⟩
  have BB_ := Lib.hid (BB.out.trans (bel.mono BB.out.size))
  clear BB
  have BB := BB_
  clear BB_
  have K0_ := Lib.hid (K0.out.below bel K0.out.lt)
  clear K0
  have K0 := K0_
  clear K0_
  have xI0_ := Lib.hid (xI0.out.below bel)
  clear xI0
  have xI0 := xI0_
  clear xI0_
  have xO0_ := Lib.hid (xO0.out.below bel)
  clear xO0
  have xO0 := xO0_
  clear xO0_
  have X0_ := Lib.hid (X0.out.below bel X0.out.lt)
  clear X0
  have X0 := X0_
  clear X0_
  have xI1_ := Lib.hid (xI1.out.below local_Pane bel)
  clear xI1
  have xI1 := xI1_
  clear xI1_
  have xO1_ := Lib.hid (xO1.out.below bel)
  clear xO1
  have xO1 := xO1_
  clear xO1_
  clear bel
  have k0_0 := K0.out.cell 0
  have k0_1 := K0.out.cell 1
  have k0_2 := K0.out.cell 2
  have k0_3 := K0.out.cell 3
  have k0_4 := K0.out.cell 4
  simp [Config.list] at k0_0 k0_1 k0_2 k0_3 k0_4
  have k0_l := K0.out.lt
  have x_0_0 := X0.out.cell 0
  have x_0_1 := X0.out.cell 1
  have x_0_2 := X0.out.cell 2
  have x_0_3 := X0.out.cell 3
  have x_0_4 := X0.out.cell 4
  simp [Config.list] at x_0_0 x_0_1 x_0_2 x_0_3 x_0_4
  have x_0_l := X0.out.lt
  go_wp2_with fail
  go_cut [39] (fun v wx => v = .bool false ∧ Below W9.heap.size W9 wx)
  case first =>
    go_region_held3 (fun w' => w'.cell? ⟨w.heap.size, 0, none⟩ = some (.int .i64 x0.d) ∧ w'.cell? ⟨w.heap.size, 1, none⟩ = some (.slice h0.wsa h0.wsl h0.wsc) ∧ w'.cell? ⟨w.heap.size, 2, none⟩ = some (.slice h0.msa h0.msl h0.msc) ∧ w'.cell? ⟨w.heap.size, 3, none⟩ = some (.int .i64 x0.dl) ∧ w'.cell? ⟨w.heap.size, 4, none⟩ = some (.int .i64 x0.lt) ∧ w'.cell? ⟨W6.heap.size, 0, none⟩ = some (.int .i64 x0.d) ∧ w'.cell? ⟨W6.heap.size, 1, none⟩ = some (.slice xh0.wsa xh0.wsl xh0.wsc) ∧ w'.cell? ⟨W6.heap.size, 2, none⟩ = some (.slice xh0.msa xh0.msl xh0.msc) ∧ w'.cell? ⟨W6.heap.size, 3, none⟩ = some (.int .i64 x0.dl) ∧ w'.cell? ⟨W6.heap.size, 4, none⟩ = some (.int .i64 x0.lt))
      ((first | exact keep_PanesOk_5_5 (W := W9.drew) K0.out X0.out hbz | exact keep_PanesOk_5_5 (W := W9.drew) K0.out X0.out hb0 | exact keep_PanesOk_5_5 (W := W9.drew) K0.out X0.out (Below.refl _ _)))
      (first | (go_at_call 45; refine (to_Config x0 h0 f0 _ Y0.out (I0.out.below (BB.out.drew))).mono ?_; rintro e wq ⟨qh0, qf0, rfl, qis0, qow0, hb0⟩) | (go_at_call 48; refine (eq_Config x0 xh0 qh0 _ _ _ Y0.out (xI0.out.below ((Below.refl _ _).drew.trans hb0)) qis0).mono ?_; rintro e wz ⟨rfl, hb1⟩; have hbz : Below W9.drew.heap.size W9.drew _ := hb0.trans (hb1.mono hb0.size)))
    all_goals (go_wp2_with fail; go_meet)
    all_goals exact ⟨rfl, (Below.refl _ _).drew.trans hbz⟩
  case rest =>
  obtain ⟨rfl, bel⟩ := hcut
  generalize wc = wd1 at *
  have BB_ := Lib.hid (BB.out.trans (bel.mono BB.out.size))
  clear BB
  have BB := BB_
  clear BB_
  have K0_ := Lib.hid (K0.out.below bel K0.out.lt)
  clear K0
  have K0 := K0_
  clear K0_
  have xI0_ := Lib.hid (xI0.out.below bel)
  clear xI0
  have xI0 := xI0_
  clear xI0_
  have xO0_ := Lib.hid (xO0.out.below bel)
  clear xO0
  have xO0 := xO0_
  clear xO0_
  have X0_ := Lib.hid (X0.out.below bel X0.out.lt)
  clear X0
  have X0 := X0_
  clear X0_
  have xI1_ := Lib.hid (xI1.out.below local_Pane bel)
  clear xI1
  have xI1 := xI1_
  clear xI1_
  have xO1_ := Lib.hid (xO1.out.below bel)
  clear xO1
  have xO1 := xO1_
  clear xO1_
  clear bel
  clear k0_0 k0_1 k0_2 k0_3 k0_4 k0_l
  clear x_0_0 x_0_1 x_0_2 x_0_3 x_0_4 x_0_l
  have k0_0 := K0.out.cell 0
  have k0_1 := K0.out.cell 1
  have k0_2 := K0.out.cell 2
  have k0_3 := K0.out.cell 3
  have k0_4 := K0.out.cell 4
  simp [Config.list] at k0_0 k0_1 k0_2 k0_3 k0_4
  have k0_l := K0.out.lt
  have x_0_0 := X0.out.cell 0
  have x_0_1 := X0.out.cell 1
  have x_0_2 := X0.out.cell 2
  have x_0_3 := X0.out.cell 3
  have x_0_4 := X0.out.cell 4
  simp [Config.list] at x_0_0 x_0_1 x_0_2 x_0_3 x_0_4
  have x_0_l := X0.out.lt
  go_wp2_with fail
  clear k0_0 k0_1 k0_2 k0_3 k0_4 k0_l
  clear x_0_0 x_0_1 x_0_2 x_0_3 x_0_4 x_0_l
  refine (to_PaneS a1 n1 c1 l1 f1 _ Y1.out (I1.out.below local_Pane (BB.out))).mono ?_
  rintro e W10 ⟨qg1, qf1, rfl, qis1, qow1, bel⟩
  have BB_ := Lib.hid (BB.out.trans (bel.mono BB.out.size))
  clear BB
  have BB := BB_
  clear BB_
  have K0_ := Lib.hid (K0.out.below bel K0.out.lt)
  clear K0
  have K0 := K0_
  clear K0_
  have xI0_ := Lib.hid (xI0.out.below bel)
  clear xI0
  have xI0 := xI0_
  clear xI0_
  have xO0_ := Lib.hid (xO0.out.below bel)
  clear xO0
  have xO0 := xO0_
  clear xO0_
  have X0_ := Lib.hid (X0.out.below bel X0.out.lt)
  clear X0
  have X0 := X0_
  clear X0_
  have xI1_ := Lib.hid (xI1.out.below local_Pane bel)
  clear xI1
  have xI1 := xI1_
  clear xI1_
  have xO1_ := Lib.hid (xO1.out.below bel)
  clear xO1
  have xO1 := xO1_
  clear xO1_
  clear bel
  go_wp2_with fail
  refine (eq_PaneS (some ⟨xg1, 0, none⟩) (some ⟨qg1, 0, none⟩) n1 n1 n1 l1 _ _ W10 Y1.out xI1.out qis1).mono ?_
  rintro e W11 ⟨rfl, bel⟩
  have BB_ := Lib.hid (BB.out.trans (bel.mono BB.out.size))
  clear BB
  have BB := BB_
  clear BB_
  have K0_ := Lib.hid (K0.out.below bel K0.out.lt)
  clear K0
  have K0 := K0_
  clear K0_
  have xI0_ := Lib.hid (xI0.out.below bel)
  clear xI0
  have xI0 := xI0_
  clear xI0_
  have xO0_ := Lib.hid (xO0.out.below bel)
  clear xO0
  have xO0 := xO0_
  clear xO0_
  have X0_ := Lib.hid (X0.out.below bel X0.out.lt)
  clear X0
  have X0 := X0_
  clear X0_
  have xI1_ := Lib.hid (xI1.out.below local_Pane bel)
  clear xI1
  have xI1 := xI1_
  clear xI1_
  have xO1_ := Lib.hid (xO1.out.below bel)
  clear xO1
  have xO1 := xO1_
  clear xO1_
  clear bel qis1 qow1
  go_wp2_with fail
  go_ret
  exact ⟨rfl, BB.out⟩
end Go.Proofs.Ytemefahhogdoaaa.dat
