/-
  THE WALK OF THE LAW FnExactFrameOk out of the contracts: it answers true, and nothing that was there is written. Written by tools/genlaw.py.
-/
import Derived.Test.YtoglclmaacjdaaaFrameOk
import Derived.Test.YtoglclmaacjdaaaDataFrameReads
import Derived.Test.YtoglclmaacjdaaaDataReads
namespace Go.Proofs.Ytoglclmaacjdaaa.dat
open Go.RowKit Go.Proofs.Ytoglclmaacjdaaa.win
set_option linter.unusedVariables false

theorem keep_FrameOk_5_3 {W w' : World} {p0 : Nat} {t0 : TypeId} {v0_0 v0_1 v0_2 v0_3 v0_4 : Value} (h0 : Blk W p0 t0 [v0_0, v0_1, v0_2, v0_3, v0_4]) {p1 : Nat} {t1 : TypeId} {v1_0 v1_1 v1_2 : Value} (h1 : Blk W p1 t1 [v1_0, v1_1, v1_2]) (h : Below W.heap.size W w') : w'.cell? ⟨p0, 0, none⟩ = some v0_0 ∧ w'.cell? ⟨p0, 1, none⟩ = some v0_1 ∧ w'.cell? ⟨p0, 2, none⟩ = some v0_2 ∧ w'.cell? ⟨p0, 3, none⟩ = some v0_3 ∧ w'.cell? ⟨p0, 4, none⟩ = some v0_4 ∧ w'.cell? ⟨p1, 0, none⟩ = some v1_0 ∧ w'.cell? ⟨p1, 1, none⟩ = some v1_1 ∧ w'.cell? ⟨p1, 2, none⟩ = some v1_2 := ⟨by have := (h0.below h h0.lt).cell 0; simpa using this, by have := (h0.below h h0.lt).cell 1; simpa using this, by have := (h0.below h h0.lt).cell 2; simpa using this, by have := (h0.below h h0.lt).cell 3; simpa using this, by have := (h0.below h h0.lt).cell 4; simpa using this, by have := (h1.below h h1.lt).cell 0; simpa using this, by have := (h1.below h h1.lt).cell 1; simpa using this, by have := (h1.below h h1.lt).cell 2; simpa using this⟩
theorem keep_FrameOk_5_5 {W w' : World} {p0 : Nat} {t0 : TypeId} {v0_0 v0_1 v0_2 v0_3 v0_4 : Value} (h0 : Blk W p0 t0 [v0_0, v0_1, v0_2, v0_3, v0_4]) {p1 : Nat} {t1 : TypeId} {v1_0 v1_1 v1_2 v1_3 v1_4 : Value} (h1 : Blk W p1 t1 [v1_0, v1_1, v1_2, v1_3, v1_4]) (h : Below W.heap.size W w') : w'.cell? ⟨p0, 0, none⟩ = some v0_0 ∧ w'.cell? ⟨p0, 1, none⟩ = some v0_1 ∧ w'.cell? ⟨p0, 2, none⟩ = some v0_2 ∧ w'.cell? ⟨p0, 3, none⟩ = some v0_3 ∧ w'.cell? ⟨p0, 4, none⟩ = some v0_4 ∧ w'.cell? ⟨p1, 0, none⟩ = some v1_0 ∧ w'.cell? ⟨p1, 1, none⟩ = some v1_1 ∧ w'.cell? ⟨p1, 2, none⟩ = some v1_2 ∧ w'.cell? ⟨p1, 3, none⟩ = some v1_3 ∧ w'.cell? ⟨p1, 4, none⟩ = some v1_4 := ⟨by have := (h0.below h h0.lt).cell 0; simpa using this, by have := (h0.below h h0.lt).cell 1; simpa using this, by have := (h0.below h h0.lt).cell 2; simpa using this, by have := (h0.below h h0.lt).cell 3; simpa using this, by have := (h0.below h h0.lt).cell 4; simpa using this, by have := (h1.below h h1.lt).cell 0; simpa using this, by have := (h1.below h h1.lt).cell 1; simpa using this, by have := (h1.below h h1.lt).cell 2; simpa using this, by have := (h1.below h h1.lt).cell 3; simpa using this, by have := (h1.below h h1.lt).cell 4; simpa using this⟩
theorem keep_FrameOk_3_3 {W w' : World} {p0 : Nat} {t0 : TypeId} {v0_0 v0_1 v0_2 : Value} (h0 : Blk W p0 t0 [v0_0, v0_1, v0_2]) {p1 : Nat} {t1 : TypeId} {v1_0 v1_1 v1_2 : Value} (h1 : Blk W p1 t1 [v1_0, v1_1, v1_2]) (h : Below W.heap.size W w') : w'.cell? ⟨p0, 0, none⟩ = some v0_0 ∧ w'.cell? ⟨p0, 1, none⟩ = some v0_1 ∧ w'.cell? ⟨p0, 2, none⟩ = some v0_2 ∧ w'.cell? ⟨p1, 0, none⟩ = some v1_0 ∧ w'.cell? ⟨p1, 1, none⟩ = some v1_1 ∧ w'.cell? ⟨p1, 2, none⟩ = some v1_2 := ⟨by have := (h0.below h h0.lt).cell 0; simpa using this, by have := (h0.below h h0.lt).cell 1; simpa using this, by have := (h0.below h h0.lt).cell 2; simpa using this, by have := (h1.below h h1.lt).cell 0; simpa using this, by have := (h1.below h h1.lt).cell 1; simpa using this, by have := (h1.below h h1.lt).cell 2; simpa using this⟩

set_option maxRecDepth 100000 in
set_option maxHeartbeats 8000000 in
theorem walk_FrameOk (x0 : ConfD) (h0 : ConfigH) (f0 : List Nat) (x1 : FrameD) (h1 : FrameH) (f1 : List Nat) (w : World) (i0 : Config.Is w x0 h0 f0) (i1 : Frame.Is w x1 h1 f1)  :
    Calls Try.prog 6 #[.agg (Config.list x0 h0).toArray, .agg (Frame.list x1 h1).toArray] w fun e w' => e = .returned (.bool true) ∧ Below w.heap.size w w' := by
  have I0 := Lib.hid i0
  have I1 := Lib.hid i1
  clear i0 i1
  simp only [Config.list, Frame.list]
  go_enter Try.func6, Try.ntmps6
  go_wp2_with fail
  refine calls_gen (fun W => Below w.heap.size w W ∧ Blk W w.heap.size 54 (Config.list x0 h0) ∧ Blk W (w.heap.size + 1) 57 (Frame.list x1 h1)) ⟨by repeat (first | exact Below.refl _ _ | refine Below.setCell ?_ (by first | omega | (simp; done) | (simp; omega)) _ | refine Below.alloc ?_ (by first | omega | (simp; done) | (simp; omega)) _ | apply Below.drew), by unfold Config.list; with_reducible (repeat (first | (refine blk_new_at _ _ _ _ ?_; first | rfl | (simp; done)) | refine Blk.alloc ?_ _ | apply Blk.drew | refine Blk.setOther ?_ (by first | (simp; done) | (simp; omega)) _)), by unfold Frame.list; with_reducible (repeat (first | (refine blk_new_at _ _ _ _ ?_; first | rfl | (simp; done)) | refine Blk.alloc ?_ _ | apply Blk.drew | refine Blk.setOther ?_ (by first | (simp; done) | (simp; omega)) _))⟩ ?_
  rintro W0 ⟨b, k0, k1⟩
  have K0 := Lib.hid k0
  clear k0
  have K1 := Lib.hid k1
  clear k1
  have BB := Lib.hid b
  clear b
  refine (sz_Config x0 h0 f0 1048576 W0 (by omega) (by omega) (I0.out.below BB.out)).mono ?_
  rintro e W1 ⟨rfl, bel⟩
  have BB_ := Lib.hid (BB.out.trans (bel.mono BB.out.size))
  clear BB
  have BB := BB_
  clear BB_
  have K0_ := Lib.hid (K0.out.below bel K0.out.lt)
  clear K0
  have K0 := K0_
  clear K0_
  have K1_ := Lib.hid (K1.out.below bel K1.out.lt)
  clear K1
  have K1 := K1_
  clear K1_
  clear bel
  by_cases z0 : ((Config.sz x0 : Nat) : Int) ≤ 1048576
  case neg =>
    rw [if_neg z0]
    go_wp2_with fail
    go_ret
    exact ⟨rfl, BB.out⟩
  rw [if_pos z0]
  have k0_0 := K0.out.cell 0
  have k0_1 := K0.out.cell 1
  have k0_2 := K0.out.cell 2
  have k0_3 := K0.out.cell 3
  have k0_4 := K0.out.cell 4
  simp [Config.list] at k0_0 k0_1 k0_2 k0_3 k0_4
  have k0_l := K0.out.lt
  have k1_0 := K1.out.cell 0
  have k1_1 := K1.out.cell 1
  have k1_2 := K1.out.cell 2
  simp [Frame.list] at k1_0 k1_1 k1_2
  have k1_l := K1.out.lt
  skip
  go_wp2_with fail
  clear k0_0 k0_1 k0_2 k0_3 k0_4 k0_l
  clear k1_0 k1_1 k1_2 k1_l
  skip
  go_wp2_with fail
  refine (sz_Frame x1 h1 f1 (1048576 - ((Config.sz x0 : Nat) : Int)) W1 (by omega) (by omega) (I1.out.below BB.out)).mono ?_
  rintro e W2 ⟨rfl, bel⟩
  have BB_ := Lib.hid (BB.out.trans (bel.mono BB.out.size))
  clear BB
  have BB := BB_
  clear BB_
  have K0_ := Lib.hid (K0.out.below bel K0.out.lt)
  clear K0
  have K0 := K0_
  clear K0_
  have K1_ := Lib.hid (K1.out.below bel K1.out.lt)
  clear K1
  have K1 := K1_
  clear K1_
  clear bel
  by_cases z1 : ((Frame.sz x1 : Nat) : Int) ≤ (1048576 - ((Config.sz x0 : Nat) : Int))
  case neg =>
    rw [if_neg z1]
    go_wp2_with fail
    go_ret
    exact ⟨rfl, BB.out⟩
  rw [if_pos z1]
  have k0_0 := K0.out.cell 0
  have k0_1 := K0.out.cell 1
  have k0_2 := K0.out.cell 2
  have k0_3 := K0.out.cell 3
  have k0_4 := K0.out.cell 4
  simp [Config.list] at k0_0 k0_1 k0_2 k0_3 k0_4
  have k0_l := K0.out.lt
  have k1_0 := K1.out.cell 0
  have k1_1 := K1.out.cell 1
  have k1_2 := K1.out.cell 2
  simp [Frame.list] at k1_0 k1_1 k1_2
  have k1_l := K1.out.lt
  skip
  go_wp2_with fail
  have y0 : Config.sz x0 ≤ 2000000 := by omega
  have y1 : Frame.sz x1 ≤ 2000000 := by omega
  have Z0 := Lib.hid z0
  have Z1 := Lib.hid z1
  have Y0 := Lib.hid y0
  have Y1 := Lib.hid y1
  clear z0 z1 y0 y1
  go_cut [6] (fun v wx => v = .bool (frameB x0 x1) ∧ Below W2.heap.size W2 wx)
  case first =>
    go_region_held3 (fun w' => w'.cell? ⟨w.heap.size, 0, none⟩ = some (.int .i64 x0.d) ∧ w'.cell? ⟨w.heap.size, 1, none⟩ = some (.slice h0.wsa h0.wsl h0.wsc) ∧ w'.cell? ⟨w.heap.size, 2, none⟩ = some (.slice h0.msa h0.msl h0.msc) ∧ w'.cell? ⟨w.heap.size, 3, none⟩ = some (.int .i64 x0.dl) ∧ w'.cell? ⟨w.heap.size, 4, none⟩ = some (.int .i64 x0.lt) ∧ w'.cell? ⟨(w.heap.size + 1), 0, none⟩ = some (.int .i64 x1.epoch) ∧ w'.cell? ⟨(w.heap.size + 1), 1, none⟩ = some (.int .i64 x1.count) ∧ w'.cell? ⟨(w.heap.size + 1), 2, none⟩ = some (.slice h1.rowsa h1.rowsl h1.rowsc))
      ((first | exact keep_FrameOk_5_3 (W := W2.drew) K0.out K1.out hbz | exact keep_FrameOk_5_3 (W := W2.drew) K0.out K1.out hb1 | exact keep_FrameOk_5_3 (W := W2.drew) K0.out K1.out hb0 | exact keep_FrameOk_5_3 (W := W2.drew) K0.out K1.out (Below.refl _ _)))
      (first | (go_at_call 31; refine (to_Config x0 h0 f0 _ Y0.out (I0.out.below (BB.out.drew))).mono ?_; rintro e wq0 ⟨sh0, sf0, rfl, sis0, sow0, hq0⟩; have hb0 : Below W2.drew.heap.size W2.drew _ := hq0) | (go_at_call 32; refine (to_Frame x1 h1 f1 _ Y1.out (I1.out.below (((BB.out.drew).trans (hb0.mono BB.out.size))))).mono ?_; rintro e wq1 ⟨sh1, sf1, rfl, sis1, sow1, hq1⟩; have hb1 : Below W2.drew.heap.size W2.drew _ := hb0.trans (hq1.mono hb0.size)) | (go_at_call 30; refine (spec_FrameOk x0 sh0 sf0 x1 sh1 sf1 _ (sis0.below hq1) sis1 Y0.out Y1.out).mono ?_; rintro e wz ⟨rfl, bel⟩; have hbz : Below W2.drew.heap.size W2.drew _ := hb1.trans (bel.mono hb1.size)))
    all_goals (go_wp2_with fail; go_meet)
    all_goals exact ⟨rfl, (Below.refl _ _).drew.trans hbz⟩
  case rest =>
  obtain ⟨rfl, bel⟩ := hcut
  clear k0_0 k0_1 k0_2 k0_3 k0_4 k0_l
  clear k1_0 k1_1 k1_2 k1_l
  generalize wc = wd1 at *
  have BB_ := Lib.hid (BB.out.trans (bel.mono BB.out.size))
  clear BB
  have BB := BB_
  clear BB_
  have K0_ := Lib.hid (K0.out.below bel K0.out.lt)
  clear K0
  have K0 := K0_
  clear K0_
  have K1_ := Lib.hid (K1.out.below bel K1.out.lt)
  clear K1
  have K1 := K1_
  clear K1_
  clear bel
  have k0_0 := K0.out.cell 0
  have k0_1 := K0.out.cell 1
  have k0_2 := K0.out.cell 2
  have k0_3 := K0.out.cell 3
  have k0_4 := K0.out.cell 4
  simp [Config.list] at k0_0 k0_1 k0_2 k0_3 k0_4
  have k0_l := K0.out.lt
  have k1_0 := K1.out.cell 0
  have k1_1 := K1.out.cell 1
  have k1_2 := K1.out.cell 2
  simp [Frame.list] at k1_0 k1_1 k1_2
  have k1_l := K1.out.lt
  go_wp2_with fail
  clear k0_0 k0_1 k0_2 k0_3 k0_4 k0_l
  clear k1_0 k1_1 k1_2 k1_l
  refine (to_Config x0 h0 f0 _ Y0.out (I0.out.below (BB.out))).mono ?_
  rintro e W3 ⟨xh0, xf0, rfl, xis0, xow0, bel⟩
  have BB_ := Lib.hid (BB.out.trans (bel.mono BB.out.size))
  clear BB
  have BB := BB_
  clear BB_
  have K0_ := Lib.hid (K0.out.below bel K0.out.lt)
  clear K0
  have K0 := K0_
  clear K0_
  have K1_ := Lib.hid (K1.out.below bel K1.out.lt)
  clear K1
  have K1 := K1_
  clear K1_
  clear bel
  have xI0 := Lib.hid xis0
  have xO0 := Lib.hid xow0
  clear xis0 xow0
  simp only [Config.list]
  have k0_0 := K0.out.cell 0
  have k0_1 := K0.out.cell 1
  have k0_2 := K0.out.cell 2
  have k0_3 := K0.out.cell 3
  have k0_4 := K0.out.cell 4
  simp [Config.list] at k0_0 k0_1 k0_2 k0_3 k0_4
  have k0_l := K0.out.lt
  have k1_0 := K1.out.cell 0
  have k1_1 := K1.out.cell 1
  have k1_2 := K1.out.cell 2
  simp [Frame.list] at k1_0 k1_1 k1_2
  have k1_l := K1.out.lt
  go_wp2_with fail
  clear k0_0 k0_1 k0_2 k0_3 k0_4 k0_l
  clear k1_0 k1_1 k1_2 k1_l
  refine calls_gen (fun X => Below W3.heap.size W3 X ∧ Blk X W3.heap.size 63 (Config.list x0 xh0)) ⟨by repeat (first | exact Below.refl _ _ | refine Below.setCell ?_ (by first | omega | (simp; done) | (simp; omega)) _ | refine Below.alloc ?_ (by first | omega | (simp; done) | (simp; omega)) _ | apply Below.drew), by unfold Config.list; with_reducible (repeat (first | (refine blk_new_at _ _ _ _ ?_; first | rfl | (simp; done)) | refine Blk.alloc ?_ _ | apply Blk.drew | refine Blk.setOther ?_ (by first | (simp; done) | (simp; omega)) _))⟩ ?_
  rintro W4 ⟨bel, kx⟩
  have BB_ := Lib.hid (BB.out.trans (bel.mono BB.out.size))
  clear BB
  have BB := BB_
  clear BB_
  have K0_ := Lib.hid (K0.out.below bel K0.out.lt)
  clear K0
  have K0 := K0_
  clear K0_
  have K1_ := Lib.hid (K1.out.below bel K1.out.lt)
  clear K1
  have K1 := K1_
  clear K1_
  have xI0_ := Lib.hid (xI0.out.below bel)
  clear xI0
  have xI0 := xI0_
  clear xI0_
  have xO0_ := Lib.hid (xO0.out.below bel)
  clear xO0
  have xO0 := xO0_
  clear xO0_
  have X0 := Lib.hid kx
  clear bel kx
  refine (to_Frame x1 h1 f1 _ Y1.out (I1.out.below (BB.out))).mono ?_
  rintro e W5 ⟨xh1, xf1, rfl, xis1, xow1, bel⟩
  have BB_ := Lib.hid (BB.out.trans (bel.mono BB.out.size))
  clear BB
  have BB := BB_
  clear BB_
  have K0_ := Lib.hid (K0.out.below bel K0.out.lt)
  clear K0
  have K0 := K0_
  clear K0_
  have K1_ := Lib.hid (K1.out.below bel K1.out.lt)
  clear K1
  have K1 := K1_
  clear K1_
  have xI0_ := Lib.hid (xI0.out.below bel)
  clear xI0
  have xI0 := xI0_
  clear xI0_
  have xO0_ := Lib.hid (xO0.out.below bel)
  clear xO0
  have xO0 := xO0_
  clear xO0_
  have X0_ := Lib.hid (X0.out.below bel X0.out.lt)
  clear X0
  have X0 := X0_
  clear X0_
  clear bel
  have xI1 := Lib.hid xis1
  have xO1 := Lib.hid xow1
  clear xis1 xow1
  simp only [Frame.list]
  have k0_0 := K0.out.cell 0
  have k0_1 := K0.out.cell 1
  have k0_2 := K0.out.cell 2
  have k0_3 := K0.out.cell 3
  have k0_4 := K0.out.cell 4
  simp [Config.list] at k0_0 k0_1 k0_2 k0_3 k0_4
  have k0_l := K0.out.lt
  have k1_0 := K1.out.cell 0
  have k1_1 := K1.out.cell 1
  have k1_2 := K1.out.cell 2
  simp [Frame.list] at k1_0 k1_1 k1_2
  have k1_l := K1.out.lt
  have x_0_0 := X0.out.cell 0
  have x_0_1 := X0.out.cell 1
  have x_0_2 := X0.out.cell 2
  have x_0_3 := X0.out.cell 3
  have x_0_4 := X0.out.cell 4
  simp [Config.list] at x_0_0 x_0_1 x_0_2 x_0_3 x_0_4
  have x_0_l := X0.out.lt
  go_wp2_with fail
  clear k0_0 k0_1 k0_2 k0_3 k0_4 k0_l
  clear k1_0 k1_1 k1_2 k1_l
  clear x_0_0 x_0_1 x_0_2 x_0_3 x_0_4 x_0_l
  refine calls_gen (fun X => Below W5.heap.size W5 X ∧ Blk X W5.heap.size 51 (Frame.list x1 xh1)) ⟨by repeat (first | exact Below.refl _ _ | refine Below.setCell ?_ (by first | omega | (simp; done) | (simp; omega)) _ | refine Below.alloc ?_ (by first | omega | (simp; done) | (simp; omega)) _ | apply Below.drew), by unfold Frame.list; with_reducible (repeat (first | (refine blk_new_at _ _ _ _ ?_; first | rfl | (simp; done)) | refine Blk.alloc ?_ _ | apply Blk.drew | refine Blk.setOther ?_ (by first | (simp; done) | (simp; omega)) _))⟩ ?_
  rintro W6 ⟨bel, kx⟩
  have BB_ := Lib.hid (BB.out.trans (bel.mono BB.out.size))
  clear BB
  have BB := BB_
  clear BB_
  have K0_ := Lib.hid (K0.out.below bel K0.out.lt)
  clear K0
  have K0 := K0_
  clear K0_
  have K1_ := Lib.hid (K1.out.below bel K1.out.lt)
  clear K1
  have K1 := K1_
  clear K1_
  have xI0_ := Lib.hid (xI0.out.below bel)
  clear xI0
  have xI0 := xI0_
  clear xI0_
  have xO0_ := Lib.hid (xO0.out.below bel)
  clear xO0
  have xO0 := xO0_
  clear xO0_
  have X0_ := Lib.hid (X0.out.below bel X0.out.lt)
  clear X0
  have X0 := X0_
  clear X0_
  have xI1_ := Lib.hid (xI1.out.below bel)
  clear xI1
  have xI1 := xI1_
  clear xI1_
  have xO1_ := Lib.hid (xO1.out.below bel)
  clear xO1
  have xO1 := xO1_
  clear xO1_
  have X1 := Lib.hid kx
  clear bel kx
  refine (impl_FrameOk x0 xh0 xf0 x1 xh1 xf1 _ xI0.out xI1.out Y0.out Y1.out).mono ?_
  rintro e W7 ⟨rfl, bel⟩
  have BB_ := Lib.hid (BB.out.trans (bel.mono BB.out.size))
  clear BB
  have BB := BB_
  clear BB_
  have K0_ := Lib.hid (K0.out.below bel K0.out.lt)
  clear K0
  have K0 := K0_
  clear K0_
  have K1_ := Lib.hid (K1.out.below bel K1.out.lt)
  clear K1
  have K1 := K1_
  clear K1_
  have xI0_ := Lib.hid (xI0.out.below bel)
  clear xI0
  have xI0 := xI0_
  clear xI0_
  have xO0_ := Lib.hid (xO0.out.below bel)
  clear xO0
  have xO0 := xO0_
  clear xO0_
  have X0_ := Lib.hid (X0.out.below bel X0.out.lt)
  clear X0
  have X0 := X0_
  clear X0_
  have xI1_ := Lib.hid (xI1.out.below bel)
  clear xI1
  have xI1 := xI1_
  clear xI1_
  have xO1_ := Lib.hid (xO1.out.below bel)
  clear xO1
  have xO1 := xO1_
  clear xO1_
  have X1_ := Lib.hid (X1.out.below bel X1.out.lt)
  clear X1
  have X1 := X1_
  clear X1_
  clear bel
  have k0_0 := K0.out.cell 0
  have k0_1 := K0.out.cell 1
  have k0_2 := K0.out.cell 2
  have k0_3 := K0.out.cell 3
  have k0_4 := K0.out.cell 4
  simp [Config.list] at k0_0 k0_1 k0_2 k0_3 k0_4
  have k0_l := K0.out.lt
  have k1_0 := K1.out.cell 0
  have k1_1 := K1.out.cell 1
  have k1_2 := K1.out.cell 2
  simp [Frame.list] at k1_0 k1_1 k1_2
  have k1_l := K1.out.lt
  have x_0_0 := X0.out.cell 0
  have x_0_1 := X0.out.cell 1
  have x_0_2 := X0.out.cell 2
  have x_0_3 := X0.out.cell 3
  have x_0_4 := X0.out.cell 4
  simp [Config.list] at x_0_0 x_0_1 x_0_2 x_0_3 x_0_4
  have x_0_l := X0.out.lt
  have x_1_0 := X1.out.cell 0
  have x_1_1 := X1.out.cell 1
  have x_1_2 := X1.out.cell 2
  simp [Frame.list] at x_1_0 x_1_1 x_1_2
  have x_1_l := X1.out.lt
  go_wp2_with fail
  go_cut [39] (fun v wx => v = .bool false ∧ Below W7.heap.size W7 wx)
  case first =>
    go_region_held3 (fun w' => w'.cell? ⟨w.heap.size, 0, none⟩ = some (.int .i64 x0.d) ∧ w'.cell? ⟨w.heap.size, 1, none⟩ = some (.slice h0.wsa h0.wsl h0.wsc) ∧ w'.cell? ⟨w.heap.size, 2, none⟩ = some (.slice h0.msa h0.msl h0.msc) ∧ w'.cell? ⟨w.heap.size, 3, none⟩ = some (.int .i64 x0.dl) ∧ w'.cell? ⟨w.heap.size, 4, none⟩ = some (.int .i64 x0.lt) ∧ w'.cell? ⟨W3.heap.size, 0, none⟩ = some (.int .i64 x0.d) ∧ w'.cell? ⟨W3.heap.size, 1, none⟩ = some (.slice xh0.wsa xh0.wsl xh0.wsc) ∧ w'.cell? ⟨W3.heap.size, 2, none⟩ = some (.slice xh0.msa xh0.msl xh0.msc) ∧ w'.cell? ⟨W3.heap.size, 3, none⟩ = some (.int .i64 x0.dl) ∧ w'.cell? ⟨W3.heap.size, 4, none⟩ = some (.int .i64 x0.lt))
      ((first | exact keep_FrameOk_5_5 (W := W7.drew) K0.out X0.out hbz | exact keep_FrameOk_5_5 (W := W7.drew) K0.out X0.out hb0 | exact keep_FrameOk_5_5 (W := W7.drew) K0.out X0.out (Below.refl _ _)))
      (first | (go_at_call 31; refine (to_Config x0 h0 f0 _ Y0.out (I0.out.below (BB.out.drew))).mono ?_; rintro e wq ⟨qh0, qf0, rfl, qis0, qow0, hb0⟩) | (go_at_call 34; refine (eq_Config x0 xh0 qh0 _ _ _ Y0.out (xI0.out.below ((Below.refl _ _).drew.trans hb0)) qis0).mono ?_; rintro e wz ⟨rfl, hb1⟩; have hbz : Below W7.drew.heap.size W7.drew _ := hb0.trans (hb1.mono hb0.size)))
    all_goals (go_wp2_with fail; go_meet)
    all_goals exact ⟨rfl, (Below.refl _ _).drew.trans hbz⟩
  case rest =>
  obtain ⟨rfl, bel⟩ := hcut
  generalize wc = wd2 at *
  have BB_ := Lib.hid (BB.out.trans (bel.mono BB.out.size))
  clear BB
  have BB := BB_
  clear BB_
  have K0_ := Lib.hid (K0.out.below bel K0.out.lt)
  clear K0
  have K0 := K0_
  clear K0_
  have K1_ := Lib.hid (K1.out.below bel K1.out.lt)
  clear K1
  have K1 := K1_
  clear K1_
  have xI0_ := Lib.hid (xI0.out.below bel)
  clear xI0
  have xI0 := xI0_
  clear xI0_
  have xO0_ := Lib.hid (xO0.out.below bel)
  clear xO0
  have xO0 := xO0_
  clear xO0_
  have X0_ := Lib.hid (X0.out.below bel X0.out.lt)
  clear X0
  have X0 := X0_
  clear X0_
  have xI1_ := Lib.hid (xI1.out.below bel)
  clear xI1
  have xI1 := xI1_
  clear xI1_
  have xO1_ := Lib.hid (xO1.out.below bel)
  clear xO1
  have xO1 := xO1_
  clear xO1_
  have X1_ := Lib.hid (X1.out.below bel X1.out.lt)
  clear X1
  have X1 := X1_
  clear X1_
  clear bel
  clear k0_0 k0_1 k0_2 k0_3 k0_4 k0_l
  clear k1_0 k1_1 k1_2 k1_l
  clear x_0_0 x_0_1 x_0_2 x_0_3 x_0_4 x_0_l
  clear x_1_0 x_1_1 x_1_2 x_1_l
  have k0_0 := K0.out.cell 0
  have k0_1 := K0.out.cell 1
  have k0_2 := K0.out.cell 2
  have k0_3 := K0.out.cell 3
  have k0_4 := K0.out.cell 4
  simp [Config.list] at k0_0 k0_1 k0_2 k0_3 k0_4
  have k0_l := K0.out.lt
  have k1_0 := K1.out.cell 0
  have k1_1 := K1.out.cell 1
  have k1_2 := K1.out.cell 2
  simp [Frame.list] at k1_0 k1_1 k1_2
  have k1_l := K1.out.lt
  have x_0_0 := X0.out.cell 0
  have x_0_1 := X0.out.cell 1
  have x_0_2 := X0.out.cell 2
  have x_0_3 := X0.out.cell 3
  have x_0_4 := X0.out.cell 4
  simp [Config.list] at x_0_0 x_0_1 x_0_2 x_0_3 x_0_4
  have x_0_l := X0.out.lt
  have x_1_0 := X1.out.cell 0
  have x_1_1 := X1.out.cell 1
  have x_1_2 := X1.out.cell 2
  simp [Frame.list] at x_1_0 x_1_1 x_1_2
  have x_1_l := X1.out.lt
  go_wp2_with fail
  go_cut [44] (fun v wx => v = .bool false ∧ Below wd2.heap.size wd2 wx)
  case first =>
    go_region_held3 (fun w' => w'.cell? ⟨(w.heap.size + 1), 0, none⟩ = some (.int .i64 x1.epoch) ∧ w'.cell? ⟨(w.heap.size + 1), 1, none⟩ = some (.int .i64 x1.count) ∧ w'.cell? ⟨(w.heap.size + 1), 2, none⟩ = some (.slice h1.rowsa h1.rowsl h1.rowsc) ∧ w'.cell? ⟨W5.heap.size, 0, none⟩ = some (.int .i64 x1.epoch) ∧ w'.cell? ⟨W5.heap.size, 1, none⟩ = some (.int .i64 x1.count) ∧ w'.cell? ⟨W5.heap.size, 2, none⟩ = some (.slice xh1.rowsa xh1.rowsl xh1.rowsc))
      ((first | exact keep_FrameOk_3_3 (W := wd2.drew) K1.out X1.out hbz | exact keep_FrameOk_3_3 (W := wd2.drew) K1.out X1.out hb0 | exact keep_FrameOk_3_3 (W := wd2.drew) K1.out X1.out (Below.refl _ _)))
      (first | (go_at_call 32; refine (to_Frame x1 h1 f1 _ Y1.out (I1.out.below (BB.out.drew))).mono ?_; rintro e wq ⟨qh1, qf1, rfl, qis1, qow1, hb0⟩) | (go_at_call 35; refine (eq_Frame x1 xh1 qh1 _ _ _ Y1.out (xI1.out.below ((Below.refl _ _).drew.trans hb0)) qis1).mono ?_; rintro e wz ⟨rfl, hb1⟩; have hbz : Below wd2.drew.heap.size wd2.drew _ := hb0.trans (hb1.mono hb0.size)))
    all_goals (go_wp2_with fail; go_meet)
    all_goals exact ⟨rfl, (Below.refl _ _).drew.trans hbz⟩
  case rest =>
  obtain ⟨rfl, bel⟩ := hcut
  generalize wc = wd3 at *
  have BB_ := Lib.hid (BB.out.trans (bel.mono BB.out.size))
  clear BB
  have BB := BB_
  clear BB_
  have K0_ := Lib.hid (K0.out.below bel K0.out.lt)
  clear K0
  have K0 := K0_
  clear K0_
  have K1_ := Lib.hid (K1.out.below bel K1.out.lt)
  clear K1
  have K1 := K1_
  clear K1_
  have xI0_ := Lib.hid (xI0.out.below bel)
  clear xI0
  have xI0 := xI0_
  clear xI0_
  have xO0_ := Lib.hid (xO0.out.below bel)
  clear xO0
  have xO0 := xO0_
  clear xO0_
  have X0_ := Lib.hid (X0.out.below bel X0.out.lt)
  clear X0
  have X0 := X0_
  clear X0_
  have xI1_ := Lib.hid (xI1.out.below bel)
  clear xI1
  have xI1 := xI1_
  clear xI1_
  have xO1_ := Lib.hid (xO1.out.below bel)
  clear xO1
  have xO1 := xO1_
  clear xO1_
  have X1_ := Lib.hid (X1.out.below bel X1.out.lt)
  clear X1
  have X1 := X1_
  clear X1_
  clear bel
  clear k0_0 k0_1 k0_2 k0_3 k0_4 k0_l
  clear k1_0 k1_1 k1_2 k1_l
  clear x_0_0 x_0_1 x_0_2 x_0_3 x_0_4 x_0_l
  clear x_1_0 x_1_1 x_1_2 x_1_l
  go_wp2_with fail
  go_ret
  exact ⟨rfl, BB.out⟩
end Go.Proofs.Ytoglclmaacjdaaa.dat
