/-
  THE WALK OF THE LAW FnExactRowText out of the contracts: it answers true, and nothing that was there is written. Written by tools/genlaw.py.
-/
import Derived.Test.YtemefahhogdoaaaDoorRowText2
namespace Go.Proofs.YtemefahhogdoaaaDoor.dat
open Go.RowKit Go.Proofs.YtemefahhogdoaaaDoor.win
set_option linter.unusedVariables false

theorem keep_RowText_9_9 {W w' : World} {p0 : Nat} {t0 : TypeId} {v0_0 v0_1 v0_2 v0_3 v0_4 v0_5 v0_6 v0_7 v0_8 : Value} (h0 : Blk W p0 t0 [v0_0, v0_1, v0_2, v0_3, v0_4, v0_5, v0_6, v0_7, v0_8]) {p1 : Nat} {t1 : TypeId} {v1_0 v1_1 v1_2 v1_3 v1_4 v1_5 v1_6 v1_7 v1_8 : Value} (h1 : Blk W p1 t1 [v1_0, v1_1, v1_2, v1_3, v1_4, v1_5, v1_6, v1_7, v1_8]) (h : Below W.heap.size W w') : w'.cell? ⟨p0, 0, none⟩ = some v0_0 ∧ w'.cell? ⟨p0, 1, none⟩ = some v0_1 ∧ w'.cell? ⟨p0, 2, none⟩ = some v0_2 ∧ w'.cell? ⟨p0, 3, none⟩ = some v0_3 ∧ w'.cell? ⟨p0, 4, none⟩ = some v0_4 ∧ w'.cell? ⟨p0, 5, none⟩ = some v0_5 ∧ w'.cell? ⟨p0, 6, none⟩ = some v0_6 ∧ w'.cell? ⟨p0, 7, none⟩ = some v0_7 ∧ w'.cell? ⟨p0, 8, none⟩ = some v0_8 ∧ w'.cell? ⟨p1, 0, none⟩ = some v1_0 ∧ w'.cell? ⟨p1, 1, none⟩ = some v1_1 ∧ w'.cell? ⟨p1, 2, none⟩ = some v1_2 ∧ w'.cell? ⟨p1, 3, none⟩ = some v1_3 ∧ w'.cell? ⟨p1, 4, none⟩ = some v1_4 ∧ w'.cell? ⟨p1, 5, none⟩ = some v1_5 ∧ w'.cell? ⟨p1, 6, none⟩ = some v1_6 ∧ w'.cell? ⟨p1, 7, none⟩ = some v1_7 ∧ w'.cell? ⟨p1, 8, none⟩ = some v1_8 := ⟨by have := (h0.below h h0.lt).cell 0; simpa using this, by have := (h0.below h h0.lt).cell 1; simpa using this, by have := (h0.below h h0.lt).cell 2; simpa using this, by have := (h0.below h h0.lt).cell 3; simpa using this, by have := (h0.below h h0.lt).cell 4; simpa using this, by have := (h0.below h h0.lt).cell 5; simpa using this, by have := (h0.below h h0.lt).cell 6; simpa using this, by have := (h0.below h h0.lt).cell 7; simpa using this, by have := (h0.below h h0.lt).cell 8; simpa using this, by have := (h1.below h h1.lt).cell 0; simpa using this, by have := (h1.below h h1.lt).cell 1; simpa using this, by have := (h1.below h h1.lt).cell 2; simpa using this, by have := (h1.below h h1.lt).cell 3; simpa using this, by have := (h1.below h h1.lt).cell 4; simpa using this, by have := (h1.below h h1.lt).cell 5; simpa using this, by have := (h1.below h h1.lt).cell 6; simpa using this, by have := (h1.below h h1.lt).cell 7; simpa using this, by have := (h1.below h h1.lt).cell 8; simpa using this⟩

set_option maxRecDepth 100000 in
set_option maxHeartbeats 8000000 in
theorem walk_RowText (x0 : RowD) (h0 : RowH) (f0 : List Nat) (w : World) (i0 : Row.Is w x0 h0 f0) (hp : num.Pow w) (hr64 : R64 x0) :
    Calls Tryd.prog 3 #[.agg (Row.list x0 h0).toArray] w fun e w' => e = .returned (.bool true) ∧ Below w.heap.size w w' := by
  have I0 := Lib.hid i0
  have HP := Lib.hid hp
  have HR64 := Lib.hid hr64
  clear hp hr64
  clear i0
  simp only [Row.list]
  go_enter Tryd.func3, Tryd.ntmps3
  go_wp2_with fail
  refine calls_gen (fun W => Below w.heap.size w W ∧ Blk W w.heap.size 26 (Row.list x0 h0)) ⟨by repeat (first | exact Below.refl _ _ | refine Below.setCell ?_ (by first | omega | (simp; done) | (simp; omega)) _ | refine Below.alloc ?_ (by first | omega | (simp; done) | (simp; omega)) _ | apply Below.drew), by unfold Row.list; with_reducible (repeat (first | (refine blk_new_at _ _ _ _ ?_; first | rfl | (simp; done)) | refine Blk.alloc ?_ _ | apply Blk.drew | refine Blk.setOther ?_ (by first | (simp; done) | (simp; omega)) _))⟩ ?_
  rintro W0 ⟨b, k0⟩
  have K0 := Lib.hid k0
  clear k0
  have BB := Lib.hid b
  clear b
  refine (sz_Row x0 h0 f0 1048576 W0 (by omega) (by omega) (I0.out.below BB.out)).mono ?_
  rintro e W1 ⟨rfl, bel⟩
  have BB_ := Lib.hid (BB.out.trans (bel.mono BB.out.size))
  clear BB
  have BB := BB_
  clear BB_
  have K0_ := Lib.hid (K0.out.below bel K0.out.lt)
  clear K0
  have K0 := K0_
  clear K0_
  clear bel
  by_cases z0 : ((Row.sz x0 : Nat) : Int) ≤ 1048576
  case neg =>
    rw [if_neg z0]
    go_wp2_with fail
    go_ret
    exact ⟨rfl, BB.out⟩
  rw [if_pos z0]
  have k0_0 := K0.out.cell 0
  have k0_1 := K0.out.cell 1
  have k0_2 := K0.out.cell 2
  have k0_3 := K0.out.cell 3
  have k0_4 := K0.out.cell 4
  have k0_5 := K0.out.cell 5
  have k0_6 := K0.out.cell 6
  have k0_7 := K0.out.cell 7
  have k0_8 := K0.out.cell 8
  simp [Row.list] at k0_0 k0_1 k0_2 k0_3 k0_4 k0_5 k0_6 k0_7 k0_8
  have k0_l := K0.out.lt
  skip
  go_wp2_with fail
  have y0 : Row.sz x0 ≤ 2000000 := by omega
  have Z0 := Lib.hid z0
  have Y0 := Lib.hid y0
  clear z0 y0
  clear k0_0 k0_1 k0_2 k0_3 k0_4 k0_5 k0_6 k0_7 k0_8 k0_l
  refine (to_Row x0 h0 f0 _ Y0.out (I0.out.below (BB.out))).mono ?_
  rintro e W2 ⟨sh0, sf0, rfl, sis0, sow0, bel⟩
  have BB_ := Lib.hid (BB.out.trans (bel.mono BB.out.size))
  clear BB
  have BB := BB_
  clear BB_
  have K0_ := Lib.hid (K0.out.below bel K0.out.lt)
  clear K0
  have K0 := K0_
  clear K0_
  clear bel
  have sI0 := Lib.hid sis0
  have sO0 := Lib.hid sow0
  clear sis0 sow0
  simp only [Row.list]
  go_wp2_with fail
  refine (spec_RowTextR x0 sh0 sf0 _ sI0.out (by have := Z0.out; omega) HR64.out).mono ?_
  rintro e W3 ⟨rfl, bel⟩
  have BB_ := Lib.hid (BB.out.trans (bel.mono BB.out.size))
  clear BB
  have BB := BB_
  clear BB_
  have K0_ := Lib.hid (K0.out.below bel K0.out.lt)
  clear K0
  have K0 := K0_
  clear K0_
  have sI0_ := Lib.hid (sI0.out.below bel)
  clear sI0
  have sI0 := sI0_
  clear sI0_
  have sO0_ := Lib.hid (sO0.out.below bel)
  clear sO0
  have sO0 := sO0_
  clear sO0_
  clear bel
  clear sI0 sO0
  have k0_0 := K0.out.cell 0
  have k0_1 := K0.out.cell 1
  have k0_2 := K0.out.cell 2
  have k0_3 := K0.out.cell 3
  have k0_4 := K0.out.cell 4
  have k0_5 := K0.out.cell 5
  have k0_6 := K0.out.cell 6
  have k0_7 := K0.out.cell 7
  have k0_8 := K0.out.cell 8
  simp [Row.list] at k0_0 k0_1 k0_2 k0_3 k0_4 k0_5 k0_6 k0_7 k0_8
  have k0_l := K0.out.lt
  go_wp2_with fail
  clear k0_0 k0_1 k0_2 k0_3 k0_4 k0_5 k0_6 k0_7 k0_8 k0_l
  refine (to_Row x0 h0 f0 _ Y0.out (I0.out.below (BB.out))).mono ?_
  rintro e W4 ⟨xh0, xf0, rfl, xis0, xow0, bel⟩
  have BB_ := Lib.hid (BB.out.trans (bel.mono BB.out.size))
  clear BB
  have BB := BB_
  clear BB_
  have K0_ := Lib.hid (K0.out.below bel K0.out.lt)
  clear K0
  have K0 := K0_
  clear K0_
  clear bel
  have xI0 := Lib.hid xis0
  have xO0 := Lib.hid xow0
  clear xis0 xow0
  simp only [Row.list]
  have k0_0 := K0.out.cell 0
  have k0_1 := K0.out.cell 1
  have k0_2 := K0.out.cell 2
  have k0_3 := K0.out.cell 3
  have k0_4 := K0.out.cell 4
  have k0_5 := K0.out.cell 5
  have k0_6 := K0.out.cell 6
  have k0_7 := K0.out.cell 7
  have k0_8 := K0.out.cell 8
  simp [Row.list] at k0_0 k0_1 k0_2 k0_3 k0_4 k0_5 k0_6 k0_7 k0_8
  have k0_l := K0.out.lt
  go_wp2_with fail
  clear k0_0 k0_1 k0_2 k0_3 k0_4 k0_5 k0_6 k0_7 k0_8 k0_l
  refine calls_gen (fun X => Below W4.heap.size W4 X ∧ Blk X W4.heap.size 31 (Row.list x0 xh0)) ⟨by repeat (first | exact Below.refl _ _ | refine Below.setCell ?_ (by first | omega | (simp; done) | (simp; omega)) _ | refine Below.alloc ?_ (by first | omega | (simp; done) | (simp; omega)) _ | apply Below.drew), by unfold Row.list; with_reducible (repeat (first | (refine blk_new_at _ _ _ _ ?_; first | rfl | (simp; done)) | refine Blk.alloc ?_ _ | apply Blk.drew | refine Blk.setOther ?_ (by first | (simp; done) | (simp; omega)) _))⟩ ?_
  rintro W5 ⟨bel, kx⟩
  have BB_ := Lib.hid (BB.out.trans (bel.mono BB.out.size))
  clear BB
  have BB := BB_
  clear BB_
  have K0_ := Lib.hid (K0.out.below bel K0.out.lt)
  clear K0
  have K0 := K0_
  clear K0_
  have xI0_ := Lib.hid (xI0.out.below bel)
  clear xI0
  have xI0 := xI0_
  clear xI0_
  have xO0_ := Lib.hid (xO0.out.below bel)
  clear xO0
  have xO0 := xO0_
  clear xO0_
  have X0 := Lib.hid kx
  clear bel kx
  refine (impl_RowTextR x0 xh0 xf0 _ xI0.out (by have := Z0.out; omega) HR64.out (HP.out.below BB.out HP.out.2)).mono ?_
  rintro e W6 ⟨rfl, bel⟩
  have BB_ := Lib.hid (BB.out.trans (bel.mono BB.out.size))
  clear BB
  have BB := BB_
  clear BB_
  have K0_ := Lib.hid (K0.out.below bel K0.out.lt)
  clear K0
  have K0 := K0_
  clear K0_
  have xI0_ := Lib.hid (xI0.out.below bel)
  clear xI0
  have xI0 := xI0_
  clear xI0_
  have xO0_ := Lib.hid (xO0.out.below bel)
  clear xO0
  have xO0 := xO0_
  clear xO0_
  have X0_ := Lib.hid (X0.out.below bel X0.out.lt)
  clear X0
  have X0 := X0_
  clear X0_
  clear bel
  have k0_0 := K0.out.cell 0
  have k0_1 := K0.out.cell 1
  have k0_2 := K0.out.cell 2
  have k0_3 := K0.out.cell 3
  have k0_4 := K0.out.cell 4
  have k0_5 := K0.out.cell 5
  have k0_6 := K0.out.cell 6
  have k0_7 := K0.out.cell 7
  have k0_8 := K0.out.cell 8
  simp [Row.list] at k0_0 k0_1 k0_2 k0_3 k0_4 k0_5 k0_6 k0_7 k0_8
  have k0_l := K0.out.lt
  have x_0_0 := X0.out.cell 0
  have x_0_1 := X0.out.cell 1
  have x_0_2 := X0.out.cell 2
  have x_0_3 := X0.out.cell 3
  have x_0_4 := X0.out.cell 4
  have x_0_5 := X0.out.cell 5
  have x_0_6 := X0.out.cell 6
  have x_0_7 := X0.out.cell 7
  have x_0_8 := X0.out.cell 8
  simp [Row.list] at x_0_0 x_0_1 x_0_2 x_0_3 x_0_4 x_0_5 x_0_6 x_0_7 x_0_8
  have x_0_l := X0.out.lt
  go_wp2_with fail
  go_cut [26] (fun v wx => v = .bool false ∧ Below W6.heap.size W6 wx)
  case first =>
    go_region_held3 (fun w' => w'.cell? ⟨w.heap.size, 0, none⟩ = some (.int .i64 x0.win) ∧ w'.cell? ⟨w.heap.size, 1, none⟩ = some (.int .i64 x0.mask) ∧ w'.cell? ⟨w.heap.size, 2, none⟩ = some (.int .i64 x0.start) ∧ w'.cell? ⟨w.heap.size, 3, none⟩ = some (.slice h0.keya h0.keyl h0.keyc) ∧ w'.cell? ⟨w.heap.size, 4, none⟩ = some (.int .i64 x0.a.n) ∧ w'.cell? ⟨w.heap.size, 5, none⟩ = some (.int .i64 x0.a.sm) ∧ w'.cell? ⟨w.heap.size, 6, none⟩ = some (.int .i64 x0.a.mn) ∧ w'.cell? ⟨w.heap.size, 7, none⟩ = some (.int .i64 x0.a.mx) ∧ w'.cell? ⟨w.heap.size, 8, none⟩ = some (.int .i64 x0.times) ∧ w'.cell? ⟨W4.heap.size, 0, none⟩ = some (.int .i64 x0.win) ∧ w'.cell? ⟨W4.heap.size, 1, none⟩ = some (.int .i64 x0.mask) ∧ w'.cell? ⟨W4.heap.size, 2, none⟩ = some (.int .i64 x0.start) ∧ w'.cell? ⟨W4.heap.size, 3, none⟩ = some (.slice xh0.keya xh0.keyl xh0.keyc) ∧ w'.cell? ⟨W4.heap.size, 4, none⟩ = some (.int .i64 x0.a.n) ∧ w'.cell? ⟨W4.heap.size, 5, none⟩ = some (.int .i64 x0.a.sm) ∧ w'.cell? ⟨W4.heap.size, 6, none⟩ = some (.int .i64 x0.a.mn) ∧ w'.cell? ⟨W4.heap.size, 7, none⟩ = some (.int .i64 x0.a.mx) ∧ w'.cell? ⟨W4.heap.size, 8, none⟩ = some (.int .i64 x0.times))
      ((first | exact keep_RowText_9_9 (W := W6.drew) K0.out X0.out hbz | exact keep_RowText_9_9 (W := W6.drew) K0.out X0.out hb0 | exact keep_RowText_9_9 (W := W6.drew) K0.out X0.out (Below.refl _ _)))
      (first | (go_at_call 6; refine (to_Row x0 h0 f0 _ Y0.out (I0.out.below (BB.out.drew))).mono ?_; rintro e wq ⟨qh0, qf0, rfl, qis0, qow0, hb0⟩) | (go_at_call 8; refine (eq_Row x0 xh0 qh0 _ _ _ Y0.out (xI0.out.below ((Below.refl _ _).drew.trans hb0)) qis0).mono ?_; rintro e wz ⟨rfl, hb1⟩; have hbz : Below W6.drew.heap.size W6.drew _ := hb0.trans (hb1.mono hb0.size)))
    all_goals (go_wp2_with fail; go_meet)
    all_goals exact ⟨rfl, (Below.refl _ _).drew.trans hbz⟩
  case rest =>
  obtain ⟨rfl, bel⟩ := hcut
  generalize wc = wd1 at *
  have BB_ := Lib.hid (BB.out.trans (bel.mono BB.out.size))
  clear BB
  have BB := BB_
  clear BB_
  have K0_ := Lib.hid (K0.out.below bel K0.out.lt)
  clear K0
  have K0 := K0_
  clear K0_
  have xI0_ := Lib.hid (xI0.out.below bel)
  clear xI0
  have xI0 := xI0_
  clear xI0_
  have xO0_ := Lib.hid (xO0.out.below bel)
  clear xO0
  have xO0 := xO0_
  clear xO0_
  have X0_ := Lib.hid (X0.out.below bel X0.out.lt)
  clear X0
  have X0 := X0_
  clear X0_
  clear bel
  clear k0_0 k0_1 k0_2 k0_3 k0_4 k0_5 k0_6 k0_7 k0_8 k0_l
  clear x_0_0 x_0_1 x_0_2 x_0_3 x_0_4 x_0_5 x_0_6 x_0_7 x_0_8 x_0_l
  go_wp2_with fail
  go_ret
  exact ⟨rfl, BB.out⟩
end Go.Proofs.YtemefahhogdoaaaDoor.dat
