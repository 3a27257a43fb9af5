/-
  THE WALK OF THE LAW FnExactDiskRead out of the contracts: it answers true, and nothing that was there is written. Written by tools/genlaw.py.
-/
import Derived.Test.YtemefahhogdoaaaDiskRead
import Derived.Test.YtemefahhogdoaaaDataDiskReads
namespace Go.Proofs.Ytemefahhogdoaaa.dat
open Go.RowKit Go.Proofs.Ytemefahhogdoaaa.win
set_option linter.unusedVariables false

theorem keep_DiskRead_1_1 {W w' : World} {p0 : Nat} {t0 : TypeId} {v0_0 : Value} (h0 : Blk W p0 t0 [v0_0]) {p1 : Nat} {t1 : TypeId} {v1_0 : Value} (h1 : Blk W p1 t1 [v1_0]) (h : Below W.heap.size W w') : w'.cell? ⟨p0, 0, none⟩ = some v0_0 ∧ w'.cell? ⟨p1, 0, none⟩ = some v1_0 := ⟨by have := (h0.below h h0.lt).cell 0; simpa using this, by have := (h1.below h h1.lt).cell 0; simpa using this⟩

set_option maxRecDepth 100000 in
set_option maxHeartbeats 8000000 in
theorem walk_DiskRead (x0 : DiskD) (h0 : DiskH) (f0 : List Nat) (a1 : ByteArray) (w : World) (i0 : Disk.Is w x0 h0 f0) (i1 : a1.size ≤ 9223372036854775807)  :
    Calls Try.prog 4 #[.agg (Disk.list x0 h0).toArray, .string a1] w fun e w' => e = .returned (.bool true) ∧ Below w.heap.size w w' := by
  have I0 := Lib.hid i0
  clear i0
  simp only [Disk.list]
  go_enter Try.func4, Try.ntmps4
  by_cases z1 : (a1.size : Int) ≤ 1048576
  case neg =>
    go_wp2_with fail
    go_ret
    exact ⟨rfl, by repeat (first | exact Below.refl _ _ | refine Below.setCell ?_ (by first | omega | (simp; done) | (simp; omega)) _ | refine Below.alloc ?_ (by first | omega | (simp; done) | (simp; omega)) _ | apply Below.drew)⟩
  go_wp2_with fail
  refine calls_gen (fun W => Below w.heap.size w W ∧ Blk W w.heap.size 24 (Disk.list x0 h0)) ⟨by repeat (first | exact Below.refl _ _ | refine Below.setCell ?_ (by first | omega | (simp; done) | (simp; omega)) _ | refine Below.alloc ?_ (by first | omega | (simp; done) | (simp; omega)) _ | apply Below.drew), by unfold Disk.list; with_reducible (repeat (first | (refine blk_new_at _ _ _ _ ?_; first | rfl | (simp; done)) | refine Blk.alloc ?_ _ | apply Blk.drew | refine Blk.setOther ?_ (by first | (simp; done) | (simp; omega)) _))⟩ ?_
  rintro W0 ⟨b, k0⟩
  have K0 := Lib.hid k0
  clear k0
  have BB := Lib.hid b
  clear b
  refine (sz_Disk x0 h0 f0 1048576 W0 (by omega) (by omega) (I0.out.below BB.out)).mono ?_
  rintro e W1 ⟨rfl, bel⟩
  have BB_ := Lib.hid (BB.out.trans (bel.mono BB.out.size))
  clear BB
  have BB := BB_
  clear BB_
  have K0_ := Lib.hid (K0.out.below bel K0.out.lt)
  clear K0
  have K0 := K0_
  clear K0_
  clear bel
  by_cases z0 : ((Disk.sz x0 : Nat) : Int) ≤ 1048576
  case neg =>
    rw [if_neg z0]
    go_wp2_with fail
    go_ret
    exact ⟨rfl, BB.out⟩
  rw [if_pos z0]
  have k0_0 := K0.out.cell 0
  simp [Disk.list] at k0_0
  have k0_l := K0.out.lt
  skip
  go_wp2_with fail
  have y0 : Disk.sz x0 ≤ 2000000 := by omega
  have Z1 := Lib.hid z1
  have Z0 := Lib.hid z0
  have Y0 := Lib.hid y0
  clear z1 z0 y0
  clear k0_0 k0_l
  refine (to_Disk x0 h0 f0 _ Y0.out (I0.out.below (BB.out))).mono ?_
  rintro e W2 ⟨sh0, sf0, rfl, sis0, sow0, bel⟩
  have BB_ := Lib.hid (BB.out.trans (bel.mono BB.out.size))
  clear BB
  have BB := BB_
  clear BB_
  have K0_ := Lib.hid (K0.out.below bel K0.out.lt)
  clear K0
  have K0 := K0_
  clear K0_
  clear bel
  have sI0 := Lib.hid sis0
  have sO0 := Lib.hid sow0
  clear sis0 sow0
  simp only [Disk.list]
  go_wp2_with fail
  refine (spec_DiskRead x0 sh0 sf0 a1 _ sI0.out i1 Y0.out).mono ?_
  rintro e W3 ⟨rfl, bel⟩
  have BB_ := Lib.hid (BB.out.trans (bel.mono BB.out.size))
  clear BB
  have BB := BB_
  clear BB_
  have K0_ := Lib.hid (K0.out.below bel K0.out.lt)
  clear K0
  have K0 := K0_
  clear K0_
  have sI0_ := Lib.hid (sI0.out.below bel)
  clear sI0
  have sI0 := sI0_
  clear sI0_
  have sO0_ := Lib.hid (sO0.out.below bel)
  clear sO0
  have sO0 := sO0_
  clear sO0_
  clear bel
  clear sI0 sO0
  have k0_0 := K0.out.cell 0
  simp [Disk.list] at k0_0
  have k0_l := K0.out.lt
  go_wp2_with fail
  clear k0_0 k0_l
  refine (to_Disk x0 h0 f0 _ Y0.out (I0.out.below (BB.out))).mono ?_
  rintro e W4 ⟨xh0, xf0, rfl, xis0, xow0, bel⟩
  have BB_ := Lib.hid (BB.out.trans (bel.mono BB.out.size))
  clear BB
  have BB := BB_
  clear BB_
  have K0_ := Lib.hid (K0.out.below bel K0.out.lt)
  clear K0
  have K0 := K0_
  clear K0_
  clear bel
  have xI0 := Lib.hid xis0
  have xO0 := Lib.hid xow0
  clear xis0 xow0
  simp only [Disk.list]
  have k0_0 := K0.out.cell 0
  simp [Disk.list] at k0_0
  have k0_l := K0.out.lt
  go_wp2_with fail
  clear k0_0 k0_l
  refine calls_gen (fun X => Below W4.heap.size W4 X ∧ Blk X W4.heap.size 29 (Disk.list x0 xh0)) ⟨by repeat (first | exact Below.refl _ _ | refine Below.setCell ?_ (by first | omega | (simp; done) | (simp; omega)) _ | refine Below.alloc ?_ (by first | omega | (simp; done) | (simp; omega)) _ | apply Below.drew), by unfold Disk.list; with_reducible (repeat (first | (refine blk_new_at _ _ _ _ ?_; first | rfl | (simp; done)) | refine Blk.alloc ?_ _ | apply Blk.drew | refine Blk.setOther ?_ (by first | (simp; done) | (simp; omega)) _))⟩ ?_
  rintro W5 ⟨bel, kx⟩
  have BB_ := Lib.hid (BB.out.trans (bel.mono BB.out.size))
  clear BB
  have BB := BB_
  clear BB_
  have K0_ := Lib.hid (K0.out.below bel K0.out.lt)
  clear K0
  have K0 := K0_
  clear K0_
  have xI0_ := Lib.hid (xI0.out.below bel)
  clear xI0
  have xI0 := xI0_
  clear xI0_
  have xO0_ := Lib.hid (xO0.out.below bel)
  clear xO0
  have xO0 := xO0_
  clear xO0_
  have X0 := Lib.hid kx
  clear bel kx
  refine (impl_DiskRead x0 xh0 xf0 a1 _ xI0.out i1 Y0.out).mono ?_
  rintro e W6 ⟨rfl, bel⟩
  have BB_ := Lib.hid (BB.out.trans (bel.mono BB.out.size))
  clear BB
  have BB := BB_
  clear BB_
  have K0_ := Lib.hid (K0.out.below bel K0.out.lt)
  clear K0
  have K0 := K0_
  clear K0_
  have xI0_ := Lib.hid (xI0.out.below bel)
  clear xI0
  have xI0 := xI0_
  clear xI0_
  have xO0_ := Lib.hid (xO0.out.below bel)
  clear xO0
  have xO0 := xO0_
  clear xO0_
  have X0_ := Lib.hid (X0.out.below bel X0.out.lt)
  clear X0
  have X0 := X0_
  clear X0_
  clear bel
  have k0_0 := K0.out.cell 0
  simp [Disk.list] at k0_0
  have k0_l := K0.out.lt
  have x_0_0 := X0.out.cell 0
  simp [Disk.list] at x_0_0
  have x_0_l := X0.out.lt
  go_wp2_with fail
  go_cut [33] (fun v wx => v = .bool false ∧ Below W6.heap.size W6 wx)
  case first =>
    go_region_held3 (fun w' => w'.cell? ⟨w.heap.size, 0, none⟩ = some (.slice h0.filesa h0.filesl h0.filesc) ∧ w'.cell? ⟨W4.heap.size, 0, none⟩ = some (.slice xh0.filesa xh0.filesl xh0.filesc))
      ((first | exact keep_DiskRead_1_1 (W := W6.drew) K0.out X0.out hbz | exact keep_DiskRead_1_1 (W := W6.drew) K0.out X0.out hb0 | exact keep_DiskRead_1_1 (W := W6.drew) K0.out X0.out (Below.refl _ _)))
      (first | (go_at_call 15; refine (to_Disk x0 h0 f0 _ Y0.out (I0.out.below (BB.out.drew))).mono ?_; rintro e wq ⟨qh0, qf0, rfl, qis0, qow0, hb0⟩) | (go_at_call 17; refine (eq_Disk x0 xh0 qh0 _ _ _ Y0.out (xI0.out.below ((Below.refl _ _).drew.trans hb0)) qis0).mono ?_; rintro e wz ⟨rfl, hb1⟩; have hbz : Below W6.drew.heap.size W6.drew _ := hb0.trans (hb1.mono hb0.size)))
    all_goals (go_wp2_with fail; go_meet)
    all_goals exact ⟨rfl, (Below.refl _ _).drew.trans hbz⟩
  case rest =>
  obtain ⟨rfl, bel⟩ := hcut
  generalize wc = wd1 at *
  have BB_ := Lib.hid (BB.out.trans (bel.mono BB.out.size))
  clear BB
  have BB := BB_
  clear BB_
  have K0_ := Lib.hid (K0.out.below bel K0.out.lt)
  clear K0
  have K0 := K0_
  clear K0_
  have xI0_ := Lib.hid (xI0.out.below bel)
  clear xI0
  have xI0 := xI0_
  clear xI0_
  have xO0_ := Lib.hid (xO0.out.below bel)
  clear xO0
  have xO0 := xO0_
  clear xO0_
  have X0_ := Lib.hid (X0.out.below bel X0.out.lt)
  clear X0
  have X0 := X0_
  clear X0_
  clear bel
  clear k0_0 k0_l
  clear x_0_0 x_0_l
  go_wp2_with fail
  go_ret
  exact ⟨rfl, BB.out⟩
end Go.Proofs.Ytemefahhogdoaaa.dat
