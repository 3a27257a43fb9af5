/-
  THE WALK OF THE LAW FnExactDiskAdd out of the contracts: it answers true, and nothing that was there is written. Written by tools/genlaw.py.
-/
import Derived.Test.YtemefahhogdoaaaSpecDiskAdd
import Derived.Test.YtemefahhogdoaaaDataDiskReads
import Derived.Test.YtemefahhogdoaaaDiskHeld
namespace Go.Proofs.Ytemefahhogdoaaa.dat
open Go.RowKit Go.Proofs.Ytemefahhogdoaaa.win
set_option linter.unusedVariables false

theorem keep_DiskAdd_1_1 {W w' : World} {p0 : Nat} {t0 : TypeId} {v0_0 : Value} (h0 : Blk W p0 t0 [v0_0]) {p1 : Nat} {t1 : TypeId} {v1_0 : Value} (h1 : Blk W p1 t1 [v1_0]) (h : Below W.heap.size W w') : w'.cell? ⟨p0, 0, none⟩ = some v0_0 ∧ w'.cell? ⟨p1, 0, none⟩ = some v1_0 := ⟨by have := (h0.below h h0.lt).cell 0; simpa using this, by have := (h1.below h h1.lt).cell 0; simpa using this⟩

set_option maxRecDepth 100000 in
set_option maxHeartbeats 8000000 in
theorem walk_DiskAdd (x0 : DiskD) (h0 : DiskH) (f0 : List Nat) (a1 : ByteArray) (a2 : ByteArray) (w : World) (i0 : Disk.Is w x0 h0 f0) (i1 : a1.size ≤ 9223372036854775807) (i2 : a2.size ≤ 9223372036854775807)  :
    Calls Try.prog 6 #[.agg (Disk.list x0 h0).toArray, .string a1, .string a2] w fun e w' => e = .returned (.bool true) ∧ Below w.heap.size w w' := by
  have I0 := Lib.hid i0
  clear i0
  simp only [Disk.list]
  go_enter Try.func6, Try.ntmps6
  by_cases z1 : (a1.size : Int) ≤ 1048576
  case neg =>
    go_wp2_with fail
    go_ret
    exact ⟨rfl, by repeat (first | exact Below.refl _ _ | refine Below.setCell ?_ (by first | omega | (simp; done) | (simp; omega)) _ | refine Below.alloc ?_ (by first | omega | (simp; done) | (simp; omega)) _ | apply Below.drew)⟩
  by_cases z2 : (a2.size : Int) ≤ 1048576
  case neg =>
    go_wp2_with fail
    go_ret
    exact ⟨rfl, by repeat (first | exact Below.refl _ _ | refine Below.setCell ?_ (by first | omega | (simp; done) | (simp; omega)) _ | refine Below.alloc ?_ (by first | omega | (simp; done) | (simp; omega)) _ | apply Below.drew)⟩
  go_wp2_with fail
  refine calls_gen (fun W => Below w.heap.size w W ∧ Blk W w.heap.size 24 (Disk.list x0 h0)) ⟨by repeat (first | exact Below.refl _ _ | refine Below.setCell ?_ (by first | omega | (simp; done) | (simp; omega)) _ | refine Below.alloc ?_ (by first | omega | (simp; done) | (simp; omega)) _ | apply Below.drew), by unfold Disk.list; with_reducible (repeat (first | (refine blk_new_at _ _ _ _ ?_; first | rfl | (simp; done)) | refine Blk.alloc ?_ _ | apply Blk.drew | refine Blk.setOther ?_ (by first | (simp; done) | (simp; omega)) _))⟩ ?_
  rintro W0 ⟨b, k0⟩
  have K0 := Lib.hid k0
  clear k0
  have BB := Lib.hid b
  clear b
  refine (sz_Disk x0 h0 f0 1048576 W0 (by omega) (by omega) (I0.out.below BB.out)).mono ?_
  rintro e W1 ⟨rfl, bel⟩
  have BB_ := Lib.hid (BB.out.trans (bel.mono BB.out.size))
  clear BB
  have BB := BB_
  clear BB_
  have K0_ := Lib.hid (K0.out.below bel K0.out.lt)
  clear K0
  have K0 := K0_
  clear K0_
  clear bel
  by_cases z0 : ((Disk.sz x0 : Nat) : Int) ≤ 1048576
  case neg =>
    rw [if_neg z0]
    go_wp2_with fail
    go_ret
    exact ⟨rfl, BB.out⟩
  rw [if_pos z0]
  have k0_0 := K0.out.cell 0
  simp [Disk.list] at k0_0
  have k0_l := K0.out.lt
  skip
  go_wp2_with fail
  have y0 : Disk.sz x0 ≤ 2000000 := by omega
  have Z1 := Lib.hid z1
  have Z2 := Lib.hid z2
  have Z0 := Lib.hid z0
  have Y0 := Lib.hid y0
  clear z1 z2 z0 y0
  clear k0_0 k0_l
  refine (to_Disk x0 h0 f0 _ Y0.out (I0.out.below (BB.out))).mono ?_
  rintro e W2 ⟨sh0, sf0, rfl, sis0, sow0, bel⟩
  have BB_ := Lib.hid (BB.out.trans (bel.mono BB.out.size))
  clear BB
  have BB := BB_
  clear BB_
  have K0_ := Lib.hid (K0.out.below bel K0.out.lt)
  clear K0
  have K0 := K0_
  clear K0_
  clear bel
  have sI0 := Lib.hid sis0
  have sO0 := Lib.hid sow0
  clear sis0 sow0
  simp only [Disk.list]
  go_wp2_with fail
  refine (spec_DiskAdd x0 sh0 sf0 a1 a2 _ sI0.out i1 i2 Y0.out).mono ?_
  rintro e W3 ⟨srh0, srf0, rfl, srrow0, -, bel⟩
  have BB_ := Lib.hid (BB.out.trans (bel.mono BB.out.size))
  clear BB
  have BB := BB_
  clear BB_
  have K0_ := Lib.hid (K0.out.below bel K0.out.lt)
  clear K0
  have K0 := K0_
  clear K0_
  have sI0_ := Lib.hid (sI0.out.below bel)
  clear sI0
  have sI0 := sI0_
  clear sI0_
  have sO0_ := Lib.hid (sO0.out.below bel)
  clear sO0
  have sO0 := sO0_
  clear sO0_
  clear bel
  have srR0 := Lib.hid srrow0
  clear srrow0
  clear sI0 sO0
  simp only [Disk.list]
  have k0_0 := K0.out.cell 0
  simp [Disk.list] at k0_0
  have k0_l := K0.out.lt
  go_wp2_with fail
  clear k0_0 k0_l
  refine calls_gen (fun X => Below W3.heap.size W3 X ∧ Blk X W3.heap.size 29 (Disk.list (⟨(addD x0.files a1 a2).1⟩) srh0)) ⟨by repeat (first | exact Below.refl _ _ | refine Below.setCell ?_ (by first | omega | (simp; done) | (simp; omega)) _ | refine Below.alloc ?_ (by first | omega | (simp; done) | (simp; omega)) _ | apply Below.drew), by unfold Disk.list; with_reducible (repeat (first | (refine blk_new_at _ _ _ _ ?_; first | rfl | (simp; done)) | refine Blk.alloc ?_ _ | apply Blk.drew | refine Blk.setOther ?_ (by first | (simp; done) | (simp; omega)) _))⟩ ?_
  rintro W4 ⟨bel, kx⟩
  have BB_ := Lib.hid (BB.out.trans (bel.mono BB.out.size))
  clear BB
  have BB := BB_
  clear BB_
  have K0_ := Lib.hid (K0.out.below bel K0.out.lt)
  clear K0
  have K0 := K0_
  clear K0_
  have srR0_ := Lib.hid (srR0.out.below bel)
  clear srR0
  have srR0 := srR0_
  clear srR0_
  have SB0 := Lib.hid kx
  clear bel kx
  have LW0 := Lib.hid BB.out.size
  have D0_0 := Lib.hid (show ∀ b ∈ srf0, b < W4.heap.size from fun b hb => srR0.out.lt b hb)
  have DK0_0 := Lib.hid (show w.heap.size < W4.heap.size from K0.out.lt)
  have DSB0_0 := Lib.hid (show W3.heap.size < W4.heap.size from SB0.out.lt)
  refine (to_Disk x0 h0 f0 _ Y0.out (I0.out.below (BB.out))).mono ?_
  rintro e W5 ⟨xh0, xf0, rfl, xis0, xow0, bel⟩
  have BB_ := Lib.hid (BB.out.trans (bel.mono BB.out.size))
  clear BB
  have BB := BB_
  clear BB_
  have K0_ := Lib.hid (K0.out.below bel K0.out.lt)
  clear K0
  have K0 := K0_
  clear K0_
  have srR0_ := Lib.hid (srR0.out.below bel)
  clear srR0
  have srR0 := srR0_
  clear srR0_
  have SB0_ := Lib.hid (SB0.out.below bel SB0.out.lt)
  clear SB0
  have SB0 := SB0_
  clear SB0_
  clear bel
  have xI0 := Lib.hid xis0
  have xO0 := Lib.hid xow0
  clear xis0 xow0
  simp only [Disk.list]
  have k0_0 := K0.out.cell 0
  simp [Disk.list] at k0_0
  have k0_l := K0.out.lt
  have sb0_0 := SB0.out.cell 0
  simp [Disk.list] at sb0_0
  have sb0_l := SB0.out.lt
  go_wp2_with fail
  clear k0_0 k0_l
  clear sb0_0 sb0_l
  have XB0_0 := Lib.hid (show ∀ b ∈ xf0, b ≠ W5.heap.size from fun b hb => by have := (xO0.out.2 b hb).2.lt; omega)
  refine calls_gen (fun X => Below W5.heap.size W5 X ∧ Blk X W5.heap.size 29 (Disk.list x0 xh0)) ⟨by repeat (first | exact Below.refl _ _ | refine Below.setCell ?_ (by first | omega | (simp; done) | (simp; omega)) _ | refine Below.alloc ?_ (by first | omega | (simp; done) | (simp; omega)) _ | apply Below.drew), by unfold Disk.list; with_reducible (repeat (first | (refine blk_new_at _ _ _ _ ?_; first | rfl | (simp; done)) | refine Blk.alloc ?_ _ | apply Blk.drew | refine Blk.setOther ?_ (by first | (simp; done) | (simp; omega)) _))⟩ ?_
  rintro W6 ⟨bel, kx⟩
  have BB_ := Lib.hid (BB.out.trans (bel.mono BB.out.size))
  clear BB
  have BB := BB_
  clear BB_
  have K0_ := Lib.hid (K0.out.below bel K0.out.lt)
  clear K0
  have K0 := K0_
  clear K0_
  have srR0_ := Lib.hid (srR0.out.below bel)
  clear srR0
  have srR0 := srR0_
  clear srR0_
  have SB0_ := Lib.hid (SB0.out.below bel SB0.out.lt)
  clear SB0
  have SB0 := SB0_
  clear SB0_
  have xI0_ := Lib.hid (xI0.out.below bel)
  clear xI0
  have xI0 := xI0_
  clear xI0_
  have xO0_ := Lib.hid (xO0.out.below bel)
  clear xO0
  have xO0 := xO0_
  clear xO0_
  have X0 := Lib.hid kx
  clear bel kx
  have EX0 := Lib.hid (show ∀ b ∈ xf0, b < W6.heap.size from fun b hb => (xO0.out.2 b hb).2.lt)
  have ESB0 := Lib.hid (show W3.heap.size < W6.heap.size from SB0.out.lt)
  have EK0 := Lib.hid (show w.heap.size < W6.heap.size from K0.out.lt)
  have ES0 := Lib.hid (show ∀ b ∈ srf0, b < W6.heap.size from fun b hb => srR0.out.lt b hb)
  have LWG := Lib.hid BB.out.size
  refine (impl_DiskAdd x0 xh0 xf0 a1 a2 _ xI0.out i1 i2 Y0.out).mono ?_
  rintro e W7 ⟨grh0, grf0, rfl, grrow0, grown0, bel⟩
  have BB_ := Lib.hid (BB.out.trans (bel.mono BB.out.size))
  clear BB
  have BB := BB_
  clear BB_
  have K0_ := Lib.hid (K0.out.below bel K0.out.lt)
  clear K0
  have K0 := K0_
  clear K0_
  have srR0_ := Lib.hid (srR0.out.below bel)
  clear srR0
  have srR0 := srR0_
  clear srR0_
  have SB0_ := Lib.hid (SB0.out.below bel SB0.out.lt)
  clear SB0
  have SB0 := SB0_
  clear SB0_
  have xI0_ := Lib.hid (xI0.out.below bel)
  clear xI0
  have xI0 := xI0_
  clear xI0_
  have xO0_ := Lib.hid (xO0.out.below bel)
  clear xO0
  have xO0 := xO0_
  clear xO0_
  have X0_ := Lib.hid (X0.out.below bel X0.out.lt)
  clear X0
  have X0 := X0_
  clear X0_
  clear bel
  have grR0 := Lib.hid grrow0
  clear grrow0
  have grO0 := Lib.hid grown0
  clear grown0
  simp only [Disk.list]
  have HBD : Disk.sz (⟨(addD x0.files a1 a2).1⟩) ≤ 2000000 := (add_small _ _ _)
  have HBd := Lib.hid HBD
  clear HBD
  have k0_0 := K0.out.cell 0
  simp [Disk.list] at k0_0
  have k0_l := K0.out.lt
  have x_0_0 := X0.out.cell 0
  simp [Disk.list] at x_0_0
  have x_0_l := X0.out.lt
  have sb0_0 := SB0.out.cell 0
  simp [Disk.list] at sb0_0
  have sb0_l := SB0.out.lt
  go_wp2_with fail
  clear k0_0 k0_l
  clear x_0_0 x_0_l
  clear sb0_0 sb0_l
  have GB0_xf0 := Lib.hid (show ∀ b ∈ xf0, b ≠ W7.heap.size from fun b hb => by have := (xO0.out.2 b hb).2.lt; omega)
  have GB0_grf0 := Lib.hid (show ∀ b ∈ grf0, b ≠ W7.heap.size from fun b hb => by have := (grO0.out.2 b hb).2.lt; omega)
  refine calls_gen (fun X => Below W7.heap.size W7 X ∧ Blk X W7.heap.size 29 (Disk.list (⟨(addD x0.files a1 a2).1⟩) grh0)) ⟨by repeat (first | exact Below.refl _ _ | refine Below.setCell ?_ (by first | omega | (simp; done) | (simp; omega)) _ | refine Below.alloc ?_ (by first | omega | (simp; done) | (simp; omega)) _ | apply Below.drew), by unfold Disk.list; with_reducible (repeat (first | (refine blk_new_at _ _ _ _ ?_; first | rfl | (simp; done)) | refine Blk.alloc ?_ _ | apply Blk.drew | refine Blk.setOther ?_ (by first | (simp; done) | (simp; omega)) _))⟩ ?_
  rintro W8 ⟨bel, kx⟩
  have BB_ := Lib.hid (BB.out.trans (bel.mono BB.out.size))
  clear BB
  have BB := BB_
  clear BB_
  have K0_ := Lib.hid (K0.out.below bel K0.out.lt)
  clear K0
  have K0 := K0_
  clear K0_
  have srR0_ := Lib.hid (srR0.out.below bel)
  clear srR0
  have srR0 := srR0_
  clear srR0_
  have SB0_ := Lib.hid (SB0.out.below bel SB0.out.lt)
  clear SB0
  have SB0 := SB0_
  clear SB0_
  have xI0_ := Lib.hid (xI0.out.below bel)
  clear xI0
  have xI0 := xI0_
  clear xI0_
  have xO0_ := Lib.hid (xO0.out.below bel)
  clear xO0
  have xO0 := xO0_
  clear xO0_
  have X0_ := Lib.hid (X0.out.below bel X0.out.lt)
  clear X0
  have X0 := X0_
  clear X0_
  have grR0_ := Lib.hid (grR0.out.below bel)
  clear grR0
  have grR0 := grR0_
  clear grR0_
  have grO0_ := Lib.hid (grO0.out.below bel)
  clear grO0
  have grO0 := grO0_
  clear grO0_
  have GB0 := Lib.hid kx
  clear bel kx
  refine (eq_Disk (⟨(addD x0.files a1 a2).1⟩) grh0 srh0 _ _ W8 HBd.out grR0.out srR0.out).mono ?_
  rintro e W9 ⟨rfl, bel⟩
  have BB_ := Lib.hid (BB.out.trans (bel.mono BB.out.size))
  clear BB
  have BB := BB_
  clear BB_
  have K0_ := Lib.hid (K0.out.below bel K0.out.lt)
  clear K0
  have K0 := K0_
  clear K0_
  have srR0_ := Lib.hid (srR0.out.below bel)
  clear srR0
  have srR0 := srR0_
  clear srR0_
  have SB0_ := Lib.hid (SB0.out.below bel SB0.out.lt)
  clear SB0
  have SB0 := SB0_
  clear SB0_
  have xI0_ := Lib.hid (xI0.out.below bel)
  clear xI0
  have xI0 := xI0_
  clear xI0_
  have xO0_ := Lib.hid (xO0.out.below bel)
  clear xO0
  have xO0 := xO0_
  clear xO0_
  have X0_ := Lib.hid (X0.out.below bel X0.out.lt)
  clear X0
  have X0 := X0_
  clear X0_
  have grR0_ := Lib.hid (grR0.out.below bel)
  clear grR0
  have grR0 := grR0_
  clear grR0_
  have grO0_ := Lib.hid (grO0.out.below bel)
  clear grO0
  have grO0 := grO0_
  clear grO0_
  have GB0_ := Lib.hid (GB0.out.below bel GB0.out.lt)
  clear GB0
  have GB0 := GB0_
  clear GB0_
  clear bel
  have k0_0 := K0.out.cell 0
  simp [Disk.list] at k0_0
  have k0_l := K0.out.lt
  have x_0_0 := X0.out.cell 0
  simp [Disk.list] at x_0_0
  have x_0_l := X0.out.lt
  have sb0_0 := SB0.out.cell 0
  simp [Disk.list] at sb0_0
  have sb0_l := SB0.out.lt
  have gb0_0 := GB0.out.cell 0
  simp [Disk.list] at gb0_0
  have gb0_l := GB0.out.lt
  go_wp2_with fail
  go_cut [59] (fun v wx => v = .bool false ∧ Below W9.heap.size W9 wx)
  case first =>
    go_region_held3 (fun w' => w'.cell? ⟨w.heap.size, 0, none⟩ = some (.slice h0.filesa h0.filesl h0.filesc) ∧ w'.cell? ⟨W5.heap.size, 0, none⟩ = some (.slice xh0.filesa xh0.filesl xh0.filesc))
      ((first | exact keep_DiskAdd_1_1 (W := W9.drew) K0.out X0.out hbz | exact keep_DiskAdd_1_1 (W := W9.drew) K0.out X0.out hb0 | exact keep_DiskAdd_1_1 (W := W9.drew) K0.out X0.out (Below.refl _ _)))
      (first | (go_at_call 15; refine (to_Disk x0 h0 f0 _ Y0.out (I0.out.below (BB.out.drew))).mono ?_; rintro e wq ⟨qh0, qf0, rfl, qis0, qow0, hb0⟩) | (go_at_call 17; refine (eq_Disk x0 xh0 qh0 _ _ _ Y0.out (xI0.out.below ((Below.refl _ _).drew.trans hb0)) qis0).mono ?_; rintro e wz ⟨rfl, hb1⟩; have hbz : Below W9.drew.heap.size W9.drew _ := hb0.trans (hb1.mono hb0.size)))
    all_goals (go_wp2_with fail; go_meet)
    all_goals exact ⟨rfl, (Below.refl _ _).drew.trans hbz⟩
  case rest =>
  obtain ⟨rfl, bel⟩ := hcut
  generalize wc = wd1 at *
  have BB_ := Lib.hid (BB.out.trans (bel.mono BB.out.size))
  clear BB
  have BB := BB_
  clear BB_
  have K0_ := Lib.hid (K0.out.below bel K0.out.lt)
  clear K0
  have K0 := K0_
  clear K0_
  have srR0_ := Lib.hid (srR0.out.below bel)
  clear srR0
  have srR0 := srR0_
  clear srR0_
  have SB0_ := Lib.hid (SB0.out.below bel SB0.out.lt)
  clear SB0
  have SB0 := SB0_
  clear SB0_
  have xI0_ := Lib.hid (xI0.out.below bel)
  clear xI0
  have xI0 := xI0_
  clear xI0_
  have xO0_ := Lib.hid (xO0.out.below bel)
  clear xO0
  have xO0 := xO0_
  clear xO0_
  have X0_ := Lib.hid (X0.out.below bel X0.out.lt)
  clear X0
  have X0 := X0_
  clear X0_
  have grR0_ := Lib.hid (grR0.out.below bel)
  clear grR0
  have grR0 := grR0_
  clear grR0_
  have grO0_ := Lib.hid (grO0.out.below bel)
  clear grO0
  have grO0 := grO0_
  clear grO0_
  have GB0_ := Lib.hid (GB0.out.below bel GB0.out.lt)
  clear GB0
  have GB0 := GB0_
  clear GB0_
  clear bel
  clear k0_0 k0_l
  clear x_0_0 x_0_l
  clear sb0_0 sb0_l
  clear gb0_0 gb0_l
  have k0_0 := K0.out.cell 0
  simp [Disk.list] at k0_0
  have k0_l := K0.out.lt
  have x_0_0 := X0.out.cell 0
  simp [Disk.list] at x_0_0
  have x_0_l := X0.out.lt
  have sb0_0 := SB0.out.cell 0
  simp [Disk.list] at sb0_0
  have sb0_l := SB0.out.lt
  have gb0_0 := GB0.out.cell 0
  simp [Disk.list] at gb0_0
  have gb0_l := GB0.out.lt
  go_wp2_with fail
  clear k0_0 k0_l
  clear x_0_0 x_0_l
  clear sb0_0 sb0_l
  clear gb0_0 gb0_l
  have CL0 := Lib.hid (Disk.cntV_le x0)
  refine (mark_Disk x0 xh0 xf0 (1) (W4.heap.size) wd1 Y0.out (by omega) (by have := CL0.out; have := Y0.out; omega) xI0.out xO0.out).mono ?_
  rintro e W10 ⟨rfl, mis, mow, mp⟩
  have BB_ := Lib.hid (BB.out.trans (mp.below (lo := w.heap.size) (fun b hb => by have h1 := (xO0.out.2 b hb).1; have h2 := LW0.out; omega) (by have := BB.out.size; omega)))
  clear BB
  have BB := BB_
  clear BB_
  have K0_ := Lib.hid (blk_apart K0.out mp (fun hm => by have h1 := (xO0.out.2 _ hm).1; have h2 := DK0_0.out; omega))
  have srR0_ := Lib.hid (srR0.out.keep (fun b hb => mp.block b (srR0.out.lt b hb) ((apart_lt D0_0.out xO0.out) b hb)))
  have SB0_ := Lib.hid (blk_apart SB0.out mp (fun hm => by have h1 := (xO0.out.2 _ hm).1; have h2 := DSB0_0.out; omega))
  have X0_ := Lib.hid (blk_apart X0.out mp (fun hm => absurd rfl (XB0_0.out _ hm)))
  have grR0_ := Lib.hid (grR0.out.keep (fun b hb => mp.block b (grR0.out.lt b hb) ((apart_gt EX0.out grO0.out) b hb)))
  have grO0_ := Lib.hid (grO0.out.apart mp (apart_gt EX0.out grO0.out))
  have GB0_ := Lib.hid (blk_apart GB0.out mp (fun hm => absurd rfl (GB0_xf0.out _ hm)))
  clear mis mow mp K0 srR0 SB0 xI0 xO0 X0 grR0 grO0 GB0
  have K0 := K0_
  clear K0_
  have srR0 := srR0_
  clear srR0_
  have SB0 := SB0_
  clear SB0_
  have X0 := X0_
  clear X0_
  have grR0 := grR0_
  clear grR0_
  have grO0 := grO0_
  clear grO0_
  have GB0 := GB0_
  clear GB0_
  have hcl0 := CL0.out
  have k0_0 := K0.out.cell 0
  simp [Disk.list] at k0_0
  have k0_l := K0.out.lt
  have x_0_0 := X0.out.cell 0
  simp [Disk.list] at x_0_0
  have x_0_l := X0.out.lt
  have sb0_0 := SB0.out.cell 0
  simp [Disk.list] at sb0_0
  have sb0_l := SB0.out.lt
  have gb0_0 := GB0.out.cell 0
  simp [Disk.list] at gb0_0
  have gb0_l := GB0.out.lt
  go_wp2_with fail
  clear k0_0 k0_l
  clear x_0_0 x_0_l
  clear sb0_0 sb0_l
  clear gb0_0 gb0_l
  refine (eq_Disk (⟨(addD x0.files a1 a2).1⟩) grh0 srh0 _ _ W10 HBd.out grR0.out srR0.out).mono ?_
  rintro e W11 ⟨rfl, bel⟩
  have BB_ := Lib.hid (BB.out.trans (bel.mono BB.out.size))
  clear BB
  have BB := BB_
  clear BB_
  have K0_ := Lib.hid (K0.out.below bel K0.out.lt)
  clear K0
  have K0 := K0_
  clear K0_
  have srR0_ := Lib.hid (srR0.out.below bel)
  clear srR0
  have srR0 := srR0_
  clear srR0_
  have SB0_ := Lib.hid (SB0.out.below bel SB0.out.lt)
  clear SB0
  have SB0 := SB0_
  clear SB0_
  have X0_ := Lib.hid (X0.out.below bel X0.out.lt)
  clear X0
  have X0 := X0_
  clear X0_
  have grR0_ := Lib.hid (grR0.out.below bel)
  clear grR0
  have grR0 := grR0_
  clear grR0_
  have grO0_ := Lib.hid (grO0.out.below bel)
  clear grO0
  have grO0 := grO0_
  clear grO0_
  have GB0_ := Lib.hid (GB0.out.below bel GB0.out.lt)
  clear GB0
  have GB0 := GB0_
  clear GB0_
  clear bel
  clear hcl0
  have k0_0 := K0.out.cell 0
  simp [Disk.list] at k0_0
  have k0_l := K0.out.lt
  have x_0_0 := X0.out.cell 0
  simp [Disk.list] at x_0_0
  have x_0_l := X0.out.lt
  have sb0_0 := SB0.out.cell 0
  simp [Disk.list] at sb0_0
  have sb0_l := SB0.out.lt
  have gb0_0 := GB0.out.cell 0
  simp [Disk.list] at gb0_0
  have gb0_l := GB0.out.lt
  go_wp2_with fail
  clear k0_0 k0_l
  clear x_0_0 x_0_l
  clear sb0_0 sb0_l
  clear gb0_0 gb0_l
  have CG := Lib.hid (Disk.cntV_le (⟨(addD x0.files a1 a2).1⟩))
  refine (mark_Disk (⟨(addD x0.files a1 a2).1⟩) grh0 grf0 1 (W6.heap.size) W11 HBd.out (by omega) (by have := CG.out; have := HBd.out; omega) grR0.out grO0.out).mono ?_
  rintro e W12 ⟨rfl, mis, mow, mp⟩
  have BB_ := Lib.hid (BB.out.trans (mp.below (lo := w.heap.size) (fun b hb => by have h1 := (grO0.out.2 b hb).1; have h2 := LWG.out; omega) (by have := BB.out.size; omega)))
  clear BB
  have BB := BB_
  clear BB_
  have K0_ := Lib.hid (blk_apart K0.out mp (fun hm => by have h1 := (grO0.out.2 _ hm).1; have h2 := EK0.out; omega))
  have srR0_ := Lib.hid (srR0.out.keep (fun b hb => mp.block b (srR0.out.lt b hb) ((apart_lt ES0.out grO0.out) b hb)))
  have SB0_ := Lib.hid (blk_apart SB0.out mp (fun hm => by have h1 := (grO0.out.2 _ hm).1; have h2 := ESB0.out; omega))
  have GB0_ := Lib.hid (blk_apart GB0.out mp (fun hm => absurd rfl (GB0_grf0.out _ hm)))
  have MI := Lib.hid mis
  clear mis mow mp K0 srR0 SB0 X0 grR0 grO0 GB0
  have K0 := K0_
  clear K0_
  have srR0 := srR0_
  clear srR0_
  have SB0 := SB0_
  clear SB0_
  have GB0 := GB0_
  clear GB0_
  have k0_0 := K0.out.cell 0
  simp [Disk.list] at k0_0
  have k0_l := K0.out.lt
  have sb0_0 := SB0.out.cell 0
  simp [Disk.list] at sb0_0
  have sb0_l := SB0.out.lt
  have gb0_0 := GB0.out.cell 0
  simp [Disk.list] at gb0_0
  have gb0_l := GB0.out.lt
  go_wp2_with fail
  clear k0_0 k0_l
  clear sb0_0 sb0_l
  clear gb0_0 gb0_l
  refine (held_Disk (⟨(addD x0.files a1 a2).1⟩) grh0 grf0 1 W12 HBd.out (by omega) (by have := CG.out; have := HBd.out; omega) MI.out).mono ?_
  rintro e W13 ⟨rfl, bel⟩
  have BB_ := Lib.hid (BB.out.trans (bel.mono BB.out.size))
  clear BB
  have BB := BB_
  clear BB_
  have K0_ := Lib.hid (K0.out.below bel K0.out.lt)
  clear K0
  have K0 := K0_
  clear K0_
  have srR0_ := Lib.hid (srR0.out.below bel)
  clear srR0
  have srR0 := srR0_
  clear srR0_
  have SB0_ := Lib.hid (SB0.out.below bel SB0.out.lt)
  clear SB0
  have SB0 := SB0_
  clear SB0_
  have GB0_ := Lib.hid (GB0.out.below bel GB0.out.lt)
  clear GB0
  have GB0 := GB0_
  clear GB0_
  have MI_ := Lib.hid (MI.out.below bel)
  clear MI
  have MI := MI_
  clear MI_
  clear bel
  have k0_0 := K0.out.cell 0
  simp [Disk.list] at k0_0
  have k0_l := K0.out.lt
  have sb0_0 := SB0.out.cell 0
  simp [Disk.list] at sb0_0
  have sb0_l := SB0.out.lt
  have gb0_0 := GB0.out.cell 0
  simp [Disk.list] at gb0_0
  have gb0_l := GB0.out.lt
  go_wp2_with fail
  clear k0_0 k0_l
  clear sb0_0 sb0_l
  clear gb0_0 gb0_l
  refine (to_Disk x0 h0 f0 _ Y0.out (I0.out.below (BB.out))).mono ?_
  rintro e W14 ⟨yh0, yf0, rfl, yis0, yow0, bel⟩
  have BB_ := Lib.hid (BB.out.trans (bel.mono BB.out.size))
  clear BB
  have BB := BB_
  clear BB_
  have K0_ := Lib.hid (K0.out.below bel K0.out.lt)
  clear K0
  have K0 := K0_
  clear K0_
  have srR0_ := Lib.hid (srR0.out.below bel)
  clear srR0
  have srR0 := srR0_
  clear srR0_
  have SB0_ := Lib.hid (SB0.out.below bel SB0.out.lt)
  clear SB0
  have SB0 := SB0_
  clear SB0_
  have GB0_ := Lib.hid (GB0.out.below bel GB0.out.lt)
  clear GB0
  have GB0 := GB0_
  clear GB0_
  have MI_ := Lib.hid (MI.out.below bel)
  clear MI
  have MI := MI_
  clear MI_
  clear bel
  have yI0 := Lib.hid yis0
  have yO0 := Lib.hid yow0
  clear yis0 yow0
  simp only [Disk.list]
  go_wp2_with fail
  refine (impl_DiskAdd x0 yh0 yf0 a1 a2 _ yI0.out i1 i2 Y0.out).mono ?_
  rintro e W15 ⟨yrh0, yrf0, rfl, yrrow0, yrown0, bel⟩
  have BB_ := Lib.hid (BB.out.trans (bel.mono BB.out.size))
  clear BB
  have BB := BB_
  clear BB_
  have K0_ := Lib.hid (K0.out.below bel K0.out.lt)
  clear K0
  have K0 := K0_
  clear K0_
  have srR0_ := Lib.hid (srR0.out.below bel)
  clear srR0
  have srR0 := srR0_
  clear srR0_
  have SB0_ := Lib.hid (SB0.out.below bel SB0.out.lt)
  clear SB0
  have SB0 := SB0_
  clear SB0_
  have GB0_ := Lib.hid (GB0.out.below bel GB0.out.lt)
  clear GB0
  have GB0 := GB0_
  clear GB0_
  have MI_ := Lib.hid (MI.out.below bel)
  clear MI
  have MI := MI_
  clear MI_
  have yI0_ := Lib.hid (yI0.out.below bel)
  clear yI0
  have yI0 := yI0_
  clear yI0_
  have yO0_ := Lib.hid (yO0.out.below bel)
  clear yO0
  have yO0 := yO0_
  clear yO0_
  clear bel
  have yrR0 := Lib.hid yrrow0
  clear yrrow0
  have yrO0 := Lib.hid yrown0
  clear yrown0
  simp only [Disk.list]
  have k0_0 := K0.out.cell 0
  simp [Disk.list] at k0_0
  have k0_l := K0.out.lt
  have sb0_0 := SB0.out.cell 0
  simp [Disk.list] at sb0_0
  have sb0_l := SB0.out.lt
  have gb0_0 := GB0.out.cell 0
  simp [Disk.list] at gb0_0
  have gb0_l := GB0.out.lt
  go_wp2_with fail
  clear k0_0 k0_l
  clear sb0_0 sb0_l
  clear gb0_0 gb0_l
  refine calls_gen (fun X => Below W15.heap.size W15 X ∧ Blk X W15.heap.size 29 (Disk.list (⟨(addD x0.files a1 a2).1⟩) yrh0)) ⟨by repeat (first | exact Below.refl _ _ | refine Below.setCell ?_ (by first | omega | (simp; done) | (simp; omega)) _ | refine Below.alloc ?_ (by first | omega | (simp; done) | (simp; omega)) _ | apply Below.drew), by unfold Disk.list; with_reducible (repeat (first | (refine blk_new_at _ _ _ _ ?_; first | rfl | (simp; done)) | refine Blk.alloc ?_ _ | apply Blk.drew | refine Blk.setOther ?_ (by first | (simp; done) | (simp; omega)) _))⟩ ?_
  rintro W16 ⟨bel, kx⟩
  have BB_ := Lib.hid (BB.out.trans (bel.mono BB.out.size))
  clear BB
  have BB := BB_
  clear BB_
  have K0_ := Lib.hid (K0.out.below bel K0.out.lt)
  clear K0
  have K0 := K0_
  clear K0_
  have srR0_ := Lib.hid (srR0.out.below bel)
  clear srR0
  have srR0 := srR0_
  clear srR0_
  have SB0_ := Lib.hid (SB0.out.below bel SB0.out.lt)
  clear SB0
  have SB0 := SB0_
  clear SB0_
  have GB0_ := Lib.hid (GB0.out.below bel GB0.out.lt)
  clear GB0
  have GB0 := GB0_
  clear GB0_
  have MI_ := Lib.hid (MI.out.below bel)
  clear MI
  have MI := MI_
  clear MI_
  have yI0_ := Lib.hid (yI0.out.below bel)
  clear yI0
  have yI0 := yI0_
  clear yI0_
  have yO0_ := Lib.hid (yO0.out.below bel)
  clear yO0
  have yO0 := yO0_
  clear yO0_
  have yrR0_ := Lib.hid (yrR0.out.below bel)
  clear yrR0
  have yrR0 := yrR0_
  clear yrR0_
  have yrO0_ := Lib.hid (yrO0.out.below bel)
  clear yrO0
  have yrO0 := yrO0_
  clear yrO0_
  have YB0 := Lib.hid kx
  clear bel kx
  refine (eq_Disk (⟨(addD x0.files a1 a2).1⟩) yrh0 srh0 _ _ W16 HBd.out yrR0.out srR0.out).mono ?_
  rintro e W17 ⟨rfl, bel⟩
  have BB_ := Lib.hid (BB.out.trans (bel.mono BB.out.size))
  clear BB
  have BB := BB_
  clear BB_
  have K0_ := Lib.hid (K0.out.below bel K0.out.lt)
  clear K0
  have K0 := K0_
  clear K0_
  have srR0_ := Lib.hid (srR0.out.below bel)
  clear srR0
  have srR0 := srR0_
  clear srR0_
  have SB0_ := Lib.hid (SB0.out.below bel SB0.out.lt)
  clear SB0
  have SB0 := SB0_
  clear SB0_
  have GB0_ := Lib.hid (GB0.out.below bel GB0.out.lt)
  clear GB0
  have GB0 := GB0_
  clear GB0_
  have MI_ := Lib.hid (MI.out.below bel)
  clear MI
  have MI := MI_
  clear MI_
  have yI0_ := Lib.hid (yI0.out.below bel)
  clear yI0
  have yI0 := yI0_
  clear yI0_
  have yO0_ := Lib.hid (yO0.out.below bel)
  clear yO0
  have yO0 := yO0_
  clear yO0_
  have yrR0_ := Lib.hid (yrR0.out.below bel)
  clear yrR0
  have yrR0 := yrR0_
  clear yrR0_
  have yrO0_ := Lib.hid (yrO0.out.below bel)
  clear yrO0
  have yrO0 := yrO0_
  clear yrO0_
  have YB0_ := Lib.hid (YB0.out.below bel YB0.out.lt)
  clear YB0
  have YB0 := YB0_
  clear YB0_
  clear bel
  have k0_0 := K0.out.cell 0
  simp [Disk.list] at k0_0
  have k0_l := K0.out.lt
  have sb0_0 := SB0.out.cell 0
  simp [Disk.list] at sb0_0
  have sb0_l := SB0.out.lt
  have gb0_0 := GB0.out.cell 0
  simp [Disk.list] at gb0_0
  have gb0_l := GB0.out.lt
  have yb0_0 := YB0.out.cell 0
  simp [Disk.list] at yb0_0
  have yb0_l := YB0.out.lt
  go_wp2_with fail
  clear k0_0 k0_l
  clear sb0_0 sb0_l
  clear gb0_0 gb0_l
  clear yb0_0 yb0_l
  refine (held_Disk (⟨(addD x0.files a1 a2).1⟩) grh0 grf0 1 W17 HBd.out (by omega) (by have := CG.out; have := HBd.out; omega) MI.out).mono ?_
  rintro e W18 ⟨rfl, bel⟩
  have BB_ := Lib.hid (BB.out.trans (bel.mono BB.out.size))
  clear BB
  have BB := BB_
  clear BB_
  have K0_ := Lib.hid (K0.out.below bel K0.out.lt)
  clear K0
  have K0 := K0_
  clear K0_
  have srR0_ := Lib.hid (srR0.out.below bel)
  clear srR0
  have srR0 := srR0_
  clear srR0_
  have SB0_ := Lib.hid (SB0.out.below bel SB0.out.lt)
  clear SB0
  have SB0 := SB0_
  clear SB0_
  have GB0_ := Lib.hid (GB0.out.below bel GB0.out.lt)
  clear GB0
  have GB0 := GB0_
  clear GB0_
  have MI_ := Lib.hid (MI.out.below bel)
  clear MI
  have MI := MI_
  clear MI_
  have yI0_ := Lib.hid (yI0.out.below bel)
  clear yI0
  have yI0 := yI0_
  clear yI0_
  have yO0_ := Lib.hid (yO0.out.below bel)
  clear yO0
  have yO0 := yO0_
  clear yO0_
  have yrR0_ := Lib.hid (yrR0.out.below bel)
  clear yrR0
  have yrR0 := yrR0_
  clear yrR0_
  have yrO0_ := Lib.hid (yrO0.out.below bel)
  clear yrO0
  have yrO0 := yrO0_
  clear yrO0_
  have YB0_ := Lib.hid (YB0.out.below bel YB0.out.lt)
  clear YB0
  have YB0 := YB0_
  clear YB0_
  clear bel
  go_wp2_with fail
  go_ret
  exact ⟨rfl, BB.out⟩
end Go.Proofs.Ytemefahhogdoaaa.dat
