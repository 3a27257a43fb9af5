/-
  THE CONTRACT OF DiskCrash of the model.
-/
import Derived.Test.YtemefahhogdoaaaDiskCrash
namespace Go.Proofs.Ytemefahhogdoaaa.dat
open Go.RowKit Go.Proofs.Ytemefahhogdoaaa.win

theorem hkeep8 {B : Nat} {w w' : World} {g : Nat} {t : TypeId} {vs : List Value} (h : Blk w g t vs) (hb : Below B w.drew w') (hg : g < B) : Blk w' g t vs := (hb.block g hg).trans h
set_option maxRecDepth 100000 in
set_option maxHeartbeats 4000000 in
theorem spec_DiskCrash (x : DiskD) (h : DiskH) (fp : List Nat) (ca : Option Addr) (cn cc : Nat) (cuts : List Int) (cf : List Nat) (w : World) (hin : Disk.Is w x h fp) (hrow : GRow 1 RInt w ca cn cuts cf) (_hnc : cn ≤ cc) (_hcc : cc ≤ 9223372036854775807) (hmax : Disk.sz x ≤ 2000000) (hcl : cuts.length ≤ 2000000) :
    Calls Try.prog 28 #[.agg (Disk.list x h).toArray, .slice ca cn cc] w (CopiedDisk w ⟨crashD x.files cuts⟩) := by
  have HI := Lib.hid hin
  have HM := Lib.hid hmax
  have HX := Lib.hid (Disk.row hin)
  have HC := Lib.hid hrow
  have hcn : cn ≤ 2000000 := by rw [← hrow.1]; exact hcl
  clear hin hmax hrow hcl
  obtain ⟨ls, hls⟩ : ∃ ls, crashD x.files cuts = ls := ⟨_, rfl⟩
  rw [hls]
  have HLS := Lib.hid hls
  clear hls
  obtain ⟨fa, fl, fc⟩ := h
  dsimp only at *
  have HX : Hid (GRow 3 RFile w fa fl x.files fp ∧ fl ≤ fc ∧ fc ≤ 9223372036854775807) := HX
  simp only [Disk.list]
  go_enter Try.func28, Try.ntmps28
  go_wp2_with fail
  refine calls_gen (fun W => Below w.heap.size w W ∧ Blk W w.heap.size 29 [.slice fa fl fc] ∧ Blk W (w.heap.size + 1) 29 [.slice none 0 0]) ⟨by repeat (first | exact Below.refl _ _ | refine Below.setCell ?_ (by first | omega | (simp; done) | (simp; omega)) _ | refine Below.alloc ?_ (by first | omega | (simp; done) | (simp; omega)) _ | apply Below.drew), by with_reducible (repeat (first | (refine blk_new_at _ _ _ _ ?_; first | rfl | (simp; done)) | refine Blk.alloc ?_ _ | apply Blk.drew | refine Blk.setOther ?_ (by first | (simp; done) | (simp; omega)) _)), by with_reducible (repeat (first | (refine blk_new_at _ _ _ _ ?_; first | rfl | (simp; done)) | refine Blk.alloc ?_ _ | apply Blk.drew | refine Blk.setOther ?_ (by first | (simp; done) | (simp; omega)) _))⟩ ?_
  rintro W ⟨b0, k0, k1⟩
  refine (spec_DiskOk x ⟨fa, fl, fc⟩ fp W (HI.out.below b0) HM.out).mono ?_
  rintro e w1 ⟨rfl, b1⟩
  have B1 := Lib.hid (b0.trans (b1.mono b0.size))
  have K0 := Lib.hid (k0.below b1 k0.lt)
  have K1 := Lib.hid (k1.below b1 k1.lt)
  have c0 := K0.out.cell 0
  have r0 := K1.out.cell 0
  have rf := K1.out.frozen
  simp at c0 r0
  clear b0 k0 k1 b1
  have hk1 := K1.out.lt
  have hk0 := K0.out.lt
  cases hd : diskB x.files with
  | false =>
    have E := Lib.hid (show ls = [] by rw [← HLS.out]; unfold crashD; rw [hd]; rfl)
    clear hd
    go_wp2_with fail
    refine body_gen (fun W => Below w.heap.size w W ∧ Blk W (w.heap.size + 1) 29 [.slice none 0 0]) ⟨?_, ?_⟩ ?_
    · have hb := B1.out
      have hbs := hb.size
      repeat (first | exact Below.refl _ _ | refine Below.setCell ?_ (by first | omega | (simp; done) | (simp; omega)) _ | refine Below.alloc ?_ (by first | omega | (simp; done) | (simp; omega)) _ | apply Below.drew | refine Below.trans ?_ (hb.mono (by first | omega | (simp; done) | (simp; omega))))
    · (apply Blk.of_eq; (repeat (first | (with_reducible exact K1.out) | (with_reducible apply Blk.set) | ((with_reducible apply Blk.other); · first | (simp; done) | (simp; omega)) | (with_reducible apply Blk.drew))); rfl)
    rintro W' ⟨bw, kw⟩
    have e0 := kw.cell 0
    simp at e0
    refine bodyPost_ret (v := .agg (Disk.list ⟨ls⟩ ⟨none, 0, 0⟩).toArray) (by simp [results, Try.results28, go_sem, e0, Disk.list]) rfl ?_
    rw [E.out]
    exact ⟨⟨none, 0, 0⟩, [], rfl, ⟨[], rfl, GRow.nil, Nat.le_refl _, Nat.zero_le _⟩, Own.nil, bw⟩
  | true =>
  have E := Lib.hid (show ls = crashL x.files cuts by rw [← HLS.out]; unfold crashD; rw [if_pos hd])
  have hfl : fl ≤ 4 := by rw [← HX.out.1.1]; exact ((diskB_iff _).1 hd).len
  have HFS := Lib.hid (diskP_sizes ((diskB_iff _).1 hd))
  clear hd c0 r0 rf
  go_wp2_with fail
  refine wp_gen (fun W => Below w.heap.size w W ∧ Blk W w.heap.size 29 [.slice fa fl fc] ∧ Blk W (w.heap.size + 1) 29 [.slice none 0 0] ∧ Blk W w1.heap.size 29 [.slice none 0 0] ∧ w1.heap.size + 1 ≤ W.heap.size) ⟨?_, ?_, ?_, by with_reducible (repeat (first | (refine blk_new_at _ _ _ _ ?_; first | rfl | (simp; done)) | refine Blk.alloc ?_ _ | apply Blk.drew | refine Blk.setOther ?_ (by first | (simp; done) | (simp; omega)) _)), by simp⟩ ?_
  · have hb := B1.out
    have hbs := hb.size
    repeat (first | exact Below.refl _ _ | refine Below.setCell ?_ (by first | omega | (simp; done) | (simp; omega)) _ | refine Below.alloc ?_ (by first | omega | (simp; done) | (simp; omega)) _ | apply Below.drew | refine Below.trans ?_ (hb.mono (by first | omega | (simp; done) | (simp; omega))))
  · with_reducible (repeat (first | exact K0.out | (refine blk_new_at _ _ _ _ ?_; first | rfl | (simp; done)) | refine Blk.alloc ?_ _ | apply Blk.drew | refine Blk.setOther ?_ (by first | (simp; done) | (simp; omega)) _))
  · with_reducible (repeat (first | exact K1.out | (refine blk_new_at _ _ _ _ ?_; first | rfl | (simp; done)) | refine Blk.alloc ?_ _ | apply Blk.drew | refine Blk.setOther ?_ (by first | (simp; done) | (simp; omega)) _))
  clear B1 K0 K1
  rintro W2 ⟨bW, kW0, kW1, kWq, hsq⟩
  generalize w1.heap.size = q at *
  have BW := Lib.hid bW
  have KW := Lib.hid (And.intro kW0 (And.intro kW1 kWq))
  clear bW kW0 kW1 kWq
  go_loopg [6] fl (fun k iv wr => ∃ (j : Nat) (v : Value), j + k = fl ∧ iv = .int .i64 j ∧ Blk wr w.heap.size 29 [.slice fa fl fc] ∧ Blk wr (w.heap.size + 1) 29 [.slice none 0 0] ∧ Blk wr q 29 [v] ∧ Grows 3 RFile 50 (q + 1) wr v ((crashL x.files cuts).take j) ∧ q + 1 ≤ wr.heap.size ∧ Below w.heap.size w wr)
  case atStart => exact ⟨0, .slice none 0 0, by omega, rfl, KW.out.1, KW.out.2.1, KW.out.2.2, by simpa using Grows.nil, hsq, BW.out⟩
  case round =>
    obtain ⟨j, v, hj, rfl, hk0', hk1', hkq, hG, hsz, hB⟩ := hrel
    clear KW BW hsq
    have HB := Lib.hid hB
    have c0 := hk0'.cell 0
    simp at c0
    by_cases hlt : j < fl
    case neg =>
      obtain rfl : j = fl := by omega
      obtain ⟨a', cap', fp', hv, hg, hc1, hc2, ho⟩ := hG.done
      have hll : ((crashL x.files cuts).take j).length = j := by rw [List.length_take, crashL_length, HX.out.1.1]; omega
      have hlt0 : (crashL x.files cuts).take j = crashL x.files cuts := List.take_of_length_le (by rw [crashL_length, HX.out.1.1]; exact Nat.le_refl _)
      rw [hll] at hv hg hc1
      rw [hlt0] at hg
      subst hv
      have d0 := hkq.cell 0
      have r0 := hk1'.cell 0
      have rf := hk1'.frozen
      simp at d0 r0
      have HK1 := Lib.hid hk1'
      have HD := Lib.hid (And.intro hg ho)
      have HCC := Lib.hid (And.intro hc1 hc2)
      clear hG hg hc1 hc2 ho hB hk0' hk1' hkq hll hlt0
      go_wp2_with fail
      refine body_gen (fun W => Below w.heap.size w W ∧ Blk W (w.heap.size + 1) 29 [.slice a' j cap'] ∧ GRow 3 RFile W a' j (crashL x.files cuts) fp' ∧ Own (q + 1) W fp') ⟨?_, ?_, ?_, ?_⟩ ?_
      · have hb := HB.out
        have hbs := hb.size
        repeat (first | exact Below.refl _ _ | refine Below.setCell ?_ (by first | omega | (simp; done) | (simp; omega)) _ | refine Below.alloc ?_ (by first | omega | (simp; done) | (simp; omega)) _ | apply Below.drew | refine Below.trans ?_ (hb.mono (by first | omega | (simp; done) | (simp; omega))))
      · (apply Blk.of_eq; (repeat (first | (with_reducible exact HK1.out) | (with_reducible apply Blk.set) | ((with_reducible apply Blk.other); · first | (simp; done) | (simp; omega)) | (with_reducible apply Blk.drew))); rfl)
      · refine HD.out.1.keep local_File (fun p hp => ?_)
        have := (HD.out.2.2 p hp).1
        exact Below.heap_setCell _ ⟨w.heap.size + 1, 0, none⟩ _ p (by simp; omega)
      · refine HD.out.2.keep (fun p hp => ?_)
        have := (HD.out.2.2 p hp).1
        exact Below.heap_setCell _ ⟨w.heap.size + 1, 0, none⟩ _ p (by simp; omega)
      clear HD HK1 c0 d0 r0 rf
      rintro W ⟨bw, kw, gw, ow⟩
      have e0 := kw.cell 0
      simp at e0
      refine bodyPost_ret (v := .agg (Disk.list ⟨ls⟩ ⟨a', j, cap'⟩).toArray) (by simp [results, Try.results28, go_sem, e0, Disk.list]) rfl ?_
      rw [E.out]
      exact ⟨⟨a', j, cap'⟩, fp', rfl, ⟨fp', rfl, gw, HCC.out.1, HCC.out.2⟩, ow.mono (by omega), bw⟩
    have hlt2 : (j : Int) < (fl : Int) := by omega
    have h02 : (0 : Int) ≤ (j : Int) := by omega
    obtain ⟨b, off, y, f, cs, rfl, hbl, hy, hcl, hR, hc⟩ := HX.out.1.at hlt
    obtain ⟨rfl, s0, s1, s2, rfl⟩ := hR
    have d0 := (hB.cell (p := ⟨b, off + j * 3 + 0, none⟩) hbl).trans (hc 0 (by omega))
    have d1 := (hB.cell (p := ⟨b, off + j * 3 + 1, none⟩) hbl).trans (hc 1 (by omega))
    have d2 := (hB.cell (p := ⟨b, off + j * 3 + 2, none⟩) hbl).trans (hc 2 (by omega))
    simp [File.list] at d0 d1 d2
    have hys := HFS.out y (List.mem_of_getElem? hy)
    have hys1 : y.safe.size ≤ 1048576 := by omega
    have hys2 : y.now.size ≤ 1048576 := by omega
    have HYS := Lib.hid (And.intro s0 hys)
    have hbr := Nat.lt_of_lt_of_le hbl hB.size
    have HD := Lib.hid (And.intro d0 (And.intro d1 d2))
    have HE := fun (z : Int) (hz : cuts.getD j 0 = z) => show (crashL x.files cuts).take (j + 1) = (crashL x.files cuts).take j ++ [crashF y z] by rw [← hz]; exact crashL_take_succ cuts hy
    have hwl : ((crashL x.files cuts).take j).length ≤ j := by simp; omega
    have HG := Lib.hid hG
    have HK0 := Lib.hid hk0'
    have HK1 := Lib.hid hk1'
    have HKQ := Lib.hid hkq
    have hkql := hkq.lt
    have hk0l := hk0'.lt
    have HEH := Lib.hid HE
    clear hG hB hc hy hk0' hk1' hkq s0 s1 s2 hys HE
    -- the cut
    obtain ⟨z, hz, hzc⟩ : ∃ z : Int, cuts.getD j 0 = z ∧ ((¬ (j : Int) < (cn : Int) ∧ z = 0) ∨ ((j : Int) < (cn : Int) ∧ ∃ b2 off2, ca = some ⟨b2, off2, none⟩ ∧ wr.cell? ⟨b2, off2 + j, none⟩ = some (.int .i64 z))) := by
      by_cases hp : j < cn
      · obtain ⟨b2, off2, z, f2, cs2, ha2, hbl2, hz, hcl2, hR2, hc2⟩ := HC.out.at hp
        obtain ⟨rfl, rfl⟩ := hR2
        refine ⟨z, cut_at hz, .inr ⟨by omega, b2, off2, ha2, ?_⟩⟩
        have := (HB.out.cell (p := ⟨b2, off2 + j * 1 + 0, none⟩) hbl2).trans (hc2 0 (by omega))
        simpa using this
      · exact ⟨0, cut_none (by rw [HC.out.1]; omega), .inl ⟨by omega, rfl⟩⟩
    have HZ := Lib.hid hz
    have E9 := Lib.hid (HEH.out z hz)
    clear hz HEH
    obtain ⟨r, hr⟩ : ∃ r, survD y z = r := ⟨_, rfl⟩
    have hsp := fun W => spec_Survives y z W hys1 hys2
    rw [hr] at hsp
    have HSP := Lib.hid hsp
    have HRR := Lib.hid (show crashF y z = ⟨y.name, r, r⟩ by rw [crashF, hr])
    have HRS := Lib.hid (show r.size ≤ 9223372036854775807 by rw [← hr]; have := survD_size y z HYS.out.2.2.1 HYS.out.2.2.2; omega)
    rw [HRR.out] at E9
    simp only [File.list] at HSP
    clear hsp hr HRR
    rcases hzc with ⟨hp, rfl⟩ | ⟨hp, b2, off2, rfl, g0⟩
    all_goals
      go_wp2_with fail
      refine (HSP.out wr).mono ?_
      rintro e w3 ⟨rfl, b3⟩
      have K0 := Lib.hid (HK0.out.below b3 HK0.out.lt)
      have K1 := Lib.hid (HK1.out.below b3 HK1.out.lt)
      have KQ := Lib.hid (HKQ.out.below b3 HKQ.out.lt)
      have G3 := Lib.hid (HG.out.below local_File b3)
      have B3 := Lib.hid (HB.out.trans (b3.mono HB.out.size))
      have Z3 := Lib.hid (Nat.le_trans hsz b3.size)
      have e0 := (b3.cell (p := ⟨b, off + j * 3, none⟩) hbr).trans HD.out.1
      have q0 := KQ.out.cell 0
      have p0 := K0.out.cell 0
      have hql := KQ.out.lt
      have hpl := K0.out.lt
      have hbl3 := Nat.lt_of_lt_of_le hbr b3.size
      simp at q0 p0
      clear b3 HG HK0 HK1 HKQ HB d0 d1 d2 c0 hkql hk0l hbr
      go_wp2_with fail
      refine mix.wp_region_tail (fun w' => w'.cell? ⟨q, 0, none⟩ = some v ∧ w'.cell? ⟨w.heap.size, 0, none⟩ = some (.slice (some ⟨b, off, none⟩) fl fc) ∧ w'.cell? ⟨b, off + j * 3, none⟩ = some (.string y.name)) [11,12] [0,1,2,3,4,5,6,7,8,9,10,11,12,13] (by kernel_rfl) (by kernel_rfl) (fun _ _ d _ _ h => by cases d <;> exact h) ⟨q0, p0, e0⟩ ?_
      simp only [List.filterMap_cons, List.filterMap_nil, List.getElem?_cons_zero, List.getElem?_cons_succ, Option.map_some]
      (repeat (apply mix.ordt_take; (· rfl); (· rfl); (· (intro w' hSw; (try dsimp only at hSw); go_simp; try with_reducible rfl)); (try simp only [Act.put, List.setIfInBounds_toArray, List.set_cons_zero, List.set_cons_succ])))
      refine mix.ordt_hard rfl (fun K hK => ?_); go_simp
      have hb7 : Below w3.drew.heap.size w3.drew (w3.drew.alloc (.cells #[.string y.name, .string r, .string r] 50)) := (Below.refl _ _).alloc (Nat.le_refl _) _
      have q1 : (w3.drew.alloc (.cells #[.string y.name, .string r, .string r] 50)).cell? ⟨q, 0, none⟩ = some v := (hb7.cell (p := ⟨q, 0, none⟩) hql).trans q0
      have p1 : (w3.drew.alloc (.cells #[.string y.name, .string r, .string r] 50)).cell? ⟨w.heap.size, 0, none⟩ = some (.slice (some ⟨b, off, none⟩) fl fc) := (hb7.cell (p := ⟨w.heap.size, 0, none⟩) hpl).trans p0
      have e1 : (w3.drew.alloc (.cells #[.string y.name, .string r, .string r] 50)).cell? ⟨b, off + j * 3, none⟩ = some (.string y.name) := (hb7.cell (p := ⟨b, off + j * 3, none⟩) hbl3).trans e0
      refine hK.out _ _ (by exact ⟨q1, p1, e1⟩) (fun hSw => ?_); clear hK K hSw; (try simp only [Act.put, List.setIfInBounds_toArray, List.set_cons_zero, List.set_cons_succ])
      obtain ⟨i0, hi, hi2⟩ := Option.map_eq_some_iff.1 info_File
      simp only [Prod.mk.injEq] at hi2
      obtain ⟨hz0, hz1, hz2⟩ := hi2
      refine mix.ordt_hardb rfl rfl (fun K hK => ?_)
      have hz3 := Z3.out
      have G3' : Grows 3 RFile 50 (q + 1) w3.drew v ((crashL x.files cuts).take j) := G3.out.below local_File (show Below w3.heap.size w3 w3.drew by repeat (first | exact Below.refl _ _ | refine Below.setCell ?_ (by first | omega | (simp; done) | (simp; omega)) _ | refine Below.alloc ?_ (by first | omega | (simp; done) | (simp; omega)) _ | apply Below.drew))
      refine push_wp (v := v) local_File _ _ 27 rfl i0 _ 48 Try.underlying27 hi hz0 hz1 hz2 rfl (by decide) rfl G3' hb7 w3.heap.size 1 rfl [.string y.name, .string r, .string r] rfl (fun u hu => by simp at hu; rcases hu with rfl | rfl <;> rfl) (fun p u hp => ?_) ⟨y.name, r, r⟩ [] ⟨rfl, HYS.out.1, HRS.out, HRS.out, rfl⟩ Own.nil (by omega) (by unfold maxLen; omega) hz3 ?_
      · exact ((blk_new w3.drew 50 [.string y.name, .string r, .string r]).cell p).trans hp
      intro v8 W8 hG8 hb8 hk8 hw8
      obtain ⟨a8, cap8, hv8⟩ := hG8.slice
      subst hv8
      generalize hn8 : ((crashL x.files cuts).take j ++ [(⟨y.name, r, r⟩ : FileD)]).length = n8 at *
      have HN8 := Lib.hid hn8
      clear hn8
      have hB8 : Below (q + 1) w3.drew W8 := ((Below.refl _ _).alloc (show q + 1 ≤ w3.drew.heap.size from hz3) _).trans hb8
      have hqs := KQ.out.lt
      have XQ := Lib.hid (hkeep8 (t := 29) KQ.out hB8 (by omega))
      have X0 := Lib.hid (hkeep8 (t := 29) K0.out hB8 (by omega))
      have X1 := Lib.hid (hkeep8 (t := 29) K1.out hB8 (by omega))
      have G8 := Lib.hid hG8
      have BB8 := Lib.hid (B3.out.trans ((show Below w.heap.size w3 w3.drew by repeat (first | exact Below.refl _ _ | refine Below.setCell ?_ (by first | omega | (simp; done) | (simp; omega)) _ | refine Below.alloc ?_ (by first | omega | (simp; done) | (simp; omega)) _ | apply Below.drew)).trans (hB8.mono (by omega))))
      have Z8 := Lib.hid (Nat.le_trans hz3 hB8.size)
      have q8 := XQ.out.cell 0
      have qf := XQ.out.frozen
      have p8 := X0.out.cell 0
      have e8 := (hB8.cell (p := ⟨b, off + j * 3, none⟩) (by show b < q + 1; omega)).trans e0
      simp at q8 p8
      clear hk8 hw8 hb8 hG8 hB8 q1 p1 e1 hb7 hi hz0 hz1 hz2
      refine hK.out _ _ (by exact ⟨q8, p8, e8⟩) (fun hSw => ?_); clear hK K hSw; (try simp only [Act.put, List.setIfInBounds_toArray, List.set_cons_zero, List.set_cons_succ])
      (repeat (apply mix.ordt_take; (· rfl); (· rfl); (· (intro w' hSw; (try dsimp only at hSw); go_simp; try with_reducible rfl)); (try simp only [Act.put, List.setIfInBounds_toArray, List.set_cons_zero, List.set_cons_succ])))
      refine mix.ordt_end ?_; refine mix.last_step (fun K hK => ?_); go_simp
      refine hK _ _ ?_
      clear hK K
      go_wp2_with fail
      go_roundg (fl - (j + 1))
      case measure => omega
      case rel =>
        have hz8 := Z8.out
        have hb9 := BB8.out
        refine ⟨j + 1, _, by omega, by go_num, ?_, ?_, XQ.out.set 0 _, ?_, by simpa using hz8, ?_⟩
        · with_reducible (repeat (first | exact X0.out | (refine blk_new_at _ _ _ _ ?_; first | rfl | (simp; done)) | refine Blk.alloc ?_ _ | apply Blk.drew | refine Blk.setOther ?_ (by first | (simp; done) | (simp; omega)) _))
        · with_reducible (repeat (first | exact X1.out | (refine blk_new_at _ _ _ _ ?_; first | rfl | (simp; done)) | refine Blk.alloc ?_ _ | apply Blk.drew | refine Blk.setOther ?_ (by first | (simp; done) | (simp; omega)) _))
        · rw [E9.out]
          refine G8.out.keep local_File (fun p hp1 hp2 => ?_)
          exact Below.heap_setCell _ ⟨q, 0, none⟩ _ p (by simp; omega)
        · repeat (first | exact Below.refl _ _ | refine Below.setCell ?_ (by first | omega | (simp; done) | (simp; omega)) _ | refine Below.alloc ?_ (by first | omega | (simp; done) | (simp; omega)) _ | apply Below.drew | refine Below.trans ?_ (hb9.mono (by first | omega | (simp; done) | (simp; omega))))
end Go.Proofs.Ytemefahhogdoaaa.dat
