/-
  THE WALK OF THE LAW FnSynced: whatever the codes, it answers true; nothing that was there is written.
-/
import Derived.Test.YtoglclmaacjdaaaDrawDisks
import Derived.Test.YtoglclmaacjdaaaKeptMath
import Derived.Test.YtoglclmaacjdaaaLawsPick
import Derived.Test.YtoglclmaacjdaaaSpecCrash
import Derived.Test.YtoglclmaacjdaaaDiskCrash
namespace Go.Proofs.Ytoglclmaacjdaaa.dat
open Go.RowKit Go.Proofs.Ytoglclmaacjdaaa.win Go.Proofs.Ytoglclmaacjdaaa.cur

theorem one_cell_ {W : World} {p : Nat} {t : TypeId} {v : Value} (k : Blk W p t [v]) : W.cell? ⟨p, 0, none⟩ = some v := by simpa using k.cell 0
theorem read_tiny {l : List FileD} (h : SizeTo 100 l) (name : ByteArray) : (readD l name).size ≤ 100 := by
  unfold readD
  split
  · cases hx : atF l name with
    | none => simp
    | some f =>
      have hm : f ∈ l := List.mem_of_find?_eq_some hx
      exact (h f hm).2.2
  · simp
def moreT : ByteArray := ⟨#[109, 111, 114, 101]⟩
theorem ext_was (was more : ByteArray) (k : Nat) : ((was ++ more).extract 0 (was.size + k)).extract 0 was.size = was := by
  rw [ByteArray.extract_extract]
  rw [show min (0 + was.size) (was.size + k) = was.size by omega]
  simp [ByteArray.extract_append]
theorem ext_size (was more : ByteArray) {k : Nat} (hk : k ≤ more.size) : ((was ++ more).extract 0 (was.size + k)).size = was.size + k := by
  rw [ByteArray.size_extract, ByteArray.size_append]
  omega

set_option maxRecDepth 100000 in
set_option maxHeartbeats 8000000 in
theorem law_FnSynced (a : Option Addr) (len cap : Nat) (zs : List Int) (a' : Option Addr) (len' cap' : Nat) (zs' : List Int) (w : World) (hrow : IsRow .u8 w a len cap zs) (hrow' : IsRow .u8 w a' len' cap' zs') :
    Calls Try.prog 3 #[.slice a len cap, .slice a' len' cap'] w fun e w' => e = .returned (.bool true) ∧ Below w.heap.size w w' := by
  have HK := Lib.hid (code_of_row hrow)
  have HK' := Lib.hid (code_of_row hrow')
  clear hrow hrow'
  obtain ⟨t1, ht1⟩ : ∃ t, decide (1048576 < len) = t := ⟨_, rfl⟩
  obtain ⟨t2, ht2⟩ : ∃ t, decide (1048576 < len') = t := ⟨_, rfl⟩
  have hb1 := Lib.hid (fun W => big_any a len cap t1 W ht1)
  have hb2 := Lib.hid (fun W => big_any a' len' cap' t2 W ht2)
  have HT1 := Lib.hid ht1
  have HT2 := Lib.hid ht2
  clear ht1 ht2
  cases t1
  case true =>
    go_enter Try.func3, Try.ntmps3
    go_wp2_with fail
    refine (hb1.out w).mono ?_
    rintro e w' ⟨rfl, rfl⟩
    go_wp2_with fail
    go_ret
    exact ⟨rfl, Below.refl _ _⟩
  case false =>
  cases t2
  case true =>
    go_enter Try.func3, Try.ntmps3
    go_wp2_with fail
    refine (hb1.out w).mono ?_
    rintro e w' ⟨rfl, rfl⟩
    go_wp2_with fail
    refine (hb2.out w).mono ?_
    rintro e w' ⟨rfl, rfl⟩
    go_wp2_with fail
    go_ret
    exact ⟨rfl, Below.refl _ _⟩
  case false =>
  have hbig : ¬ 1048576 < len := of_decide_eq_false HT1.out
  have hbig' : ¬ 1048576 < len' := of_decide_eq_false HT2.out
  go_enter Try.func3, Try.ntmps3
  go_wp2_with fail
  refine (hb1.out w).mono ?_
  rintro e w' ⟨rfl, rfl⟩
  go_wp2_with fail
  refine (hb2.out w).mono ?_
  rintro e w' ⟨rfl, rfl⟩
  go_wp2_with fail
  clear hb1 hb2 HT1 HT2
  refine (DrawDiskSync_any _ _ _ _ (by omega) HK.out).mono ?_
  rintro e w1 ⟨x, h, fp, nm, rfl, hI, hl5, hS, hnm, hb1⟩
  obtain ⟨fa, fl, fc⟩ := h
  have B1 := Lib.hid hb1
  have I1 := Lib.hid hI
  have HC1 := Lib.hid (HK'.out.below hb1)
  have HZ := Lib.hid (Tiny.small ⟨hl5, hS⟩)
  have HNS := Lib.hid hnm
  have HTI := Lib.hid (read_tiny hS nm)
  have HFL := Lib.hid (Disk.row hI).1.1
  clear hb1 hI hl5 hS HK HK' hbig hnm
  simp only [Disk.list]
  go_wp2_with fail
  refine calls_gen (fun W => Below w1.heap.size w1 W ∧ Blk W w1.heap.size 26 [.slice fa fl fc]) ⟨by repeat (first | exact Below.refl _ _ | refine Below.setCell ?_ (by first | omega | (simp; done) | (simp; omega)) _ | refine Below.alloc ?_ (by first | omega | (simp; done) | (simp; omega)) _ | apply Below.drew), by with_reducible (repeat (first | (refine blk_new_at _ _ _ _ ?_; first | rfl | (simp; done)) | refine Blk.alloc ?_ _ | apply Blk.drew | refine Blk.setOther ?_ (by first | (simp; done) | (simp; omega)) _))⟩ ?_
  rintro W1 ⟨c1, k1⟩
  refine (DrawDiskCrash_any _ _ _ _ (by omega) (HC1.out.below c1)).mono ?_
  rintro e w2 ⟨da, dn, dc, ca, cn, cc, cuts, cf, rfl, hrw, hnc, hcc, hcl, b2⟩
  have c12 := c1.trans (b2.mono c1.size)
  have B2 := Lib.hid (B1.out.trans (c12.mono B1.out.size))
  have K2 := Lib.hid (k1.below b2 k1.lt)
  have I2 := Lib.hid (I1.out.below c12)
  have R2 := Lib.hid hrw
  have HCU := Lib.hid (And.intro hnc (And.intro hcc hcl))
  have x0 := one_cell_ K2.out
  have x0l := K2.out.lt
  clear c1 k1 b2 c12 hrw hnc hcc hcl B1 I1 HC1 hbig'
  go_wp2_with fail
  refine calls_gen (fun W => Below w2.heap.size w2 W) (by repeat (first | exact Below.refl _ _ | refine Below.setCell ?_ (by first | omega | (simp; done) | (simp; omega)) _ | refine Below.alloc ?_ (by first | omega | (simp; done) | (simp; omega)) _ | apply Below.drew)) ?_
  intro W2 c2
  obtain ⟨ls, hls⟩ : ∃ ls, syncD x.files nm = ls := ⟨_, rfl⟩
  have hsP := Lib.hid (fun W hin => spec_DiskSync x ⟨fa, fl, fc⟩ fp nm W hin (by have := HNS.out; omega) HZ.out)
  have hzl : Disk.sz ⟨ls⟩ ≤ 2000000 := by rw [← hls]; exact sync_small _ _
  have hiP := impl_DiskSync x ⟨fa, fl, fc⟩ fp nm W2 (I2.out.below c2) (by have := HNS.out; omega) HZ.out
  rw [hls] at hiP hsP
  have HLS := Lib.hid hls
  have HZL := Lib.hid hzl
  clear hls hzl
  refine hiP.mono ?_
  clear hiP
  rintro e w3 ⟨h3, f3, rfl, i3, _, b3⟩
  obtain ⟨ea, el, ec⟩ := h3
  have c23 := c2.trans (b3.mono c2.size)
  have B3 := Lib.hid (B2.out.trans (c23.mono B2.out.size))
  have K3 := Lib.hid (K2.out.below c23 K2.out.lt)
  have I3 := Lib.hid (I2.out.below c23)
  have R3 := Lib.hid (R2.out.below local_int c23)
  have E3 := Lib.hid i3
  have HEL := Lib.hid (Disk.row i3).1.1
  have y0 := one_cell_ K3.out
  have y0l := K3.out.lt
  clear x0 x0l c2 b3 c23 i3 B2 K2 I2 R2
  simp only [Disk.list]
  go_wp2_with fail
  refine wp_gen (fun W => Below w3.heap.size w3 W ∧ Blk W w3.heap.size 26 [.slice ea el ec]) ⟨by repeat (first | exact Below.refl _ _ | refine Below.setCell ?_ (by first | omega | (simp; done) | (simp; omega)) _ | refine Below.alloc ?_ (by first | omega | (simp; done) | (simp; omega)) _ | apply Below.drew), by with_reducible (repeat (first | (refine blk_new_at _ _ _ _ ?_; first | rfl | (simp; done)) | refine Blk.alloc ?_ _ | apply Blk.drew | refine Blk.setOther ?_ (by first | (simp; done) | (simp; omega)) _))⟩ ?_
  rintro W3 ⟨c3, m3⟩
  have K4 := Lib.hid (K3.out.below c3 K3.out.lt)
  have M4 := Lib.hid m3
  have I4 := Lib.hid (I3.out.below c3)
  have R4 := Lib.hid (R3.out.below local_int c3)
  have E4 := Lib.hid (E3.out.below c3)
  have B4 := Lib.hid (B3.out.trans (c3.mono B3.out.size))
  have z0 := one_cell_ K4.out
  have z1 := one_cell_ M4.out
  clear y0 y0l c3 m3 B3 K3 I3 R3 E3
  generalize w1.heap.size = q1 at *
  generalize w3.heap.size = q3 at *
  have hS2 : ∀ (W V : World), Below W.heap.size W V → q1 < W.heap.size → q3 < W.heap.size → W.cell? ⟨q1, 0, none⟩ = some (.slice fa fl fc) → W.cell? ⟨q3, 0, none⟩ = some (.slice ea el ec) → V.cell? ⟨q3, 0, none⟩ = some (.slice ea el ec) ∧ V.cell? ⟨q1, 0, none⟩ = some (.slice fa fl fc) := fun _ _ hb h1 h2 e1 e2 => ⟨(hb.cell (p := ⟨q3, 0, none⟩) h2).trans e2, (hb.cell (p := ⟨q1, 0, none⟩) h1).trans e1⟩
  have HS2 := Lib.hid hS2
  clear hS2
  refine mix.wp_region_ord (fun w' => w'.cell? ⟨q3, 0, none⟩ = some (.slice ea el ec) ∧ w'.cell? ⟨q1, 0, none⟩ = some (.slice fa fl fc)) [3,4] [0,1,2,3,4,5] (by kernel_rfl) (by kernel_rfl) (fun _ _ d _ _ h => by cases d <;> exact h) ⟨z1, z0⟩ ?_
  simp only [List.filterMap_cons, List.filterMap_nil, List.getElem?_cons_zero, List.getElem?_cons_succ, Option.map_some]
  (repeat (first | (apply mix.ord_take; (· rfl); (· rfl); (· (intro w' hSw; (try dsimp only at hSw); go_simp; try with_reducible rfl)); (try simp only [Act.put, List.setIfInBounds_toArray, List.set_cons_zero, List.set_cons_succ])) | ((refine mix.ord_pass rfl (by rfl) ?_); (try simp only [Act.put, List.setIfInBounds_toArray, List.set_cons_zero, List.set_cons_succ]))))
  refine mix.ord_hard rfl (fun K hK => ?_); go_simp
  refine (hsP.out _ (I4.out.below (Below.refl _ _).drew)).mono ?_
  rintro e w5 ⟨h5, f5, rfl, i5, _, b5⟩
  obtain ⟨ga, gl, gc⟩ := h5
  have c5 : Below W3.heap.size W3 w5 := (Below.refl _ _).drew.trans b5
  have S5 := Lib.hid (HS2.out _ _ c5 K4.out.lt M4.out.lt z0 z1)
  have G5 := Lib.hid i5
  have C5 := Lib.hid c5
  clear b5 c5 i5
  simp only [Disk.list]
  refine hK.out _ _ (S5.out) (fun hSw => ?_); clear hK K hSw; (try simp only [Act.put, List.setIfInBounds_toArray, List.set_cons_zero, List.set_cons_succ])
  refine mix.ord_hard rfl (fun K hK => ?_); go_simp
  refine (sameDisk_same ⟨ls⟩ ⟨ea, el, ec⟩ ⟨ga, gl, gc⟩ f3 f5 w5 (E4.out.below C5.out) G5.out HZL.out).mono ?_
  rintro e w6 ⟨rfl, b6⟩
  have c6 : Below W3.heap.size W3 w6 := C5.out.trans (b6.mono C5.out.size)
  have S6 := Lib.hid (HS2.out _ _ c6 K4.out.lt M4.out.lt z0 z1)
  have K6 := Lib.hid (K4.out.below c6 K4.out.lt)
  have M6 := Lib.hid (M4.out.below c6 M4.out.lt)
  have I6 := Lib.hid (I4.out.below c6)
  have R6 := Lib.hid (R4.out.below local_int c6)
  have E6 := Lib.hid (E4.out.below c6)
  have B6 := Lib.hid (B4.out.trans (c6.mono B4.out.size))
  clear b6 c6
  refine hK.out _ _ (S6.out) (fun hSw => ?_); clear hK K hSw; (try simp only [Act.put, List.setIfInBounds_toArray, List.set_cons_zero, List.set_cons_succ])
  (repeat (first | (apply mix.ord_take; (· rfl); (· rfl); (· (intro w' hSw; (try dsimp only at hSw); go_simp; try with_reducible rfl)); (try simp only [Act.put, List.setIfInBounds_toArray, List.set_cons_zero, List.set_cons_succ])) | ((refine mix.ord_pass rfl (by rfl) ?_); (try simp only [Act.put, List.setIfInBounds_toArray, List.set_cons_zero, List.set_cons_succ]))))
  refine mix.ord_end ?_
  clear z0 z1 S5 S6 G5 C5 K4 M4 I4 R4 E4 B4 hsP
  have x0 := one_cell_ K6.out
  have x1 := one_cell_ M6.out
  have x0l := K6.out.lt
  have x1l := M6.out.lt
  go_wp2_with fail
  refine (spec_DiskOk x ⟨fa, fl, fc⟩ fp w6 I6.out HZ.out).mono ?_
  rintro e w7 ⟨rfl, b7⟩
  have K7 := Lib.hid (K6.out.below b7 K6.out.lt)
  have M7 := Lib.hid (M6.out.below b7 M6.out.lt)
  have I7 := Lib.hid (I6.out.below b7)
  have R7 := Lib.hid (R6.out.below local_int b7)
  have E7 := Lib.hid (E6.out.below b7)
  have B7 := Lib.hid (B6.out.trans (b7.mono B6.out.size))
  clear b7 x0 x1 x0l x1l K6 M6 I6 R6 E6 B6
  have x0 := one_cell_ K7.out
  have x1 := one_cell_ M7.out
  have x0l := K7.out.lt
  have x1l := M7.out.lt
  cases hd : diskB x.files with
  | false =>
    have hel : el = 0 := by
      rw [← HEL.out]
      show ls.length = 0
      rw [← HLS.out]
      unfold syncD
      rw [hd]
      rfl
    subst hel
    clear hd
    go_wp2_with fail
    go_ret
    exact ⟨rfl, B7.out⟩
  | true =>
  have HD := Lib.hid ((diskB_iff _).1 hd)
  clear hd
  obtain ⟨lf, hlf⟩ : ∃ lf, (addD ls nm moreT).1 = lf := ⟨_, rfl⟩
  obtain ⟨ok, hok⟩ : ∃ ok, (addD ls nm moreT).2 = ok := ⟨_, rfl⟩
  have hiA := impl_DiskAdd ⟨ls⟩ ⟨ea, el, ec⟩ f3 nm moreT w7 E7.out (by have := HNS.out; omega) (by decide) HZL.out
  have hzf : Disk.sz ⟨lf⟩ ≤ 2000000 := by rw [← hlf]; exact add_small _ _ _
  have HNO := Lib.hid (fun h : ok = false => sync_full (l := x.files) (name := nm) (more := moreT) HD.out (by decide) (by have := HTI.out; rw [ByteArray.size_append]; show _ + 4 ≤ _; omega) (by rw [HLS.out, hok]; exact h))
  have HYES := Lib.hid (fun h : ok = true => by have := sync_facts (l := x.files) (name := nm) (more := moreT) cuts HD.out (by rw [HLS.out, hok]; exact h); exact this)
  rw [show (DiskD.files ⟨ls⟩) = ls from rfl, hlf, hok] at hiA
  have HLF := Lib.hid hlf
  have HZF := Lib.hid hzf
  clear hlf hok hzf
  have hmt : (⟨#[109, 111, 114, 101]⟩ : ByteArray) = moreT := rfl
  go_wp2_with fail
  refine Calls.mono (show Calls _ _ #[.agg #[.slice ea el ec], .string nm, .string moreT] w7 _ from hiA) ?_
  clear hiA hmt
  rintro e w8 ⟨h8, f8, rfl, i8, _, b8⟩
  obtain ⟨ga, gl, gc⟩ := h8
  have K8 := Lib.hid (K7.out.below b8 K7.out.lt)
  have M8 := Lib.hid (M7.out.below b8 M7.out.lt)
  have I8 := Lib.hid (I7.out.below b8)
  have R8 := Lib.hid (R7.out.below local_int b8)
  have F8 := Lib.hid i8
  have B8 := Lib.hid (B7.out.trans (b8.mono B7.out.size))
  clear b8 i8 x0 x1 x0l x1l K7 M7 I7 R7 E7 B7
  have x0 := one_cell_ K8.out
  have x0l := K8.out.lt
  simp only [Disk.list]
  cases ok with
  | false =>
    have hfull := HNO.out rfl
    have hB8 := B8.out
    have hfl2 : fl = x.files.length := HFL.out.symm
    by_cases h0 : nm.size = 0
    · have hn0 : nm = ⟨#[]⟩ := by
        have h0' := h0
        simp at h0'
        exact h0'
      subst hn0
      go_wp2_with fail
      go_ret
      exact ⟨rfl, by have hb := B8.out; have hbs := hb.size; repeat (first | exact Below.refl _ _ | refine Below.setCell ?_ (by first | omega | (simp; done) | (simp; omega)) _ | refine Below.alloc ?_ (by first | omega | (simp; done) | (simp; omega)) _ | apply Below.drew | refine Below.trans ?_ (hb.mono (by first | omega | (simp; done) | (simp; omega))))⟩
    · have hn1 : (nm.toList == []) = false := by
        rw [beq_eq_false_iff_ne]
        intro e
        rw [Lib.toList_data] at e
        exact h0 (by show nm.data.size = 0; rw [← Array.length_toList, e]; rfl)
      by_cases h20 : 20 < nm.size
      · have h20i : (20 : Int) < (nm.size : Int) := by omega
        go_wp2_with fail
        go_ret
        exact ⟨rfl, by have hb := B8.out; have hbs := hb.size; repeat (first | exact Below.refl _ _ | refine Below.setCell ?_ (by first | omega | (simp; done) | (simp; omega)) _ | refine Below.alloc ?_ (by first | omega | (simp; done) | (simp; omega)) _ | apply Below.drew | refine Below.trans ?_ (hb.mono (by first | omega | (simp; done) | (simp; omega))))⟩
      · have h4 : fl = 4 := by
          rw [hfl2]
          rcases hfull with h | h | h
          · exact absurd h h0
          · exact absurd h h20
          · exact h
        have h20i : ¬ (20 : Int) < (nm.size : Int) := by omega
        have h4i : ((fl : Int) == 4) = true := by simp; omega
        clear h4 hfl2 hfull h0 h20
        go_wp2_with fail
        go_ret
        exact ⟨rfl, by have hb := B8.out; have hbs := hb.size; repeat (first | exact Below.refl _ _ | refine Below.setCell ?_ (by first | omega | (simp; done) | (simp; omega)) _ | refine Below.alloc ?_ (by first | omega | (simp; done) | (simp; omega)) _ | apply Below.drew | refine Below.trans ?_ (hb.mono (by first | omega | (simp; done) | (simp; omega))))⟩
  | true =>
  have hf := HYES.out rfl
  obtain ⟨lg, hlg⟩ : ∃ lg, crashD lf cuts = lg := ⟨_, rfl⟩
  obtain ⟨g1, ⟨k, hk, g2⟩, g3, g4⟩ := hf
  rw [HLS.out, HLF.out, hlg] at g1 g2 g3 g4
  have G1 := Lib.hid g1
  have G2 := Lib.hid g2
  have G3 := Lib.hid g3
  have G4 := Lib.hid g4
  have HKK := Lib.hid hk
  have hzg : Disk.sz ⟨lg⟩ ≤ 2000000 := by rw [← hlg]; exact crash_small _ _
  have HZG := Lib.hid hzg
  clear g1 g2 g3 g4 hk hzg HNO HYES
  go_wp2_with fail
  refine calls_gen (fun W => Below w8.heap.size w8 W ∧ Blk W w8.heap.size 26 [.slice ga gl gc]) ⟨by repeat (first | exact Below.refl _ _ | refine Below.setCell ?_ (by first | omega | (simp; done) | (simp; omega)) _ | refine Below.alloc ?_ (by first | omega | (simp; done) | (simp; omega)) _ | apply Below.drew), by with_reducible (repeat (first | (refine blk_new_at _ _ _ _ ?_; first | rfl | (simp; done)) | refine Blk.alloc ?_ _ | apply Blk.drew | refine Blk.setOther ?_ (by first | (simp; done) | (simp; omega)) _))⟩ ?_
  rintro W8 ⟨c8, n8⟩
  have hiC := impl_DiskCrash ⟨lf⟩ ⟨ga, gl, gc⟩ f8 ca cn cc cuts cf W8 (F8.out.below c8) (R8.out.below local_int c8) HCU.out.1 HCU.out.2.1 HZF.out (by have := HCU.out.2.2; omega)
  rw [show crashD (DiskD.files ⟨lf⟩) cuts = lg from hlg] at hiC
  refine hiC.mono ?_
  clear hiC hlg
  rintro e w9 ⟨h9, f9, rfl, i9, _, b9⟩
  obtain ⟨ha, hl, hc⟩ := h9
  have c89 := c8.trans (b9.mono c8.size)
  have K9 := Lib.hid (K8.out.below c89 K8.out.lt)
  have I9 := Lib.hid (I8.out.below c89)
  have R9 := Lib.hid (R8.out.below local_int c89)
  have L9 := Lib.hid i9
  have B9 := Lib.hid (B8.out.trans (c89.mono B8.out.size))
  have y0 := one_cell_ K9.out
  have y0l := K9.out.lt
  clear c8 n8 i9 b9 c89 x0 x0l K8 M8 I8 R8 F8 B8
  simp only [Disk.list]
  go_wp2_with fail
  refine wp_gen (fun W => Below w9.heap.size w9 W ∧ Blk W w9.heap.size 26 [.slice ha hl hc]) ⟨by repeat (first | exact Below.refl _ _ | refine Below.setCell ?_ (by first | omega | (simp; done) | (simp; omega)) _ | refine Below.alloc ?_ (by first | omega | (simp; done) | (simp; omega)) _ | apply Below.drew), by with_reducible (repeat (first | (refine blk_new_at _ _ _ _ ?_; first | rfl | (simp; done)) | refine Blk.alloc ?_ _ | apply Blk.drew | refine Blk.setOther ?_ (by first | (simp; done) | (simp; omega)) _))⟩ ?_
  rintro X ⟨cx, nx⟩
  have KX := Lib.hid (K9.out.below cx K9.out.lt)
  have NX := Lib.hid nx
  have IX := Lib.hid (I9.out.below cx)
  have RX := Lib.hid (R9.out.below local_int cx)
  have LX := Lib.hid (L9.out.below cx)
  have BX := Lib.hid (B9.out.trans (cx.mono B9.out.size))
  clear cx nx y0 y0l K9 I9 R9 L9 B9
  generalize w9.heap.size = q9 at *
  have z0 := one_cell_ KX.out
  have z1 := one_cell_ NX.out
  have hS3 : ∀ (V : World), Below X.heap.size X V → V.cell? ⟨q1, 0, none⟩ = some (.slice fa fl fc) ∧ V.cell? ⟨q9, 0, none⟩ = some (.slice ha hl hc) := fun _ hb => ⟨(hb.cell (p := ⟨q1, 0, none⟩) KX.out.lt).trans z0, (hb.cell (p := ⟨q9, 0, none⟩) NX.out.lt).trans z1⟩
  have HS3 := Lib.hid hS3
  clear hS3
  obtain ⟨was, hwas⟩ : ∃ was, readD x.files nm = was := ⟨_, rfl⟩
  have HWAS := Lib.hid hwas
  have HTW := Lib.hid (show was.size ≤ 100 by rw [← hwas]; exact HTI.out)
  clear hwas
  refine mix.wp_region_ord (fun w' => w'.cell? ⟨q1, 0, none⟩ = some (.slice fa fl fc) ∧ w'.cell? ⟨q9, 0, none⟩ = some (.slice ha hl hc)) [2,5] [0,1,3,4,2,5,6,7] (by kernel_rfl) (by kernel_rfl) (fun _ _ d _ _ h => by cases d <;> exact h) ⟨z0, z1⟩ ?_
  clear z0 z1
  simp only [List.filterMap_cons, List.filterMap_nil, List.getElem?_cons_zero, List.getElem?_cons_succ, Option.map_some]
  (repeat (first | (apply mix.ord_take; (· rfl); (· rfl); (· (intro w' hSw; (try dsimp only at hSw); go_simp; try with_reducible rfl)); (try simp only [Act.put, List.setIfInBounds_toArray, List.set_cons_zero, List.set_cons_succ])) | ((refine mix.ord_pass rfl (by rfl) ?_); (try simp only [Act.put, List.setIfInBounds_toArray, List.set_cons_zero, List.set_cons_succ]))))
  refine mix.ord_hard rfl (fun K hK => ?_); go_simp
  refine (impl_DiskRead x ⟨fa, fl, fc⟩ fp nm _ (IX.out.below (Below.refl _ _).drew) (by have := HNS.out; omega) HZ.out).mono ?_
  rintro e v1 ⟨rfl, b1⟩
  rw [HWAS.out]
  have c1 : Below X.heap.size X v1 := (Below.refl _ _).drew.trans b1
  have S1 := Lib.hid (HS3.out _ c1)
  have C1 := Lib.hid c1
  clear b1 c1
  refine hK.out _ _ (S1.out) (fun hSw => ?_); clear hK K hSw; (try simp only [Act.put, List.setIfInBounds_toArray, List.set_cons_zero, List.set_cons_succ])
  refine mix.ord_hard rfl (fun K hK => ?_); go_simp
  refine (impl_DiskRead ⟨lg⟩ ⟨ha, hl, hc⟩ f9 nm v1 (LX.out.below C1.out) (by have := HNS.out; omega) HZG.out).mono ?_
  rintro e v2 ⟨rfl, b2⟩
  obtain ⟨now, hnow⟩ : ∃ now, readD lg nm = now := ⟨_, rfl⟩
  rw [show readD (DiskD.files ⟨lg⟩) nm = now from hnow]
  have c2 : Below X.heap.size X v2 := C1.out.trans (b2.mono C1.out.size)
  have S2 := Lib.hid (HS3.out _ c2)
  have K2 := Lib.hid (KX.out.below c2 KX.out.lt)
  have N2 := Lib.hid (NX.out.below c2 NX.out.lt)
  have R2 := Lib.hid (RX.out.below local_int c2)
  have L2 := Lib.hid (LX.out.below c2)
  have B2 := Lib.hid (BX.out.trans (c2.mono BX.out.size))
  have hnw : now = (was ++ moreT).extract 0 (was.size + k) := by rw [← hnow, G2.out, HWAS.out]
  have hsz : now.size = was.size + k := by rw [hnw]; exact ext_size was moreT HKK.out
  have hex : now.extract 0 was.size = was := by rw [hnw]; exact ext_was was moreT k
  have HEX := Lib.hid (And.intro hsz hex)
  clear b2 c2 hnow hnw hsz hex
  refine hK.out _ _ (S2.out) (fun hSw => ?_); clear hK K hSw; (try simp only [Act.put, List.setIfInBounds_toArray, List.set_cons_zero, List.set_cons_succ])
  (repeat (first | (apply mix.ord_take; (· rfl); (· rfl); (· (intro w' hSw; (try dsimp only at hSw); go_simp; try with_reducible rfl)); (try simp only [Act.put, List.setIfInBounds_toArray, List.set_cons_zero, List.set_cons_succ])) | ((refine mix.ord_pass rfl (by rfl) ?_); (try simp only [Act.put, List.setIfInBounds_toArray, List.set_cons_zero, List.set_cons_succ]))))
  refine mix.ord_end ?_
  clear S1 S2 C1 KX NX IX RX LX BX
  have hk4 : k ≤ 4 := HKK.out
  have hsz := HEX.out.1
  have hw100 := HTW.out
  have hlt1 : ¬ (now.size : Int) < (was.size : Int) := by omega
  have hlt2 : ¬ (was.size : Int) + 4 < (now.size : Int) := by omega
  have hwle : (was.size : Int) ≤ (now.size : Int) := by omega
  have hwle2 : was.size ≤ now.size := by omega
  have hex := HEX.out.2
  have x1 := one_cell_ N2.out
  have x1l := N2.out.lt
  clear hsz
  go_wp2_with fail
  refine (impl_DiskOk ⟨lg⟩ ⟨ha, hl, hc⟩ f9 v2 L2.out HZG.out).mono ?_
  rintro e v3 ⟨rfl, b3⟩
  rw [show diskB (DiskD.files ⟨lg⟩) = true from G1.out]
  have N3 := Lib.hid (N2.out.below b3 N2.out.lt)
  have R3 := Lib.hid (R2.out.below local_int b3)
  have L3 := Lib.hid (L2.out.below b3)
  have B3 := Lib.hid (B2.out.trans (b3.mono B2.out.size))
  clear b3 x1 x1l K2 N2 R2 L2 B2 hlt1 hlt2 hwle hwle2 hex hk4 hw100
  go_wp2_with fail
  have RR := Lib.hid (Disk.row L3.out).1
  have hhl : hl ≤ 2000000 := by have := Disk.len_le HZG.out; rw [RR.out.1] at this; exact this
  go_loopg [15] hl (fun k i wr => ∃ j : Nat, j + k = hl ∧ i = .int .i64 j ∧ Below v3.heap.size v3 wr)
  case atStart => exact ⟨0, by omega, rfl, Below.refl _ _⟩
  case round =>
    obtain ⟨j, hj, rfl, hB⟩ := hrel
    have HB := Lib.hid hB
    have N4 := Lib.hid (N3.out.below hB N3.out.lt)
    have s1 := one_cell_ N4.out
    have s1l := N4.out.lt
    by_cases hlt : j < hl
    · obtain ⟨b, off, y, f, cs, rfl, hbl, hy, hcl, hR, hc'⟩ := RR.out.at hlt
      obtain ⟨rfl, _, _, _, rfl⟩ := hR
      have hsn := G3.out y (List.mem_of_getElem? hy)
      have d1 : wr.cell? ⟨b, off + j * 3 + 1, none⟩ = some (.string y.now) := by have := (hB.cell (p := ⟨b, off + j * 3 + 1, none⟩) hbl).trans (hc' 1 (by omega)); rw [← hsn]; simpa [File.list] using this
      have d2 : wr.cell? ⟨b, off + j * 3 + 2, none⟩ = some (.string y.now) := by have := (hB.cell (p := ⟨b, off + j * 3 + 2, none⟩) hbl).trans (hc' 2 (by omega)); simpa [File.list] using this
      have hlt2 : (j : Int) < (hl : Int) := by omega
      have h02 : (0 : Int) ≤ (j : Int) := by omega
      clear hB hy hc' hcl hsn
      go_wp2_with fail
      go_quiet (fail)
      go_wp2_with fail
      go_roundg (hl - (j + 1))
      case measure => omega
      case rel => exact ⟨j + 1, by omega, by go_num, below_drewN_ HB.out _⟩
    · have R4 := Lib.hid (R3.out.below local_int hB)
      have L4 := Lib.hid (L3.out.below hB)
      have B4 := Lib.hid (B3.out.trans (hB.mono B3.out.size))
      clear hB HB
      go_wp2_with fail
      refine mix.wp_region_ord (fun w' => w'.cell? ⟨q9, 0, none⟩ = some (.slice ha hl hc)) [2,4] [0,1,3,2,4,5] (by kernel_rfl) (by kernel_rfl) (fun _ _ d _ _ h => by cases d <;> exact h) s1 ?_
      simp only [List.filterMap_cons, List.filterMap_nil, List.getElem?_cons_zero, List.getElem?_cons_succ, Option.map_some]
      (repeat (first | (apply mix.ord_take; (· rfl); (· rfl); (· (intro w' hSw; (try dsimp only at hSw); go_simp; try with_reducible rfl)); (try simp only [Act.put, List.setIfInBounds_toArray, List.set_cons_zero, List.set_cons_succ])) | ((refine mix.ord_pass rfl (by rfl) ?_); (try simp only [Act.put, List.setIfInBounds_toArray, List.set_cons_zero, List.set_cons_succ]))))
      refine mix.ord_hard rfl (fun K hK => ?_); go_simp
      have hiC := impl_DiskCrash ⟨lg⟩ ⟨ha, hl, hc⟩ f9 ca cn cc cuts cf wr.drew (L4.out.below (Below.refl _ _).drew) (R4.out.below local_int (Below.refl _ _).drew) HCU.out.1 HCU.out.2.1 HZG.out (by have := HCU.out.2.2; omega)
      rw [show crashD (DiskD.files ⟨lg⟩) cuts = lg from G4.out] at hiC
      refine hiC.mono ?_
      clear hiC
      rintro e v5 ⟨h5, f5, rfl, i5, _, b5⟩
      obtain ⟨ja, jl, jc⟩ := h5
      have c5 : Below wr.heap.size wr v5 := (Below.refl _ _).drew.trans b5
      have S5 := Lib.hid ((c5.cell (p := ⟨q9, 0, none⟩) N4.out.lt).trans s1)
      have C5 := Lib.hid c5
      have J5 := Lib.hid i5
      clear b5 c5 i5
      simp only [Disk.list]
      refine hK.out _ _ (S5.out) (fun hSw => ?_); clear hK K hSw; (try simp only [Act.put, List.setIfInBounds_toArray, List.set_cons_zero, List.set_cons_succ])
      refine mix.ord_hard rfl (fun K hK => ?_); go_simp
      refine (sameDisk_same ⟨lg⟩ ⟨ja, jl, jc⟩ ⟨ha, hl, hc⟩ f5 f9 v5 J5.out (L4.out.below C5.out) HZG.out).mono ?_
      rintro e v6 ⟨rfl, b6⟩
      have c6 : Below wr.heap.size wr v6 := C5.out.trans (b6.mono C5.out.size)
      have S6 := Lib.hid ((c6.cell (p := ⟨q9, 0, none⟩) N4.out.lt).trans s1)
      have B6 := Lib.hid (B4.out.trans (c6.mono B4.out.size))
      clear b6 c6
      refine hK.out _ _ (S6.out) (fun hSw => ?_); clear hK K hSw; (try simp only [Act.put, List.setIfInBounds_toArray, List.set_cons_zero, List.set_cons_succ])
      (repeat (first | (apply mix.ord_take; (· rfl); (· rfl); (· (intro w' hSw; (try dsimp only at hSw); go_simp; try with_reducible rfl)); (try simp only [Act.put, List.setIfInBounds_toArray, List.set_cons_zero, List.set_cons_succ])) | ((refine mix.ord_pass rfl (by rfl) ?_); (try simp only [Act.put, List.setIfInBounds_toArray, List.set_cons_zero, List.set_cons_succ]))))
      refine mix.ord_end ?_
      go_wp2_with fail
      go_ret
      exact ⟨rfl, B6.out⟩
end Go.Proofs.Ytoglclmaacjdaaa.dat
