/-
  THE WALK OF THE LAW FnDiskKept: whatever the code, it answers true; nothing that was there is written.
-/
import Derived.Test.YtoglclmaacjdaaaSameDisk
import Derived.Test.YtoglclmaacjdaaaKeptMath
import Derived.Test.YtoglclmaacjdaaaLawsPick
namespace Go.Proofs.Ytoglclmaacjdaaa.dat
open Go.RowKit Go.Proofs.Ytoglclmaacjdaaa.win Go.Proofs.Ytoglclmaacjdaaa.cur

theorem one_cell {W : World} {p : Nat} {t : TypeId} {v : Value} (k : Blk W p t [v]) : W.cell? ⟨p, 0, none⟩ = some v := by simpa using k.cell 0
set_option maxRecDepth 100000 in
set_option maxHeartbeats 4000000 in
theorem law_FnDiskKept (a : Option Addr) (len cap : Nat) (zs : List Int) (w : World) (hrow : IsRow .u8 w a len cap zs) :
    Calls Try.prog 4 #[.slice a len cap] w fun e w' => e = .returned (.bool true) ∧ Below w.heap.size w w' := by
  have HK := Lib.hid (code_of_row hrow)
  clear hrow
  obtain ⟨t1, ht1⟩ : ∃ t, decide (1048576 < len) = t := ⟨_, rfl⟩
  have hb1 := Lib.hid (fun W => big_any a len cap t1 W ht1)
  have HT1 := Lib.hid ht1
  clear ht1
  cases t1
  case true =>
    go_enter Try.func4, Try.ntmps4
    go_wp2_with fail
    refine (hb1.out w).mono ?_
    rintro e w' ⟨rfl, rfl⟩
    go_wp2_with fail
    go_ret
    exact ⟨rfl, Below.refl _ _⟩
  case false =>
  have hbig : ¬ 1048576 < len := of_decide_eq_false HT1.out
  go_enter Try.func4, Try.ntmps4
  go_wp2_with fail
  refine (hb1.out w).mono ?_
  rintro e w' ⟨rfl, rfl⟩
  go_wp2_with fail
  clear hb1 HT1
  refine (DrawDiskPut_any _ _ _ _ (by omega) HK.out).mono ?_
  rintro e w1 ⟨x, h, fp, nm, s, rfl, hI, hl5, hS, hnm, hs, hb1⟩
  obtain ⟨fa, fl, fc⟩ := h
  have B1 := Lib.hid hb1
  have I1 := Lib.hid hI
  have HZ := Lib.hid (Tiny.small ⟨hl5, hS⟩)
  have HNS := Lib.hid (And.intro hnm hs)
  clear hb1 hI hl5 hS HK hbig hnm hs
  simp only [Disk.list]
  go_wp2_with fail
  refine calls_gen (fun W => Below w1.heap.size w1 W ∧ Blk W w1.heap.size 26 [.slice fa fl fc]) ⟨by repeat (first | exact Below.refl _ _ | refine Below.setCell ?_ (by first | omega | (simp; done) | (simp; omega)) _ | refine Below.alloc ?_ (by first | omega | (simp; done) | (simp; omega)) _ | apply Below.drew), by with_reducible (repeat (first | (refine blk_new_at _ _ _ _ ?_; first | rfl | (simp; done)) | refine Blk.alloc ?_ _ | apply Blk.drew | refine Blk.setOther ?_ (by first | (simp; done) | (simp; omega)) _))⟩ ?_
  rintro W1 ⟨c1, k1⟩
  have hq1 := k1.lt
  have CC1 := Lib.hid (B1.out.trans (c1.mono B1.out.size))
  obtain ⟨ls, hls⟩ : ∃ ls, (putD x.files nm s).1 = ls := ⟨_, rfl⟩
  obtain ⟨ok, hok⟩ : ∃ ok, (putD x.files nm s).2 = ok := ⟨_, rfl⟩
  have hiP := impl_DiskPut x ⟨fa, fl, fc⟩ fp nm s W1 (I1.out.below c1) (by have := HNS.out; omega) (by have := HNS.out; omega) HZ.out
  have hsP := Lib.hid (fun W hin => spec_DiskPut x ⟨fa, fl, fc⟩ fp nm s W hin (by have := HNS.out; omega) (by have := HNS.out; omega) HZ.out)
  have hzl : Disk.sz ⟨ls⟩ ≤ 2000000 := by rw [← hls]; exact put_small _ _ _
  have HKE := Lib.hid (fun h : ok = true => by have := put_kept (l := x.files) (name := nm) (s := s) (by rw [hok]; exact h); rw [hls] at this; exact this)
  have HNO := Lib.hid (fun h : ok = false => by have := putD_false (l := x.files) (name := nm) (s := s) (by rw [hok]; exact h); rw [hls] at this; exact this)
  rw [hls, hok] at hiP hsP
  have HZL := Lib.hid hzl
  have K1 := Lib.hid k1
  have I1' := Lib.hid (I1.out.below c1)
  clear hls hok hzl k1 I1
  refine hiP.mono ?_
  clear hiP
  rintro e w2 ⟨h2, f2, rfl, i2, _, b2⟩
  obtain ⟨ea, el, ec⟩ := h2
  have HL2 := Lib.hid (Disk.row i2).1.1
  have BB2 := Lib.hid (CC1.out.trans (b2.mono CC1.out.size))
  have K2 := Lib.hid (K1.out.below b2 K1.out.lt)
  have I2 := Lib.hid (I1'.out.below b2)
  have E2 := Lib.hid i2
  have x0 := one_cell K2.out
  have x0l := K2.out.lt
  clear b2 i2 c1 CC1 K1 I1' B1
  simp only [Disk.list]
  go_wp2_with fail
  refine calls_gen (fun W => Below w2.heap.size w2 W ∧ Blk W w2.heap.size 26 [.slice ea el ec]) ⟨by repeat (first | exact Below.refl _ _ | refine Below.setCell ?_ (by first | omega | (simp; done) | (simp; omega)) _ | refine Below.alloc ?_ (by first | omega | (simp; done) | (simp; omega)) _ | apply Below.drew), by with_reducible (repeat (first | (refine blk_new_at _ _ _ _ ?_; first | rfl | (simp; done)) | refine Blk.alloc ?_ _ | apply Blk.drew | refine Blk.setOther ?_ (by first | (simp; done) | (simp; omega)) _))⟩ ?_
  rintro W2 ⟨c2, k2⟩
  have hq2 := k2.lt
  refine (hsP.out W2 (I2.out.below c2)).mono ?_
  rintro e w3 ⟨h3, f3, rfl, i3, _, b3⟩
  obtain ⟨ga, gl, gc⟩ := h3
  have c23 := c2.trans (b3.mono c2.size)
  have BB3 := Lib.hid (BB2.out.trans (c23.mono BB2.out.size))
  have K3 := Lib.hid (K2.out.below c23 K2.out.lt)
  have M3 := Lib.hid (k2.below b3 k2.lt)
  have I3 := Lib.hid (I2.out.below c23)
  have E3 := Lib.hid (E2.out.below c23)
  have G3 := Lib.hid i3
  have y0 := one_cell K3.out
  have y1 := one_cell M3.out
  have y0l := K3.out.lt
  have y1l := M3.out.lt
  clear x0 x0l c2 k2 b3 i3 c23 hsP K2 I2 E2 BB2
  simp only [Disk.list]
  cases ok with
  | false =>
    have hnil : ls = [] := HNO.out rfl
    have hel : el = 0 := by rw [← HL2.out, hnil]; rfl
    subst hnil hel
    go_wp2_with fail
    refine calls_gen (fun W => Below w3.heap.size w3 W ∧ Blk W w3.heap.size 26 [.slice ga gl gc]) ⟨by repeat (first | exact Below.refl _ _ | refine Below.setCell ?_ (by first | omega | (simp; done) | (simp; omega)) _ | refine Below.alloc ?_ (by first | omega | (simp; done) | (simp; omega)) _ | apply Below.drew), by with_reducible (repeat (first | (refine blk_new_at _ _ _ _ ?_; first | rfl | (simp; done)) | refine Blk.alloc ?_ _ | apply Blk.drew | refine Blk.setOther ?_ (by first | (simp; done) | (simp; omega)) _))⟩ ?_
    rintro W3 ⟨c3, k3⟩
    refine (sameDisk_same ⟨[]⟩ ⟨ea, 0, ec⟩ ⟨ga, gl, gc⟩ f2 f3 W3 (E3.out.below c3) (G3.out.below c3) HZL.out).mono ?_
    rintro e w4 ⟨rfl, b4⟩
    have c34 := c3.trans (b4.mono c3.size)
    have BB4 := Lib.hid (BB3.out.trans (c34.mono BB3.out.size))
    have M4 := Lib.hid (M3.out.below c34 M3.out.lt)
    have z1 := one_cell M4.out
    clear c3 k3 b4 c34 y0 y1
    go_wp2_with fail
    go_ret
    exact ⟨rfl, BB4.out⟩
  | true =>
  obtain ⟨q1, q2, q3⟩ := HKE.out rfl
  have Q1 := Lib.hid q1
  have Q2 := Lib.hid q2
  have Q3 := Lib.hid q3
  clear q1 q2 q3 HKE HNO
  go_wp2_with fail
  refine calls_gen (fun W => Below w3.heap.size w3 W ∧ Blk W w3.heap.size 26 [.slice ga gl gc]) ⟨by repeat (first | exact Below.refl _ _ | refine Below.setCell ?_ (by first | omega | (simp; done) | (simp; omega)) _ | refine Below.alloc ?_ (by first | omega | (simp; done) | (simp; omega)) _ | apply Below.drew), by with_reducible (repeat (first | (refine blk_new_at _ _ _ _ ?_; first | rfl | (simp; done)) | refine Blk.alloc ?_ _ | apply Blk.drew | refine Blk.setOther ?_ (by first | (simp; done) | (simp; omega)) _))⟩ ?_
  rintro W3 ⟨c3, k3⟩
  refine (sameDisk_same ⟨ls⟩ ⟨ea, el, ec⟩ ⟨ga, gl, gc⟩ f2 f3 W3 (E3.out.below c3) (G3.out.below c3) HZL.out).mono ?_
  rintro e w4 ⟨rfl, b4⟩
  have c34 := c3.trans (b4.mono c3.size)
  have BB4 := Lib.hid (BB3.out.trans (c34.mono BB3.out.size))
  have K4 := Lib.hid (K3.out.below c34 K3.out.lt)
  have M4 := Lib.hid (M3.out.below c34 M3.out.lt)
  have I4 := Lib.hid (I3.out.below c34)
  have E4 := Lib.hid (E3.out.below c34)
  have z0 := one_cell K4.out
  have z1 := one_cell M4.out
  clear c3 k3 b4 c34 y0 y1 K3 M3 I3 E3 G3 BB3
  go_wp2_with fail
  refine (impl_DiskRead ⟨ls⟩ ⟨ea, el, ec⟩ f2 nm w4 E4.out (by have := HNS.out; omega) HZL.out).mono ?_
  rintro e w5 ⟨rfl, b5⟩
  rw [show readD (DiskD.files ⟨ls⟩) nm = s from Q2.out]
  have BB5 := Lib.hid (BB4.out.trans (b5.mono BB4.out.size))
  have K5 := Lib.hid (K4.out.below b5 K4.out.lt)
  have M5 := Lib.hid (M4.out.below b5 M4.out.lt)
  have I5 := Lib.hid (I4.out.below b5)
  have E5 := Lib.hid (E4.out.below b5)
  have u1 := one_cell M5.out
  clear b5 z0 z1 K4 M4 I4 E4 BB4
  go_wp2_with fail
  refine (impl_DiskOk ⟨ls⟩ ⟨ea, el, ec⟩ f2 w5 E5.out HZL.out).mono ?_
  rintro e w6 ⟨rfl, b6⟩
  rw [show diskB (DiskD.files ⟨ls⟩) = true from Q1.out]
  have BB6 := Lib.hid (BB5.out.trans (b6.mono BB5.out.size))
  have K6 := Lib.hid (K5.out.below b6 K5.out.lt)
  have M6 := Lib.hid (M5.out.below b6 M5.out.lt)
  have I6 := Lib.hid (I5.out.below b6)
  have E6 := Lib.hid (E5.out.below b6)
  clear b6 u1 K5 M5 I5 E5 BB5
  go_wp2_with fail
  have R6 := Lib.hid (Disk.row I6.out).1
  have hfl2 : fl ≤ 2000000 := by have := Disk.len_le HZ.out; rw [R6.out.1] at this; exact this
  go_loopg [10] fl (fun k i wr => ∃ j : Nat, j + k = fl ∧ i = .int .i64 j ∧ Below w6.heap.size w6 wr)
  case atStart => exact ⟨0, by omega, rfl, Below.refl _ _⟩
  case round =>
    obtain ⟨j, hj, rfl, hB⟩ := hrel
    have HB := Lib.hid hB
    have K7 := Lib.hid (K6.out.below hB K6.out.lt)
    have M7 := Lib.hid (M6.out.below hB M6.out.lt)
    have E7 := Lib.hid (E6.out.below hB)
    have s0 := one_cell K7.out
    have s1 := one_cell M7.out
    by_cases hlt : j < fl
    · obtain ⟨b, off, y, f, cs, rfl, hbl, hy, hcl, hR, hc⟩ := R6.out.at hlt
      obtain ⟨rfl, hy0, _, _, rfl⟩ := hR
      have d0 : wr.cell? ⟨b, off + j * 3, none⟩ = some (.string y.name) := by have := (hB.cell (p := ⟨b, off + j * 3 + 0, none⟩) hbl).trans (hc 0 (by omega)); simpa [File.list] using this
      have d2 : wr.cell? ⟨b, off + j * 3 + 2, none⟩ = some (.string y.now) := by have := (hB.cell (p := ⟨b, off + j * 3 + 2, none⟩) hbl).trans (hc 2 (by omega)); simpa [File.list] using this
      have hbw : b < wr.heap.size := Nat.lt_of_lt_of_le hbl hB.size
      have hlt2 : (j : Int) < (fl : Int) := by omega
      have h02 : (0 : Int) ≤ (j : Int) := by omega
      have HY := Lib.hid (Q3.out y (List.mem_of_getElem? hy))
      have HY0 := Lib.hid hy0
      clear hB hy hc hcl hy0
      by_cases hn : y.name = nm
      · have hne : (y.name.toList != nm.toList) = false := by rw [hn]; simp
        have hne2 : (y.name.toList == nm.toList) = true := by rw [hn]; simp
        clear hn
        go_wp2_with fail
        refine mix.wp_region_ord (fun w' => w'.cell? ⟨w1.heap.size, 0, none⟩ = some (.slice (some ⟨b, off, none⟩) fl fc) ∧ w'.cell? ⟨b, off + j * 3, none⟩ = some (.string y.name)) [16] [0,1,2,3,4,5,6,7,8,9,10,11,12,13,14,15,17,18,19,20,21,22,16,23,24] (by kernel_rfl) (by kernel_rfl) (fun _ _ d _ _ h => by cases d <;> exact h) ⟨s0, d0⟩ ?_
        simp only [List.filterMap_cons, List.filterMap_nil, List.getElem?_cons_zero, List.getElem?_cons_succ, Option.map_some]
        (repeat (first | (apply mix.ord_take; (· rfl); (· rfl); (· (intro w' hSw; (try dsimp only at hSw); go_simp; try with_reducible rfl)); (try simp only [Act.put, List.setIfInBounds_toArray, List.set_cons_zero, List.set_cons_succ])) | ((refine mix.ord_pass rfl (by rfl) ?_); (try simp only [Act.put, List.setIfInBounds_toArray, List.set_cons_zero, List.set_cons_succ]))))
        refine mix.ord_hard rfl (fun K hK => ?_); go_simp
        refine hK.out _ _ (⟨s0, d0⟩) (fun hSw => ?_); clear hK K hSw; (try simp only [Act.put, List.setIfInBounds_toArray, List.set_cons_zero, List.set_cons_succ])
        (repeat (first | (apply mix.ord_take; (· rfl); (· rfl); (· (intro w' hSw; (try dsimp only at hSw); go_simp; try with_reducible rfl)); (try simp only [Act.put, List.setIfInBounds_toArray, List.set_cons_zero, List.set_cons_succ])) | ((refine mix.ord_pass rfl (by rfl) ?_); (try simp only [Act.put, List.setIfInBounds_toArray, List.set_cons_zero, List.set_cons_succ]))))
        refine mix.ord_end ?_
        go_wp2_with fail
        go_roundg (fl - (j + 1))
        case measure => omega
        case rel => exact ⟨j + 1, by omega, by go_num, below_drewN_ HB.out 1⟩
      · have hne : (y.name.toList == nm.toList) = false := by
          rw [beq_eq_false_iff_ne]
          exact fun e => hn (toList_inj.1 e)
        have HR := Lib.hid (HY.out hn)
        clear hn
        go_wp2_with fail
        refine mix.wp_region_ord (fun w' => w'.cell? ⟨w1.heap.size, 0, none⟩ = some (.slice (some ⟨b, off, none⟩) fl fc) ∧ w'.cell? ⟨w2.heap.size, 0, none⟩ = some (.slice ea el ec) ∧ w'.cell? ⟨b, off + j * 3, none⟩ = some (.string y.name) ∧ w'.cell? ⟨b, off + j * 3 + 2, none⟩ = some (.string y.now)) [16] [0,1,2,3,4,5,6,7,8,9,10,11,12,13,14,15,17,18,19,20,21,22,16,23,24] (by kernel_rfl) (by kernel_rfl) (fun _ _ d _ _ h => by cases d <;> exact h) ⟨s0, s1, d0, d2⟩ ?_
        simp only [List.filterMap_cons, List.filterMap_nil, List.getElem?_cons_zero, List.getElem?_cons_succ, Option.map_some]
        (repeat (first | (apply mix.ord_take; (· rfl); (· rfl); (· (intro w' hSw; (try dsimp only at hSw); go_simp; try with_reducible rfl)); (try simp only [Act.put, List.setIfInBounds_toArray, List.set_cons_zero, List.set_cons_succ])) | ((refine mix.ord_pass rfl (by rfl) ?_); (try simp only [Act.put, List.setIfInBounds_toArray, List.set_cons_zero, List.set_cons_succ]))))
        refine mix.ord_hard rfl (fun K hK => ?_); go_simp
        refine (impl_DiskRead ⟨ls⟩ ⟨ea, el, ec⟩ f2 y.name _ (E7.out.below (Below.refl _ _).drew) HY0.out HZL.out).mono ?_
        rintro e w8 ⟨rfl, b8⟩
        rw [show readD (DiskD.files ⟨ls⟩) y.name = y.now from HR.out]
        have b8' : Below wr.heap.size wr w8 := (Below.refl _ _).drew.trans b8
        have S8 := Lib.hid (show w8.cell? ⟨w1.heap.size, 0, none⟩ = some (.slice (some ⟨b, off, none⟩) fl fc) ∧ w8.cell? ⟨w2.heap.size, 0, none⟩ = some (.slice ea el ec) ∧ w8.cell? ⟨b, off + j * 3, none⟩ = some (.string y.name) ∧ w8.cell? ⟨b, off + j * 3 + 2, none⟩ = some (.string y.now) from
          ⟨(b8'.cell (p := ⟨w1.heap.size, 0, none⟩) K7.out.lt).trans s0, (b8'.cell (p := ⟨w2.heap.size, 0, none⟩) M7.out.lt).trans s1, (b8'.cell (p := ⟨b, off + j * 3, none⟩) hbw).trans d0, (b8'.cell (p := ⟨b, off + j * 3 + 2, none⟩) hbw).trans d2⟩)
        have B8 := Lib.hid (HB.out.trans (b8'.mono HB.out.size))
        clear b8 b8'
        refine hK.out _ _ (S8.out) (fun hSw => ?_); clear hK K hSw; (try simp only [Act.put, List.setIfInBounds_toArray, List.set_cons_zero, List.set_cons_succ])
        (repeat (first | (apply mix.ord_take; (· rfl); (· rfl); (· (intro w' hSw; (try dsimp only at hSw); go_simp; try with_reducible rfl)); (try simp only [Act.put, List.setIfInBounds_toArray, List.set_cons_zero, List.set_cons_succ])) | ((refine mix.ord_pass rfl (by rfl) ?_); (try simp only [Act.put, List.setIfInBounds_toArray, List.set_cons_zero, List.set_cons_succ]))))
        refine mix.ord_end ?_
        go_wp2_with fail
        go_roundg (fl - (j + 1))
        case measure => omega
        case rel => exact ⟨j + 1, by omega, by go_num, B8.out⟩
    · have B9 := Lib.hid (BB6.out.trans (hB.mono BB6.out.size))
      clear hB
      go_wp2_with fail
      go_ret
      exact ⟨rfl, B9.out⟩
end Go.Proofs.Ytoglclmaacjdaaa.dat
