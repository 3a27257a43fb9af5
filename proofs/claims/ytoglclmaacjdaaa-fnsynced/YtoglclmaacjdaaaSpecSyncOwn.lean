/-
  THE CONTRACT OF DiskSync of the model, and that its row may be appended to.
-/
import Derived.Test.YtoglclmaacjdaaaSpecSync
import Derived.Test.YtoglclmaacjdaaaGrowSet
namespace Go.Proofs.Ytoglclmaacjdaaa.dat
open Go.RowKit Go.Proofs.Ytoglclmaacjdaaa.win

/-- A disk of its own whose row may be appended to. -/
def CopiedDiskH (w : World) (x : DiskD) (e : Ending) (w' : World) : Prop := ∃ (h : DiskH) (fp : List Nat), e = .returned (.agg (Disk.list x h).toArray) ∧ Disk.Is w' x h fp ∧ Own w.heap.size w' fp ∧ Below w.heap.size w w' ∧ Grows 3 RFile 40 w.heap.size w' (.slice h.filesa h.filesl h.filesc) x.files
theorem Grows.off {α : Type} {k : Nat} {R : Rel α} {e : TypeId} {base : Nat} {w : World} {b off n c : Nat} {l : List α} (h : Grows k R e base w (.slice (some ⟨b, off, none⟩) n c) l) : off = 0 := by
  obtain ⟨css, F, _, _, _, _, _, _, ho⟩ := h.ex
  rcases ho.2 with ⟨h, _⟩ | ⟨g, cap, cur, h, _⟩
  · cases h
  · simp only [Value.slice.injEq, Option.some.injEq, Addr.mk.injEq] at h
    exact h.1.2.1
set_option maxRecDepth 100000 in
set_option maxHeartbeats 4000000 in
theorem spec_DiskSync_own (x : DiskD) (h : DiskH) (fp : List Nat) (name : ByteArray) (w : World) (hin : Disk.Is w x h fp) (_hs : name.size ≤ 9223372036854775807) (hmax : Disk.sz x ≤ 2000000) :
    Calls Try.prog 14 #[.agg (Disk.list x h).toArray, .string name] w (CopiedDiskH w ⟨syncD x.files name⟩) := by
  have HI := Lib.hid hin
  have HM := Lib.hid hmax
  have HX := Lib.hid (Disk.row hin)
  clear hin hmax
  obtain ⟨ls, hls⟩ : ∃ ls, syncD x.files name = ls := ⟨_, rfl⟩
  rw [hls]
  have HLS := Lib.hid hls
  clear hls
  obtain ⟨fa, fl, fc⟩ := h
  dsimp only at *
  have HX : Hid (GRow 3 RFile w fa fl x.files fp ∧ fl ≤ fc ∧ fc ≤ 9223372036854775807) := HX
  have hle := HX.out.2.1
  have hfl : fl ≤ 2000000 := by have := Disk.len_le HM.out; rw [HX.out.1.1] at this; exact this
  simp only [Disk.list]
  go_enter Try.func14, Try.ntmps14
  go_wp2_with fail
  refine calls_gen (fun W => Below w.heap.size w W ∧ Blk W w.heap.size 26 [.slice fa fl fc] ∧ Blk W (w.heap.size + 1) 26 [.slice none 0 0]) ⟨by repeat (first | exact Below.refl _ _ | refine Below.setCell ?_ (by first | omega | (simp; done) | (simp; omega)) _ | refine Below.alloc ?_ (by first | omega | (simp; done) | (simp; omega)) _ | apply Below.drew), by with_reducible (repeat (first | (refine blk_new_at _ _ _ _ ?_; first | rfl | (simp; done)) | refine Blk.alloc ?_ _ | apply Blk.drew | refine Blk.setOther ?_ (by first | (simp; done) | (simp; omega)) _)), by with_reducible (repeat (first | (refine blk_new_at _ _ _ _ ?_; first | rfl | (simp; done)) | refine Blk.alloc ?_ _ | apply Blk.drew | refine Blk.setOther ?_ (by first | (simp; done) | (simp; omega)) _))⟩ ?_
  rintro W ⟨b0, k0, k1⟩
  refine (spec_DiskOk x ⟨fa, fl, fc⟩ fp W (HI.out.below b0) HM.out).mono ?_
  rintro e w1 ⟨rfl, b1⟩
  have B1 := Lib.hid (b0.trans (b1.mono b0.size))
  have K0 := Lib.hid (k0.below b1 k0.lt)
  have K1 := Lib.hid (k1.below b1 k1.lt)
  have c0 := K0.out.cell 0
  have r0 := K1.out.cell 0
  have rf := K1.out.frozen
  simp at c0 r0
  clear b0 k0 k1 b1
  have hk1 := K1.out.lt
  have hk0 := K0.out.lt
  cases hd : diskB x.files with
  | false =>
    have E := Lib.hid (show ls = [] by rw [← HLS.out]; unfold syncD; rw [hd]; rfl)
    clear hd
    go_wp2_with fail
    refine body_gen (fun W => Below w.heap.size w W ∧ Blk W (w.heap.size + 1) 26 [.slice none 0 0]) ⟨?_, ?_⟩ ?_
    · have hb := B1.out
      have hbs := hb.size
      repeat (first | exact Below.refl _ _ | refine Below.setCell ?_ (by first | omega | (simp; done) | (simp; omega)) _ | refine Below.alloc ?_ (by first | omega | (simp; done) | (simp; omega)) _ | apply Below.drew | refine Below.trans ?_ (hb.mono (by first | omega | (simp; done) | (simp; omega))))
    · (apply Blk.of_eq; (repeat (first | (with_reducible exact K1.out) | (with_reducible apply Blk.set) | ((with_reducible apply Blk.other); · first | (simp; done) | (simp; omega)) | (with_reducible apply Blk.drew))); rfl)
    rintro W' ⟨bw, kw⟩
    have e0 := kw.cell 0
    simp at e0
    refine bodyPost_ret (v := .agg (Disk.list ⟨ls⟩ ⟨none, 0, 0⟩).toArray) (by simp [results, Try.results14, go_sem, e0, Disk.list]) rfl ?_
    rw [E.out]
    exact ⟨⟨none, 0, 0⟩, [], rfl, ⟨[], rfl, GRow.nil, Nat.le_refl _, Nat.zero_le _⟩, Own.nil, bw, Grows.nil⟩
  | true =>
  have HD := Lib.hid hd
  clear hd
  obtain ⟨i0, hi, hi2⟩ := Option.map_eq_some_iff.1 info_File
  simp only [Prod.mk.injEq] at hi2
  obtain ⟨hz0, hz1, hz2⟩ := hi2
  have HZ := Lib.hid (And.intro hi (And.intro hz0 (And.intro hz1 hz2)))
  clear hi hz0 hz1 hz2
  have HNL := Lib.hid (show ([] ++ x.files).length = fl from HX.out.1.1)
  have HG0 := Lib.hid (Grows.made (k := 3) (R := RFile) (e := 40) (base := w1.heap.size) (w := w1) #[] 0 (Nat.le_refl _) (by unfold maxLen; omega) (by simp))
  have HXR := Lib.hid ((HX.out.1.below local_File B1.out).below local_File (show Below w1.heap.size w1 (w1.alloc (.cells #[] 40)) by repeat (first | exact Below.refl _ _ | refine Below.setCell ?_ (by first | omega | (simp; done) | (simp; omega)) _ | refine Below.alloc ?_ (by first | omega | (simp; done) | (simp; omega)) _ | apply Below.drew)))
  go_wp2_with (at_builtin; refine pushAny (R := RFile) (l2 := x.files) (by decide) local_File file_f file_ind file_one rfl _ _ 24 rfl i0 _ 48 Try.underlying24 HZ.out.1 HZ.out.2.1 HZ.out.2.2.1 HZ.out.2.2.2 rfl rfl HG0.out (Below.refl _ _) fa fl fc fp rfl HXR.out (by simp; omega) (by simp; unfold maxLen; omega) (by simp) ?_; intro v' w4 hG4 hb4 _; obtain ⟨a4, cap4, hv4⟩ := hG4.slice; subst hv4; rw [HNL.out] at hG4 ⊢)
  have HGW := Lib.hid (show Grows 3 RFile 40 w1.heap.size w4 (.slice a4 fl cap4) x.files by simpa using hG4)
  obtain ⟨a', cap', fq, hv4, hg4, hc1, hc2, ho4⟩ := hG4.done
  simp only [Value.slice.injEq] at hv4
  obtain ⟨rfl, -, rfl⟩ := hv4
  have hn4 : x.files.length = fl := HX.out.1.1
  rw [HNL.out] at hg4 hc1
  simp only [List.nil_append] at hg4
  have B4 := Lib.hid ((B1.out.trans ((show Below w1.heap.size w1 (w1.alloc (.cells #[] 40)) by repeat (first | exact Below.refl _ _ | refine Below.setCell ?_ (by first | omega | (simp; done) | (simp; omega)) _ | refine Below.alloc ?_ (by first | omega | (simp; done) | (simp; omega)) _ | apply Below.drew)).mono B1.out.size)).trans (hb4.mono B1.out.size))
  have K4 := Lib.hid (show Blk w4 (w.heap.size + 1) 26 [.slice none 0 0] from (hb4.block _ hk1).trans (K1.out.alloc _))
  have HG := Lib.hid hg4
  have HO := Lib.hid ho4
  have HC := Lib.hid (And.intro hc1 hc2)
  have h14 := hb4.size
  have h15 : w1.heap.size ≤ w4.heap.size := by simp at h14; omega
  have hk4 := K4.out.lt
  clear hG4 hb4 hg4 ho4 hc1 hc2 h14 c0 r0 rf HG0 HXR HZ
  refine calls_gen (fun W => Below w4.heap.size w4 W ∧ Blk W w4.heap.size 26 [.slice a4 fl cap4]) ⟨by repeat (first | exact Below.refl _ _ | refine Below.setCell ?_ (by first | omega | (simp; done) | (simp; omega)) _ | refine Below.alloc ?_ (by first | omega | (simp; done) | (simp; omega)) _ | apply Below.drew), by with_reducible (repeat (first | (refine blk_new_at _ _ _ _ ?_; first | rfl | (simp; done)) | refine Blk.alloc ?_ _ | apply Blk.drew | refine Blk.setOther ?_ (by first | (simp; done) | (simp; omega)) _))⟩ ?_
  rintro W5 ⟨b5, k5⟩
  have G5 := Lib.hid (HG.out.below local_File b5)
  have GW5 := Lib.hid (HGW.out.below local_File b5)
  have hsz5 : Disk.sz ⟨x.files⟩ ≤ 2000000 := HM.out
  refine (l08At_ ⟨x.files⟩ ⟨a4, fl, cap4⟩ fq name W5 ⟨fq, rfl, G5.out, HC.out.1, HC.out.2⟩ hsz5).mono ?_
  rintro e W6 ⟨⟨r, rfl, hr⟩, b6⟩
  have hm := Nat.lt_of_lt_of_le hk4 b5.size
  have B6 := Lib.hid ((B4.out.trans (b5.mono B4.out.size)).trans (b6.mono (Nat.le_trans B4.out.size b5.size)))
  have K6 := Lib.hid ((K4.out.below b5 hk4).below b6 hm)
  have KO := Lib.hid (k5.below b6 k5.lt)
  have G6 := Lib.hid (G5.out.below local_File b6)
  have GW6 := Lib.hid (GW5.out.below local_File b6)
  have HO6 := Lib.hid (HO.out.keep (fun q hq => ((b6.block q (Nat.lt_of_lt_of_le (HO.out.2 q hq).2.lt b5.size)).trans (b5.block q (HO.out.2 q hq).2.lt))))
  have HLT := Lib.hid (show ∀ q ∈ fq, q < w4.heap.size from fun q hq => (HO.out.2 q hq).2.lt)
  have H46 := Lib.hid (Nat.le_trans b5.size b6.size)
  clear b5 k5 hsz5 b6 hm B4 K4 HG HO G5
  have o0 := KO.out.cell 0
  have r0 := K6.out.cell 0
  have rf := K6.out.frozen
  simp at o0 r0
  rcases hr with ⟨rfl, hno⟩ | ⟨n, f, rfl, hf, he, ha⟩
  · have E := Lib.hid (show ls = x.files by
      rw [← HLS.out]
      unfold syncD
      rw [if_pos HD.out]
      exact sync_none hno)
    clear hno
    go_wp2_with fail
    refine body_gen (fun W => Below w.heap.size w W ∧ Blk W (w.heap.size + 1) 26 [.slice a4 fl cap4] ∧ GRow 3 RFile W a4 fl x.files fq ∧ Own w1.heap.size W fq ∧ Grows 3 RFile 40 w1.heap.size W (.slice a4 fl cap4) x.files) ⟨?_, ?_, ?_, ?_, ?_⟩ ?_
    · have hb := B6.out
      have hbs := hb.size
      repeat (first | exact Below.refl _ _ | refine Below.setCell ?_ (by first | omega | (simp; done) | (simp; omega)) _ | refine Below.alloc ?_ (by first | omega | (simp; done) | (simp; omega)) _ | apply Below.drew | refine Below.trans ?_ (hb.mono (by first | omega | (simp; done) | (simp; omega))))
    · (apply Blk.of_eq; (repeat (first | (with_reducible exact K6.out) | (with_reducible apply Blk.set) | ((with_reducible apply Blk.other); · first | (simp; done) | (simp; omega)) | (with_reducible apply Blk.drew))); rfl)
    · refine G6.out.keep local_File (fun q hq => ?_)
      have := (HO6.out.2 q hq).1
      rw [Below.heap_setCell _ _ _ q (by simp; omega)]
    · refine HO6.out.keep (fun q hq => ?_)
      have := (HO6.out.2 q hq).1
      rw [Below.heap_setCell _ _ _ q (by simp; omega)]
    · exact GW6.out.keep local_File (fun p hp _ => Below.heap_setCell _ ⟨w.heap.size + 1, 0, none⟩ _ p (by simp; omega))
    clear o0 r0 rf
    rintro W7 ⟨bw, kw, gw, ow, rw7⟩
    have e0 := kw.cell 0
    simp at e0
    refine bodyPost_ret (v := .agg (Disk.list ⟨ls⟩ ⟨a4, fl, cap4⟩).toArray) (by simp [results, Try.results14, go_sem, e0, Disk.list]) rfl ?_
    rw [E.out]
    exact ⟨⟨a4, fl, cap4⟩, fq, rfl, ⟨fq, rfl, gw, HC.out.1, HC.out.2⟩, ow.mono B1.out.size, bw, rw7.lower B1.out.size⟩
  · have hn : n < fl := by rw [← hn4]; exact (List.getElem?_eq_some_iff.1 hf).1
    have E := Lib.hid (show ls = x.files.set n ⟨f.name, f.now, f.now⟩ by
      rw [← HLS.out]
      unfold syncD
      rw [if_pos HD.out, set_split (by rw [hn4]; exact hn)]
      exact sync_there ((diskB_iff _).1 HD.out) hf he)
    obtain ⟨b, off, g, y, rfl, hy, hbl, hbf, hgf, hgn, ⟨cs, hcl, hR, hc⟩, hup⟩ := G6.out.update local_File HO6.out.1 hn
    rw [hf] at hy
    cases hy
    have HFF := Lib.hid hf
    obtain ⟨rfl, s0, s1, s2, rfl⟩ := hR
    have d0 : W6.cell? ⟨b, off + n * 3, none⟩ = some (.string f.name) := by have := hc 0 (by omega); simpa [File.list] using this
    have d1 : W6.cell? ⟨b, off + n * 3 + 1, none⟩ = some (.string f.safe) := by have := hc 1 (by omega); simpa [File.list] using this
    have d2 : W6.cell? ⟨b, off + n * 3 + 2, none⟩ = some (.string f.now) := by have := hc 2 (by omega); simpa [File.list] using this
    have fb : ∀ o, W6.frozen? ⟨b, o, none⟩ = false := fun o => ((HO6.out.2 b hbf).2).frozen o
    have hb1 := (HO6.out.2 b hbf).1
    have hb4 := HLT.out b hbf
    have HU := Lib.hid hup
    have HS := Lib.hid (And.intro s0 s2)
    have HDD := Lib.hid (And.intro d0 (And.intro d1 d2))
    have hn2 : (n : Int) < (fl : Int) := by omega
    have hn0 : (0 : Int) ≤ (n : Int) := by omega
    clear hup hc hf he ha s0 s1 s2 d0 hgf hgn
    go_wp2_with fail
    go_still_tail 11, (by kernel_rfl)
    go_wp2_with fail
    have GM := Lib.hid (HU.out (W6.setCell ⟨b, off + n * 3 + 1, none⟩ (.string f.now)) ⟨f.name, f.now, f.now⟩ (fun c _ hcb _ => by rw [Below.heap_setCell _ _ _ c (by simpa using hcb)]) (fun o ho => cell_setCell_other _ _ _ _ _ (by omega)) (by simpa using hbl) (by
      refine ⟨File.list ⟨f.name, f.now, f.now⟩, rfl, ⟨rfl, HS.out.1, HS.out.2, HS.out.2, rfl⟩, fun i hi => ?_⟩
      have : i = 0 ∨ i = 1 ∨ i = 2 := by omega
      rcases this with rfl | rfl | rfl
      · exact (cell_setCell_other _ _ _ _ _ (by omega)).trans HDD.out.1
      · exact World.cell?_setCell_same _ _ _ HDD.out.2.1
      · exact (cell_setCell_other _ _ _ _ _ (by omega)).trans HDD.out.2.2))
    have RM := Lib.hid (show Grows 3 RFile 40 w1.heap.size (W6.setCell ⟨b, off + n * 3 + 1, none⟩ (.string f.now)) (.slice (some ⟨b, off, none⟩) fl cap4) (x.files.set n ⟨f.name, f.now, f.now⟩) by
      have h0 := GW6.out.off
      rw [show off + n * 3 + 1 = n * 3 + 1 by omega]
      refine Grows.put (R := RFile) (w := W6) (v := .slice (some ⟨b, off, none⟩) fl cap4) (l := x.files) (j := n) (i := 1) (u := .string f.now) (x' := ⟨f.name, f.now, f.now⟩) file_f file_ind GW6.out HFF.out (by omega) (fun c hr => ?_) (show (Value.slice (some ⟨b, off, none⟩) fl cap4).ownBlock = some b from rfl)
      obtain ⟨rfl, p0, p1, p2, _⟩ := hr
      exact ⟨rfl, p0, p2, p2, rfl⟩)
    have OM := Lib.hid (show Own w1.heap.size (W6.setCell ⟨b, off + n * 3 + 1, none⟩ (.string f.now)) fq from Own.set HO6.out _ _ _)
    refine body_gen (fun W => Below w.heap.size w W ∧ Blk W (w.heap.size + 1) 26 [.slice (some ⟨b, off, none⟩) fl cap4] ∧ GRow 3 RFile W (some ⟨b, off, none⟩) fl (x.files.set n ⟨f.name, f.now, f.now⟩) fq ∧ Own w1.heap.size W fq ∧ Grows 3 RFile 40 w1.heap.size W (.slice (some ⟨b, off, none⟩) fl cap4) (x.files.set n ⟨f.name, f.now, f.now⟩)) ⟨?_, ?_, ?_, ?_, ?_⟩ ?_
    · have hb := B6.out
      have hbs := hb.size
      repeat (first | exact Below.refl _ _ | refine Below.setCell ?_ (by first | omega | (simp; done) | (simp; omega)) _ | refine Below.alloc ?_ (by first | omega | (simp; done) | (simp; omega)) _ | apply Below.drew | refine Below.trans ?_ (hb.mono (by first | omega | (simp; done) | (simp; omega))))
    · refine Blk.drew (Blk.of_eq (Blk.set (Blk.setOther K6.out (by simp; omega) _) 0 _) rfl)
    · refine GM.out.keep local_File (fun q hq => ?_)
      have := (OM.out.2 q hq).1
      exact Below.heap_setCell _ ⟨w.heap.size + 1, 0, none⟩ _ q (by simp; omega)
    · refine OM.out.keep (fun q hq => ?_)
      have := (OM.out.2 q hq).1
      exact Below.heap_setCell _ ⟨w.heap.size + 1, 0, none⟩ _ q (by simp; omega)
    · exact RM.out.keep local_File (fun p hp _ => Below.heap_setCell _ ⟨w.heap.size + 1, 0, none⟩ _ p (by simp; omega))
    clear GM OM RM d1 d2 fb o0 r0 rf
    rintro W7 ⟨bw, kw, gw, ow, rw7⟩
    have e0 := kw.cell 0
    simp at e0
    refine bodyPost_ret (v := .agg (Disk.list ⟨ls⟩ ⟨some ⟨b, off, none⟩, fl, cap4⟩).toArray) (by simp [results, Try.results14, go_sem, e0, Disk.list]) rfl ?_
    rw [E.out]
    exact ⟨⟨some ⟨b, off, none⟩, fl, cap4⟩, fq, rfl, ⟨fq, rfl, gw, HC.out.1, HC.out.2⟩, ow.mono B1.out.size, bw, rw7.lower B1.out.size⟩
end Go.Proofs.Ytoglclmaacjdaaa.dat
