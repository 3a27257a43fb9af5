/-
  DiskAdd: of the program and of the model.
-/
import Derived.Test.YtoglclmaacjdaaaDiskPutC
import Derived.Test.YtoglclmaacjdaaaDiskRead
namespace Go.Proofs.Ytoglclmaacjdaaa.dat
open Go.RowKit Go.Proofs.Ytoglclmaacjdaaa.win

theorem addD_bad {l : List FileD} {name s : ByteArray} (h : (diskB l && nameB name) = false) : addD l name s = ([], false) := by
  unfold addD
  split
  · exact putD_bad h
  · rfl
theorem addD_many {l : List FileD} {name s : ByteArray} (hl : ¬ (putF name (readD l name ++ s) l).length ≤ 4) : addD l name s = ([], false) := by
  unfold addD
  split
  · exact putD_many hl
  · rfl
theorem addD_long {l : List FileD} {name s : ByteArray} (hs : ¬ (s.size ≤ 200000 ∧ (readD l name ++ s).size ≤ 200000)) : addD l name s = ([], false) := by
  unfold addD
  split
  · rename_i h
    exact putD_long (fun k => hs ⟨h, k⟩)
  · rfl

set_option maxRecDepth 100000 in
set_option maxHeartbeats 4000000 in
theorem impl_DiskAdd (x : DiskD) (h : DiskH) (fp : List Nat) (name s : ByteArray) (w : World) (hin : Disk.Is w x h fp) (_hs1 : name.size ≤ 9223372036854775807) (_hs2 : s.size ≤ 9223372036854775807) (hmax : Disk.sz x ≤ 2000000) :
    Calls Try.prog 16 #[.agg (Disk.list x h).toArray, .string name, .string s] w (CopiedDiskB w ⟨(addD x.files name s).1⟩ (addD x.files name s).2) := by
  have HI := Lib.hid hin
  have HM := Lib.hid hmax
  clear hin hmax
  obtain ⟨ls, hls⟩ : ∃ ls, addD x.files name s = ls := ⟨_, rfl⟩
  rw [hls]
  have HLS := Lib.hid hls
  clear hls
  simp only [Disk.list]
  go_enter Try.func16, Try.ntmps16
  go_wp2_with fail
  refine calls_gen (fun W => Below w.heap.size w W ∧ Blk W w.heap.size 26 [.slice h.filesa h.filesl h.filesc] ∧ Blk W (w.heap.size + 1) 26 [.slice none 0 0]) ⟨by repeat (first | exact Below.refl _ _ | refine Below.setCell ?_ (by first | omega | (simp; done) | (simp; omega)) _ | refine Below.alloc ?_ (by first | omega | (simp; done) | (simp; omega)) _ | apply Below.drew), by with_reducible (repeat (first | (refine blk_new_at _ _ _ _ ?_; first | rfl | (simp; done)) | refine Blk.alloc ?_ _ | apply Blk.drew | refine Blk.setOther ?_ (by first | (simp; done) | (simp; omega)) _)), by with_reducible (repeat (first | (refine blk_new_at _ _ _ _ ?_; first | rfl | (simp; done)) | refine Blk.alloc ?_ _ | apply Blk.drew | refine Blk.setOther ?_ (by first | (simp; done) | (simp; omega)) _))⟩ ?_
  rintro W ⟨b0, k0, k1⟩
  refine (opened_ x h fp name W (HI.out.below b0) HM.out).mono ?_
  rintro e w1 ⟨b1, ho⟩
  have B1 := Lib.hid (b0.trans (b1.mono b0.size))
  have K1 := Lib.hid (k1.below b1 k1.lt)
  have HW := Lib.hid (And.intro b0.size (show w.heap.size + 1 < W.heap.size from k1.lt))
  have r0 := K1.out.cell 0
  have rf := K1.out.frozen
  simp at r0
  clear b0 k0 k1 b1
  rcases ho with ⟨hbad, rfl⟩ | ⟨hgood, a, n, cap, fq, lx, i, f, g, rfl, ho⟩
  · have E := Lib.hid (show ls = ([], false) by rw [← HLS.out]; exact addD_bad hbad)
    clear hbad
    go_wp2_with fail
    refine body_gen (fun W => Below w.heap.size w W ∧ Blk W (w.heap.size + 1) 26 [.slice none 0 0]) ⟨?_, ?_⟩ ?_
    · have hb := B1.out
      have hbs := hb.size
      repeat (first | exact Below.refl _ _ | refine Below.setCell ?_ (by first | omega | (simp; done) | (simp; omega)) _ | refine Below.alloc ?_ (by first | omega | (simp; done) | (simp; omega)) _ | apply Below.drew | refine Below.trans ?_ (hb.mono (by first | omega | (simp; done) | (simp; omega))))
    · (apply Blk.of_eq; (repeat (first | (with_reducible exact K1.out) | (with_reducible apply Blk.set) | ((with_reducible apply Blk.other); · first | (simp; done) | (simp; omega)) | (with_reducible apply Blk.drew))); rfl)
    rintro W' ⟨bw, kw⟩
    have e0 := kw.cell 0
    simp at e0
    refine bodyPost_ret (v := .tuple #[.agg (Disk.list ⟨ls.1⟩ ⟨none, 0, 0⟩).toArray, .bool ls.2]) (by rw [E.out]; simp [results, Try.results16, go_sem, e0, Disk.list]) rfl ?_
    rw [E.out]
    exact ⟨⟨none, 0, 0⟩, [], rfl, ⟨[], rfl, GRow.nil, Nat.le_refl _, Nat.zero_le _⟩, Own.nil, bw⟩
  have HG := Lib.hid hgood
  have HO := Lib.hid ho
  have hll : ∀ u, (putF name u x.files).length = n := fun u => by rw [ho.put, List.length_set]; exact ho.row.1
  have HRD := Lib.hid (show readD x.files name = f.now by unfold readD; rw [if_pos (by simp at hgood; exact hgood.1), ho.now])
  have HNS := Lib.hid (ho.sizes f (List.mem_of_getElem? ho.at')).2.2
  have HGL := Lib.hid (show w.heap.size + 1 < g from by have := (ho.own.2 g ho.mem).1; have := HW.out.2; omega)
  clear hgood ho
  by_cases hn4 : (n : Int) ≤ 4
  case neg =>
    have hdec : decide ((n : Int) ≤ 4) = false := by simpa using hn4
    rw [hdec]
    have E := Lib.hid (show ls = ([], false) by rw [← HLS.out]; exact addD_many (by rw [hll]; omega))
    have BX := Lib.hid B1.out
    have KX := Lib.hid K1.out
    clear hdec hn4 hll
    go_wp2_with fail
    refine body_gen (fun W => Below w.heap.size w W ∧ Blk W (w.heap.size + 1) 26 [.slice none 0 0]) ⟨?_, ?_⟩ ?_
    · have hb := BX.out
      have hbs := hb.size
      repeat (first | exact Below.refl _ _ | refine Below.setCell ?_ (by first | omega | (simp; done) | (simp; omega)) _ | refine Below.alloc ?_ (by first | omega | (simp; done) | (simp; omega)) _ | apply Below.drew | refine Below.trans ?_ (hb.mono (by first | omega | (simp; done) | (simp; omega))))
    · (apply Blk.of_eq; (repeat (first | (with_reducible exact KX.out) | (with_reducible apply Blk.set) | ((with_reducible apply Blk.other); · first | (simp; done) | (simp; omega)) | (with_reducible apply Blk.drew))); rfl)
    rintro W' ⟨bw, kw⟩
    have e0 := kw.cell 0
    simp at e0
    refine bodyPost_ret (v := .tuple #[.agg (Disk.list ⟨ls.1⟩ ⟨none, 0, 0⟩).toArray, .bool ls.2]) (by rw [E.out]; simp [results, Try.results16, go_sem, e0, Disk.list]) rfl ?_
    rw [E.out]
    exact ⟨⟨none, 0, 0⟩, [], rfl, ⟨[], rfl, GRow.nil, Nat.le_refl _, Nat.zero_le _⟩, Own.nil, bw⟩
  have hdec : decide ((n : Int) ≤ 4) = true := by simpa using hn4
  rw [hdec]
  clear hdec
  have hpc : ∃ g', Value.pointer (some ⟨g, 0, none⟩) = .pointer (some ⟨g', 0, none⟩) := ⟨g, rfl⟩
  by_cases hs : s.size ≤ 200000 ∧ (f.now ++ s).size ≤ 200000
  case neg =>
    have E := Lib.hid (show ls = ([], false) by rw [← HLS.out]; exact addD_long (by rw [HRD.out]; exact hs))
    clear hn4 hll hpc
    go_wp2_with fail
    refine (add_no f s g w1 HO.out.blk HNS.out hs).mono ?_
    rintro e w3 ⟨rfl, ap, bk⟩
    have BX := Lib.hid (B1.out.trans (ap.below (lo := w.heap.size) (fun c hc => by simp at hc; subst hc; have := HGL.out; omega) B1.out.size))
    have KX := Lib.hid (show Blk w3 (w.heap.size + 1) 26 [.slice none 0 0] from (ap.block _ K1.out.lt (by have := HGL.out; simp; omega)).trans K1.out)
    clear ap bk r0 rf hs
    have r0 := KX.out.cell 0
    have rf := KX.out.frozen
    simp at r0
    go_wp2_with fail
    refine body_gen (fun W => Below w.heap.size w W ∧ Blk W (w.heap.size + 1) 26 [.slice none 0 0]) ⟨?_, ?_⟩ ?_
    · have hb := BX.out
      have hbs := hb.size
      repeat (first | exact Below.refl _ _ | refine Below.setCell ?_ (by first | omega | (simp; done) | (simp; omega)) _ | refine Below.alloc ?_ (by first | omega | (simp; done) | (simp; omega)) _ | apply Below.drew | refine Below.trans ?_ (hb.mono (by first | omega | (simp; done) | (simp; omega))))
    · (apply Blk.of_eq; (repeat (first | (with_reducible exact KX.out) | (with_reducible apply Blk.set) | ((with_reducible apply Blk.other); · first | (simp; done) | (simp; omega)) | (with_reducible apply Blk.drew))); rfl)
    rintro W' ⟨bw, kw⟩
    have e0 := kw.cell 0
    simp at e0
    refine bodyPost_ret (v := .tuple #[.agg (Disk.list ⟨ls.1⟩ ⟨none, 0, 0⟩).toArray, .bool ls.2]) (by rw [E.out]; simp [results, Try.results16, go_sem, e0, Disk.list]) rfl ?_
    rw [E.out]
    exact ⟨⟨none, 0, 0⟩, [], rfl, ⟨[], rfl, GRow.nil, Nat.le_refl _, Nat.zero_le _⟩, Own.nil, bw⟩
  have E := Lib.hid (show ls = (lx.set i ⟨f.name, f.safe, f.now ++ s⟩, true) by
    rw [← HLS.out]
    unfold addD
    rw [if_pos hs.1, HRD.out, putD_yes HG.out hs.2 (by rw [hll]; omega), HO.out.put])
  have HSZ := Lib.hid (sizes_wide (sz_all HO.out.sizes HO.out.at' hs.2))
  have hn5 := HO.out.len
  clear hn4 hll hpc
  go_wp2_with fail
  refine (add_yes f s g w1 HO.out.blk HNS.out hs.1 hs.2).mono ?_
  rintro e w3 ⟨rfl, ap, bk⟩
  have BX := Lib.hid (B1.out.trans (ap.below (lo := w.heap.size) (fun c hc => by simp at hc; subst hc; have := HGL.out; omega) B1.out.size))
  have KX := Lib.hid (show Blk w3 (w.heap.size + 1) 26 [.slice none 0 0] from (ap.block _ K1.out.lt (by have := HGL.out; simp; omega)).trans K1.out)
  have R3 := Lib.hid (HO.out.set w3 _ ap bk)
  clear ap bk r0 rf hs
  go_wp2_with fail
  refine (disk_ a n cap _ fq w3 R3.out (by omega) HSZ.out).mono ?_
  rintro e w4 ⟨h', fp', rfl, hi', how, b4⟩
  have B4 := Lib.hid (BX.out.trans (b4.mono BX.out.size))
  have K4 := Lib.hid (KX.out.below b4 KX.out.lt)
  have HH := Lib.hid (And.intro hi' (how.mono BX.out.size))
  have c0 := K4.out.cell 0
  have f0 := K4.out.frozen
  simp at c0
  have hbs := BX.out.size
  have HW3 := Lib.hid (show ∀ b ∈ fp', w3.heap.size ≤ b from fun b hb => (how.2 b hb).1)
  have hk1 := KX.out.lt
  clear hi' how b4
  obtain ⟨fa', fl', fc'⟩ := h'
  simp only [Disk.list]
  go_wp2_with fail
  refine body_gen (fun W => Below w.heap.size w W ∧ Blk W (w.heap.size + 1) 26 [.slice fa' fl' fc'] ∧ Disk.Is W ⟨ls.1⟩ ⟨fa', fl', fc'⟩ fp' ∧ Own w.heap.size W fp') ⟨?_, ?_, ?_, ?_⟩ ?_
  · have hb := B4.out
    repeat (first | exact Below.refl _ _ | refine Below.setCell ?_ (by first | omega | (simp; done) | (simp; omega)) _ | refine Below.alloc ?_ (by first | omega | (simp; done) | (simp; omega)) _ | apply Below.drew | refine Below.trans ?_ (hb.mono (by first | omega | (simp; done) | (simp; omega))))
  · (apply Blk.of_eq; (repeat (first | (with_reducible exact K4.out) | (with_reducible apply Blk.set) | ((with_reducible apply Blk.other); · first | (simp; done) | (simp; omega)) | (with_reducible apply Blk.drew))); rfl)
  · rw [E.out]
    refine HH.out.1.keep (fun q hq => ?_)
    have := HW3.out q hq
    rw [Below.heap_setCell _ _ _ q (by simp; omega)]
  · refine HH.out.2.keep (fun q hq => ?_)
    have := HW3.out q hq
    rw [Below.heap_setCell _ _ _ q (by simp; omega)]
  clear c0 f0
  rintro W ⟨bw, kw, iw, ow⟩
  have e0 := kw.cell 0
  simp at e0
  refine bodyPost_ret (v := .tuple #[.agg (Disk.list ⟨ls.1⟩ ⟨fa', fl', fc'⟩).toArray, .bool ls.2]) (by rw [E.out]; simp [results, Try.results16, go_sem, e0, Disk.list]) rfl ?_
  exact ⟨⟨fa', fl', fc'⟩, fp', rfl, iw, ow, bw⟩
end Go.Proofs.Ytoglclmaacjdaaa.dat
