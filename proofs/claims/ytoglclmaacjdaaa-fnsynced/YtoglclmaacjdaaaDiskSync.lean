/-
  THE CONTRACT OF DiskSync of the program: the file of this name synced, or the disk as it is, in new memory.
-/
import Derived.Test.YtoglclmaacjdaaaStores
import Derived.Test.YtoglclmaacjdaaaDiskRead
import Derived.Test.YtoglclmaacjdaaaDataMark
namespace Go.Proofs.Ytoglclmaacjdaaa.dat
open Go.RowKit Go.Proofs.Ytoglclmaacjdaaa.win

theorem set_split {l : List FileD} {i : Nat} (h : i < l.length) (x : FileD) : l.set i x = l.take i ++ x :: l.drop (i + 1) := by
  rw [List.set_eq_take_append_cons_drop, if_pos h]
/-- A mount one of whose files is turned. -/
theorem named_set {w : World} {a : Option Addr} {len : Nat} {l : List FileD} {fp : List Nat} (h : GRow 1 RNamed w a len l fp) (hnd : fp.Nodup) {j : Nat} (hj : j < len) :
    ∃ b off x g, a = some ⟨b, off, none⟩ ∧ b < w.heap.size ∧ l[j]? = some x ∧ Blk w g 101 (Named.list x) ∧ g ∈ fp ∧ w.cell? ⟨b, off + j, none⟩ = some (.pointer (some ⟨g, 0, none⟩)) ∧
      ∀ (w' : World) (x' : FileD), Apart [g] w w' → Blk w' g 101 (Named.list x') → GRow 1 RNamed w' a len (l.set j x') fp := by
  obtain ⟨b, off, f, x, ha, hx, hb, hbf, hf, hfn, ⟨cs, hcl, hR, hc⟩, hup⟩ := h.update local_Named hnd hj
  obtain ⟨g, rfl, hk, rfl⟩ := hR
  have hg := hf g (by simp)
  have hcell : w.cell? ⟨b, off + j, none⟩ = some (.pointer (some ⟨g, 0, none⟩)) := by simpa using hc 0 (by omega)
  refine ⟨b, off, x, g, ha, hb, hx, hk, hg.1, hcell, fun w' x' hap hk' => ?_⟩
  have hbb : w'.heap[b]? = w.heap[b]? := hap.block b hb (by simp; exact fun e => hg.2 e.symm)
  refine hup w' x' (fun c hc hcb hcg => hap.block c (h.lt local_Named c hc) hcg) (fun o _ => cell_same hbb o) (lt_same hbb hb) ⟨_, hcl, ⟨g, rfl, hk', rfl⟩, fun q hq => (cell_same hbb _).trans (hc q hq)⟩

theorem diskP_sizes {l : List FileD} (h : DiskP l) : ∀ x ∈ l, x.name.size ≤ 20 ∧ x.safe.size ≤ 200000 ∧ x.now.size ≤ 200000 := by
  intro x hx
  obtain ⟨i, hi, rfl⟩ := List.getElem_of_mem hx
  have := h.files i _ hi (List.getElem?_eq_getElem hi)
  simp [fileB] at this
  omega
/-- The list that is mounted. -/
def MountOf (l lx : List FileD) : Prop := (if diskB l then l else []) = lx
theorem MountOf.mono {l lx : List FileD} (h : MountOf l lx) : ∀ (i j : Nat) f g, i < j → lx[i]? = some f → lx[j]? = some g → ltB f.name g.name = true := by
  intro i j f g h1 h2 h3
  unfold MountOf at h
  rw [← h] at h2 h3
  split at h2
  · rename_i hd
    rw [if_pos hd] at h3
    exact mono_of hd i j f g h1 h2 h3
  · simp at h2
theorem MountOf.len {l lx : List FileD} (h : MountOf l lx) : lx.length ≤ 4 := by
  unfold MountOf at h
  rw [← h]
  split
  · rename_i hd
    exact ((diskB_iff _).1 hd).len
  · simp
theorem MountOf.sizes {l lx : List FileD} (h : MountOf l lx) : ∀ x ∈ lx, x.name.size ≤ 20 ∧ x.safe.size ≤ 200000 ∧ x.now.size ≤ 200000 := by
  unfold MountOf at h
  rw [← h]
  split
  · rename_i hd
    exact diskP_sizes ((diskB_iff _).1 hd)
  · intro x hx; simp at hx
theorem MountOf.diskP {l lx : List FileD} (h : MountOf l lx) : DiskP lx := by
  unfold MountOf at h
  rw [← h]
  split
  · rename_i hd
    exact (diskB_iff _).1 hd
  · exact ⟨by simp, fun i f hi => by simp at hi, fun i a b hi => by simp at hi⟩
theorem MountOf.sync {l lx : List FileD} (h : MountOf l lx) (name : ByteArray) : syncD l name = lx.map (syncF name) := by
  unfold MountOf at h
  rw [← h]
  unfold syncD
  split <;> rfl
theorem MountOf.crash {l lx : List FileD} (h : MountOf l lx) (cuts : List Int) : crashD l cuts = crashL lx cuts := by
  unfold MountOf at h
  rw [← h]
  unfold crashD
  split
  · rfl
  · simp [crashL]

/-- What mountOf leaves, opened. -/
theorem mounted (x : DiskD) (h : DiskH) (fp : List Nat) (w : World) (hin : Disk.Is w x h fp) (hmax : Disk.sz x ≤ 2000000) :
    Calls Try.prog 51 #[.agg (Disk.list x h).toArray] w fun e w' => ∃ a n cap fq lx, e = .returned (.slice a n cap) ∧ MountOf x.files lx ∧ GRow 1 RNamed w' a n lx fq ∧ n ≤ cap ∧ Own w.heap.size w' fq ∧ Below w.heap.size w w' :=
  (mountOf_ x h fp w hin hmax).mono fun e w' ⟨v, he, hG, hb⟩ => by
    obtain ⟨a, cap, fq, hv, hg, hc1, hc2, ho⟩ := hG.done
    exact ⟨a, _, cap, fq, _, by rw [he, hv], rfl, hg, hc1, ho, hb⟩

theorem sizes_wide {l : List FileD} (h : ∀ x ∈ l, x.name.size ≤ 20 ∧ x.safe.size ≤ 200000 ∧ x.now.size ≤ 200000) : ∀ x ∈ l, x.name.size ≤ 9223372036854775807 ∧ x.safe.size ≤ 9223372036854775807 ∧ x.now.size ≤ 9223372036854775807 := fun x hx => by
  have := h x hx
  omega

set_option maxRecDepth 100000 in
set_option maxHeartbeats 2000000 in
theorem impl_DiskSync (x : DiskD) (h : DiskH) (fp : List Nat) (name : ByteArray) (w : World) (hin : Disk.Is w x h fp) (_hs : name.size ≤ 9223372036854775807) (hmax : Disk.sz x ≤ 2000000) :
    Calls Try.prog 12 #[.agg (Disk.list x h).toArray, .string name] w (CopiedDisk w ⟨syncD x.files name⟩) := by
  have HI := Lib.hid hin
  have HM := Lib.hid hmax
  clear hin hmax
  obtain ⟨ls, hls⟩ : ∃ ls, syncD x.files name = ls := ⟨_, rfl⟩
  rw [hls]
  have HLS := Lib.hid hls
  clear hls
  simp only [Disk.list]
  go_enter Try.func12, Try.ntmps12
  go_wp2_with fail
  refine calls_gen (fun W => Below w.heap.size w W ∧ Blk W (w.heap.size + 1) 26 [.slice none 0 0]) ⟨by repeat (first | exact Below.refl _ _ | refine Below.setCell ?_ (by first | omega | (simp; done) | (simp; omega)) _ | refine Below.alloc ?_ (by first | omega | (simp; done) | (simp; omega)) _ | apply Below.drew), by with_reducible (repeat (first | (refine blk_new_at _ _ _ _ ?_; first | rfl | (simp; done)) | refine Blk.alloc ?_ _ | apply Blk.drew | refine Blk.setOther ?_ (by first | (simp; done) | (simp; omega)) _))⟩ ?_
  rintro W ⟨b0, k0⟩
  refine (mounted x h fp W (HI.out.below b0) HM.out).mono ?_
  rintro e w1 ⟨a, n, cap, fq, lx, rfl, hmo, hg, hnc, ho, b1⟩
  have B1 := Lib.hid (b0.trans (b1.mono b0.size))
  have K1 := Lib.hid (k0.below b1 k0.lt)
  have HG := Lib.hid hg
  have HO := Lib.hid (ho.mono (Nat.succ_le_of_lt k0.lt))
  have HMO := Lib.hid hmo
  have hn4 : n ≤ 4 := by rw [← hg.1]; exact hmo.len
  clear b0 k0 b1 hg ho hmo
  go_wp2_with fail
  refine (find_ a n cap lx fq name w1 HG.out (by omega) HMO.out.mono).mono ?_
  rintro e w2 ⟨i, hp, rfl, rfl⟩
  have HP := Lib.hid hp
  clear hp
  cases ht : thereB lx name i with
  | false =>
    have E := Lib.hid (show ls = lx by
      rw [← HLS.out, HMO.out.sync]
      exact sync_none (DiskP.none_at HMO.out.diskP HP.out.2.1 (thereB_false HP.out ht)))
    clear ht
    go_wp2_with fail
    refine (disk_ a n cap lx fq w2 HG.out (by omega) (sizes_wide HMO.out.sizes)).mono ?_
    rintro e w3 ⟨h', fp', rfl, hi, how, b3⟩
    have B3 := Lib.hid (B1.out.trans (b3.mono B1.out.size))
    have K3 := Lib.hid (K1.out.below b3 K1.out.lt)
    have HH := Lib.hid (And.intro hi (how.mono B1.out.size))
    have c0 := K3.out.cell 0
    have f0 := K3.out.frozen
    simp at c0
    have hbs := B1.out.size
    have HW := Lib.hid (show ∀ b ∈ fp', w2.heap.size ≤ b from fun b hb => (how.2 b hb).1)
    have hk1 := K1.out.lt
    clear hi how b3
    obtain ⟨fa', fl', fc'⟩ := h'
    simp only [Disk.list]
    go_wp2_with fail
    refine body_gen (fun W => Below w.heap.size w W ∧ Blk W (w.heap.size + 1) 26 [.slice fa' fl' fc'] ∧ Disk.Is W ⟨ls⟩ ⟨fa', fl', fc'⟩ fp' ∧ Own w.heap.size W fp') ⟨?_, ?_, ?_, ?_⟩ ?_
    · have hb := B3.out
      repeat (first | exact Below.refl _ _ | refine Below.setCell ?_ (by first | omega | (simp; done) | (simp; omega)) _ | refine Below.alloc ?_ (by first | omega | (simp; done) | (simp; omega)) _ | apply Below.drew | refine Below.trans ?_ (hb.mono (by first | omega | (simp; done) | (simp; omega))))
    · (apply Blk.of_eq; (repeat (first | (with_reducible exact K3.out) | (with_reducible apply Blk.set) | ((with_reducible apply Blk.other); · first | (simp; done) | (simp; omega)) | (with_reducible apply Blk.drew))); rfl)
    · rw [E.out]
      refine HH.out.1.keep (fun q hq => ?_)
      have := HW.out q hq
      rw [Below.heap_setCell _ _ _ q (by simp; omega)]
    · refine HH.out.2.keep (fun q hq => ?_)
      have := HW.out q hq
      rw [Below.heap_setCell _ _ _ q (by simp; omega)]
    clear c0 f0
    rintro W ⟨bw, kw, iw, ow⟩
    have e0 := kw.cell 0
    simp at e0
    refine bodyPost_ret (v := .agg (Disk.list ⟨ls⟩ ⟨fa', fl', fc'⟩).toArray) (by simp [results, Try.results12, go_sem, e0, Disk.list]) rfl ?_
    exact ⟨⟨fa', fl', fc'⟩, fp', rfl, iw, ow, bw⟩
  | true =>
  obtain ⟨f, hf, he⟩ := thereB_true ht
  have hi : i < n := by rw [← HG.out.1]; exact (List.getElem?_eq_some_iff.1 hf).1
  have E := Lib.hid (show ls = lx.set i ⟨f.name, f.now, f.now⟩ by
    rw [← HLS.out, HMO.out.sync, set_split (by rw [HG.out.1]; exact hi)]
    exact sync_there HMO.out.diskP hf he)
  obtain ⟨b, off, y, g, rfl, hbl, hy, hk, hgm, hc, hup⟩ := named_set HG.out HO.out.1 hi
  rw [hf] at hy
  cases hy
  have HK := Lib.hid hk
  have HU := Lib.hid hup
  have HGM := Lib.hid (HO.out.2 g hgm).1
  have HF := Lib.hid hf
  have hi2 : (i : Int) < (n : Int) := by omega
  have hi0 : (0 : Int) ≤ (i : Int) := by omega
  clear ht hf he hk hup hgm
  go_wp2_with fail
  refine (sync_ f g _ HK.out).mono ?_
  rintro e w3 ⟨rfl, ap, bk⟩
  have R3 := Lib.hid (HU.out w3 _ ap bk)
  have K3 := Lib.hid (show Blk w3 (w.heap.size + 1) 26 [.slice none 0 0] from (ap.block _ K1.out.lt (by have := HGM.out; simp; omega)).trans K1.out)
  have B3 := Lib.hid (B1.out.trans (ap.below (lo := w.heap.size) (fun c hc => by simp at hc; subst hc; have := HGM.out; omega) B1.out.size))
  clear ap bk hc
  go_wp2_with fail
  have HSZ := Lib.hid (show ∀ z ∈ lx.set i ⟨f.name, f.now, f.now⟩, z.name.size ≤ 9223372036854775807 ∧ z.safe.size ≤ 9223372036854775807 ∧ z.now.size ≤ 9223372036854775807 by
    intro z hz
    rcases List.mem_or_eq_of_mem_set hz with hz | rfl
    · exact sizes_wide HMO.out.sizes z hz
    · have := sizes_wide HMO.out.sizes f (List.mem_of_getElem? HF.out)
      exact ⟨this.1, this.2.2, this.2.2⟩)
  refine (disk_ _ n cap _ fq w3 R3.out (by omega) HSZ.out).mono ?_
  rintro e w4 ⟨h', fp', rfl, hi', how, b4⟩
  have B4 := Lib.hid (B3.out.trans (b4.mono B3.out.size))
  have K4 := Lib.hid (K3.out.below b4 K3.out.lt)
  have HH := Lib.hid (And.intro hi' (how.mono B3.out.size))
  have c0 := K4.out.cell 0
  have f0 := K4.out.frozen
  simp at c0
  have hbs := B3.out.size
  have HW := Lib.hid (show ∀ b ∈ fp', w3.heap.size ≤ b from fun b hb => (how.2 b hb).1)
  have hk1 := K3.out.lt
  clear hi' how b4
  obtain ⟨fa', fl', fc'⟩ := h'
  simp only [Disk.list]
  go_wp2_with fail
  refine body_gen (fun W => Below w.heap.size w W ∧ Blk W (w.heap.size + 1) 26 [.slice fa' fl' fc'] ∧ Disk.Is W ⟨ls⟩ ⟨fa', fl', fc'⟩ fp' ∧ Own w.heap.size W fp') ⟨?_, ?_, ?_, ?_⟩ ?_
  · have hb := B4.out
    repeat (first | exact Below.refl _ _ | refine Below.setCell ?_ (by first | omega | (simp; done) | (simp; omega)) _ | refine Below.alloc ?_ (by first | omega | (simp; done) | (simp; omega)) _ | apply Below.drew | refine Below.trans ?_ (hb.mono (by first | omega | (simp; done) | (simp; omega))))
  · (apply Blk.of_eq; (repeat (first | (with_reducible exact K4.out) | (with_reducible apply Blk.set) | ((with_reducible apply Blk.other); · first | (simp; done) | (simp; omega)) | (with_reducible apply Blk.drew))); rfl)
  · rw [E.out]
    refine HH.out.1.keep (fun q hq => ?_)
    have := HW.out q hq
    rw [Below.heap_setCell _ _ _ q (by simp; omega)]
  · refine HH.out.2.keep (fun q hq => ?_)
    have := HW.out q hq
    rw [Below.heap_setCell _ _ _ q (by simp; omega)]
  clear c0 f0
  rintro W ⟨bw, kw, iw, ow⟩
  have e0 := kw.cell 0
  simp at e0
  refine bodyPost_ret (v := .agg (Disk.list ⟨ls⟩ ⟨fa', fl', fc'⟩).toArray) (by simp [results, Try.results12, go_sem, e0, Disk.list]) rfl ?_
  exact ⟨⟨fa', fl', fc'⟩, fp', rfl, iw, ow, bw⟩
end Go.Proofs.Ytoglclmaacjdaaa.dat
