/-
  A DISK OPENED FOR A NAME, AND DiskPut OF THE PROGRAM.
-/
import Derived.Test.YtoglclmaacjdaaaInsert
import Derived.Test.YtoglclmaacjdaaaDiskSync
namespace Go.Proofs.Ytoglclmaacjdaaa.dat
open Go.RowKit Go.Proofs.Ytoglclmaacjdaaa.win

def nameB (name : ByteArray) : Bool := decide (1 ≤ name.size) && decide (name.size ≤ 20)
/-- What stands opened. -/
structure OpenFacts (x : DiskD) (name : ByteArray) (lo : Nat) (w' : World) (a : Option Addr) (n cap : Nat) (fq : List Nat) (lx : List FileD) (i : Nat) (f : FileD) (g : Nat) : Prop where
  row : GRow 1 RNamed w' a n lx fq
  cap : n ≤ cap
  own : Own lo w' fq
  len : n ≤ 5
  lt : i < n
  at' : lx[i]? = some f
  put : ∀ s, putF name s x.files = lx.set i ⟨f.name, f.safe, s⟩
  now : f.now = ((atF x.files name).map FileD.now).getD ByteArray.empty
  sizes : ∀ z ∈ lx, z.name.size ≤ 20 ∧ z.safe.size ≤ 200000 ∧ z.now.size ≤ 200000
  blk : Blk w' g 101 (Named.list f)
  mem : g ∈ fq
  set : ∀ (w'' : World) (f' : FileD), Apart [g] w' w'' → Blk w'' g 101 (Named.list f') → GRow 1 RNamed w'' a n (lx.set i f') fq
def Opened (x : DiskD) (name : ByteArray) (w : World) (e : Ending) (w' : World) : Prop :=
  Below w.heap.size w w' ∧ (((diskB x.files && nameB name) = false ∧ e = .returned (.tuple #[.slice none 0 0, .pointer none, .bool false])) ∨
    ((diskB x.files && nameB name) = true ∧ ∃ a n cap fq lx i f g, e = .returned (.tuple #[.slice a n cap, .pointer (some ⟨g, 0, none⟩), .bool (decide ((n : Int) ≤ 4))]) ∧ OpenFacts x name w.heap.size w' a n cap fq lx i f g))

theorem OpenFacts.below {x : DiskD} {name : ByteArray} {lo : Nat} {w' w4 : World} {a : Option Addr} {n cap : Nat} {fq : List Nat} {lx : List FileD} {i : Nat} {f : FileD} {g : Nat} (h : OpenFacts x name lo w' a n cap fq lx i f g) (b : Below w'.heap.size w' w4) : OpenFacts x name lo w4 a n cap fq lx i f g :=
  ⟨h.row.below local_Named b, h.cap, h.own.keep (fun q hq => b.block q (h.own.2 q hq).2.lt), h.len, h.lt, h.at', h.put, h.now, h.sizes, h.blk.below b h.blk.lt, h.mem, fun w'' f' ap bk => h.set w'' f' ((Apart.of_below b).trans ap) bk⟩
theorem below_drewN (w : World) (n : Nat) : Below w.heap.size w (w.drewN n) := ⟨rfl, rfl, rfl, Nat.le_refl _, fun _ _ => rfl⟩
theorem set_mid {α : Type} (l : List α) (i : Nat) (y z : α) (hi : i ≤ l.length) : (l.take i ++ y :: l.drop i).set i z = l.take i ++ z :: l.drop i := by
  rw [List.set_append_right _ _ (by rw [List.length_take]; omega)]
  simp [List.length_take, Nat.min_eq_left hi]

set_option maxRecDepth 100000 in
set_option maxHeartbeats 4000000 in
theorem opened_ (x : DiskD) (h : DiskH) (fp : List Nat) (name : ByteArray) (w : World) (hin : Disk.Is w x h fp) (hmax : Disk.sz x ≤ 2000000) :
    Calls Try.prog 57 #[.agg (Disk.list x h).toArray, .string name] w (Opened x name w) := by
  have HI := Lib.hid hin
  have HM := Lib.hid hmax
  clear hin hmax
  simp only [Disk.list]
  go_enter Try.func57, Try.ntmps57
  go_wp2_with fail
  refine calls_gen (fun W => Below w.heap.size w W ∧ Blk W w.heap.size 26 [.slice h.filesa h.filesl h.filesc]) ⟨by repeat (first | exact Below.refl _ _ | refine Below.setCell ?_ (by first | omega | (simp; done) | (simp; omega)) _ | refine Below.alloc ?_ (by first | omega | (simp; done) | (simp; omega)) _ | apply Below.drew), by with_reducible (repeat (first | (refine blk_new_at _ _ _ _ ?_; first | rfl | (simp; done)) | refine Blk.alloc ?_ _ | apply Blk.drew | refine Blk.setOther ?_ (by first | (simp; done) | (simp; omega)) _))⟩ ?_
  rintro W ⟨b0, k0⟩
  refine (impl_DiskOk x h fp W (HI.out.below b0) HM.out).mono ?_
  rintro e w1 ⟨rfl, b1⟩
  have B1 := Lib.hid (b0.trans (b1.mono b0.size))
  have K1 := Lib.hid (k0.below b1 k0.lt)
  have c0 := K1.out.cell 0
  simp at c0
  clear b0 k0 b1
  cases hd : diskB x.files with
  | false =>
    have HD := Lib.hid hd
    clear hd
    go_wp2_with fail
    refine bodyPost_ret (v := .tuple #[.slice none 0 0, .pointer none, .bool false]) (by simp [results, Try.results57, go_sem]) rfl ?_
    exact ⟨B1.out, .inl ⟨by rw [HD.out]; rfl, rfl⟩⟩
  | true =>
  have HD := Lib.hid hd
  clear hd
  obtain ⟨r, hr⟩ : ∃ r, (decide (1 ≤ name.size) && decide (name.size ≤ 20)) = r := ⟨_, rfl⟩
  have HR := Lib.hid hr
  clear hr
  go_wp2_with fail
  refine (nameOk_ name r HR.out w1).mono ?_
  rintro e w1' ⟨rfl, rfl⟩
  cases r with
  | false =>
    go_wp2_with fail
    refine bodyPost_ret (v := .tuple #[.slice none 0 0, .pointer none, .bool false]) (by simp [results, Try.results57, go_sem]) rfl ?_
    exact ⟨B1.out, .inl ⟨by unfold nameB; rw [HD.out, HR.out]; rfl, rfl⟩⟩
  | true =>
  go_wp2_with fail
  have HI1 := Lib.hid (HI.out.below B1.out)
  refine (mountOf_ x h fp w1' HI1.out HM.out).mono ?_
  rintro e w2 ⟨v, rfl, hG, b2⟩
  rw [HD.out, if_pos rfl] at hG
  obtain ⟨a, cap, fq, rfl, hg, hc1, hc2, ho⟩ := hG.done
  have B2 := Lib.hid (B1.out.trans (b2.mono B1.out.size))
  have HG := Lib.hid hG
  have HGR := Lib.hid hg
  have HC := Lib.hid hc1
  have HO := Lib.hid (ho.mono B1.out.size)
  have HBS := Lib.hid (And.intro B1.out.size b2.size)
  have HP0 := Lib.hid ((diskB_iff _).1 HD.out)
  have hn4 : x.files.length ≤ 4 := HP0.out.len
  clear hG hg hc1 hc2 ho b2 c0
  go_wp2_with fail
  refine (find_ a _ cap x.files fq name w2 HGR.out (by omega) (fun i j f g h1 h2 h3 => HP0.out.lt h1 h2 h3)).mono ?_
  rintro e w3 ⟨i, hp, rfl, rfl⟩
  have HP := Lib.hid hp
  clear hp
  cases ht : thereB x.files name i with
  | true =>
    obtain ⟨f, hf, he⟩ := thereB_true ht
    have hi : i < x.files.length := (List.getElem?_eq_some_iff.1 hf).1
    obtain ⟨b, off, y, g, rfl, hbl, hy, hk, hgm, hc, hup⟩ := named_set HGR.out HO.out.1 hi
    rw [hf] at hy
    cases hy
    have HF := Lib.hid (show OpenFacts x name w.heap.size w3 (some ⟨b, off, none⟩) x.files.length cap fq x.files i f g from
      ⟨HGR.out, HC.out, HO.out, by omega, hi, hf, fun s => by rw [set_split hi]; exact putF_there he HP.out.2.1 hf, by rw [atF_there (HP.out.2.1.ne) hf he]; rfl, diskP_sizes HP0.out, hk, hgm, hup⟩)
    have hi2 : (i : Int) < (x.files.length : Int) := by omega
    have hi0 : (0 : Int) ≤ (i : Int) := by omega
    clear ht hf he hk hgm hup
    go_wp2_with fail
    go_quiet (fail)
    go_wp2_with fail
    refine bodyPost_ret (v := .tuple #[.slice (some ⟨b, off, none⟩) x.files.length cap, .pointer (some ⟨g, 0, none⟩), .bool (decide ((x.files.length : Int) ≤ 4))]) (by simp [results, Try.results57, go_sem]) rfl ?_
    exact ⟨B2.out.trans ((below_drewN w3 _).mono B2.out.size), .inr ⟨by unfold nameB; rw [HD.out, HR.out]; rfl, _, _, _, _, _, _, _, _, rfl, HF.out.below (below_drewN w3 _)⟩⟩
  | false =>
    have HNF := Lib.hid (thereB_false HP.out ht)
    have HIL := Lib.hid HP.out.1
    clear ht
    go_wp2_with fail
    refine calls_gen (fun W => Below w3.heap.size w3 W ∧ Blk W w3.heap.size 101 [.string name, .int .i32 0, .int .u32 0, .string ⟨#[]⟩, .string ⟨#[]⟩] ∧ Blk W (w3.heap.size + 1) 90 [.pointer (some ⟨w3.heap.size, 0, none⟩)]) ⟨by repeat (first | exact Below.refl _ _ | refine Below.setCell ?_ (by first | omega | (simp; done) | (simp; omega)) _ | refine Below.alloc ?_ (by first | omega | (simp; done) | (simp; omega)) _ | apply Below.drew), by with_reducible (repeat (first | (refine blk_new_at _ _ _ _ ?_; first | rfl | (simp; done)) | refine Blk.alloc ?_ _ | apply Blk.drew | refine Blk.setOther ?_ (by first | (simp; done) | (simp; omega)) _)), by with_reducible (repeat (first | (refine blk_new_at _ _ _ _ ?_; first | rfl | (simp; done)) | refine Blk.alloc ?_ _ | apply Blk.drew | refine Blk.setOther ?_ (by first | (simp; done) | (simp; omega)) _))⟩ ?_
    rintro W ⟨b4, k4, k5⟩
    refine (insert_ w1'.heap.size _ x.files i ⟨name, ByteArray.empty, ByteArray.empty⟩ w3.heap.size (w3.heap.size + 1) w3 W HG.out b4 HIL.out (by omega) k5 k4 (Nat.le_refl _) (by omega) (by omega) HBS.out.2).mono ?_
    rintro e w5 ⟨v', rfl, hG5, b5⟩
    obtain ⟨a', cap', fq', rfl, hg5, hd1, hd2, ho5⟩ := hG5.done
    have hil := HIL.out
    obtain ⟨y, hy0⟩ : ∃ y : FileD, y = ⟨name, ByteArray.empty, ByteArray.empty⟩ := ⟨_, rfl⟩
    rw [← hy0] at hg5 hd1
    have hl5 : (x.files.take i ++ y :: x.files.drop i).length = x.files.length + 1 := ins_len _ _ _ hil
    have hi5 : i < (x.files.take i ++ y :: x.files.drop i).length := by rw [hl5]; omega
    have ho5' := ho5.mono B1.out.size
    have HB5 := Lib.hid (show Below w.heap.size w w5 from (B2.out.trans (b4.mono B2.out.size)).trans (b5.mono B1.out.size))
    obtain ⟨b, off, y', g, rfl, hbl, hyy, hk, hgm, hc, hup⟩ := named_set hg5 ho5'.1 hi5
    have hat : (x.files.take i ++ y :: x.files.drop i)[i]? = some y := by rw [ins_get _ _ _ hil, if_neg (by omega), if_pos rfl]
    rw [hat] at hyy
    cases hyy
    have HF := Lib.hid (show OpenFacts x name w.heap.size w5 (some ⟨b, off, none⟩) (x.files.length + 1) cap' fq' (x.files.take i ++ y :: x.files.drop i) i y g by
      rw [hl5] at hg5 hd1 hup
      refine ⟨hg5, hd1, ho5', by omega, by omega, hat, fun s => ?_, ?_, ?_, hk, hgm, hup⟩
      · rw [putF_new HP.out.2.1 hil HNF.out, set_mid _ _ _ _ hil, hy0]
      · rw [atF_none (DiskP.none_at HP0.out HP.out.2.1 HNF.out), hy0]; rfl
      · intro z hz
        have hnm := HR.out
        simp at hnm
        rcases List.mem_append.1 hz with hz | hz
        · exact diskP_sizes HP0.out z (List.mem_of_mem_take hz)
        · rcases List.mem_cons.1 hz with rfl | hz
          · rw [hy0]; exact ⟨hnm.2, by simp, by simp⟩
          · exact diskP_sizes HP0.out z (List.mem_of_mem_drop hz))
    have hi2 : (i : Int) < ((x.files.length + 1 : Nat) : Int) := by omega
    have hi0 : (0 : Int) ≤ (i : Int) := by omega
    obtain ⟨n5, hn5⟩ : ∃ n5, x.files.length + 1 = n5 := ⟨_, rfl⟩
    rw [← hy0, hl5, hn5]
    rw [hn5] at HF hi2
    clear hat hk hgm hup hg5 hd1 hd2 ho5 ho5' k4 k5 b4 b5 hl5 hi5 hn5 hG5
    go_wp2_with fail
    go_quiet (fail)
    go_wp2_with fail
    refine bodyPost_ret (v := .tuple #[.slice (some ⟨b, off, none⟩) n5 cap', .pointer (some ⟨g, 0, none⟩), .bool (decide ((n5 : Int) ≤ 4))]) (by simp [results, Try.results57, go_sem]) rfl ?_
    exact ⟨HB5.out.trans ((below_drewN w5 _).mono HB5.out.size), .inr ⟨by unfold nameB; rw [HD.out, HR.out]; rfl, _, _, _, _, _, _, _, _, rfl, HF.out.below (below_drewN w5 _)⟩⟩

theorem sz_all {lx : List FileD} {i : Nat} {f : FileD} {s : ByteArray} (h : ∀ z ∈ lx, z.name.size ≤ 20 ∧ z.safe.size ≤ 200000 ∧ z.now.size ≤ 200000) (hf : lx[i]? = some f) (hs : s.size ≤ 200000) : ∀ z ∈ lx.set i ⟨f.name, f.safe, s⟩, z.name.size ≤ 20 ∧ z.safe.size ≤ 200000 ∧ z.now.size ≤ 200000 := by
  intro z hz
  rcases List.mem_or_eq_of_mem_set hz with hz | rfl
  · exact h z hz
  · have := h f (List.mem_of_getElem? hf)
    exact ⟨this.1, this.2.1, hs⟩
/-- Two results: a disk of its own, and whether. -/
def CopiedDiskB (w : World) (x : DiskD) (t : Bool) (e : Ending) (w' : World) : Prop := ∃ (h : DiskH) (fp : List Nat), e = .returned (.tuple #[.agg (Disk.list x h).toArray, .bool t]) ∧ Disk.Is w' x h fp ∧ Own w.heap.size w' fp ∧ Below w.heap.size w w'

theorem putD_yes {l : List FileD} {name s : ByteArray} (h : (diskB l && nameB name) = true) (hs : s.size ≤ 200000) (hl : (putF name s l).length ≤ 4) : putD l name s = (putF name s l, true) := by
  unfold putD
  unfold nameB at h
  rw [h]
  simp [hs, hl]
theorem putD_bad {l : List FileD} {name s : ByteArray} (h : (diskB l && nameB name) = false) : putD l name s = ([], false) := by
  unfold putD
  unfold nameB at h
  rw [h]
  simp
theorem putD_long {l : List FileD} {name s : ByteArray} (hs : ¬ s.size ≤ 200000) : putD l name s = ([], false) := by
  unfold putD
  simp [hs]
theorem putD_many {l : List FileD} {name s : ByteArray} (hl : ¬ (putF name s l).length ≤ 4) : putD l name s = ([], false) := by
  unfold putD
  simp [hl]

set_option maxRecDepth 100000 in
set_option maxHeartbeats 4000000 in
theorem impl_DiskPut (x : DiskD) (h : DiskH) (fp : List Nat) (name s : ByteArray) (w : World) (hin : Disk.Is w x h fp) (_hs1 : name.size ≤ 9223372036854775807) (_hs2 : s.size ≤ 9223372036854775807) (hmax : Disk.sz x ≤ 2000000) :
    Calls Try.prog 21 #[.agg (Disk.list x h).toArray, .string name, .string s] w (CopiedDiskB w ⟨(putD x.files name s).1⟩ (putD x.files name s).2) := by
  have HI := Lib.hid hin
  have HM := Lib.hid hmax
  clear hin hmax
  obtain ⟨ls, hls⟩ : ∃ ls, putD x.files name s = ls := ⟨_, rfl⟩
  rw [hls]
  have HLS := Lib.hid hls
  clear hls
  simp only [Disk.list]
  go_enter Try.func21, Try.ntmps21
  go_wp2_with fail
  refine calls_gen (fun W => Below w.heap.size w W ∧ Blk W w.heap.size 26 [.slice h.filesa h.filesl h.filesc] ∧ Blk W (w.heap.size + 1) 26 [.slice none 0 0]) ⟨by repeat (first | exact Below.refl _ _ | refine Below.setCell ?_ (by first | omega | (simp; done) | (simp; omega)) _ | refine Below.alloc ?_ (by first | omega | (simp; done) | (simp; omega)) _ | apply Below.drew), by with_reducible (repeat (first | (refine blk_new_at _ _ _ _ ?_; first | rfl | (simp; done)) | refine Blk.alloc ?_ _ | apply Blk.drew | refine Blk.setOther ?_ (by first | (simp; done) | (simp; omega)) _)), by with_reducible (repeat (first | (refine blk_new_at _ _ _ _ ?_; first | rfl | (simp; done)) | refine Blk.alloc ?_ _ | apply Blk.drew | refine Blk.setOther ?_ (by first | (simp; done) | (simp; omega)) _))⟩ ?_
  rintro W ⟨b0, k0, k1⟩
  refine (opened_ x h fp name W (HI.out.below b0) HM.out).mono ?_
  rintro e w1 ⟨b1, ho⟩
  have B1 := Lib.hid (b0.trans (b1.mono b0.size))
  have K1 := Lib.hid (k1.below b1 k1.lt)
  have HW := Lib.hid (And.intro b0.size (show w.heap.size + 1 < W.heap.size from k1.lt))
  have r0 := K1.out.cell 0
  have rf := K1.out.frozen
  simp at r0
  clear b0 k0 k1 b1
  rcases ho with ⟨hbad, rfl⟩ | ⟨hgood, a, n, cap, fq, lx, i, f, g, rfl, ho⟩
  · have E := Lib.hid (show ls = ([], false) by rw [← HLS.out]; exact putD_bad hbad)
    clear hbad
    go_wp2_with fail
    refine body_gen (fun W => Below w.heap.size w W ∧ Blk W (w.heap.size + 1) 26 [.slice none 0 0]) ⟨?_, ?_⟩ ?_
    · have hb := B1.out
      have hbs := hb.size
      repeat (first | exact Below.refl _ _ | refine Below.setCell ?_ (by first | omega | (simp; done) | (simp; omega)) _ | refine Below.alloc ?_ (by first | omega | (simp; done) | (simp; omega)) _ | apply Below.drew | refine Below.trans ?_ (hb.mono (by first | omega | (simp; done) | (simp; omega))))
    · (apply Blk.of_eq; (repeat (first | (with_reducible exact K1.out) | (with_reducible apply Blk.set) | ((with_reducible apply Blk.other); · first | (simp; done) | (simp; omega)) | (with_reducible apply Blk.drew))); rfl)
    rintro W' ⟨bw, kw⟩
    have e0 := kw.cell 0
    simp at e0
    refine bodyPost_ret (v := .tuple #[.agg (Disk.list ⟨ls.1⟩ ⟨none, 0, 0⟩).toArray, .bool ls.2]) (by rw [E.out]; simp [results, Try.results21, go_sem, e0, Disk.list]) rfl ?_
    rw [E.out]
    exact ⟨⟨none, 0, 0⟩, [], rfl, ⟨[], rfl, GRow.nil, Nat.le_refl _, Nat.zero_le _⟩, Own.nil, bw⟩
  have HG := Lib.hid hgood
  have HO := Lib.hid ho
  have hll : (putF name s x.files).length = n := by rw [ho.put, List.length_set]; exact ho.row.1
  have HGL := Lib.hid (show w.heap.size + 1 < g from by have := (ho.own.2 g ho.mem).1; have := HW.out.2; omega)
  clear hgood ho
  by_cases hn4 : (n : Int) ≤ 4
  case neg =>
    have hdec : decide ((n : Int) ≤ 4) = false := by simpa using hn4
    rw [hdec]
    have E := Lib.hid (show ls = ([], false) by rw [← HLS.out]; exact putD_many (by rw [hll]; omega))
    have BX := Lib.hid B1.out
    have KX := Lib.hid K1.out
    clear hdec hn4 hll
    go_wp2_with fail
    refine body_gen (fun W => Below w.heap.size w W ∧ Blk W (w.heap.size + 1) 26 [.slice none 0 0]) ⟨?_, ?_⟩ ?_
    · have hb := BX.out
      have hbs := hb.size
      repeat (first | exact Below.refl _ _ | refine Below.setCell ?_ (by first | omega | (simp; done) | (simp; omega)) _ | refine Below.alloc ?_ (by first | omega | (simp; done) | (simp; omega)) _ | apply Below.drew | refine Below.trans ?_ (hb.mono (by first | omega | (simp; done) | (simp; omega))))
    · (apply Blk.of_eq; (repeat (first | (with_reducible exact KX.out) | (with_reducible apply Blk.set) | ((with_reducible apply Blk.other); · first | (simp; done) | (simp; omega)) | (with_reducible apply Blk.drew))); rfl)
    rintro W' ⟨bw, kw⟩
    have e0 := kw.cell 0
    simp at e0
    refine bodyPost_ret (v := .tuple #[.agg (Disk.list ⟨ls.1⟩ ⟨none, 0, 0⟩).toArray, .bool ls.2]) (by rw [E.out]; simp [results, Try.results21, go_sem, e0, Disk.list]) rfl ?_
    rw [E.out]
    exact ⟨⟨none, 0, 0⟩, [], rfl, ⟨[], rfl, GRow.nil, Nat.le_refl _, Nat.zero_le _⟩, Own.nil, bw⟩
  have hdec : decide ((n : Int) ≤ 4) = true := by simpa using hn4
  rw [hdec]
  clear hdec
  have hpc : ∃ g', Value.pointer (some ⟨g, 0, none⟩) = .pointer (some ⟨g', 0, none⟩) := ⟨g, rfl⟩
  by_cases hs : s.size ≤ 200000
  case neg =>
    have E := Lib.hid (show ls = ([], false) by rw [← HLS.out]; exact putD_long hs)
    clear hn4 hll hpc
    go_wp2_with fail
    refine (put_no f s g w1 HO.out.blk hs).mono ?_
    rintro e w3 ⟨rfl, ap, bk⟩
    have BX := Lib.hid (B1.out.trans (ap.below (lo := w.heap.size) (fun c hc => by simp at hc; subst hc; have := HGL.out; omega) B1.out.size))
    have KX := Lib.hid (show Blk w3 (w.heap.size + 1) 26 [.slice none 0 0] from (ap.block _ K1.out.lt (by have := HGL.out; simp; omega)).trans K1.out)
    clear ap bk r0 rf hs
    have r0 := KX.out.cell 0
    have rf := KX.out.frozen
    simp at r0
    go_wp2_with fail
    refine body_gen (fun W => Below w.heap.size w W ∧ Blk W (w.heap.size + 1) 26 [.slice none 0 0]) ⟨?_, ?_⟩ ?_
    · have hb := BX.out
      have hbs := hb.size
      repeat (first | exact Below.refl _ _ | refine Below.setCell ?_ (by first | omega | (simp; done) | (simp; omega)) _ | refine Below.alloc ?_ (by first | omega | (simp; done) | (simp; omega)) _ | apply Below.drew | refine Below.trans ?_ (hb.mono (by first | omega | (simp; done) | (simp; omega))))
    · (apply Blk.of_eq; (repeat (first | (with_reducible exact KX.out) | (with_reducible apply Blk.set) | ((with_reducible apply Blk.other); · first | (simp; done) | (simp; omega)) | (with_reducible apply Blk.drew))); rfl)
    rintro W' ⟨bw, kw⟩
    have e0 := kw.cell 0
    simp at e0
    refine bodyPost_ret (v := .tuple #[.agg (Disk.list ⟨ls.1⟩ ⟨none, 0, 0⟩).toArray, .bool ls.2]) (by rw [E.out]; simp [results, Try.results21, go_sem, e0, Disk.list]) rfl ?_
    rw [E.out]
    exact ⟨⟨none, 0, 0⟩, [], rfl, ⟨[], rfl, GRow.nil, Nat.le_refl _, Nat.zero_le _⟩, Own.nil, bw⟩
  have E := Lib.hid (show ls = (lx.set i ⟨f.name, f.safe, s⟩, true) by
    rw [← HLS.out, putD_yes HG.out hs (by rw [hll]; omega), HO.out.put])
  have HSZ := Lib.hid (sizes_wide (sz_all HO.out.sizes HO.out.at' hs))
  have hn5 := HO.out.len
  clear hn4 hll hpc
  go_wp2_with fail
  refine (put_yes f s g w1 HO.out.blk hs).mono ?_
  rintro e w3 ⟨rfl, ap, bk⟩
  have BX := Lib.hid (B1.out.trans (ap.below (lo := w.heap.size) (fun c hc => by simp at hc; subst hc; have := HGL.out; omega) B1.out.size))
  have KX := Lib.hid (show Blk w3 (w.heap.size + 1) 26 [.slice none 0 0] from (ap.block _ K1.out.lt (by have := HGL.out; simp; omega)).trans K1.out)
  have R3 := Lib.hid (HO.out.set w3 _ ap bk)
  clear ap bk r0 rf hs
  go_wp2_with fail
  refine (disk_ a n cap _ fq w3 R3.out (by omega) HSZ.out).mono ?_
  rintro e w4 ⟨h', fp', rfl, hi', how, b4⟩
  have B4 := Lib.hid (BX.out.trans (b4.mono BX.out.size))
  have K4 := Lib.hid (KX.out.below b4 KX.out.lt)
  have HH := Lib.hid (And.intro hi' (how.mono BX.out.size))
  have c0 := K4.out.cell 0
  have f0 := K4.out.frozen
  simp at c0
  have hbs := BX.out.size
  have HW3 := Lib.hid (show ∀ b ∈ fp', w3.heap.size ≤ b from fun b hb => (how.2 b hb).1)
  have hk1 := KX.out.lt
  clear hi' how b4
  obtain ⟨fa', fl', fc'⟩ := h'
  simp only [Disk.list]
  go_wp2_with fail
  refine body_gen (fun W => Below w.heap.size w W ∧ Blk W (w.heap.size + 1) 26 [.slice fa' fl' fc'] ∧ Disk.Is W ⟨ls.1⟩ ⟨fa', fl', fc'⟩ fp' ∧ Own w.heap.size W fp') ⟨?_, ?_, ?_, ?_⟩ ?_
  · have hb := B4.out
    repeat (first | exact Below.refl _ _ | refine Below.setCell ?_ (by first | omega | (simp; done) | (simp; omega)) _ | refine Below.alloc ?_ (by first | omega | (simp; done) | (simp; omega)) _ | apply Below.drew | refine Below.trans ?_ (hb.mono (by first | omega | (simp; done) | (simp; omega))))
  · (apply Blk.of_eq; (repeat (first | (with_reducible exact K4.out) | (with_reducible apply Blk.set) | ((with_reducible apply Blk.other); · first | (simp; done) | (simp; omega)) | (with_reducible apply Blk.drew))); rfl)
  · rw [E.out]
    refine HH.out.1.keep (fun q hq => ?_)
    have := HW3.out q hq
    rw [Below.heap_setCell _ _ _ q (by simp; omega)]
  · refine HH.out.2.keep (fun q hq => ?_)
    have := HW3.out q hq
    rw [Below.heap_setCell _ _ _ q (by simp; omega)]
  clear c0 f0
  rintro W ⟨bw, kw, iw, ow⟩
  have e0 := kw.cell 0
  simp at e0
  refine bodyPost_ret (v := .tuple #[.agg (Disk.list ⟨ls.1⟩ ⟨fa', fl', fc'⟩).toArray, .bool ls.2]) (by rw [E.out]; simp [results, Try.results21, go_sem, e0, Disk.list]) rfl ?_
  exact ⟨⟨fa', fl', fc'⟩, fp', rfl, iw, ow, bw⟩
end Go.Proofs.Ytoglclmaacjdaaa.dat
