/-
  MARKS ON FILES looked for: heldFileS of the laws; marks on a Disk. (The Disk's part: tools/gendata.py.)
-/
import Derived.Test.YtemefahhogdoaaaDiskMark
import Derived.Test.YtemefahhogdoaaaMixHeld
namespace Go.Proofs.Ytemefahhogdoaaa.dat
open Go.RowKit Go.Proofs.Ytemefahhogdoaaa.win
set_option linter.unusedVariables false

set_option maxRecDepth 100000 in
set_option maxHeartbeats 2000000 in
theorem held_FileS (a : Option Addr) (len cap : Nat) (l : List FileD) (fp : List Nat) (m : Int) (w : World) (hmax : len ≤ 2000000) (hm0 : 0 ≤ m) (hm1 : m + (cntL cnFile l : Nat) ≤ 1099511627776) (hrow : GRow 3 RFile w a len (markL mkFile cnFile m l) fp) :
    Calls Try.prog 66 #[.slice a len cap, .int .i64 m] w fun e w' => e = .returned (.int .i64 (m + (cntL cnFile l : Nat))) ∧ Below w.heap.size w w' := by
  have HL := Lib.hid (show l.length = len by have := hrow.1; rwa [markL_length] at this)
  have HR := Lib.hid hrow
  have HM := Lib.hid hm1
  clear hrow hm1
  go_enter Try.func66, Try.ntmps66
  go_wp2_with fail
  go_loopg [1, 5] len (fun r sk i wr => ∃ j : Nat, j + r = len ∧ sk = .int .i64 (m + (cntL cnFile (l.take j) : Nat)) ∧ i = .int .i64 j ∧ Below w.heap.size w wr)
  case atStart => exact ⟨0, by omega, by simp [cntL], rfl, Below.refl _ _⟩
  case round =>
    obtain ⟨j, hj, rfl, rfl, hb⟩ := hrel
    have HB := Lib.hid hb
    obtain ⟨q, hq⟩ : ∃ q : Int, m + (cntL cnFile (l.take j) : Nat) = q := ⟨_, rfl⟩
    have hq0 : 0 ≤ q := by omega
    have HQ := Lib.hid hq
    rw [hq]
    by_cases hlt : j < len
    case neg =>
      obtain rfl : j = len := by omega
      clear hb hq
      go_wp2_with fail
      go_ret
      exact ⟨ret_int (by rw [← HQ.out, cntL_all _ _ (by rw [HL.out]; omega)]), HB.out⟩
    have hlt2 : (j : Int) < (len : Int) := by omega
    have h02 : (0 : Int) ≤ (j : Int) := by omega
    obtain ⟨b, off, x', f, cs, rfl, hbl, hx', hcl, hR, hc⟩ := HR.out.at hlt
    obtain ⟨x, hx⟩ : ∃ x, l[j]? = some x := ⟨_, List.getElem?_eq_getElem (by rw [HL.out]; exact hlt)⟩
    rw [markL_at mkFile cnFile l m hx, HQ.out] at hx'
    obtain rfl : mkFile q x = x' := Option.some.inj hx'
    obtain ⟨rfl, -, -, -, rfl⟩ := hR
    have c0 : wr.cell? ⟨b, off + j * 3, none⟩ = some (.string (markT q)) := by have := (hb.cell (p := ⟨b, off + j * 3 + 0, none⟩) hbl).trans (hc 0 (by omega)); simpa [mkFile, File.list] using this
    have c1 : wr.cell? ⟨b, off + j * 3 + 1, none⟩ = some (.string (markT (q + 1))) := by have := (hb.cell (p := ⟨b, off + j * 3 + 1, none⟩) hbl).trans (hc 1 (by omega)); simpa [mkFile, File.list] using this
    have c2 : wr.cell? ⟨b, off + j * 3 + 2, none⟩ = some (.string (markT (q + 1 + 1))) := by have := (hb.cell (p := ⟨b, off + j * 3 + 2, none⟩) hbl).trans (hc 2 (by omega)); rw [show q + 1 + 1 = q + 2 by omega]; simpa [mkFile, File.list] using this
    have hq1 : q + 3 ≤ 1099511627776 := by have h1 := cntL_take_succ cnFile l hx; have h2 := cntL_take_le cnFile l (j + 1); have h3 := HM.out; have h4 : cnFile x = 3 := rfl; omega
    have HX := Lib.hid hx
    have hbr := Nat.lt_of_lt_of_le hbl hb.size
    clear hx hx' hb hc hq hcl
    obtain ⟨t0, e0⟩ : ∃ t, markT q = t := ⟨_, rfl⟩
    obtain ⟨t1, e1⟩ : ∃ t, markT (q + 1) = t := ⟨_, rfl⟩
    obtain ⟨t2, e2⟩ : ∃ t, markT (q + 1 + 1) = t := ⟨_, rfl⟩
    have hM0 := fun W => markTextT q W (by omega) (by omega)
    have hM1 := fun W => markTextT (q + 1) W (by omega) (by omega)
    have hM2 := fun W => markTextT (q + 1 + 1) W (by omega) (by omega)
    rw [e0] at hM0 c0
    rw [e1] at hM1 c1
    rw [e2] at hM2 c2
    have M0 := Lib.hid hM0
    have M1 := Lib.hid hM1
    have M2 := Lib.hid hM2
    have C1 := Lib.hid c1
    have C2 := Lib.hid c2
    clear hM0 hM1 hM2 e0 e1 e2 c1 c2
    go_wp2_with fail
    refine mix.wp_region_mixh (fun w' => w'.cell? ⟨b, off + j * 3, none⟩ = some (.string t0)) [6] (by kernel_rfl) (by kernel_rfl) (fun _ _ d _ _ h => by cases d <;> exact h) c0 ?_
    (repeat (first | (apply mix.held_take; (· rfl); (· rfl); (· (intro w' hSw; (try dsimp only at hSw); go_simp; try with_reducible rfl)); (try simp only [Act.put, List.setIfInBounds_toArray, List.set_cons_zero, List.set_cons_succ])) | ((refine mix.held_pass rfl (by rfl) ?_); (try simp only [Act.put, List.setIfInBounds_toArray, List.set_cons_zero, List.set_cons_succ]))))
    refine mix.held_hard rfl (fun K hK => ?_); go_simp
    refine (M0.out _).mono ?_
    rintro e V0 ⟨rfl, b0⟩
    have b0' : Below wr.heap.size wr V0 := (show Below wr.heap.size wr wr.drew by repeat (first | exact Below.refl _ _ | refine Below.setCell ?_ (by first | omega | (simp; done) | (simp; omega)) _ | refine Below.alloc ?_ (by first | omega | (simp; done) | (simp; omega)) _ | apply Below.drew)).trans b0
    have D0 := (b0'.cell (p := ⟨b, off + j * 3, none⟩) hbr).trans c0
    have N1 := Lib.hid ((b0'.cell (p := ⟨b, off + j * 3 + 1, none⟩) hbr).trans C1.out)
    clear C1
    have C1 := N1
    clear N1
    have N2 := Lib.hid ((b0'.cell (p := ⟨b, off + j * 3 + 2, none⟩) hbr).trans C2.out)
    clear C2
    have C2 := N2
    clear N2
    have B0 := Lib.hid (HB.out.trans (b0'.mono HB.out.size))
    have s0 := Nat.lt_of_lt_of_le hbr b0'.size
    clear b0 b0' c0
    refine hK.out _ _ (D0) (fun hSw => ?_); clear hK K hSw; (try simp only [Act.put, List.setIfInBounds_toArray, List.set_cons_zero, List.set_cons_succ])
    (repeat (first | (apply mix.held_take; (· rfl); (· rfl); (· (intro w' hSw; (try dsimp only at hSw); go_simp; try with_reducible rfl)); (try simp only [Act.put, List.setIfInBounds_toArray, List.set_cons_zero, List.set_cons_succ])) | ((refine mix.held_pass rfl (by rfl) ?_); (try simp only [Act.put, List.setIfInBounds_toArray, List.set_cons_zero, List.set_cons_succ]))))
    refine mix.held_end ?_
    have c1 := C1.out
    go_wp2_with fail
    refine mix.wp_region_mixh (fun w' => w'.cell? ⟨b, off + j * 3 + 1, none⟩ = some (.string t1)) [6] (by kernel_rfl) (by kernel_rfl) (fun _ _ d _ _ h => by cases d <;> exact h) c1 ?_
    (repeat (first | (apply mix.held_take; (· rfl); (· rfl); (· (intro w' hSw; (try dsimp only at hSw); go_simp; try with_reducible rfl)); (try simp only [Act.put, List.setIfInBounds_toArray, List.set_cons_zero, List.set_cons_succ])) | ((refine mix.held_pass rfl (by rfl) ?_); (try simp only [Act.put, List.setIfInBounds_toArray, List.set_cons_zero, List.set_cons_succ]))))
    refine mix.held_hard rfl (fun K hK => ?_); go_simp
    refine (M1.out _).mono ?_
    rintro e V1 ⟨rfl, b1⟩
    have b1' : Below V0.heap.size V0 V1 := (show Below V0.heap.size V0 V0.drew by repeat (first | exact Below.refl _ _ | refine Below.setCell ?_ (by first | omega | (simp; done) | (simp; omega)) _ | refine Below.alloc ?_ (by first | omega | (simp; done) | (simp; omega)) _ | apply Below.drew)).trans b1
    have D1 := (b1'.cell (p := ⟨b, off + j * 3 + 1, none⟩) s0).trans c1
    have N2 := Lib.hid ((b1'.cell (p := ⟨b, off + j * 3 + 2, none⟩) s0).trans C2.out)
    clear C2
    have C2 := N2
    clear N2
    have B1 := Lib.hid (B0.out.trans (b1'.mono B0.out.size))
    have s1 := Nat.lt_of_lt_of_le s0 b1'.size
    clear b1 b1' c1
    refine hK.out _ _ (D1) (fun hSw => ?_); clear hK K hSw; (try simp only [Act.put, List.setIfInBounds_toArray, List.set_cons_zero, List.set_cons_succ])
    (repeat (first | (apply mix.held_take; (· rfl); (· rfl); (· (intro w' hSw; (try dsimp only at hSw); go_simp; try with_reducible rfl)); (try simp only [Act.put, List.setIfInBounds_toArray, List.set_cons_zero, List.set_cons_succ])) | ((refine mix.held_pass rfl (by rfl) ?_); (try simp only [Act.put, List.setIfInBounds_toArray, List.set_cons_zero, List.set_cons_succ]))))
    refine mix.held_end ?_
    have c2 := C2.out
    go_wp2_with fail
    refine mix.wp_region_mixh (fun w' => w'.cell? ⟨b, off + j * 3 + 2, none⟩ = some (.string t2)) [6] (by kernel_rfl) (by kernel_rfl) (fun _ _ d _ _ h => by cases d <;> exact h) c2 ?_
    (repeat (first | (apply mix.held_take; (· rfl); (· rfl); (· (intro w' hSw; (try dsimp only at hSw); go_simp; try with_reducible rfl)); (try simp only [Act.put, List.setIfInBounds_toArray, List.set_cons_zero, List.set_cons_succ])) | ((refine mix.held_pass rfl (by rfl) ?_); (try simp only [Act.put, List.setIfInBounds_toArray, List.set_cons_zero, List.set_cons_succ]))))
    refine mix.held_hard rfl (fun K hK => ?_); go_simp
    refine (M2.out _).mono ?_
    rintro e V2 ⟨rfl, b2⟩
    have b2' : Below V1.heap.size V1 V2 := (show Below V1.heap.size V1 V1.drew by repeat (first | exact Below.refl _ _ | refine Below.setCell ?_ (by first | omega | (simp; done) | (simp; omega)) _ | refine Below.alloc ?_ (by first | omega | (simp; done) | (simp; omega)) _ | apply Below.drew)).trans b2
    have D2 := (b2'.cell (p := ⟨b, off + j * 3 + 2, none⟩) s1).trans c2
    have B2 := Lib.hid (B1.out.trans (b2'.mono B1.out.size))
    have s2 := Nat.lt_of_lt_of_le s1 b2'.size
    clear b2 b2' c2
    refine hK.out _ _ (D2) (fun hSw => ?_); clear hK K hSw; (try simp only [Act.put, List.setIfInBounds_toArray, List.set_cons_zero, List.set_cons_succ])
    (repeat (first | (apply mix.held_take; (· rfl); (· rfl); (· (intro w' hSw; (try dsimp only at hSw); go_simp; try with_reducible rfl)); (try simp only [Act.put, List.setIfInBounds_toArray, List.set_cons_zero, List.set_cons_succ])) | ((refine mix.held_pass rfl (by rfl) ?_); (try simp only [Act.put, List.setIfInBounds_toArray, List.set_cons_zero, List.set_cons_succ]))))
    refine mix.held_end ?_
    go_wp2_with fail
    go_roundg (len - (j + 1))
    case measure => omega
    case rel =>
      refine ⟨j + 1, by omega, ?_, by go_num, B2.out⟩
      rw [cntL_take_succ cnFile l HX.out, ← HQ.out, show cnFile x = 3 from rfl]
      apply congrArg (Value.int IntKind.i64)
      omega
def Disk.markV (k : Int) (x : DiskD) : DiskD := { x with files := markL mkFile cnFile (k) x.files }
def Disk.cntV (x : DiskD) : Nat := cntL cnFile x.files
theorem Disk.cntV_le (x : DiskD) : Disk.cntV x ≤ 8 * Disk.sz x := by
  have h0 := cntL_le (cn := cnFile) (sz := File.sz) (fun y => by have := cn_le_File y; omega) x.files
  unfold Disk.cntV Disk.sz
  omega

def MarkedDisk (lo : Nat) (w : World) (x : DiskD) (h : DiskH) (fp : List Nat) (m : Int) (e : Ending) (w' : World) : Prop := e = .returned (.int .i64 (m + (Disk.cntV x : Nat))) ∧ Disk.Is w' (Disk.markV m x) h fp ∧ Own lo w' fp ∧ Apart fp w w'
set_option maxRecDepth 100000 in
set_option maxHeartbeats 2000000 in
theorem mark_Disk (x : DiskD) (h : DiskH) (fp : List Nat) (m : Int) (lo : Nat) (w : World) (hmax : Disk.sz x ≤ 2000000) (hm0 : 0 ≤ m) (hm1 : m + (Disk.cntV x : Nat) ≤ 1099511627776) (hin : Disk.Is w x h fp) (hown : Own lo w fp) : Calls Try.prog 22 #[.agg (Disk.list x h).toArray, .int .i64 m] w (MarkedDisk lo w x h fp m) := by
  obtain ⟨f0, rfl, r0, u0, v0⟩ := hin
  have R0 := Lib.hid r0
  have U0 := Lib.hid (And.intro u0 v0)
  have HN := Lib.hid (show w.heap.size ∉ fp from fun hm => by have := (hown.2 _ hm).2.lt; omega)
  have HO := Lib.hid hown
  have HM := Lib.hid hmax
  have HK := Lib.hid hm1
  unfold Disk.sz at HM
  unfold Disk.cntV at HK
  clear hown hmax hm1 r0 u0 v0
  simp only [Disk.list]
  go_enter Try.func22, Try.ntmps22
  go_wp2_with fail
  refine calls_gen (fun W => Apart (fp) w W ∧ Own lo W (fp) ∧ Blk W w.heap.size 29 [.slice h.filesa h.filesl h.filesc] ∧ GRow 3 RFile W h.filesa h.filesl x.files fp) ?_ ?_
  · exact ⟨(Apart.refl _ _).alloc _, HO.out.below ((Below.refl _ _).alloc (Nat.le_refl _) _), by with_reducible (repeat (first | (refine blk_new_at _ _ _ _ ?_; first | rfl | (simp; done)) | refine Blk.alloc ?_ _ | apply Blk.drew | refine Blk.setOther ?_ (by first | (simp; done) | (simp; omega)) _)), R0.out.below local_File ((Below.refl _ _).alloc (Nat.le_refl _) _)⟩
  clear HO R0
  rintro W0 ⟨ap, ow, kk, q0⟩
  have hnd := ow.1
  refine (mark_FileS h.filesa h.filesl h.filesc x.files _ _ lo W0 (by have h1 := q0.1; have h2 := HM.out; unfold szL at h2; omega) (by omega) (by have := HK.out; omega) q0 ow).mono ?_
  rintro e V0 ⟨rfl, row, own, apt⟩
  have B0 := Lib.hid (ap.trans (apt.mono (fun b hb => by simp [hb])))
  have KK : Blk V0 w.heap.size 29 [.slice h.filesa h.filesl h.filesc] := (apt.block w.heap.size kk.lt (fun hm => HN.out (by simp [hm]))).trans kk
  have Q0 := Lib.hid row
  have OW := Lib.hid (show Own lo V0 (fp) from ⟨hnd, fun b hb => ⟨(ow.2 b hb).1, by by_cases hm : b ∈ fp; exact (own.2 b hm).2; exact (ow.2 b hb).2.same (apt.block b (ow.2 b hb).2.lt hm)⟩⟩)
  have KH := Lib.hid KK
  have c0_0 := KK.cell 0
  simp at c0_0
  clear ap ow kk q0 row own apt hnd KK
  go_wp2_with fail
  go_ret
  exact ⟨ret_int (by unfold Disk.cntV; omega), ⟨_, rfl, Q0.out, U0.out.1, U0.out.2⟩, OW.out, B0.out⟩

set_option maxRecDepth 100000 in
set_option maxHeartbeats 2000000 in
theorem held_Disk (x : DiskD) (h : DiskH) (fp : List Nat) (m : Int) (w : World) (hmax : Disk.sz x ≤ 2000000) (hm0 : 0 ≤ m) (hm1 : m + (Disk.cntV x : Nat) ≤ 1099511627776) (hin : Disk.Is w (Disk.markV m x) h fp) : Calls Try.prog 23 #[.agg (Disk.list (Disk.markV m x) h).toArray, .int .i64 m] w fun e w' => e = .returned (.int .i64 (m + (Disk.cntV x : Nat))) ∧ Below w.heap.size w w' := by
  obtain ⟨f0, rfl, r0, u0, v0⟩ := hin
  have R0 := Lib.hid r0
  have HM := Lib.hid hmax
  have HK := Lib.hid hm1
  unfold Disk.sz at HM
  unfold Disk.cntV at HK
  clear hmax hm1 r0 u0 v0
  simp only [Disk.list, Disk.markV] at *
  go_enter Try.func23, Try.ntmps23
  go_wp2_with fail
  refine calls_gen (fun W => Below w.heap.size w W ∧ Blk W w.heap.size 29 [.slice h.filesa h.filesl h.filesc]) ⟨by repeat (first | exact Below.refl _ _ | refine Below.setCell ?_ (by first | omega | (simp; done) | (simp; omega)) _ | refine Below.alloc ?_ (by first | omega | (simp; done) | (simp; omega)) _ | apply Below.drew), by with_reducible (repeat (first | (refine blk_new_at _ _ _ _ ?_; first | rfl | (simp; done)) | refine Blk.alloc ?_ _ | apply Blk.drew | refine Blk.setOther ?_ (by first | (simp; done) | (simp; omega)) _))⟩ ?_
  rintro W0 ⟨b, k⟩
  have BB := Lib.hid b
  have KK := Lib.hid k
  clear b k
  refine (held_FileS h.filesa h.filesl h.filesc x.files _ _ W0 (by have h1 := R0.out.1; rw [markL_length] at h1; have h2 := HM.out; unfold szL at h2; omega) (by omega) (by have := HK.out; omega) (R0.out.below local_File BB.out)).mono ?_
  rintro e V0 ⟨rfl, b⟩
  have B0 := Lib.hid (BB.out.trans (b.mono BB.out.size))
  have K0 := Lib.hid (KK.out.below b KK.out.lt)
  clear b BB KK
  have BB := B0
  have KK := K0
  clear B0 K0
  have c0_0 := KK.out.cell 0
  simp at c0_0
  go_wp2_with fail
  go_ret
  exact ⟨ret_int (by unfold Disk.cntV; omega), BB.out⟩

end Go.Proofs.Ytemefahhogdoaaa.dat
