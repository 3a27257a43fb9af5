/-
  THE CONTRACTS OF DrawDiskSync, DrawDiskCrash of the model: SOME disk and name; SOME cuts; nothing that was there is written.
-/
import Derived.Test.YtoglclmaacjdaaaSameDisk
namespace Go.Proofs.Ytoglclmaacjdaaa.dat
open Go.RowKit Go.Proofs.Ytoglclmaacjdaaa.win Go.Proofs.Ytoglclmaacjdaaa.cur

/-- What the operations of DrawDiskSync's last region yield. -/
def VY (g : Nat) (dv : Value) (i : Nat) (_ : World) (v : Value) : Prop := match i with
  | 0 => v = dv
  | 1 => v = .pointer (some ⟨g, 0, none⟩)
  | 2 => ∃ s : ByteArray, v = .string s ∧ s.size ≤ 21
  | _ => True

set_option maxRecDepth 100000 in
set_option maxHeartbeats 4000000 in
theorem DrawDiskSync_any (a : Option Addr) (len cap : Nat) (w : World) (hle : len ≤ 2000000) (hcode : cur.Code w a len) :
    Calls Try.prog 10 #[.slice a len cap] w fun e w' => ∃ (x : DiskD) (h : DiskH) (fp : List Nat) (nm : ByteArray), e = .returned (.tuple #[.agg (Disk.list x h).toArray, .string nm]) ∧ Disk.Is w' x h fp ∧ x.files.length ≤ 5 ∧ SizeTo 100 x.files ∧ nm.size ≤ 21 ∧ Below w.heap.size w w' := by
  have HK := Lib.hid hcode
  clear hcode
  go_enter Try.func10, Try.ntmps10
  go_wp2_with fail
  refine calls_gen (fun W => Below w.heap.size w W ∧ Blk W w.heap.size 26 [.slice none 0 0]) ⟨by repeat (first | exact Below.refl _ _ | refine Below.setCell ?_ (by first | omega | (simp; done) | (simp; omega)) _ | refine Below.alloc ?_ (by first | omega | (simp; done) | (simp; omega)) _ | apply Below.drew), by with_reducible (repeat (first | (refine blk_new_at _ _ _ _ ?_; first | rfl | (simp; done)) | refine Blk.alloc ?_ _ | apply Blk.drew | refine Blk.setOther ?_ (by first | (simp; done) | (simp; omega)) _))⟩ ?_
  rintro W ⟨b0, k0⟩
  refine (l01Open_cur _ _ _ _ hle (HK.out.below b0)).mono ?_
  rintro e W1 ⟨rfl, hc1, hb1⟩
  have hk0 := k0.lt
  have C1 := Lib.hid hc1
  have B1 := Lib.hid (b0.trans (hb1.mono b0.size))
  have K1 := Lib.hid (k0.below hb1 k0.lt)
  obtain ⟨g, hg⟩ : ∃ g, W.heap.size = g := ⟨_, rfl⟩
  rw [hg] at C1 hk0 ⊢
  have hgw : w.heap.size < g := hk0
  clear hc1 hb1 HK b0 k0 hk0 hg
  go_wp2_with fail
  refine (disk_any g a len cap 0 W1 (by omega) C1.out).mono ?_
  rintro e W2 ⟨x, h, fp, rfl, hI, hfp, hl5, hS, hc2, ho2⟩
  obtain ⟨fa, fl, fc⟩ := h
  have hg1 := C1.out.lt
  have I2 := Lib.hid hI
  have F2 := Lib.hid hfp
  have C2 := Lib.hid hc2
  have B2 := Lib.hid (B1.out.trans (ho2.below (B := w.heap.size) (by omega) (by omega)))
  have K2 := Lib.hid (show Blk W2 w.heap.size 26 [.slice none 0 0] from (ho2.block _ K1.out.lt (by omega)).trans K1.out)
  have HS := Lib.hid (And.intro hl5 hS)
  have hz2 := ho2.size
  clear hI hfp hc2 ho2 C1 B1 K1 hl5 hS
  simp only [Disk.list]
  go_wp2_with fail
  refine wp_gen (fun W => Below W2.heap.size W2 W ∧ Blk W W2.heap.size 26 [.slice fa fl fc]) ⟨by repeat (first | exact Below.refl _ _ | refine Below.setCell ?_ (by first | omega | (simp; done) | (simp; omega)) _ | refine Below.alloc ?_ (by first | omega | (simp; done) | (simp; omega)) _ | apply Below.drew), by with_reducible (repeat (first | (refine blk_new_at _ _ _ _ ?_; first | rfl | (simp; done)) | refine Blk.alloc ?_ _ | apply Blk.drew | refine Blk.setOther ?_ (by first | (simp; done) | (simp; omega)) _))⟩ ?_
  rintro W3 ⟨b3, x3⟩
  have hg2 := C2.out.lt
  have X3 := Lib.hid x3
  have I3 := Lib.hid (I2.out.below b3)
  have C3 := Lib.hid (C2.out.below b3)
  have B3 := Lib.hid (B2.out.trans (b3.mono B2.out.size))
  have K3 := Lib.hid (K2.out.below b3 K2.out.lt)
  have hxg : W2.heap.size ≠ g := by omega
  have hx3 := x3.lt
  clear b3 x3 I2 C2 B2 K2
  generalize W2.heap.size = q at *
  refine mix.wp_region_free_tail (VY g (.agg #[.slice fa fl fc])) (fun n wx => Curs g a len cap (300 + n) wx ∧ Only g W3 wx) 3 13 [10, 11, 12] rfl (by kernel_rfl) (by kernel_rfl) (by kernel_rfl) ⟨(C3.out.below (by repeat (first | exact Below.refl _ _ | refine Below.setCell ?_ (by first | omega | (simp; done) | (simp; omega)) _ | refine Below.alloc ?_ (by first | omega | (simp; done) | (simp; omega)) _ | apply Below.drew))).more (by omega), (Only.refl g W3).drew⟩ ?_ ?_
  · refine ⟨?_, ?_, ?_, trivial⟩
    · intro n A W hn hG hL hP K hK
      have e0 : A.tmps.getD 5 undef = .pointer (some ⟨q, 0, none⟩) := hL.same 5 (by decide)
      have c0 : W.cell? ⟨q, 0, none⟩ = some (.slice fa fl fc) := (by have hb : Blk W q 26 [.slice fa fl fc] := (hG.2.block q hx3 hxg).trans X3.out; simpa using hb.cell 0)
      go_simp
      exact hK _ _ rfl ⟨hG.1.more (by omega), hG.2⟩ (fun _ _ h => h)
    · intro n A W hn hG hL hP K hK
      have e0 : A.tmps.getD 4 undef = .pointer (some ⟨g, 0, none⟩) := hL.same 4 (by decide)
      go_simp
      exact hK _ _ rfl ⟨hG.1.more (by omega), hG.2⟩ (fun _ _ h => h)
    · intro n A W hn hG hL hP K hK
      have e0 : A.tmps.getD 11 undef = .pointer (some ⟨g, 0, none⟩) := hP 1 (by kernel_rfl) _ rfl
      go_simp
      refine (name_any g a len cap (300 + n) W (by omega) hG.1).mono ?_
      rintro e w' ⟨s, rfl, hs, hc, ho⟩
      exact hK _ _ ⟨s, rfl, hs⟩ ⟨hc.more (by omega), hG.2.trans ho⟩ (fun _ _ h => h)
  intro W4 f hG hV
  have e10 : f 10 = .agg #[.slice fa fl fc] := hV 0 _ (by omega) rfl
  obtain ⟨nm, e12, hnm⟩ : ∃ s : ByteArray, f 12 = .string s ∧ s.size ≤ 21 := hV 2 _ (by omega) rfl
  have HSS := Lib.hid hnm
  have K4 := Lib.hid (show Blk W4 w.heap.size 26 [.slice none 0 0] from (hG.2.block _ K3.out.lt (by omega)).trans K3.out)
  have I4 := Lib.hid (show Disk.Is W4 x ⟨fa, fl, fc⟩ fp from disk_lo I3.out F2.out (fun b h1 h2 => hG.2.block b h2 (by omega)))
  have B4 := Lib.hid (B3.out.trans (hG.2.below (B := w.heap.size) (by omega) B3.out.size))
  have p0 := K4.out.cell 0
  have pf := K4.out.frozen
  simp at p0
  simp [mix.lit]
  rw [e10, e12]
  clear hG hV e10 e12 hnm K3 X3 I3 B3 C3
  go_wp2_with fail
  refine body_gen (fun W => Below w.heap.size w W ∧ Blk W w.heap.size 26 [.slice fa fl fc] ∧ Disk.Is W x ⟨fa, fl, fc⟩ fp) ⟨?_, ?_, ?_⟩ ?_
  · have hb := B4.out
    have hbs := hb.size
    repeat (first | exact Below.refl _ _ | refine Below.setCell ?_ (by first | omega | (simp; done) | (simp; omega)) _ | refine Below.alloc ?_ (by first | omega | (simp; done) | (simp; omega)) _ | apply Below.drew | refine Below.trans ?_ (hb.mono (by first | omega | (simp; done) | (simp; omega))))
  · (apply Blk.of_eq; (repeat (first | (with_reducible exact K4.out) | (with_reducible apply Blk.set) | ((with_reducible apply Blk.other); · first | (simp; done) | (simp; omega)) | (with_reducible apply Blk.drew))); rfl)
  · exact disk_lo I4.out F2.out (fun b h1 _ => Below.heap_setCell _ ⟨w.heap.size, 0, none⟩ _ b (by have := B4.out.size; simp; omega))
  clear p0 pf
  rintro W ⟨bw, kw, iw⟩
  have e0 := kw.cell 0
  simp at e0
  refine bodyPost_ret (v := .tuple #[.agg (Disk.list x ⟨fa, fl, fc⟩).toArray, .string nm]) (by simp [results, Try.results10, go_sem, e0, Disk.list]) rfl ?_
  exact ⟨x, ⟨fa, fl, fc⟩, fp, nm, rfl, iw, HS.out.1, HS.out.2, HSS.out, bw⟩

set_option maxRecDepth 100000 in
set_option maxHeartbeats 4000000 in
theorem DrawDiskCrash_any (a : Option Addr) (len cap : Nat) (w : World) (hle : len ≤ 2000000) (hcode : cur.Code w a len) :
    Calls Try.prog 11 #[.slice a len cap] w fun e w' => ∃ (da : Option Addr) (dn dc : Nat) (ca : Option Addr) (cn cc : Nat) (cuts : List Int) (cf : List Nat), e = .returned (.tuple #[.agg #[.slice da dn dc], .slice ca cn cc]) ∧ GRow 1 RInt w' ca cn cuts cf ∧ cn ≤ cc ∧ cc ≤ 9223372036854775807 ∧ cuts.length ≤ 5 ∧ Below w.heap.size w w' := by
  have HK := Lib.hid hcode
  clear hcode
  obtain ⟨i0, hi0, hz0, hz1, hz2⟩ : ∃ i, Try.prog.info? 3 = some i ∧ i.zero = some (.int .i64 0) ∧ i.size = 1 ∧ i.bytes = 8 := by
    obtain ⟨i, hi, h⟩ := Option.map_eq_some_iff.1 info_int
    simp only [Prod.mk.injEq] at h
    exact ⟨i, hi, h.1, h.2.1, h.2.2⟩
  go_enter Try.func11, Try.ntmps11
  go_wp2_with fail
  refine calls_gen (fun W => Below w.heap.size w W ∧ Blk W w.heap.size 26 [.slice none 0 0]) ⟨by repeat (first | exact Below.refl _ _ | refine Below.setCell ?_ (by first | omega | (simp; done) | (simp; omega)) _ | refine Below.alloc ?_ (by first | omega | (simp; done) | (simp; omega)) _ | apply Below.drew), by with_reducible (repeat (first | (refine blk_new_at _ _ _ _ ?_; first | rfl | (simp; done)) | refine Blk.alloc ?_ _ | apply Blk.drew | refine Blk.setOther ?_ (by first | (simp; done) | (simp; omega)) _))⟩ ?_
  rintro W ⟨b0, k0⟩
  refine (l01Open_cur _ _ _ _ hle (HK.out.below b0)).mono ?_
  rintro e W1 ⟨rfl, hc1, hb1⟩
  have hk0 := k0.lt
  have C1 := Lib.hid hc1
  have B1 := Lib.hid (b0.trans (hb1.mono b0.size))
  have K1 := Lib.hid (k0.below hb1 k0.lt)
  obtain ⟨g, hg⟩ : ∃ g, W.heap.size = g := ⟨_, rfl⟩
  rw [hg] at C1 hk0 ⊢
  have hgw : w.heap.size < g := hk0
  clear hc1 hb1 HK b0 k0 hk0 hg
  go_wp2_with fail
  refine (disk_any g a len cap 0 W1 (by omega) C1.out).mono ?_
  rintro e W2 ⟨x, h, fp, rfl, _, _, _, _, hc2, ho2⟩
  obtain ⟨fa, fl, fc⟩ := h
  have hg1 := C1.out.lt
  have C2 := Lib.hid hc2
  have B2 := Lib.hid (B1.out.trans (ho2.below (B := w.heap.size) (by omega) (by omega)))
  have K2 := Lib.hid (show Blk W2 w.heap.size 26 [.slice none 0 0] from (ho2.block _ K1.out.lt (by omega)).trans K1.out)
  have hz2' := ho2.size
  clear hc2 ho2 C1 B1 K1
  simp only [Disk.list]
  go_wp2_with fail
  refine calls_gen (fun W => Below W2.heap.size W2 W ∧ Blk W W2.heap.size 26 [.slice fa fl fc] ∧ Blk W (W2.heap.size + 1) 3 []) ⟨by repeat (first | exact Below.refl _ _ | refine Below.setCell ?_ (by first | omega | (simp; done) | (simp; omega)) _ | refine Below.alloc ?_ (by first | omega | (simp; done) | (simp; omega)) _ | apply Below.drew), by with_reducible (repeat (first | (refine blk_new_at _ _ _ _ ?_; first | rfl | (simp; done)) | refine Blk.alloc ?_ _ | apply Blk.drew | refine Blk.setOther ?_ (by first | (simp; done) | (simp; omega)) _)), by with_reducible (repeat (first | (refine blk_new_at _ _ _ _ ?_; first | rfl | (simp; done)) | refine Blk.alloc ?_ _ | apply Blk.drew | refine Blk.setOther ?_ (by first | (simp; done) | (simp; omega)) _))⟩ ?_
  rintro W3 ⟨b3, x3, y3⟩
  have hg2 := C2.out.lt
  have C3 := C2.out.below b3
  have B3 := B2.out.trans (b3.mono B2.out.size)
  have K3 := K2.out.below b3 K2.out.lt
  have hqg : g < W2.heap.size := hg2
  have hx3 := y3.lt
  have G3 : Grows 1 RInt 3 (W2.heap.size + 1) W3 (.slice (some ⟨W2.heap.size + 1, 0, none⟩) 0 0) ([] : List Int) := by
    refine ⟨[], [], rfl, rfl, by simp, by simp, by simp, by simp, ?_⟩
    exact ⟨rfl, .inr ⟨W2.heap.size + 1, 0, #[], rfl, Nat.le_refl _, y3, Nat.le_refl _, Nat.zero_le _, by simp, by simp⟩⟩
  clear y3 b3 C2 B2 K2
  generalize W2.heap.size = q at *
  refine (pick_any g a len cap 300 5 W3 (by omega) (C3.more (by omega))).mono ?_
  rintro e W4 ⟨r, rfl, r0, r1, hc4, ho4⟩
  obtain ⟨i, rfl⟩ := Int.eq_ofNat_of_zero_le r0
  have hi : i ≤ 4 := by omega
  have C4 := Lib.hid hc4
  have B4 := Lib.hid (B3.trans (ho4.below (B := w.heap.size) (by omega) (by have := B3.size; omega)))
  have K4 := Lib.hid (show Blk W4 w.heap.size 26 [.slice none 0 0] from (ho4.block _ K3.lt (by omega)).trans K3)
  have X4 := Lib.hid (show Blk W4 q 26 [.slice fa fl fc] from (ho4.block _ x3.lt (by omega)).trans x3)
  have G4 := Lib.hid (G3.keep local_int (fun b h1 h2 => ho4.block b h2 (by omega)))
  have hz4 : q + 2 ≤ W4.heap.size := by have := ho4.size; omega
  clear hc4 ho4 C3 B3 K3 x3 G3 r0 r1
  go_wp2_with fail
  go_loopg [6, 7] i (fun k v kv wr => ∃ cuts : List Int, k ≤ 4 ∧ cuts.length + k ≤ 4 ∧ kv = .int .i64 (k : Int) ∧ Grows 1 RInt 3 (q + 1) wr v cuts ∧ Blk wr w.heap.size 26 [.slice none 0 0] ∧ Blk wr q 26 [.slice fa fl fc] ∧ q + 2 ≤ wr.heap.size ∧ Curs g a len cap (301 + 10 * (4 - k)) wr ∧ Below w.heap.size w wr)
  case atStart => exact ⟨[], hi, by simpa using hi, rfl, G4.out, K4.out, X4.out, hz4, C4.out.more (by omega), B4.out⟩
  case round =>
    obtain ⟨cuts, hk4, hcl, rfl, hG, hk, hx, hz, hC, hB⟩ := hrel
    have HG := Lib.hid hG
    have HKK := Lib.hid hk
    have HX := Lib.hid hx
    have HC := Lib.hid hC
    have HB := Lib.hid hB
    clear hG hk hx hC hB G4 K4 X4 C4 B4
    by_cases hpos : 0 < gk
    case neg =>
      obtain rfl : gk = 0 := by omega
      have hp : ¬ (0 : Int) < ((0 : Nat) : Int) := by omega
      obtain ⟨ca, cc, cf, rfl, hrow, h1, h2, ho⟩ := HG.out.done
      have x0 := HX.out.cell 0
      have k0 := HKK.out.cell 0
      have kf := HKK.out.frozen
      simp at x0 k0
      have HR := Lib.hid (And.intro hrow (And.intro h1 (And.intro h2 ho)))
      clear hrow h1 h2 ho
      go_wp2_with fail
      refine body_gen (fun W => Below w.heap.size w W ∧ Blk W w.heap.size 26 [.slice fa fl fc] ∧ GRow 1 RInt W ca cuts.length cuts cf) ⟨?_, ?_, ?_⟩ ?_
      · have hb := HB.out
        have hbs := hb.size
        repeat (first | exact Below.refl _ _ | refine Below.setCell ?_ (by first | omega | (simp; done) | (simp; omega)) _ | refine Below.alloc ?_ (by first | omega | (simp; done) | (simp; omega)) _ | apply Below.drew | refine Below.trans ?_ (hb.mono (by first | omega | (simp; done) | (simp; omega))))
      · (apply Blk.of_eq; (repeat (first | (with_reducible exact HKK.out) | (with_reducible apply Blk.set) | ((with_reducible apply Blk.other); · first | (simp; done) | (simp; omega)) | (with_reducible apply Blk.drew))); rfl)
      · exact HR.out.1.keep local_int (fun b hb => Below.heap_setCell _ ⟨w.heap.size, 0, none⟩ _ b (by have := (HR.out.2.2.2.2 b hb).1; simp; omega))
      clear x0 k0 kf
      rintro W ⟨bw, kw, gw⟩
      have e0 := kw.cell 0
      simp at e0
      refine bodyPost_ret (v := .tuple #[.agg #[.slice fa fl fc], .slice ca cuts.length cc]) (by simp [results, Try.results11, go_sem, e0]) rfl ?_
      have hcl5 : cuts.length ≤ 5 := by omega
      exact ⟨fa, fl, fc, ca, cuts.length, cc, rfl, cuts, ⟨cf, gw⟩, HR.out.2.1, HR.out.2.2.1, hcl5, bw⟩
    have hp : (0 : Int) < (gk : Int) := by omega
    obtain ⟨va, vc, hv⟩ := HG.out.slice
    subst hv
    go_wp2_with fail
    refine (pick_any g a len cap (301 + 10 * (4 - gk)) 9 wr (by omega) HC.out).mono ?_
    rintro e w5 ⟨r5, rfl, _, _, hc5, ho5⟩
    have C5 := Lib.hid hc5
    have O5 := Lib.hid ho5
    clear hc5
    go_wp2_with fail
    refine (raw_any g a len cap (301 + 10 * (4 - gk) + 1) w5 (by omega) C5.out).mono ?_
    rintro e w6 ⟨r6, rfl, _, hc6, ho6⟩
    have C6 := Lib.hid hc6
    have O6 := Lib.hid (O5.out.trans ho6)
    clear hc6 ho6 ho5 C5 O5
    go_wp2_with fail
    refine calls_gen (fun W => Below w6.heap.size w6 W ∧ Blk W w6.heap.size 3 [.int .i64 r5, .int .i64 r6]) ⟨by repeat (first | exact Below.refl _ _ | refine Below.setCell ?_ (by first | omega | (simp; done) | (simp; omega)) _ | refine Below.alloc ?_ (by first | omega | (simp; done) | (simp; omega)) _ | apply Below.drew), by with_reducible (repeat (first | (refine blk_new_at _ _ _ _ ?_; first | rfl | (simp; done)) | refine Blk.alloc ?_ _ | apply Blk.drew | refine Blk.setOther ?_ (by first | (simp; done) | (simp; omega)) _))⟩ ?_
    rintro w7 ⟨b7, y7⟩
    refine (pick_any g a len cap (301 + 10 * (4 - gk) + 3) 2 w7 (by omega) (C6.out.below b7)).mono ?_
    rintro e w8 ⟨r8, rfl, p0, p1, hc8, ho8⟩
    obtain ⟨j, rfl⟩ := Int.eq_ofNat_of_zero_le p0
    have hj : j < 2 := by omega
    have hj2 : (j : Int) < 2 := by omega
    have hg6 := C6.out.lt
    have Y8 : Blk w8 w6.heap.size 3 [.int .i64 r5, .int .i64 r6] := (ho8.block _ y7.lt (by omega)).trans y7
    obtain ⟨z, c0⟩ : ∃ z : Int, w8.cell? ⟨w6.heap.size, j, none⟩ = some (.int .i64 z) := by
      have : j = 0 ∨ j = 1 := by omega
      rcases this with rfl | rfl
      · exact ⟨r5, by simpa using Y8.cell 0⟩
      · exact ⟨r6, by simpa using Y8.cell 1⟩
    have O8 := Lib.hid ((O6.out.trans (Only.of_below b7)).trans ho8)
    have C8 := Lib.hid hc8
    have hgr := HC.out.lt
    have hz8 : q + 2 ≤ w8.heap.size := Nat.le_trans hz O8.out.size
    have G8 := Lib.hid (HG.out.keep local_int (w' := w8) (fun b h1 h2 => O8.out.block b h2 (by omega)))
    have K8 := Lib.hid (show Blk w8 w.heap.size 26 [.slice none 0 0] from (O8.out.block _ HKK.out.lt (by omega)).trans HKK.out)
    have X8 := Lib.hid (show Blk w8 q 26 [.slice fa fl fc] from (O8.out.block _ HX.out.lt (by omega)).trans HX.out)
    have B8 := Lib.hid (HB.out.trans (O8.out.below (B := w.heap.size) (by omega) HB.out.size))
    clear p0 p1 hc8 ho8 Y8 y7 b7 C6 O6 HG HKK HX HC HB hg6
    go_wp2_with (at_builtin; refine push (R := RInt) local_int rfl _ _ 29 rfl i0 (.int .i64 0) 8 Try.underlying29 hi0 hz0 hz1 hz2 rfl (by decide) rfl G8.out ((Below.refl _ _).alloc (Nat.le_refl _) _) w8.heap.size 1 rfl [.int .i64 z] rfl (fun u hu => by simp at hu; subst hu; rfl) (fun j u hj => ((blk_new w8 3 [.int .i64 z]).cell j).trans hj) z [] ⟨rfl, rfl⟩ Own.nil (by omega) (by unfold maxLen; omega) (by omega) ?_; intro v' w9 hG9 hb9; have hB9 := ((Below.refl (q + 1) w8).alloc (by omega) _).trans hb9; have HG9 := Lib.hid hG9; have HB9 := Lib.hid hB9; clear hG9 hb9 hB9)
    go_roundg (gk - 1)
    case measure => omega
    case rel => exact ⟨cuts ++ [z], by omega, by simp; omega, by go_num, HG9.out, (HB9.out.block _ (by omega)).trans K8.out, (HB9.out.block _ (by omega)).trans X8.out, Nat.le_trans hz8 HB9.out.size, (C8.out.belowB HB9.out (by omega)).more (by omega), B8.out.trans (HB9.out.mono (by omega))⟩
end Go.Proofs.Ytoglclmaacjdaaa.dat
