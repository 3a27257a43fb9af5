/-
  THE CONTRACTS OF sameDisk of the laws (two of the same files are the same) and OF DrawDiskPut, DrawDiskSync of the model: SOME disk, name, text; nothing that was there is written.
-/
import Derived.Test.YtoglclmaacjdaaaCurDisk2
namespace Go.Proofs.Ytoglclmaacjdaaa.dat
open Go.RowKit Go.Proofs.Ytoglclmaacjdaaa.win Go.Proofs.Ytoglclmaacjdaaa.cur

theorem below_drewN_ {B : Nat} {w W : World} (h : Below B w W) (n : Nat) : Below B w (W.drewN n) := ⟨h.os, h.tape, h.output, h.size, h.block⟩
set_option maxRecDepth 100000 in
set_option maxHeartbeats 2000000 in
theorem sameDisk_same (x : DiskD) (h h' : DiskH) (fp fp' : List Nat) (w : World) (hx : Disk.Is w x h fp) (hy : Disk.Is w x h' fp') (hz : Disk.sz x ≤ 2000000) :
    Calls Try.prog 13 #[.agg (Disk.list x h).toArray, .agg (Disk.list x h').toArray] w fun e w' => e = .returned (.bool true) ∧ Below w.heap.size w w' := by
  obtain ⟨fa, fl, fc⟩ := h
  obtain ⟨ga, gl, gc⟩ := h'
  obtain ⟨r0, _, _⟩ := Disk.row hx
  obtain ⟨r1, _, _⟩ := Disk.row hy
  have hlen := Disk.len_le hz
  simp only at r0 r1
  obtain rfl : gl = fl := by rw [← r0.1, ← r1.1]
  have hgl : gl ≤ 2000000 := by rw [← r0.1]; exact hlen
  have R0 := Lib.hid r0
  have R1 := Lib.hid r1
  clear r0 r1 hx hy hz hlen
  simp only [Disk.list]
  go_enter Try.func13, Try.ntmps13
  go_wp2_with fail
  go_loopg [5] gl (fun k i wr => ∃ j : Nat, j + k = gl ∧ i = .int .i64 j ∧ Below w.heap.size w wr ∧ Blk wr w.heap.size 26 [.slice fa gl fc] ∧ Blk wr (w.heap.size + 1) 26 [.slice ga gl gc])
  case atStart => exact ⟨0, by omega, rfl, by repeat (first | exact Below.refl _ _ | refine Below.setCell ?_ (by first | omega | (simp; done) | (simp; omega)) _ | refine Below.alloc ?_ (by first | omega | (simp; done) | (simp; omega)) _ | apply Below.drew), by with_reducible (repeat (first | (refine blk_new_at _ _ _ _ ?_; first | rfl | (simp; done)) | refine Blk.alloc ?_ _ | apply Blk.drew | refine Blk.setOther ?_ (by first | (simp; done) | (simp; omega)) _)), by with_reducible (repeat (first | (refine blk_new_at _ _ _ _ ?_; first | rfl | (simp; done)) | refine Blk.alloc ?_ _ | apply Blk.drew | refine Blk.setOther ?_ (by first | (simp; done) | (simp; omega)) _))⟩
  case round =>
    obtain ⟨j, hj, rfl, hB, hk, hm⟩ := hrel
    have HB := Lib.hid hB
    have HK := Lib.hid hk
    have HM := Lib.hid hm
    have c0 := hk.cell 0
    have m0 := hm.cell 0
    simp at c0 m0
    by_cases hlt : j < gl
    · obtain ⟨b, off, y, f, cs, rfl, hbl, hy, hcl, hR, hc⟩ := R0.out.at hlt
      obtain ⟨b', off', y', f', cs', rfl, hbl', hy', hcl', hR', hc'⟩ := R1.out.at hlt
      rw [hy] at hy'
      obtain rfl := Option.some.inj hy'
      obtain ⟨rfl, _, _, _, rfl⟩ := hR
      obtain ⟨rfl, _, _, _, rfl⟩ := hR'
      have d0 : wr.cell? ⟨b, off + j * 3, none⟩ = some (.string y.name) := by have := (hB.cell (p := ⟨b, off + j * 3 + 0, none⟩) hbl).trans (hc 0 (by omega)); simpa [File.list] using this
      have d1 : wr.cell? ⟨b, off + j * 3 + 1, none⟩ = some (.string y.safe) := by have := (hB.cell (p := ⟨b, off + j * 3 + 1, none⟩) hbl).trans (hc 1 (by omega)); simpa [File.list] using this
      have d2 : wr.cell? ⟨b, off + j * 3 + 2, none⟩ = some (.string y.now) := by have := (hB.cell (p := ⟨b, off + j * 3 + 2, none⟩) hbl).trans (hc 2 (by omega)); simpa [File.list] using this
      have e0 : wr.cell? ⟨b', off' + j * 3, none⟩ = some (.string y.name) := by have := (hB.cell (p := ⟨b', off' + j * 3 + 0, none⟩) hbl').trans (hc' 0 (by omega)); simpa [File.list] using this
      have e1 : wr.cell? ⟨b', off' + j * 3 + 1, none⟩ = some (.string y.safe) := by have := (hB.cell (p := ⟨b', off' + j * 3 + 1, none⟩) hbl').trans (hc' 1 (by omega)); simpa [File.list] using this
      have e2 : wr.cell? ⟨b', off' + j * 3 + 2, none⟩ = some (.string y.now) := by have := (hB.cell (p := ⟨b', off' + j * 3 + 2, none⟩) hbl').trans (hc' 2 (by omega)); simpa [File.list] using this
      have hlt2 : (j : Int) < (gl : Int) := by omega
      have h02 : (0 : Int) ≤ (j : Int) := by omega
      clear hB hk hm hy hy' hc hc' hcl hcl'
      go_wp2_with fail
      go_quiet (fail)
      go_wp2_with fail
      go_roundg (gl - (j + 1))
      case measure => omega
      case rel => exact ⟨j + 1, by omega, by go_num, below_drewN_ HB.out _, (HK.out : Blk (wr.drewN _) _ _ _), (HM.out : Blk (wr.drewN _) _ _ _)⟩
    · clear hB hk hm
      go_wp2_with fail
      go_ret
      exact ⟨rfl, HB.out⟩

def putL3 : List ByteArray := [⟨#[]⟩, ⟨#[120]⟩, ⟨#[110, 101, 119, 32, 116, 101, 120, 116]⟩]
theorem putL3_size : ∀ s ∈ putL3, s.size ≤ 20 := by decide
/-- What the operations of DrawDiskPut's last region yield. -/
def VP (g base R : Nat) (dv : Value) (i : Nat) (w : World) (v : Value) : Prop := match i with
  | 0 => v = dv
  | 1 => v = .pointer (some ⟨g, 0, none⟩)
  | 2 => ∃ s : ByteArray, v = .string s ∧ s.size ≤ 21
  | 3 => ∃ b : Nat, v = .slice (some ⟨b, 0, none⟩) 3 3 ∧ base ≤ b ∧ Blk w b 9 (putL3.map Value.string)
  | 4 => v = .pointer (some ⟨g, 0, none⟩)
  | 5 => ∃ r : Nat, v = .int .i64 (r : Int) ∧ r < 3
  | 6 => ∃ b r : Nat, v = .pointer (some ⟨b, r, none⟩) ∧ r < 3 ∧ base ≤ b ∧ Blk w b 9 (putL3.map Value.string)
  | 7 => ∃ s ∈ putL3, v = .string s
  | 8 => ∃ sv, dv = .agg #[sv] ∧ Blk w R 26 [sv]
  | 9 => (∃ s : ByteArray, v = .string s ∧ s.size ≤ 21) ∧ ∃ sv, dv = .agg #[sv] ∧ Blk w R 26 [sv]
  | _ => True
theorem VP.keep {g base R : Nat} {dv : Value} {w w' : World} (hk : ∀ b, base ≤ b → b < w.heap.size → w'.heap[b]? = w.heap[b]?) (hR : ∀ sv, dv = .agg #[sv] → Blk w R 26 [sv] → Blk w' R 26 [sv]) (j : Nat) (u : Value) (hv : VP g base R dv j w u) : VP g base R dv j w' u := by
  have hB : ∀ {b t vs}, base ≤ b → Blk w b t vs → Blk w' b t vs := fun h0 hb => (hk _ h0 hb.lt).trans hb
  unfold VP at *
  split at hv <;> first | exact hv | (obtain ⟨b, e, h0, hb⟩ := hv; exact ⟨b, e, h0, hB h0 hb⟩) | (obtain ⟨b, r, e, hr, h0, hb⟩ := hv; exact ⟨b, r, e, hr, h0, hB h0 hb⟩) | (obtain ⟨sv, e, hb⟩ := hv; exact ⟨sv, e, hR _ e hb⟩) | (obtain ⟨hs, sv, e, hb⟩ := hv; exact ⟨hs, sv, e, hR _ e hb⟩)
theorem Curs.keepR_ {g B : Nat} {a : Option Addr} {len cap m : Nat} {w w' : World} (h : Curs g a len cap m w) (ha : 0 < len → ∃ b off, a = some ⟨b, off, none⟩ ∧ b < B) (hb : Below B w w') (ho : ∀ b, b ≠ B → w'.heap[b]? = w.heap[b]?) (hg : g ≠ B) : Curs g a len cap m w' := by
  obtain ⟨pos, seed, h1, h2, h3, h4, h5, h6, c0, c1, c2, hf, hB⟩ := h
  have hc : ∀ o, w'.cell? ⟨g, o, none⟩ = w.cell? ⟨g, o, none⟩ := fun o => World.cell?_of_block (w := w) (a := ⟨g, o, none⟩) (ho g hg)
  refine ⟨pos, seed, h1, h2, h3, h4, Nat.lt_of_lt_of_le h5 hb.size, h6, (hc 0).trans c0, (hc 1).trans c1, (hc 2).trans c2, fun j => (World.frozen?_of_block (w := w) (a := ⟨g, j, none⟩) (ho g hg)).trans (hf j), fun h0 => ?_⟩
  obtain ⟨b, off, e, k1, k2, k3⟩ := hB h0
  obtain ⟨b', off', e', hlt⟩ := ha h0
  rw [e] at e'
  cases e'
  refine ⟨b, off, e, k1, Nat.lt_of_lt_of_le k2 hb.size, fun i hi => ?_⟩
  obtain ⟨v, v0, v1, hv⟩ := k3 i hi
  exact ⟨v, v0, v1, (World.cell?_of_block (w := w) (a := ⟨b, off + i, none⟩) (ho b (by omega))).trans hv⟩
theorem apart_only_ {g R : Nat} {w w' : World} (h : Only g w w') : Apart [g, R] w w' := ⟨h.os, h.tape, h.output, h.size, fun b hb hn => h.block b hb (fun e => hn (by simp [e]))⟩
theorem disk_lo {w w' : World} {x : DiskD} {h : DiskH} {fp : List Nat} {lo : Nat} (hi : Disk.Is w x h fp) (hlo : ∀ b ∈ fp, lo ≤ b) (hk : ∀ b, lo ≤ b → b < w.heap.size → w'.heap[b]? = w.heap[b]?) : Disk.Is w' x h fp := hi.keep fun b hb => hk b (hlo b hb) (hi.lt b hb)

set_option maxRecDepth 100000 in
set_option maxHeartbeats 4000000 in
theorem DrawDiskPut_any (a : Option Addr) (len cap : Nat) (w : World) (hle : len ≤ 2000000) (hcode : cur.Code w a len) :
    Calls Try.prog 20 #[.slice a len cap] w fun e w' => ∃ (x : DiskD) (h : DiskH) (fp : List Nat) (nm s : ByteArray), e = .returned (.tuple #[.agg (Disk.list x h).toArray, .string nm, .string s]) ∧ Disk.Is w' x h fp ∧ x.files.length ≤ 5 ∧ SizeTo 100 x.files ∧ nm.size ≤ 21 ∧ s.size ≤ 20 ∧ Below w.heap.size w w' := by
  have HK := Lib.hid hcode
  have HAD := Lib.hid (show 0 < len → ∃ b off, a = some ⟨b, off, none⟩ ∧ b < w.heap.size from fun h0 => by obtain ⟨b, off, e, h1, _⟩ := hcode h0; exact ⟨b, off, e, h1⟩)
  clear hcode
  go_enter Try.func20, Try.ntmps20
  go_wp2_with fail
  refine calls_gen (fun W => Below w.heap.size w W ∧ Blk W w.heap.size 26 [.slice none 0 0]) ⟨by repeat (first | exact Below.refl _ _ | refine Below.setCell ?_ (by first | omega | (simp; done) | (simp; omega)) _ | refine Below.alloc ?_ (by first | omega | (simp; done) | (simp; omega)) _ | apply Below.drew), by with_reducible (repeat (first | (refine blk_new_at _ _ _ _ ?_; first | rfl | (simp; done)) | refine Blk.alloc ?_ _ | apply Blk.drew | refine Blk.setOther ?_ (by first | (simp; done) | (simp; omega)) _))⟩ ?_
  rintro W ⟨b0, k0⟩
  refine (l01Open_cur _ _ _ _ hle (HK.out.below b0)).mono ?_
  rintro e W1 ⟨rfl, hc1, hb1⟩
  have hk0 := k0.lt
  have C1 := Lib.hid hc1
  have B1 := Lib.hid (b0.trans (hb1.mono b0.size))
  have K1 := Lib.hid (k0.below hb1 k0.lt)
  obtain ⟨g, hg⟩ : ∃ g, W.heap.size = g := ⟨_, rfl⟩
  rw [hg] at C1 hk0 ⊢
  have hgw : w.heap.size < g := hk0
  clear hc1 hb1 HK b0 k0 hk0 hg
  go_wp2_with fail
  refine (disk_any g a len cap 0 W1 (by omega) C1.out).mono ?_
  rintro e W2 ⟨x, h, fp, rfl, hI, hfp, hl5, hS, hc2, ho2⟩
  obtain ⟨fa, fl, fc⟩ := h
  have hg1 := C1.out.lt
  have I2 := Lib.hid hI
  have F2 := Lib.hid hfp
  have C2 := Lib.hid hc2
  have B2 := Lib.hid (B1.out.trans (ho2.below (B := w.heap.size) (by omega) (by omega)))
  have K2 := Lib.hid (show Blk W2 w.heap.size 26 [.slice none 0 0] from (ho2.block _ K1.out.lt (by omega)).trans K1.out)
  have HS := Lib.hid (And.intro hl5 hS)
  have hz2 := ho2.size
  clear hI hfp hc2 ho2 C1 B1 K1 hl5 hS
  simp only [Disk.list]
  go_wp2_with fail
  refine wp_gen (fun W => Below W2.heap.size W2 W ∧ Blk W W2.heap.size 26 [.slice fa fl fc]) ⟨by repeat (first | exact Below.refl _ _ | refine Below.setCell ?_ (by first | omega | (simp; done) | (simp; omega)) _ | refine Below.alloc ?_ (by first | omega | (simp; done) | (simp; omega)) _ | apply Below.drew), by with_reducible (repeat (first | (refine blk_new_at _ _ _ _ ?_; first | rfl | (simp; done)) | refine Blk.alloc ?_ _ | apply Blk.drew | refine Blk.setOther ?_ (by first | (simp; done) | (simp; omega)) _))⟩ ?_
  rintro W3 ⟨b3, x3⟩
  have hg2 := C2.out.lt
  have X3 := Lib.hid x3
  have I3 := Lib.hid (I2.out.below b3)
  have C3 := Lib.hid (C2.out.below b3)
  have B3 := Lib.hid (B2.out.trans (b3.mono B2.out.size))
  have K3 := Lib.hid (K2.out.below b3 K2.out.lt)
  have hxg : W2.heap.size ≠ g := by omega
  have hx3 := x3.lt
  clear b3 x3 I2 C2 B2 K2
  generalize W2.heap.size = q at *
  refine mix.wp_region_free_tail (VP g W3.heap.size w.heap.size (.agg #[.slice fa fl fc])) (fun n wx => Curs g a len cap (300 + n) wx ∧ Apart [g, w.heap.size] W3 wx ∧ ∃ p1, Blk wx w.heap.size 26 [p1]) 10 19 [11, 12, 13, 14, 15, 16, 17, 18, 3] rfl (by kernel_rfl) (by kernel_rfl) (by kernel_rfl) ⟨(C3.out.below (by repeat (first | exact Below.refl _ _ | refine Below.setCell ?_ (by first | omega | (simp; done) | (simp; omega)) _ | refine Below.alloc ?_ (by first | omega | (simp; done) | (simp; omega)) _ | apply Below.drew))).more (by omega), (Apart.refl _ W3).drew, _, K3.out.drew⟩ ?_ ?_
  · refine ⟨?_, ?_, ?_, ?_, ?_, ?_, ?_, ?_, ?_, ?_, trivial⟩
    · intro n A W hn hG hL hP K hK
      have e0 : A.tmps.getD 6 undef = .pointer (some ⟨q, 0, none⟩) := hL.same 6 (by decide)
      have c0 : W.cell? ⟨q, 0, none⟩ = some (.slice fa fl fc) := (by have hb : Blk W q 26 [.slice fa fl fc] := (hG.2.1.block q hx3 (by simp; omega)).trans X3.out; simpa using hb.cell 0)
      go_simp
      exact hK _ _ rfl ⟨hG.1.more (by omega), hG.2⟩ (fun _ _ h => h)
    · intro n A W hn hG hL hP K hK
      have e0 : A.tmps.getD 5 undef = .pointer (some ⟨g, 0, none⟩) := hL.same 5 (by decide)
      go_simp
      exact hK _ _ rfl ⟨hG.1.more (by omega), hG.2⟩ (fun _ _ h => h)
    · intro n A W hn hG hL hP K hK
      have e0 : A.tmps.getD 12 undef = .pointer (some ⟨g, 0, none⟩) := hP 1 (by kernel_rfl) _ rfl
      go_simp
      refine (name_any g a len cap (300 + n) W (by omega) hG.1).mono ?_
      rintro e w' ⟨s, rfl, hs, hc, ho⟩
      exact hK _ _ ⟨s, rfl, hs⟩ ⟨hc.more (by omega), hG.2.1.trans (apart_only_ ho), by obtain ⟨p1, hR⟩ := hG.2.2; exact ⟨p1, (ho.block _ hR.lt (by omega)).trans hR⟩⟩ (VP.keep (fun b h1 h2 => ho.block b h2 (by omega)) (fun _ _ hR => (ho.block _ hR.lt (by omega)).trans hR))
    · intro n A W hn hG hL hP K hK
      go_simp
      exact hK _ _ ⟨W.heap.size, rfl, hG.2.1.size, blk_new W _ _⟩ ⟨(hG.1.below ((Below.refl _ _).alloc (Nat.le_refl _) _)).more (by omega), hG.2.1.alloc _, by obtain ⟨p1, hR⟩ := hG.2.2; exact ⟨p1, hR.alloc _⟩⟩ (VP.keep (fun b _ h2 => Below.heap_alloc _ _ _ h2) (fun _ _ hR => hR.alloc _))
    · intro n A W hn hG hL hP K hK
      have e0 : A.tmps.getD 5 undef = .pointer (some ⟨g, 0, none⟩) := hL.same 5 (by decide)
      go_simp
      exact hK _ _ rfl ⟨hG.1.more (by omega), hG.2⟩ (fun _ _ h => h)
    · intro n A W hn hG hL hP K hK
      have e0 : A.tmps.getD 15 undef = .pointer (some ⟨g, 0, none⟩) := hP 4 (by kernel_rfl) _ rfl
      go_simp
      refine (pick_any g a len cap (300 + n) 3 W (by omega) hG.1).mono ?_
      rintro e w' ⟨r, rfl, r0, r1, hc, ho⟩
      exact hK _ _ ⟨r.toNat, by rw [Int.toNat_of_nonneg r0], by omega⟩ ⟨hc.more (by omega), hG.2.1.trans (apart_only_ ho), by obtain ⟨p1, hR⟩ := hG.2.2; exact ⟨p1, (ho.block _ hR.lt (by omega)).trans hR⟩⟩ (VP.keep (fun b h1 h2 => ho.block b h2 (by omega)) (fun _ _ hR => (ho.block _ hR.lt (by omega)).trans hR))
    · intro n A W hn hG hL hP K hK
      obtain ⟨b, e1, hb⟩ : ∃ b, A.tmps.getD 14 undef = .slice (some ⟨b, 0, none⟩) 3 3 ∧ W3.heap.size ≤ b ∧ Blk W b 9 (putL3.map Value.string) := hP 3 (by kernel_rfl) _ rfl
      obtain ⟨r, e2, hr⟩ : ∃ r : Nat, A.tmps.getD 16 undef = .int .i64 (r : Int) ∧ r < 3 := hP 5 (by kernel_rfl) _ rfl
      have hr2 : (r : Int) < 3 := by omega
      have hr0 : (0 : Int) ≤ (r : Int) := by omega
      have HB := Lib.hid hb
      clear hb
      go_simp
      exact hK _ _ ⟨b, r, rfl, hr, HB.out⟩ ⟨hG.1.more (by omega), hG.2⟩ (fun _ _ h => h)
    · intro n A W hn hG hL hP K hK
      obtain ⟨b, r, e1, hr, hb0, hb⟩ : ∃ b r, A.tmps.getD 17 undef = .pointer (some ⟨b, r, none⟩) ∧ r < 3 ∧ W3.heap.size ≤ b ∧ Blk W b 9 (putL3.map Value.string) := hP 6 (by kernel_rfl) _ rfl
      obtain ⟨s, hs, c0⟩ := text_at hb (i := r) hr
      have HS := Lib.hid hs
      clear hb hs
      go_simp
      exact hK _ _ ⟨s, HS.out, rfl⟩ ⟨hG.1.more (by omega), hG.2⟩ (fun _ _ h => h)
    · intro n A W hn hG hL hP K hK
      have e0 : A.tmps.getD 2 undef = .pointer (some ⟨w.heap.size, 0, none⟩) := hL.same 2 (by decide)
      have e1 : A.tmps.getD 11 undef = .agg #[.slice fa fl fc] := hP 0 (by kernel_rfl) _ rfl
      obtain ⟨p1, hR⟩ := hG.2.2
      have c0 := hR.cell 0
      have rf := hR.frozen
      simp at c0
      have hbs : Below w.heap.size W (W.setCell ⟨w.heap.size, 0, none⟩ (.slice fa fl fc)) := (Below.refl _ W).setCell (p := ⟨w.heap.size, 0, none⟩) (Nat.le_refl _) _
      have hot : ∀ b, b ≠ w.heap.size → (W.setCell ⟨w.heap.size, 0, none⟩ (.slice fa fl fc)).heap[b]? = W.heap[b]? := fun b hb => Below.heap_setCell W ⟨w.heap.size, 0, none⟩ _ b hb
      have HR := Lib.hid (show Blk (W.setCell ⟨w.heap.size, 0, none⟩ (.slice fa fl fc)) w.heap.size 26 [.slice fa fl fc] ∧ (∀ b, b ≠ w.heap.size → (W.setCell ⟨w.heap.size, 0, none⟩ (.slice fa fl fc)).heap[b]? = W.heap[b]?) ∧ Curs g a len cap (300 + (n + 1)) (W.setCell ⟨w.heap.size, 0, none⟩ (.slice fa fl fc)) ∧ Apart [g, w.heap.size] W3 (W.setCell ⟨w.heap.size, 0, none⟩ (.slice fa fl fc)) from
        ⟨(hR.set 0 _).of_eq rfl, hot, (Curs.keepR_ hG.1 HAD.out hbs hot (by omega)).more (by omega), hG.2.1.setCell (by simp) _ _⟩)
      clear hR hbs hot
      go_simp
      exact hK undef _ ⟨_, rfl, HR.out.1⟩ ⟨HR.out.2.2.1, HR.out.2.2.2, _, HR.out.1⟩ (VP.keep (fun b h1 _ => HR.out.2.1 b (by omega)) (fun sv hsv _ => by cases hsv; exact HR.out.1))
    · intro n A W hn hG hL hP K hK
      obtain ⟨s, e0, hs⟩ : ∃ s : ByteArray, A.tmps.getD 13 undef = .string s ∧ s.size ≤ 21 := hP 2 (by kernel_rfl) _ rfl
      obtain ⟨_, sv, e, hR⟩ : ∃ _ : Value, ∃ sv, Value.agg #[.slice fa fl fc] = .agg #[sv] ∧ Blk W w.heap.size 26 [sv] := hP 8 (by kernel_rfl) _ rfl
      have HZ := Lib.hid (And.intro hs (And.intro e hR))
      clear hs hR e
      go_simp
      exact hK _ _ ⟨⟨s, rfl, HZ.out.1⟩, sv, HZ.out.2.1, HZ.out.2.2⟩ ⟨hG.1.more (by omega), hG.2⟩ (fun _ _ h => h)
  intro W4 f hG hV
  obtain ⟨⟨nm, e3, hnm⟩, sv, hsv, hR⟩ : (∃ s : ByteArray, f 3 = .string s ∧ s.size ≤ 21) ∧ ∃ sv, Value.agg #[.slice fa fl fc] = .agg #[sv] ∧ Blk W4 w.heap.size 26 [sv] := hV 9 _ (by omega) rfl
  obtain ⟨s, hs, e18⟩ : ∃ s ∈ putL3, f 18 = .string s := hV 7 _ (by omega) rfl
  cases hsv
  have HSS := Lib.hid (And.intro hnm (putL3_size s hs))
  have K4 := Lib.hid hR
  have I4 := Lib.hid (show Disk.Is W4 x ⟨fa, fl, fc⟩ fp from disk_lo I3.out F2.out (fun b h1 h2 => hG.2.1.block b h2 (by simp; omega)))
  have B4 := Lib.hid (B3.out.trans (hG.2.1.below (lo := w.heap.size) (fun b hb => by simp at hb; omega) B3.out.size))
  simp [mix.lit]
  rw [e3, e18]
  clear hG hV hs e3 e18 hnm hR K3 X3 I3 B3 C3
  go_wp2_with fail
  refine body_gen (fun W => Below w.heap.size w W ∧ Blk W w.heap.size 26 [.slice fa fl fc] ∧ Disk.Is W x ⟨fa, fl, fc⟩ fp) ⟨B4.out, K4.out, I4.out⟩ ?_
  rintro W ⟨bw, kw, iw⟩
  have e0 := kw.cell 0
  simp at e0
  refine bodyPost_ret (v := .tuple #[.agg (Disk.list x ⟨fa, fl, fc⟩).toArray, .string nm, .string s]) (by simp [results, Try.results20, go_sem, e0, Disk.list]) rfl ?_
  exact ⟨x, ⟨fa, fl, fc⟩, fp, nm, s, rfl, iw, HS.out.1, HS.out.2, HSS.out.1, HSS.out.2, bw⟩
end Go.Proofs.Ytoglclmaacjdaaa.dat
