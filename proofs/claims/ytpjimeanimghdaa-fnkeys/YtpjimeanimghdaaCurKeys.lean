/-
  THE DRAWS: the contract of DrawKeyOf: some Config, some mask, some dims, in memory of their own; nothing that was there is written.
  Condition: the code is a slice of bytes, at most 2,000,000 of them.
-/
import Derived.Test.YtpjimeanimghdaaCurEvent
import Derived.Test.YtpjimeanimghdaaFreeTail
namespace Go.Proofs.Ytpjimeanimghdaa.cur
open Go.RowKit Go.Proofs.Ytpjimeanimghdaa.win Go.Proofs.Ytpjimeanimghdaa.dat

theorem conf_is {lo : Nat} {c : ConfD} {wv mv : Value} {W : World} (h : ConfAt lo c wv mv W) : ∃ (hh : ConfigH) (fp : List Nat), wv = .slice hh.wsa hh.wsl hh.wsc ∧ mv = .slice hh.msa hh.msl hh.msc ∧ Config.Is W c hh fp := by
  obtain ⟨a, cap, f0, e0, g0, u0, v0, _, _⟩ := h.1.plain plain_win
  obtain ⟨b, cap', f1, e1, g1, u1, v1, _, _⟩ := h.2.1.plain plain_int
  exact ⟨⟨a, _, cap, b, _, cap'⟩, f0 ++ f1, e0, e1, f0, f1, rfl, g0, u0, v0, g1, u1, v1⟩
theorem wf_i64 {p : Int} (h0 : -1000000 ≤ p) (h1 : p ≤ 1000000) : (Lit.int .i64 p).wf = true := by
  have : IntKind.i64.min ≤ p ∧ p ≤ IntKind.i64.max := by
    constructor
    · exact Int.le_trans (by decide) h0
    · exact Int.le_trans h1 (by decide)
  simpa [Lit.wf] using this
theorem wf_small {p : Int} (h0 : -1000000 ≤ p) (h1 : p ≤ 1000000) : (Lit.int .i64 p).wf = true := by
  exact wf_i64 h0 h1

def VK (g base R : Nat) (cv : Value) (L : List Value) (i : Nat) (w : World) (v : Value) : Prop := match i with
  | 0 => v = cv
  | 1 => v = .pointer (some ⟨g, 0, none⟩)
  | 2 => ∃ r : Int, v = .int .i64 r ∧ 0 ≤ r ∧ r ≤ 7
  | 3 => v = .pointer (some ⟨g, 0, none⟩)
  | 4 => ∃ r : Int, v = .int .i64 r ∧ (Lit.int .i64 r).wf = true
  | 5 => ∃ (b : Nat) (p q : Int), v = .slice (some ⟨b, 0, none⟩) 2 2 ∧ base ≤ b ∧ Blk w b 3 [.int .i64 p, .int .i64 q] ∧ (Lit.int .i64 p).wf = true ∧ (Lit.int .i64 q).wf = true
  | 6 => v = .pointer (some ⟨g, 0, none⟩)
  | 7 => ∃ r : Nat, v = .int .i64 (r : Int) ∧ r < 2
  | 8 => ∃ (b r : Nat) (p q : Int), v = .pointer (some ⟨b, r, none⟩) ∧ r < 2 ∧ base ≤ b ∧ Blk w b 3 [.int .i64 p, .int .i64 q] ∧ (Lit.int .i64 p).wf = true ∧ (Lit.int .i64 q).wf = true
  | 9 => ∃ r : Int, v = .int .i64 r ∧ (Lit.int .i64 r).wf = true
  | 10 => v = .pointer (some ⟨g, 0, none⟩)
  | 11 => v = cv
  | 12 => ∃ (t u : Int) (dv : Value) (ds : List Int), v = .agg #[.int .i64 t, dv, .int .i64 u] ∧ Grows 1 RInt 3 base w dv ds ∧ ds.length ≤ 5
  | 13 => ∃ ds : List Int, Grows 1 RInt 3 base w v ds ∧ ds.length ≤ 5
  | 14 => Blk w R 35 L
  | 15 => (∃ r : Int, v = .int .i64 r ∧ (Lit.int .i64 r).wf = true) ∧ Blk w R 35 L
  | _ => True
theorem VK.keep2 {g base R : Nat} {cv : Value} {L : List Value} {w w' : World} (h : ∀ b, base ≤ b → b < w.heap.size → w'.heap[b]? = w.heap[b]?) (hR : Blk w R 35 L → Blk w' R 35 L) (j : Nat) (u : Value) (hv : VK g base R cv L j w u) : VK g base R cv L j w' u := by
  have hB : ∀ {b t vs}, base ≤ b → Blk w b t vs → Blk w' b t vs := fun h0 hb => (h _ h0 hb.lt).trans hb
  unfold VK at *
  split at hv <;> first | exact hv | (obtain ⟨b, p, q, e, h0, hb, hw⟩ := hv; exact ⟨b, p, q, e, h0, hB h0 hb, hw⟩) | (obtain ⟨b, r, p, q, e, hr, h0, hb, hw⟩ := hv; exact ⟨b, r, p, q, e, hr, h0, hB h0 hb, hw⟩) | (obtain ⟨t, u, dv, ds, e, hg, hl⟩ := hv; exact ⟨t, u, dv, ds, e, hg.keep local_int h, hl⟩) | (obtain ⟨ds, hg, hl⟩ := hv; exact ⟨ds, hg.keep local_int h, hl⟩) | exact hR hv | exact ⟨hv.1, hR hv.2⟩
theorem VK.keep {g base R : Nat} {cv : Value} {L : List Value} {w w' : World} (h : ∀ b, base ≤ b ∨ b = R → b < w.heap.size → w'.heap[b]? = w.heap[b]?) (j : Nat) (u : Value) (hv : VK g base R cv L j w u) : VK g base R cv L j w' u :=
  VK.keep2 (fun b h1 h2 => h b (.inl h1) h2) (fun hb => (h R (.inr rfl) hb.lt).trans hb) j u hv
theorem Curs.keepR {g B : Nat} {a : Option Addr} {len cap m : Nat} {w w' : World} (h : Curs g a len cap m w) (ha : 0 < len → ∃ b off, a = some ⟨b, off, none⟩ ∧ b < B) (hb : Below B w w') (ho : ∀ b, b ≠ B → w'.heap[b]? = w.heap[b]?) (hg : g ≠ B) : Curs g a len cap m w' := by
  obtain ⟨pos, seed, h1, h2, h3, h4, h5, h6, c0, c1, c2, hf, hB⟩ := h
  have hc : ∀ o, w'.cell? ⟨g, o, none⟩ = w.cell? ⟨g, o, none⟩ := fun o => World.cell?_of_block (w := w) (a := ⟨g, o, none⟩) (ho g hg)
  refine ⟨pos, seed, h1, h2, h3, h4, Nat.lt_of_lt_of_le h5 hb.size, h6, (hc 0).trans c0, (hc 1).trans c1, (hc 2).trans c2, fun j => (World.frozen?_of_block (w := w) (a := ⟨g, j, none⟩) (ho g hg)).trans (hf j), fun h0 => ?_⟩
  obtain ⟨b, off, e, k1, k2, k3⟩ := hB h0
  obtain ⟨b', off', e', hlt⟩ := ha h0
  rw [e] at e'
  cases e'
  refine ⟨b, off, e, k1, Nat.lt_of_lt_of_le k2 hb.size, fun i hi => ?_⟩
  obtain ⟨v, v0, v1, hv⟩ := k3 i hi
  exact ⟨v, v0, v1, (World.cell?_of_block (w := w) (a := ⟨b, off + i, none⟩) (ho b (by omega))).trans hv⟩
theorem apart_only {g R : Nat} {w w' : World} (h : Only g w w') : Apart [g, R] w w' := ⟨h.os, h.tape, h.output, h.size, fun b hb hn => h.block b hb (fun e => hn (by simp [e]))⟩

set_option maxRecDepth 100000 in
set_option maxHeartbeats 16000000 in
theorem DrawKeyOf_any (a : Option Addr) (len cap : Nat) (w : World) (hle : len ≤ 2000000) (hcode : Code w a len) :
    Calls Try.prog 16 #[.slice a len cap] w (fun e w' => ∃ (c : ConfD) (h : ConfigH) (fp : List Nat) (m : Int) (ad : Option Addr) (n cd : Nat) (ds : List Int) (fd : List Nat), e = .returned (.tuple #[.agg (Config.list c h).toArray, .int .i64 m, .slice ad n cd]) ∧ Config.Is w' c h fp ∧ c.ws.length ≤ 4 ∧ c.ms.length ≤ 5 ∧ (Lit.int .i64 m).wf = true ∧ GRow 1 RInt w' ad n ds fd ∧ n ≤ cd ∧ cd ≤ 9223372036854775807 ∧ n ≤ 5 ∧ Below w.heap.size w w') := by
  have HK := Lib.hid hcode
  have HAD := Lib.hid (show 0 < len → ∃ b off, a = some ⟨b, off, none⟩ ∧ b < w.heap.size from fun h0 => by obtain ⟨b, off, e, h1, _⟩ := hcode h0; exact ⟨b, off, e, h1⟩)
  clear hcode
  go_enter Try.func16, Try.ntmps16
  go_wp2_with fail
  refine calls_gen (fun W => Below w.heap.size w W ∧ Blk W w.heap.size 35 [.int .i64 0, .slice none 0 0, .slice none 0 0, .int .i64 0, .int .i64 0]) ⟨by repeat (first | exact Below.refl _ _ | refine Below.setCell ?_ (by first | omega | (simp; done) | (simp; omega)) _ | refine Below.alloc ?_ (by first | omega | (simp; done) | (simp; omega)) _ | apply Below.drew), by with_reducible (repeat (first | (refine blk_new_at _ _ _ _ ?_; first | rfl | (simp; done)) | refine Blk.alloc ?_ _ | apply Blk.drew | refine Blk.setOther ?_ (by first | (simp; done) | (simp; omega)) _))⟩ ?_
  rintro W0 ⟨b0, k0⟩
  refine (l01Open_cur _ _ _ _ hle (HK.out.below b0)).mono ?_
  rintro e W1 ⟨rfl, hc1, hb1⟩
  have hk0 := k0.lt
  have K1 := Lib.hid (k0.below hb1 hk0)
  have C1 := Lib.hid hc1
  have B1 := Lib.hid (b0.trans (hb1.mono b0.size))
  have hgw : w.heap.size < W0.heap.size := hk0
  clear hc1 hb1 k0 b0 HK hk0
  generalize W0.heap.size = g at *
  go_wp2_with fail
  refine (anyConfig_any g a len cap 0 W1 (by omega) C1.out).mono ?_
  rintro e W2 ⟨c, wv, mv, rfl, hA, hws, hms, hc2, ho2⟩
  obtain ⟨aw, cw, hwv⟩ := hA.1.slice
  obtain ⟨am, cm, hmv⟩ := hA.2.1.slice
  subst hwv hmv
  have hg1 := C1.out.lt
  have hk1 := K1.out.lt
  have K2 := Lib.hid (show Blk W2 w.heap.size 35 [.int .i64 0, .slice none 0 0, .slice none 0 0, .int .i64 0, .int .i64 0] from (ho2.block _ hk1 (by omega)).trans K1.out)
  have A2 := Lib.hid hA
  have C2 := Lib.hid hc2
  have B2 := Lib.hid (B1.out.trans (ho2.below (B := w.heap.size) (by omega) (by omega)))
  have Z2 := Lib.hid (show W1.heap.size ≤ W2.heap.size from ho2.size)
  clear hA hc2 ho2 K1 C1 B1
  go_wp2_with fail
  refine wp_gen (fun W => Below W2.heap.size W2 W ∧ Blk W W2.heap.size 35 [.int .i64 c.d, .slice aw c.ws.length cw, .slice am c.ms.length cm, .int .i64 c.dl, .int .i64 c.lt]) ⟨by repeat (first | exact Below.refl _ _ | refine Below.setCell ?_ (by first | omega | (simp; done) | (simp; omega)) _ | refine Below.alloc ?_ (by first | omega | (simp; done) | (simp; omega)) _ | apply Below.drew), by with_reducible (repeat (first | (refine blk_new_at _ _ _ _ ?_; first | rfl | (simp; done)) | refine Blk.alloc ?_ _ | apply Blk.drew | refine Blk.setOther ?_ (by first | (simp; done) | (simp; omega)) _))⟩ ?_
  rintro W3 ⟨b3, x3⟩
  have hg2 := C2.out.lt
  have hk2 := K2.out.lt
  have X3 := Lib.hid x3
  have A3 := Lib.hid (show ConfAt W1.heap.size c (.slice aw c.ws.length cw) (.slice am c.ms.length cm) W3 from A2.out.stay (fun b _ h2 => b3.block b h2))
  have K3 := Lib.hid (K2.out.below b3 hk2)
  have C3 := Lib.hid (C2.out.below b3)
  have B3 := Lib.hid (B2.out.trans (b3.mono B2.out.size))
  have hx3 := x3.lt
  have hxg : W2.heap.size ≠ g := by omega
  clear b3 x3 A2 K2 C2 B2
  generalize W2.heap.size = x at *
  have hg3 : g < W3.heap.size := by omega
  obtain ⟨M, hM⟩ : ∃ M, M = 0 + 60 := ⟨_, rfl⟩
  rw [← hM] at C3
  have hM2 : M ≤ 100 := by omega
  clear hM
  refine mix.wp_region_free_tail (VK g W3.heap.size w.heap.size (.agg #[.int .i64 c.d, .slice aw c.ws.length cw, .slice am c.ms.length cm, .int .i64 c.dl, .int .i64 c.lt]) [.int .i64 c.d, .slice aw c.ws.length cw, .slice am c.ms.length cm, .int .i64 c.dl, .int .i64 c.lt]) (fun n wx => Curs g a len cap (M + 20 * n) wx ∧ Apart [g, w.heap.size] W3 wx ∧ ∃ p1 p2 p3 p4 p5, Blk wx w.heap.size 35 [p1, p2, p3, p4, p5]) 16 25 [11, 12, 13, 14, 15, 16, 17, 18, 19, 20, 21, 22, 23, 24, 3] rfl (by kernel_rfl) (by kernel_rfl) (by kernel_rfl) ⟨C3.out.below (Below.refl _ _).drew, apart_only (Only.refl g W3).drew, _, _, _, _, _, K3.out⟩ ?_ ?_
  · refine ⟨?_, ?_, ?_, ?_, ?_, ?_, ?_, ?_, ?_, ?_, ?_, ?_, ?_, ?_, ?_, ?_, trivial⟩
    · intro n A W hn hG hL hP K hK
      have e0 : A.tmps.getD 6 undef = .pointer (some ⟨x, 0, none⟩) := hL.same 6 (by decide)
      have hXW : Blk W x 35 [.int .i64 c.d, .slice aw c.ws.length cw, .slice am c.ms.length cm, .int .i64 c.dl, .int .i64 c.lt] := (hG.2.1.block x X3.out.lt (by simp; omega)).trans X3.out
      have c0 := hXW.cell 0
      have c1 := hXW.cell 1
      have c2 := hXW.cell 2
      have c3 := hXW.cell 3
      have c4 := hXW.cell 4
      simp at c0 c1 c2 c3 c4
      go_simp
      exact hK _ _ rfl ⟨hG.1.more (by omega), hG.2⟩ (fun _ _ h => h)
    · intro n A W hn hG hL hP K hK
      have e0 : A.tmps.getD 5 undef = .pointer (some ⟨g, 0, none⟩) := hL.same 5 (by decide)
      go_simp
      exact hK _ _ rfl ⟨hG.1.more (by omega), hG.2⟩ (fun _ _ h => h)
    · intro n A W hn hG hL hP K hK
      have e0 : A.tmps.getD 12 undef = .pointer (some ⟨g, 0, none⟩) := hP 1 (by kernel_rfl) _ rfl
      go_simp
      refine (pick_any g a len cap (M + 20 * n) 8 W (by omega) hG.1).mono ?_
      rintro e w' ⟨r, rfl, r0, r1, hc, ho⟩
      exact hK _ _ ⟨r, rfl, r0, by omega⟩ ⟨hc.more (by omega), hG.2.1.trans (apart_only ho), by obtain ⟨p1, p2, p3, p4, p5, hR⟩ := hG.2.2; exact ⟨p1, p2, p3, p4, p5, (ho.block _ hR.lt (by omega)).trans hR⟩⟩ (VK.keep (fun b h1 h2 => ho.block b h2 (by omega)))
    · intro n A W hn hG hL hP K hK
      have e0 : A.tmps.getD 5 undef = .pointer (some ⟨g, 0, none⟩) := hL.same 5 (by decide)
      go_simp
      exact hK _ _ rfl ⟨hG.1.more (by omega), hG.2⟩ (fun _ _ h => h)
    · intro n A W hn hG hL hP K hK
      have e0 : A.tmps.getD 14 undef = .pointer (some ⟨g, 0, none⟩) := hP 3 (by kernel_rfl) _ rfl
      go_simp
      refine (raw_any g a len cap (M + 20 * n) W (by omega) hG.1).mono ?_
      rintro e w' ⟨r, rfl, hwf, hc, ho⟩
      exact hK _ _ ⟨r, rfl, hwf⟩ ⟨hc.more (by omega), hG.2.1.trans (apart_only ho), by obtain ⟨p1, p2, p3, p4, p5, hR⟩ := hG.2.2; exact ⟨p1, p2, p3, p4, p5, (ho.block _ hR.lt (by omega)).trans hR⟩⟩ (VK.keep (fun b h1 h2 => ho.block b h2 (by omega)))
    · intro n A W hn hG hL hP K hK
      obtain ⟨p, e1, p0, p7⟩ : ∃ r : Int, A.tmps.getD 13 undef = .int .i64 r ∧ 0 ≤ r ∧ r ≤ 7 := hP 2 (by kernel_rfl) _ rfl
      obtain ⟨q, e2, hq⟩ : ∃ r : Int, A.tmps.getD 15 undef = .int .i64 r ∧ (Lit.int .i64 r).wf = true := hP 4 (by kernel_rfl) _ rfl
      have e1' : A.tmps[13]?.getD undef = .int .i64 p := by simpa using e1
      have e2' : A.tmps[15]?.getD undef = .int .i64 q := by simpa using e2
      have hpw : (Lit.int .i64 p).wf = true := wf_small (by omega) (by omega)
      have HQ := Lib.hid (And.intro hpw hq)
      clear hq hpw
      go_simp
      exact hK _ _ ⟨W.heap.size, p, q, rfl, hG.2.1.size, blk_new W 3 [.int .i64 p, .int .i64 q], HQ.out⟩ ⟨(hG.1.below ((Below.refl _ _).alloc (Nat.le_refl _) _)).more (by omega), hG.2.1.alloc _, by obtain ⟨p1, p2, p3, p4, p5, hR⟩ := hG.2.2; exact ⟨p1, p2, p3, p4, p5, hR.alloc _⟩⟩ (VK.keep (fun b _ h2 => Below.heap_alloc _ _ _ h2))
    · intro n A W hn hG hL hP K hK
      have e0 : A.tmps.getD 5 undef = .pointer (some ⟨g, 0, none⟩) := hL.same 5 (by decide)
      go_simp
      exact hK _ _ rfl ⟨hG.1.more (by omega), hG.2⟩ (fun _ _ h => h)
    · intro n A W hn hG hL hP K hK
      have e0 : A.tmps.getD 17 undef = .pointer (some ⟨g, 0, none⟩) := hP 6 (by kernel_rfl) _ rfl
      go_simp
      refine (pick_any g a len cap (M + 20 * n) 2 W (by omega) hG.1).mono ?_
      rintro e w' ⟨r, rfl, r0, r1, hc, ho⟩
      exact hK _ _ ⟨r.toNat, by rw [Int.toNat_of_nonneg r0], by omega⟩ ⟨hc.more (by omega), hG.2.1.trans (apart_only ho), by obtain ⟨p1, p2, p3, p4, p5, hR⟩ := hG.2.2; exact ⟨p1, p2, p3, p4, p5, (ho.block _ hR.lt (by omega)).trans hR⟩⟩ (VK.keep (fun b h1 h2 => ho.block b h2 (by omega)))
    · intro n A W hn hG hL hP K hK
      obtain ⟨b, p, q, e1, hb⟩ : ∃ b p q, A.tmps.getD 16 undef = .slice (some ⟨b, 0, none⟩) 2 2 ∧ W3.heap.size ≤ b ∧ Blk W b 3 [.int .i64 p, .int .i64 q] ∧ (Lit.int .i64 p).wf = true ∧ (Lit.int .i64 q).wf = true := hP 5 (by kernel_rfl) _ rfl
      obtain ⟨r, e2, hr⟩ : ∃ r : Nat, A.tmps.getD 18 undef = .int .i64 (r : Int) ∧ r < 2 := hP 7 (by kernel_rfl) _ rfl
      have hr2 : (r : Int) < 2 := by omega
      have hr0 : (0 : Int) ≤ (r : Int) := by omega
      have HB := Lib.hid hb
      clear hb
      go_simp
      exact hK _ _ ⟨b, r, p, q, rfl, hr, HB.out⟩ ⟨hG.1.more (by omega), hG.2⟩ (fun _ _ h => h)
    · intro n A W hn hG hL hP K hK
      obtain ⟨b, r, p, q, e1, hr, hb0, hb, hpw, hqw⟩ : ∃ b r p q, A.tmps.getD 19 undef = .pointer (some ⟨b, r, none⟩) ∧ r < 2 ∧ W3.heap.size ≤ b ∧ Blk W b 3 [.int .i64 p, .int .i64 q] ∧ (Lit.int .i64 p).wf = true ∧ (Lit.int .i64 q).wf = true := hP 8 (by kernel_rfl) _ rfl
      obtain ⟨z, hz, hzw⟩ : ∃ z : Int, W.cell? ⟨b, r, none⟩ = some (.int .i64 z) ∧ Hid ((Lit.int .i64 z).wf = true) := by
        have : r = 0 ∨ r = 1 := by omega
        rcases this with rfl | rfl
        · exact ⟨p, hb.cell 0, hpw⟩
        · exact ⟨q, hb.cell 1, hqw⟩
      clear hpw hqw hb
      go_simp
      exact hK _ _ ⟨z, rfl, hzw.out⟩ ⟨hG.1.more (by omega), hG.2⟩ (fun _ _ h => h)
    · intro n A W hn hG hL hP K hK
      have e0 : A.tmps.getD 5 undef = .pointer (some ⟨g, 0, none⟩) := hL.same 5 (by decide)
      go_simp
      exact hK _ _ rfl ⟨hG.1.more (by omega), hG.2⟩ (fun _ _ h => h)
    · intro n A W hn hG hL hP K hK
      have e0 : A.tmps.getD 6 undef = .pointer (some ⟨x, 0, none⟩) := hL.same 6 (by decide)
      have hXW : Blk W x 35 [.int .i64 c.d, .slice aw c.ws.length cw, .slice am c.ms.length cm, .int .i64 c.dl, .int .i64 c.lt] := (hG.2.1.block x X3.out.lt (by simp; omega)).trans X3.out
      have c0 := hXW.cell 0
      have c1 := hXW.cell 1
      have c2 := hXW.cell 2
      have c3 := hXW.cell 3
      have c4 := hXW.cell 4
      simp at c0 c1 c2 c3 c4
      go_simp
      exact hK _ _ rfl ⟨hG.1.more (by omega), hG.2⟩ (fun _ _ h => h)
    · intro n A W hn hG hL hP K hK
      have e0 : A.tmps.getD 21 undef = .pointer (some ⟨g, 0, none⟩) := hP 10 (by kernel_rfl) _ rfl
      have e1 : A.tmps.getD 22 undef = (.agg #[.int .i64 c.d, .slice aw c.ws.length cw, .slice am c.ms.length cm, .int .i64 c.dl, .int .i64 c.lt]) := hP 11 (by kernel_rfl) _ rfl
      go_simp
      refine (event_any g a len cap (M + 20 * n) c aw am _ _ _ _ W (by omega) hG.1).mono ?_
      rintro e w' ⟨t, v, dv, ds, rfl, hGr, hds, hc, ho⟩
      exact hK _ _ ⟨t, v, dv, ds, rfl, hGr.lower hG.2.1.size, hds⟩ ⟨hc.more (by omega), hG.2.1.trans (apart_only ho), by obtain ⟨p1, p2, p3, p4, p5, hR⟩ := hG.2.2; exact ⟨p1, p2, p3, p4, p5, (ho.block _ hR.lt (by omega)).trans hR⟩⟩ (VK.keep (fun b h1 h2 => ho.block b h2 (by omega)))
    · intro n A W hn hG hL hP K hK
      obtain ⟨t, v, dv, ds, e0, hGr, hds⟩ : ∃ t v dv ds, A.tmps.getD 23 undef = .agg #[.int .i64 t, dv, .int .i64 v] ∧ Grows 1 RInt 3 W3.heap.size W dv ds ∧ ds.length ≤ 5 := hP 12 (by kernel_rfl) _ rfl
      obtain ⟨ad, cd, hdv⟩ := hGr.slice
      subst hdv
      have HGr := Lib.hid (And.intro hGr hds)
      clear hGr hds
      go_simp
      exact hK _ _ ⟨ds, HGr.out.1, HGr.out.2⟩ ⟨hG.1.more (by omega), hG.2⟩ (fun _ _ h => h)
    · intro n A W hn hG hL hP K hK
      have e0 : A.tmps.getD 2 undef = .pointer (some ⟨w.heap.size, 0, none⟩) := hL.same 2 (by decide)
      have e1 : A.tmps.getD 11 undef = (.agg #[.int .i64 c.d, .slice aw c.ws.length cw, .slice am c.ms.length cm, .int .i64 c.dl, .int .i64 c.lt]) := hP 0 (by kernel_rfl) _ rfl
      obtain ⟨p1, p2, p3, p4, p5, hR⟩ := hG.2.2
      have c0 := hR.cell 0
      have c1 := hR.cell 1
      have c2 := hR.cell 2
      have c3 := hR.cell 3
      have c4 := hR.cell 4
      have rf := hR.frozen
      simp at c0 c1 c2 c3 c4
      have HR := Lib.hid (show Blk (five w.heap.size (.int .i64 c.d) (.slice aw c.ws.length cw) (.slice am c.ms.length cm) (.int .i64 c.dl) (.int .i64 c.lt) W) w.heap.size 35 [.int .i64 c.d, .slice aw c.ws.length cw, .slice am c.ms.length cm, .int .i64 c.dl, .int .i64 c.lt] ∧ (∀ b, b ≠ w.heap.size → (five w.heap.size (.int .i64 c.d) (.slice aw c.ws.length cw) (.slice am c.ms.length cm) (.int .i64 c.dl) (.int .i64 c.lt) W).heap[b]? = W.heap[b]?) ∧ Curs g a len cap (M + 20 * (n + 1)) (five w.heap.size (.int .i64 c.d) (.slice aw c.ws.length cw) (.slice am c.ms.length cm) (.int .i64 c.dl) (.int .i64 c.lt) W) ∧ Apart [g, w.heap.size] W3 (five w.heap.size (.int .i64 c.d) (.slice aw c.ws.length cw) (.slice am c.ms.length cm) (.int .i64 c.dl) (.int .i64 c.lt) W) from
        ⟨five_blk hR, five_other, (hG.1.keepR HAD.out five_below five_other (by omega)).more (by omega), by unfold five; exact ((((hG.2.1.setCell (by simp) _ _).setCell (by simp) _ _).setCell (by simp) _ _).setCell (by simp) _ _).setCell (by simp) _ _⟩)
      unfold five at HR
      clear hR
      go_simp
      exact hK undef _ HR.out.1 ⟨HR.out.2.2.1, HR.out.2.2.2, _, _, _, _, _, HR.out.1⟩ (VK.keep2 (fun b h1 _ => HR.out.2.1 b (by omega)) (fun _ => HR.out.1))
    · intro n A W hn hG hL hP K hK
      obtain ⟨z, e0, hzw⟩ : ∃ r : Int, A.tmps.getD 20 undef = .int .i64 r ∧ (Lit.int .i64 r).wf = true := hP 9 (by kernel_rfl) _ rfl
      obtain ⟨_, hR⟩ : ∃ _ : Value, Blk W w.heap.size 35 [.int .i64 c.d, .slice aw c.ws.length cw, .slice am c.ms.length cm, .int .i64 c.dl, .int .i64 c.lt] := hP 14 (by kernel_rfl) _ rfl
      have HZ := Lib.hid (And.intro hzw hR)
      clear hzw hR
      go_simp
      exact hK _ _ ⟨⟨z, rfl, HZ.out.1⟩, HZ.out.2⟩ ⟨hG.1.more (by omega), hG.2⟩ (fun _ _ h => h)
  · intro W f hG hV
    obtain ⟨⟨mk, e3, hmw⟩, hR⟩ : (∃ r : Int, f 3 = .int .i64 r ∧ (Lit.int .i64 r).wf = true) ∧ Blk W w.heap.size 35 [.int .i64 c.d, .slice aw c.ws.length cw, .slice am c.ms.length cm, .int .i64 c.dl, .int .i64 c.lt] := hV 15 _ (by omega) rfl
    obtain ⟨ds, hGd, hds⟩ : ∃ ds : List Int, Grows 1 RInt 3 W3.heap.size W (f 24) ds ∧ ds.length ≤ 5 := hV 13 _ (by omega) rfl
    obtain ⟨ad, cd, hdv⟩ := hGd.slice
    have HR := Lib.hid hR
    have HGd := Lib.hid hGd
    have HDV := Lib.hid hdv
    have HMW := Lib.hid hmw
    have HAA := Lib.hid hG.2.1
    clear hR hGd hdv hmw hG hV
    simp [mix.lit]
    rw [e3, HDV.out]
    go_wp2_with fail
    have z0 := HR.out.cell 0
    have z1 := HR.out.cell 1
    have z2 := HR.out.cell 2
    have z3 := HR.out.cell 3
    have z4 := HR.out.cell 4
    simp at z0 z1 z2 z3 z4
    have hAW : ConfAt W1.heap.size c (.slice aw c.ws.length cw) (.slice am c.ms.length cm) W := A3.out.stay (fun b h1 h2 => HAA.out.block b h2 (by simp; omega))
    obtain ⟨hh, fp, e0, e1, hIs⟩ := conf_is hAW
    obtain ⟨a', cap', fd, ev, hgd, u1, u2, _, _⟩ := HGd.out.plain plain_int
    rw [HDV.out] at ev
    cases ev
    have hlist : Config.list c hh = [.int .i64 c.d, .slice aw c.ws.length cw, .slice am c.ms.length cm, .int .i64 c.dl, .int .i64 c.lt] := by unfold Config.list; rw [← e0, ← e1]
    have hBel : Below w.heap.size w W := B3.out.trans (HAA.out.below (by intro b hb; simp at hb; omega) (by omega))
    exact bodyPost_ret (v := .tuple #[.agg #[.int .i64 c.d, .slice aw c.ws.length cw, .slice am c.ms.length cm, .int .i64 c.dl, .int .i64 c.lt], .int .i64 mk, .slice ad ds.length cd]) (by simp [results, Try.results16, go_sem, z0, z1, z2, z3, z4]) rfl ⟨c, hh, fp, mk, ad, ds.length, cd, ds, fd, by rw [hlist], hIs, hws, hms, HMW.out, hgd, u1, u2, hds, hBel⟩
end Go.Proofs.Ytpjimeanimghdaa.cur
