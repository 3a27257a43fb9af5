/-
  THE CONTRACT OF DrawUnsealed of the model: SOME text of at most 4000 bytes; nothing that was there is written.
-/
import Derived.Test.YtpcekmllmnfmmaaDoorDrawSealed
namespace Go.Proofs.YtpcekmllmnfmmaaDoor.dat
open Go.RowKit Go.Proofs.YtpcekmllmnfmmaaDoor.win Go.Proofs.YtpcekmllmnfmmaaDoor.cur
open Go.Proofs.YtpcekmllmnfmmaaDoor.num (Texted)
open Go.Proofs.YtpcekmllmnfmmaaDoor.crc (spec_Sealed sealT_len sealT)

/-- A text of at most n bytes. -/
def TX (n : Nat) (v : Value) : Prop := ∃ l : List UInt8, v = .string ⟨l.toArray⟩ ∧ l.length ≤ n
/-- A text with its sum. -/
def TS (v : Value) : Prop := ∃ l : List UInt8, v = .string ⟨l.toArray⟩ ∧ 6 ≤ l.length ∧ l.length ≤ 1200
/-- Four texts in memory of their own. -/
def Four4 (base : Nat) (w : World) (b : Nat) : Prop := base ≤ b ∧ ∃ l0 l1 l2 l3 : List UInt8, (l0.length ≤ 1100 ∧ l1.length ≤ 1100 ∧ l2.length ≤ 1100 ∧ l3.length ≤ 1100) ∧ Blk w b 9 [.string ⟨l0.toArray⟩, .string ⟨l1.toArray⟩, .string ⟨l2.toArray⟩, .string ⟨l3.toArray⟩]
theorem four4_cell {base : Nat} {w : World} {b r : Nat} (h : Four4 base w b) (hr : r < 4) : ∃ l : List UInt8, w.cell? ⟨b, r, none⟩ = some (.string ⟨l.toArray⟩) ∧ l.length ≤ 1100 := by
  obtain ⟨_, p, q, x, y, ⟨h0, h1, h2, h3⟩, hb⟩ := h
  have : r = 0 ∨ r = 1 ∨ r = 2 ∨ r = 3 := by omega
  rcases this with rfl | rfl | rfl | rfl
  · exact ⟨p, hb.cell 0, h0⟩
  · exact ⟨q, hb.cell 1, h1⟩
  · exact ⟨x, hb.cell 2, h2⟩
  · exact ⟨y, hb.cell 3, h3⟩
theorem Four4.keep {base : Nat} {w w' : World} {b : Nat} (h : Four4 base w b) (hk : ∀ b, base ≤ b → b < w.heap.size → w'.heap[b]? = w.heap[b]?) : Four4 base w' b := by
  obtain ⟨h0, p, q, x, y, hl, hb⟩ := h
  exact ⟨h0, p, q, x, y, hl, (hk b h0 hb.lt).trans hb⟩
/-- The event's value. -/
def EvV (base : Nat) (w : World) (v : Value) : Prop := ∃ (t u : Int) (dv : Value) (ds : List Int), v = .agg #[.int .i64 t, dv, .int .i64 u] ∧ Grows 1 RInt 3 base w dv ds
def VU (g base : Nat) (cv : Value) (i : Nat) (w : World) (v : Value) : Prop := match i with
  | 0 => v = cv
  | 1 => v = .pointer (some ⟨g, 0, none⟩)
  | 2 => v = cv
  | 3 => EvV base w v
  | 4 => TX 1000 v
  | 5 => TX 1000 v
  | 6 => ∃ b, v = .slice (some ⟨b, 0, none⟩) 4 4 ∧ Four4 base w b
  | 7 => v = .pointer (some ⟨g, 0, none⟩)
  | 8 => ∃ r : Nat, v = .int .i64 (r : Int) ∧ r < 4
  | 9 => ∃ b r : Nat, v = .pointer (some ⟨b, r, none⟩) ∧ r < 4 ∧ Four4 base w b
  | 10 => TX 1100 v
  | 11 => TS v
  | 12 => TS v
  | _ => True
theorem VU.keep {g base : Nat} {cv : Value} {w w' : World} (hk : ∀ b, base ≤ b → b < w.heap.size → w'.heap[b]? = w.heap[b]?) (j : Nat) (u : Value) (hv : VU g base cv j w u) : VU g base cv j w' u := by
  unfold VU at *
  split at hv <;> first | exact hv | (obtain ⟨b, e, hf⟩ := hv; exact ⟨b, e, hf.keep hk⟩) | (obtain ⟨b, r, e, hr, hf⟩ := hv; exact ⟨b, r, e, hr, hf.keep hk⟩) | (obtain ⟨t, u, dv, ds, e, hG⟩ := hv; exact ⟨t, u, dv, ds, e, hG.keep local_int hk⟩)
/-- A text of at most n bytes. -/
def TB (n : Nat) (v : Value) : Prop := ∃ t : ByteArray, v = .string t ∧ t.size ≤ n
theorem tb_extract {n : Nat} {s : ByteArray} {i j : Nat} (h : s.size ≤ n) : TB n (.string (s.extract i j)) := ⟨_, rfl, by rw [ByteArray.size_extract]; omega⟩
def VW (g base : Nat) (s : ByteArray) (k : Nat) (i : Nat) (w : World) (v : Value) : Prop := match i with
  | 0 => v = .string s
  | 1 => v = .int .i64 (k : Int)
  | 2 => TB 1200 v
  | 3 => ∃ b, v = .slice (some ⟨b, 0, none⟩) 4 4 ∧ Four4 base w b
  | 4 => v = .pointer (some ⟨g, 0, none⟩)
  | 5 => ∃ r : Nat, v = .int .i64 (r : Int) ∧ r < 4
  | 6 => ∃ b r : Nat, v = .pointer (some ⟨b, r, none⟩) ∧ r < 4 ∧ Four4 base w b
  | 7 => TB 1100 v
  | 8 => TB 2300 v
  | 9 => v = .string s
  | 10 => v = .int .i64 (k : Int)
  | 11 => v = .int .i64 ((k + 1 : Nat) : Int)
  | 12 => TB 1200 v
  | 13 => TB 3500 v
  | 14 => TB 3500 v
  | _ => True
theorem VW.keep {g base : Nat} {s : ByteArray} {k : Nat} {w w' : World} (hk : ∀ b, base ≤ b → b < w.heap.size → w'.heap[b]? = w.heap[b]?) (j : Nat) (u : Value) (hv : VW g base s k j w u) : VW g base s k j w' u := by
  unfold VW at *
  split at hv <;> first | exact hv | (obtain ⟨b, e, hf⟩ := hv; exact ⟨b, e, hf.keep hk⟩) | (obtain ⟨b, r, e, hr, hf⟩ := hv; exact ⟨b, r, e, hr, hf.keep hk⟩)

set_option maxRecDepth 100000 in
set_option maxHeartbeats 16000000 in
theorem DrawUnsealed_any (a : Option Addr) (len cap : Nat) (w : World) (hle : len ≤ 2000000) (hcode : cur.Code w a len) :
    Calls Tryd.prog 16 #[.slice a len cap] w (Drawn w) := by
  have HK := Lib.hid hcode
  clear hcode
  go_enter Tryd.func16, Tryd.ntmps16
  go_wp2_with fail
  refine (l01Open_cur _ _ _ _ hle HK.out).mono ?_
  rintro e W1 ⟨rfl, hc1, hb1⟩
  have C1 := Lib.hid hc1
  have B1 := Lib.hid hb1
  obtain ⟨g, hg⟩ : ∃ g, w.heap.size = g := ⟨_, rfl⟩
  rw [hg] at C1 B1 ⊢
  have HGG := Lib.hid hg
  clear hc1 hb1 HK
  go_wp2_with fail
  refine (config_any g a len cap 0 W1 (by omega) C1.out).mono ?_
  rintro e W2 ⟨c, wv, mv, rfl, hA, hws, hms, _, hc2, ho2⟩
  obtain ⟨aw, cw, hwv⟩ := hA.1.slice
  obtain ⟨am, cm, hmv⟩ := hA.2.1.slice
  subst hwv hmv
  have hg1 := C1.out.lt
  have A2 := Lib.hid hA
  have C2 := Lib.hid hc2
  have B2 := Lib.hid (B1.out.trans (ho2.below (B := g) (by omega) (by omega)))
  have Z2 := Lib.hid (show W1.heap.size ≤ W2.heap.size from ho2.size)
  clear hA hc2 ho2 C1 B1
  go_wp2_with fail
  refine wp_gen (fun W => Below W2.heap.size W2 W ∧ Blk W W2.heap.size 52 [.int .i64 c.d, .slice aw c.ws.length cw, .slice am c.ms.length cm, .int .i64 c.dl, .int .i64 c.lt]) ⟨by repeat (first | exact Below.refl _ _ | refine Below.setCell ?_ (by first | omega | (simp; done) | (simp; omega)) _ | refine Below.alloc ?_ (by first | omega | (simp; done) | (simp; omega)) _ | apply Below.drew), by with_reducible (repeat (first | (refine blk_new_at _ _ _ _ ?_; first | rfl | (simp; done)) | refine Blk.alloc ?_ _ | apply Blk.drew | refine Blk.setOther ?_ (by first | (simp; done) | (simp; omega)) _))⟩ ?_
  rintro W3 ⟨b3, x3⟩
  have X3 := Lib.hid x3
  have A3 := Lib.hid (show ConfAt W1.heap.size c (.slice aw c.ws.length cw) (.slice am c.ms.length cm) W3 from A2.out.stay (fun b _ h2 => b3.block b h2))
  have hg2 := C2.out.lt
  have C3 := Lib.hid (C2.out.below b3)
  have B3 := Lib.hid (B2.out.trans (b3.mono (Nat.le_of_lt hg2)))
  have hx3 := x3.lt
  have hxg : W2.heap.size ≠ g := by omega
  have hgx : g < W2.heap.size := hg2
  clear b3 x3 A2 C2 B2
  generalize W2.heap.size = x at *
  have hg3 : g < W3.heap.size := by omega
  have x0 := X3.out.cell 0
  have x1 := X3.out.cell 1
  have x2 := X3.out.cell 2
  have x3 := X3.out.cell 3
  have x4 := X3.out.cell 4
  simp at x0 x1 x2 x3 x4
  have S3 := Lib.hid (And.intro x0 (And.intro x1 (And.intro x2 (And.intro x3 x4))))
  clear x0 x1 x2 x3 x4
  go_cut [5] (fun v wx => TS v ∧ Curs g a len cap 400 wx ∧ Only g W3 wx)
  case first =>
    refine mix.wp_region_free (VU g W3.heap.size (.agg #[.int .i64 c.d, .slice aw c.ws.length cw, .slice am c.ms.length cm, .int .i64 c.dl, .int .i64 c.lt])) (fun n wx => Curs g a len cap (40 + 20 * n) wx ∧ Only g W3 wx) 44 [11, 12, 13, 14, 15, 16, 17, 18, 19, 20, 21, 22, 5] rfl (by kernel_rfl) (by kernel_rfl) (by kernel_rfl) ⟨(C3.out.more (by omega)).below (Below.refl _ _).drew, (Only.refl g W3).drew⟩ ?_ ?_
    · refine ⟨?_, ?_, ?_, ?_, ?_, ?_, ?_, ?_, ?_, ?_, ?_, ?_, ?_, trivial⟩
      · intro n A W hn hG hL hP K hK
        have e0 : A.tmps.getD 4 undef = .pointer (some ⟨x, 0, none⟩) := hL.same 4 (by decide)
        have c0 : W.cell? ⟨x, 0, none⟩ = some (.int .i64 c.d) := (hG.2.cell hx3 hxg).trans S3.out.1
        have c1 : W.cell? ⟨x, 1, none⟩ = some (.slice aw c.ws.length cw) := (hG.2.cell hx3 hxg).trans S3.out.2.1
        have c2 : W.cell? ⟨x, 2, none⟩ = some (.slice am c.ms.length cm) := (hG.2.cell hx3 hxg).trans S3.out.2.2.1
        have c3 : W.cell? ⟨x, 3, none⟩ = some (.int .i64 c.dl) := (hG.2.cell hx3 hxg).trans S3.out.2.2.2.1
        have c4 : W.cell? ⟨x, 4, none⟩ = some (.int .i64 c.lt) := (hG.2.cell hx3 hxg).trans S3.out.2.2.2.2
        go_simp
        exact hK _ _ rfl ⟨hG.1.more (by omega), hG.2⟩ (fun _ _ h => h)
      · intro n A W hn hG hL hP K hK
        have e0 : A.tmps.getD 3 undef = .pointer (some ⟨g, 0, none⟩) := hL.same 3 (by decide)
        go_simp
        exact hK _ _ rfl ⟨hG.1.more (by omega), hG.2⟩ (fun _ _ h => h)
      · intro n A W hn hG hL hP K hK
        have e0 : A.tmps.getD 4 undef = .pointer (some ⟨x, 0, none⟩) := hL.same 4 (by decide)
        have c0 : W.cell? ⟨x, 0, none⟩ = some (.int .i64 c.d) := (hG.2.cell hx3 hxg).trans S3.out.1
        have c1 : W.cell? ⟨x, 1, none⟩ = some (.slice aw c.ws.length cw) := (hG.2.cell hx3 hxg).trans S3.out.2.1
        have c2 : W.cell? ⟨x, 2, none⟩ = some (.slice am c.ms.length cm) := (hG.2.cell hx3 hxg).trans S3.out.2.2.1
        have c3 : W.cell? ⟨x, 3, none⟩ = some (.int .i64 c.dl) := (hG.2.cell hx3 hxg).trans S3.out.2.2.2.1
        have c4 : W.cell? ⟨x, 4, none⟩ = some (.int .i64 c.lt) := (hG.2.cell hx3 hxg).trans S3.out.2.2.2.2
        go_simp
        exact hK _ _ rfl ⟨hG.1.more (by omega), hG.2⟩ (fun _ _ h => h)
      · intro n A W hn hG hL hP K hK
        have hn13 : n < 13 := hn
        have e1 : A.tmps.getD 12 undef = .pointer (some ⟨g, 0, none⟩) := hP 1 (by kernel_rfl) _ _ rfl rfl
        have e2 : A.tmps.getD 13 undef = (.agg #[.int .i64 c.d, .slice aw c.ws.length cw, .slice am c.ms.length cm, .int .i64 c.dl, .int .i64 c.lt]) := hP 2 (by kernel_rfl) _ _ rfl rfl
        go_simp
        refine (event_any g a len cap (40 + 20 * n) c aw am c.ws.length cw c.ms.length cm W (by omega) hG.1).mono ?_
        rintro e w' ⟨t, v, dv, ds, rfl, hGr, hds, hc, ho⟩
        exact hK _ _ ⟨t, v, dv, ds, rfl, Grows.lower hGr hG.2.size⟩ ⟨hc.more (by omega), hG.2.trans ho⟩ (VU.keep (fun b h1 h2 => ho.block b h2 (by omega)))
      · intro n A W hn hG hL hP K hK
        have e1 : A.tmps.getD 11 undef = (.agg #[.int .i64 c.d, .slice aw c.ws.length cw, .slice am c.ms.length cm, .int .i64 c.dl, .int .i64 c.lt]) := hP 0 (by kernel_rfl) _ _ rfl rfl
        obtain ⟨t, u, dv, ds, e2, hGr⟩ : EvV W3.heap.size W (A.tmps.getD 14 undef) := hP 3 (by kernel_rfl) _ _ rfl rfl
        have A4 : ConfAt W1.heap.size c (.slice aw c.ws.length cw) (.slice am c.ms.length cm) W := A3.out.stay (fun b h1 h2 => hG.2.block b h2 (by have := HGG.out; omega))
        obtain ⟨cf, hcf, _⟩ := conf_is2 A4
        obtain ⟨ad', cd', ef, e3, r3, u3, v3, _, _⟩ := hGr.plain plain_int
        subst e3
        go_simp
        refine (spec_EventText c ⟨_, _, _, _, _, _⟩ cf ⟨t, ds, u⟩ ⟨_, _, _⟩ ef W hcf ⟨ef, rfl, r3, u3, v3⟩).mono ?_
        rintro e w' ⟨rfl, hb⟩
        exact hK _ _ ⟨_, rfl, by have := evD_len c ⟨t, ds, u⟩; omega⟩ ⟨(hG.1.below hb).more (by omega), hG.2.trans (Only.of_below hb)⟩ (VU.keep (fun b h1 h2 => hb.block b h2))
      · intro n A W hn hG hL hP K hK
        go_simp
        refine (spec_Sealed [97] W (by decide)).mono ?_
        rintro e w' ⟨rfl, hb⟩
        exact hK _ _ ⟨_, rfl, by have := (sealT_len [97]).2; simp; omega⟩ ⟨(hG.1.below hb).more (by omega), hG.2.trans (Only.of_below hb)⟩ (VU.keep (fun b h1 h2 => hb.block b h2))
      · intro n A W hn hG hL hP K hK
        obtain ⟨l2, e1, h2⟩ : TX 1000 (A.tmps.getD 15 undef) := hP 4 (by kernel_rfl) _ _ rfl rfl
        obtain ⟨l3, e2, h3⟩ : TX 1000 (A.tmps.getD 16 undef) := hP 5 (by kernel_rfl) _ _ rfl rfl
        have e1' : A.tmps[15]?.getD undef = .string ⟨l2.toArray⟩ := by simpa using e1
        have e2' : A.tmps[16]?.getD undef = .string ⟨l3.toArray⟩ := by simpa using e2
        go_simp
        exact hK _ _ ⟨W.heap.size, rfl, hG.2.size, [], [115, 117, 109, 32], l2, l3, ⟨by decide, by decide, by omega, by omega⟩, blk_new W _ _⟩ ⟨(hG.1.below ((Below.refl _ _).alloc (Nat.le_refl _) _)).more (by omega), hG.2.alloc _⟩ (VU.keep (fun b _ h2 => Below.heap_alloc _ _ _ h2))
      · intro n A W hn hG hL hP K hK
        have e0 : A.tmps.getD 3 undef = .pointer (some ⟨g, 0, none⟩) := hL.same 3 (by decide)
        go_simp
        exact hK _ _ rfl ⟨hG.1.more (by omega), hG.2⟩ (fun _ _ h => h)
      · intro n A W hn hG hL hP K hK
        have hn13 : n < 13 := hn
        have e0 : A.tmps.getD 18 undef = .pointer (some ⟨g, 0, none⟩) := hP 7 (by kernel_rfl) _ _ rfl rfl
        go_simp
        refine (pick_any g a len cap (40 + 20 * n) 4 W (by omega) hG.1).mono ?_
        rintro e w' ⟨r, rfl, r0, r1, hc, ho⟩
        exact hK _ _ ⟨r.toNat, by rw [Int.toNat_of_nonneg r0], by omega⟩ ⟨hc.more (by omega), hG.2.trans ho⟩ (VU.keep (fun b h1 h2 => ho.block b h2 (by omega)))
      · intro n A W hn hG hL hP K hK
        obtain ⟨b, e1, hb⟩ : ∃ b, A.tmps.getD 17 undef = .slice (some ⟨b, 0, none⟩) 4 4 ∧ Four4 W3.heap.size W b := hP 6 (by kernel_rfl) _ _ rfl rfl
        obtain ⟨r, e2, hr⟩ : ∃ r : Nat, A.tmps.getD 19 undef = .int .i64 (r : Int) ∧ r < 4 := hP 8 (by kernel_rfl) _ _ rfl rfl
        have hr2 : (r : Int) < 4 := by omega
        have hr0 : (0 : Int) ≤ (r : Int) := by omega
        go_simp
        exact hK _ _ ⟨b, r, rfl, hr, hb⟩ ⟨hG.1.more (by omega), hG.2⟩ (fun _ _ h => h)
      · intro n A W hn hG hL hP K hK
        obtain ⟨b, r, e1, hr, hb⟩ : ∃ b r : Nat, A.tmps.getD 20 undef = .pointer (some ⟨b, r, none⟩) ∧ r < 4 ∧ Four4 W3.heap.size W b := hP 9 (by kernel_rfl) _ _ rfl rfl
        obtain ⟨z, hz, hzl⟩ := four4_cell hb hr
        go_simp
        exact hK _ _ ⟨z, rfl, hzl⟩ ⟨hG.1.more (by omega), hG.2⟩ (fun _ _ h => h)
      · intro n A W hn hG hL hP K hK
        obtain ⟨z, e1, hz⟩ : TX 1100 (A.tmps.getD 21 undef) := hP 10 (by kernel_rfl) _ _ rfl rfl
        go_simp
        refine (spec_Sealed z W (by omega)).mono ?_
        rintro e w' ⟨rfl, hb⟩
        exact hK _ _ ⟨_, rfl, by have := (sealT_len z).1; simp; omega, by have := (sealT_len z).2; simp; omega⟩ ⟨(hG.1.below hb).more (by omega), hG.2.trans (Only.of_below hb)⟩ (VU.keep (fun b h1 h2 => hb.block b h2))
      · intro n A W hn hG hL hP K hK
        obtain ⟨z, e1, hz0, hz⟩ : TS (A.tmps.getD 22 undef) := hP 11 (by kernel_rfl) _ _ rfl rfl
        go_simp
        exact hK _ _ ⟨z, rfl, hz0, hz⟩ ⟨hG.1.more (by omega), hG.2⟩ (fun _ _ h => h)
    · intro n wx f hn hG hV
      have hn13 : n ≤ 13 := hn
      obtain ⟨z, e3, hz0, hz⟩ : TS (f 5) := hV 12 _ 5 rfl rfl
      simp [mix.lit]
      go_wp2_with fail
      go_meet
      exact ⟨⟨z, e3, hz0, hz⟩, hG.1.more (by omega), hG.2⟩
  case rest =>
  obtain ⟨⟨z, rfl, hz0, hz⟩, hc5, ho5⟩ := hcut
  generalize wc = W5 at *
  have B5 := Lib.hid (B3.out.trans (ho5.below (B := g) (Nat.le_refl _) (by omega)))
  have C5 := Lib.hid hc5
  have Z5 : W3.heap.size ≤ W5.heap.size := ho5.size
  clear hc5 ho5 A3 S3 C3 B3 X3
  go_wp2_with fail
  refine (once_any g a len cap 400 3 W5 (by omega) C5.out).mono ?_
  rintro e W6 ⟨tb, rfl, hc6, ho6⟩
  have C6 := Lib.hid hc6
  have B6 := Lib.hid (B5.out.trans (ho6.below (B := g) (Nat.le_refl _) (by omega)))
  have Z6 : W5.heap.size ≤ W6.heap.size := ho6.size
  clear hc6 ho6 C5 B5
  cases tb with
  | false =>
    go_wp2_with fail
    refine bodyPost_ret (v := .string ⟨z.toArray⟩) (by simp [results, Tryd.results16, go_sem]) rfl ?_
    refine ⟨z, rfl, by omega, ?_⟩
    rw [HGG.out]
    exact B6.out
  | true =>
    go_wp2_with fail
    refine (pick_any g a len cap 401 (z.length : Int) W6 (by omega) C6.out).mono ?_
    rintro e W7 ⟨kk, rfl, k0, k1, hc7, ho7⟩
    obtain ⟨k, rfl⟩ : ∃ k : Nat, kk = k := ⟨kk.toNat, by omega⟩
    have hks : k < z.length := by omega
    have C7 := Lib.hid hc7
    have B7 := Lib.hid (B6.out.trans (ho7.below (B := g) (Nat.le_refl _) (by omega)))
    have Z7 : W6.heap.size ≤ W7.heap.size := ho7.size
    clear hc7 ho7 C6 B6 k0 k1
    go_wp2_with fail
    obtain ⟨s, hs⟩ : ∃ s : ByteArray, (⟨z.toArray⟩ : ByteArray) = s := ⟨_, rfl⟩
    have hsz : s.size = z.length := by rw [← hs]; show z.toArray.size = _; simp
    have hsz2 : s.size ≤ 1200 := by omega
    have hks2 : k + 1 ≤ s.size := by omega
    rw [hs]
    have hg7 : g < W7.heap.size := by omega
    clear hs hsz hks hz hz0
    refine mix.wp_region_free (VW g W7.heap.size s k) (fun n wx => Curs g a len cap (402 + 20 * n) wx ∧ Only g W7 wx) 44 [29, 30, 31, 32, 33, 34, 35, 36, 37, 38, 39, 40, 41, 42, 2] rfl (by kernel_rfl) (by kernel_rfl) (by kernel_rfl) ⟨(C7.out.more (by omega)).below (Below.refl _ _).drew, (Only.refl g W7).drew⟩ ?_ ?_
    · refine ⟨?_, ?_, ?_, ?_, ?_, ?_, ?_, ?_, ?_, ?_, ?_, ?_, ?_, ?_, ?_, trivial⟩
      · intro n A W hn hG hL hP K hK
        have e0 : A.tmps.getD 5 undef = .string s := hL.same 5 (by decide)
        go_simp
        exact hK _ _ rfl ⟨hG.1.more (by omega), hG.2⟩ (fun _ _ h => h)
      · intro n A W hn hG hL hP K hK
        have e0 : A.tmps.getD 6 undef = .int .i64 (k : Int) := hL.same 6 (by decide)
        go_simp
        exact hK _ _ rfl ⟨hG.1.more (by omega), hG.2⟩ (fun _ _ h => h)
      · intro n A W hn hG hL hP K hK
        have e1 : A.tmps.getD 29 undef = .string s := hP 0 (by kernel_rfl) _ _ rfl rfl
        have e2 : A.tmps.getD 30 undef = .int .i64 (k : Int) := hP 1 (by kernel_rfl) _ _ rfl rfl
        have q1 : (k : Int) ≤ (s.size : Int) := by omega
        have q0 : (0 : Int) ≤ (k : Int) := by omega
        go_simp
        exact hK _ _ (tb_extract hsz2) ⟨hG.1.more (by omega), hG.2⟩ (fun _ _ h => h)
      · intro n A W hn hG hL hP K hK
        go_simp
        exact hK _ _ ⟨W.heap.size, rfl, hG.2.size, [], [48], [32], [120], ⟨by decide, by decide, by decide, by decide⟩, blk_new W _ _⟩ ⟨(hG.1.below ((Below.refl _ _).alloc (Nat.le_refl _) _)).more (by omega), hG.2.alloc _⟩ (VW.keep (fun b _ h2 => Below.heap_alloc _ _ _ h2))
      · intro n A W hn hG hL hP K hK
        have e0 : A.tmps.getD 3 undef = .pointer (some ⟨g, 0, none⟩) := hL.same 3 (by decide)
        go_simp
        exact hK _ _ rfl ⟨hG.1.more (by omega), hG.2⟩ (fun _ _ h => h)
      · intro n A W hn hG hL hP K hK
        have hn15 : n < 15 := hn
        have e0 : A.tmps.getD 33 undef = .pointer (some ⟨g, 0, none⟩) := hP 4 (by kernel_rfl) _ _ rfl rfl
        go_simp
        refine (pick_any g a len cap (402 + 20 * n) 4 W (by omega) hG.1).mono ?_
        rintro e w' ⟨r, rfl, r0, r1, hc, ho⟩
        exact hK _ _ ⟨r.toNat, by rw [Int.toNat_of_nonneg r0], by omega⟩ ⟨hc.more (by omega), hG.2.trans ho⟩ (VW.keep (fun b h1 h2 => ho.block b h2 (by omega)))
      · intro n A W hn hG hL hP K hK
        obtain ⟨b, e1, hb⟩ : ∃ b, A.tmps.getD 32 undef = .slice (some ⟨b, 0, none⟩) 4 4 ∧ Four4 W7.heap.size W b := hP 3 (by kernel_rfl) _ _ rfl rfl
        obtain ⟨r, e2, hr⟩ : ∃ r : Nat, A.tmps.getD 34 undef = .int .i64 (r : Int) ∧ r < 4 := hP 5 (by kernel_rfl) _ _ rfl rfl
        have hr2 : (r : Int) < 4 := by omega
        have hr0 : (0 : Int) ≤ (r : Int) := by omega
        go_simp
        exact hK _ _ ⟨b, r, rfl, hr, hb⟩ ⟨hG.1.more (by omega), hG.2⟩ (fun _ _ h => h)
      · intro n A W hn hG hL hP K hK
        obtain ⟨b, r, e1, hr, hb⟩ : ∃ b r : Nat, A.tmps.getD 35 undef = .pointer (some ⟨b, r, none⟩) ∧ r < 4 ∧ Four4 W7.heap.size W b := hP 6 (by kernel_rfl) _ _ rfl rfl
        obtain ⟨y, hy, hyl⟩ := four4_cell hb hr
        go_simp
        exact hK _ _ ⟨_, rfl, by show y.toArray.size ≤ _; simpa using hyl⟩ ⟨hG.1.more (by omega), hG.2⟩ (fun _ _ h => h)
      · intro n A W hn hG hL hP K hK
        obtain ⟨t1, e1, h1⟩ : TB 1200 (A.tmps.getD 31 undef) := hP 2 (by kernel_rfl) _ _ rfl rfl
        obtain ⟨t2, e2, h2⟩ : TB 1100 (A.tmps.getD 36 undef) := hP 7 (by kernel_rfl) _ _ rfl rfl
        have e1' : A.tmps[31]?.getD undef = .string t1 := by simpa using e1
        have e2' : A.tmps[36]?.getD undef = .string t2 := by simpa using e2
        have hle3 : ¬ 9223372036854775807 < t1.size + t2.size := by omega
        go_simp
        exact hK _ _ ⟨_, rfl, by rw [ByteArray.size_append]; omega⟩ ⟨hG.1.more (by omega), hG.2⟩ (fun _ _ h => h)
      · intro n A W hn hG hL hP K hK
        have e0 : A.tmps.getD 5 undef = .string s := hL.same 5 (by decide)
        go_simp
        exact hK _ _ rfl ⟨hG.1.more (by omega), hG.2⟩ (fun _ _ h => h)
      · intro n A W hn hG hL hP K hK
        have e0 : A.tmps.getD 6 undef = .int .i64 (k : Int) := hL.same 6 (by decide)
        go_simp
        exact hK _ _ rfl ⟨hG.1.more (by omega), hG.2⟩ (fun _ _ h => h)
      · intro n A W hn hG hL hP K hK
        have e1 : A.tmps.getD 39 undef = .int .i64 (k : Int) := hP 10 (by kernel_rfl) _ _ rfl rfl
        have hw : IntKind.i64.wrap ((k : Int) + 1) = ((k + 1 : Nat) : Int) := by rw [IntKind.wrap_i64]; omega
        go_simp
        exact hK _ _ (by first | rfl | simp [VW]) ⟨hG.1.more (by omega), hG.2⟩ (fun _ _ h => h)
      · intro n A W hn hG hL hP K hK
        have e1 : A.tmps.getD 38 undef = .string s := hP 9 (by kernel_rfl) _ _ rfl rfl
        have e2 : A.tmps.getD 40 undef = .int .i64 ((k + 1 : Nat) : Int) := hP 11 (by kernel_rfl) _ _ rfl rfl
        obtain ⟨q, hq⟩ : ∃ q, k + 1 = q := ⟨_, rfl⟩
        rw [hq] at e2
        have q1 : (q : Int) ≤ (s.size : Int) := by omega
        have q0 : (0 : Int) ≤ (q : Int) := by omega
        go_simp
        exact hK _ _ (tb_extract hsz2) ⟨hG.1.more (by omega), hG.2⟩ (fun _ _ h => h)
      · intro n A W hn hG hL hP K hK
        obtain ⟨t1, e1, h1⟩ : TB 2300 (A.tmps.getD 37 undef) := hP 8 (by kernel_rfl) _ _ rfl rfl
        obtain ⟨t2, e2, h2⟩ : TB 1200 (A.tmps.getD 41 undef) := hP 12 (by kernel_rfl) _ _ rfl rfl
        have e1' : A.tmps[37]?.getD undef = .string t1 := by simpa using e1
        have e2' : A.tmps[41]?.getD undef = .string t2 := by simpa using e2
        have hle3 : ¬ 9223372036854775807 < t1.size + t2.size := by omega
        go_simp
        exact hK _ _ ⟨_, rfl, by rw [ByteArray.size_append]; omega⟩ ⟨hG.1.more (by omega), hG.2⟩ (fun _ _ h => h)
      · intro n A W hn hG hL hP K hK
        obtain ⟨t, e1, ht⟩ : TB 3500 (A.tmps.getD 42 undef) := hP 13 (by kernel_rfl) _ _ rfl rfl
        go_simp
        exact hK _ _ ⟨t, rfl, ht⟩ ⟨hG.1.more (by omega), hG.2⟩ (fun _ _ h => h)
    · intro n wx f hn hG hV
      have hn15 : n ≤ 15 := hn
      obtain ⟨t, e3, ht⟩ : TB 3500 (f 2) := hV 14 _ 2 rfl rfl
      have HB := Lib.hid (B7.out.trans (hG.2.below (B := g) (Nat.le_refl _) (by omega)))
      clear hG hV
      simp [mix.lit]
      rw [e3]
      go_wp2_with fail
      refine bodyPost_ret (v := .string t) (by simp [results, Tryd.results16, go_sem]) rfl ?_
      refine ⟨t.data.toList, by simp, by show t.data.toList.length ≤ _; have : t.data.size = t.size := rfl; simp; omega, ?_⟩
      rw [HGG.out]
      exact HB.out
end Go.Proofs.YtpcekmllmnfmmaaDoor.dat
