/-
  THE DRAWS: the contract of config: it answers some Config, in memory of its own, and writes nothing but the cursor and new memory.
  Condition: the cursor is one, and has been asked fewer than 2^36 times.
-/
import Derived.Test.YtpcekmllmnfmmaaDoorOwnBase
import Derived.Test.YtpcekmllmnfmmaaDoorCurWin
import Derived.Test.YtpcekmllmnfmmaaDoorDataEvents
import Derived.Test.YtpcekmllmnfmmaaDoorGrow
import Derived.Test.YtpcekmllmnfmmaaDoorGrow2
import Derived.Test.YtpcekmllmnfmmaaDoorFree
import Derived.Test.YtpcekmllmnfmmaaDoorMixTail
namespace Go.Proofs.YtpcekmllmnfmmaaDoor.cur
open Go.RowKit Go.Proofs.YtpcekmllmnfmmaaDoor.win Go.Proofs.YtpcekmllmnfmmaaDoor.dat

theorem _root_.Go.Proofs.YtpcekmllmnfmmaaDoor.win.Blk.belowB {B : Nat} {w w' : World} {b : Nat} {t : TypeId} {vs : List Value} (h : Blk w b t vs) (hb : Below B w w') (hB : b < B) : Blk w' b t vs := (hb.block b hB).trans h

/-- A block of four small numbers. -/
def Four (base : Nat) (w : World) (b : Nat) : Prop := base ≤ b ∧ ∃ p q r s : Int, Blk w b 3 [.int .i64 p, .int .i64 q, .int .i64 r, .int .i64 s]
/-- A Config's block without rows. -/
def Bare (base : Nat) (w : World) (x : Nat) : Prop := base ≤ x ∧ ∃ d dl lt : Int, 0 ≤ d ∧ d ≤ 2 ∧ Blk w x 52 [.int .i64 d, .slice none 0 0, .slice none 0 0, .int .i64 dl, .int .i64 lt]
def VC (g base : Nat) (i : Nat) (w : World) (v : Value) : Prop := match i with
  | 0 => v = .pointer (some ⟨g, 0, none⟩)
  | 1 => ∃ r : Int, v = .int .i64 r ∧ 0 ≤ r ∧ r ≤ 2
  | 2 => ∃ b, v = .slice (some ⟨b, 0, none⟩) 4 4 ∧ Four base w b
  | 3 => v = .pointer (some ⟨g, 0, none⟩)
  | 4 => ∃ r : Nat, v = .int .i64 (r : Int) ∧ r < 4
  | 5 => ∃ b r : Nat, v = .pointer (some ⟨b, r, none⟩) ∧ r < 4 ∧ Four base w b
  | 6 => ∃ r : Int, v = .int .i64 r
  | 7 => ∃ b, v = .slice (some ⟨b, 0, none⟩) 4 4 ∧ Four base w b
  | 8 => v = .pointer (some ⟨g, 0, none⟩)
  | 9 => ∃ r : Nat, v = .int .i64 (r : Int) ∧ r < 4
  | 10 => ∃ b r : Nat, v = .pointer (some ⟨b, r, none⟩) ∧ r < 4 ∧ Four base w b
  | 11 => ∃ r : Int, v = .int .i64 r
  | 12 => ∃ d dl lt : Int, v = .agg #[.int .i64 d, .slice none 0 0, .slice none 0 0, .int .i64 dl, .int .i64 lt] ∧ 0 ≤ d ∧ d ≤ 2
  | 13 => ∃ x, v = .pointer (some ⟨x, 0, none⟩) ∧ Bare base w x
  | _ => True
theorem VC.keep2 {g base : Nat} {w w' : World} (h4 : ∀ b, Four base w b → Four base w' b) (h5 : ∀ b, Bare base w b → Bare base w' b) (j : Nat) (u : Value) (hv : VC g base j w u) : VC g base j w' u := by
  unfold VC at *
  split at hv <;> first | exact hv | (obtain ⟨b, e, hf⟩ := hv; exact ⟨b, e, h4 _ hf⟩) | (obtain ⟨b, r, e, hr, hf⟩ := hv; exact ⟨b, r, e, hr, h4 _ hf⟩) | (obtain ⟨b, e, hf⟩ := hv; exact ⟨b, e, h5 _ hf⟩)
/-- What keeps the blocks from base on keeps all that. -/
theorem VC.keep {g base : Nat} {w w' : World} (h : ∀ b t vs, base ≤ b → Blk w b t vs → Blk w' b t vs) (j : Nat) (u : Value) (hv : VC g base j w u) : VC g base j w' u :=
  VC.keep2 (fun _ ⟨h0, p, q, r, s, hb⟩ => ⟨h0, p, q, r, s, h _ _ _ h0 hb⟩) (fun _ ⟨h0, p, q, r, s1, s2, hb⟩ => ⟨h0, p, q, r, s1, s2, h _ _ _ h0 hb⟩) j u hv
theorem four_cell {base : Nat} {w : World} {b r : Nat} (h : Four base w b) (hr : r < 4) : ∃ z : Int, w.cell? ⟨b, r, none⟩ = some (.int .i64 z) := by
  obtain ⟨_, p, q, x, y, hb⟩ := h
  have : r = 0 ∨ r = 1 ∨ r = 2 ∨ r = 3 := by omega
  rcases this with rfl | rfl | rfl | rfl
  · exact ⟨p, hb.cell 0⟩
  · exact ⟨q, hb.cell 1⟩
  · exact ⟨x, hb.cell 2⟩
  · exact ⟨y, hb.cell 3⟩
theorem keep_only {g base : Nat} {w w' : World} (hg : g < base) (ho : Only g w w') : ∀ b t vs, base ≤ b → Blk w b t vs → Blk w' b t vs := fun b t vs hb h => by
  show w'.heap[b]? = _
  rw [ho.block b h.lt (by omega)]
  exact h

theorem eight_cell {w : World} {y j : Nat} (h : Blk w y 77 [.int .i64 10, .int .i64 10, .int .i64 60, .int .i64 60, .int .i64 20, .int .i64 10, .int .i64 60, .int .i64 20]) (hj : j < 4) : ∃ z l : Int, w.cell? ⟨y, j * 2, none⟩ = some (.int .i64 z) ∧ w.cell? ⟨y, j * 2 + 1, none⟩ = some (.int .i64 l) := by
  have : j = 0 ∨ j = 1 ∨ j = 2 ∨ j = 3 := by omega
  rcases this with rfl | rfl | rfl | rfl
  · exact ⟨_, _, h.cell 0, h.cell 1⟩
  · exact ⟨_, _, h.cell 2, h.cell 3⟩
  · exact ⟨_, _, h.cell 4, h.cell 5⟩
  · exact ⟨_, _, h.cell 6, h.cell 7⟩
/-- A Config in memory of its own, its rows apart. -/
def ConfAt (lo : Nat) (x : ConfD) (wv mv : Value) (W : World) : Prop := Grows 2 RWin 77 lo W wv x.ws ∧ Grows 1 RInt 3 lo W mv x.ms ∧ ∀ b, wv.ownBlock = some b → mv.ownBlock ≠ some b
/-- What the loop over Masks leaves. -/
def MasksAt (g : Nat) (a : Option Addr) (len cap m : Nat) (w : World) (lo x : Nat) (d dl lt : Int) (ws : List (Int × Int)) (ms : List Int) (W : World) : Prop :=
  ∃ wv mv, Blk W x 52 [.int .i64 d, wv, mv, .int .i64 dl, .int .i64 lt] ∧ ConfAt lo ⟨d, ws, ms, dl, lt⟩ wv mv W ∧ Blk W w.heap.size 52 [.int .i64 0, .slice none 0 0, .slice none 0 0, .int .i64 0, .int .i64 0] ∧ Curs g a len cap m W ∧ Only g w W ∧ lo ≤ W.heap.size
/-- The answer's box. -/
def five (R : Nat) (p q r s t : Value) (W : World) : World := ((((W.setCell ⟨R, 0, none⟩ p).setCell ⟨R, 1, none⟩ q).setCell ⟨R, 2, none⟩ r).setCell ⟨R, 3, none⟩ s).setCell ⟨R, 4, none⟩ t
theorem five_blk {R : Nat} {p q r s t p' q' r' s' t' : Value} {ty : TypeId} {W : World} (h : Blk W R ty [p', q', r', s', t']) : Blk (five R p q r s t W) R ty [p, q, r, s, t] := by
  unfold five; (apply Blk.of_eq; (repeat (first | (with_reducible exact h) | (with_reducible apply Blk.set) | ((with_reducible apply Blk.other); · first | (simp; done) | (simp; omega)) | (with_reducible apply Blk.drew))); rfl)
theorem five_other {R : Nat} {p q r s t : Value} {W : World} (b : Nat) (hb : b ≠ R) : (five R p q r s t W).heap[b]? = W.heap[b]? := by
  unfold five
  rw [Below.heap_setCell _ _ _ b hb, Below.heap_setCell _ _ _ b hb, Below.heap_setCell _ _ _ b hb, Below.heap_setCell _ _ _ b hb, Below.heap_setCell _ _ _ b hb]
theorem five_below {R : Nat} {p q r s t : Value} {W : World} : Below R W (five R p q r s t W) := by unfold five; repeat (first | exact Below.refl _ _ | refine Below.setCell ?_ (by first | omega | (simp; done) | (simp; omega)) _ | refine Below.alloc ?_ (by first | omega | (simp; done) | (simp; omega)) _ | apply Below.drew)
theorem ConfAt.lower {lo lo' : Nat} {x : ConfD} {wv mv : Value} {W : World} (h : ConfAt lo x wv mv W) (hl : lo' ≤ lo) : ConfAt lo' x wv mv W := ⟨h.1.lower hl, h.2.1.lower hl, h.2.2⟩
theorem ConfAt.stay {lo : Nat} {x : ConfD} {wv mv : Value} {W W' : World} (h : ConfAt lo x wv mv W) (hk : ∀ b, lo ≤ b → b < W.heap.size → W'.heap[b]? = W.heap[b]?) : ConfAt lo x wv mv W' := ⟨h.1.keep local_Win hk, h.2.1.keep local_int hk, h.2.2⟩
/-- What the loop over Wins leaves. -/
def WinsAt (g : Nat) (a : Option Addr) (len cap m : Nat) (w : World) (lo x y : Nat) (d dl lt : Int) (ws : List (Int × Int)) (W : World) : Prop :=
  ∃ wv, Blk W x 52 [.int .i64 d, wv, .slice none 0 0, .int .i64 dl, .int .i64 lt] ∧ Grows 2 RWin 77 lo W wv ws ∧ Blk W y 77 [.int .i64 10, .int .i64 10, .int .i64 60, .int .i64 60, .int .i64 20, .int .i64 10, .int .i64 60, .int .i64 20] ∧ Blk W w.heap.size 52 [.int .i64 0, .slice none 0 0, .slice none 0 0, .int .i64 0, .int .i64 0] ∧ Curs g a len cap m W ∧ Only g w W ∧ lo ≤ W.heap.size

set_option maxRecDepth 100000 in
set_option maxHeartbeats 16000000 in
theorem config_any (g : Nat) (a : Option Addr) (len cap m : Nat) (w : World) (hm : m ≤ 68719476736) (hc : Curs g a len cap m w) :
    Calls Tryd.prog 26 #[.pointer (some ⟨g, 0, none⟩)] w (fun e w' => ∃ (x : ConfD) (wv mv : Value), e = .returned (.agg #[.int .i64 x.d, wv, mv, .int .i64 x.dl, .int .i64 x.lt]) ∧ ConfAt w.heap.size x wv mv w' ∧ x.ws.length ≤ 2 ∧ x.ms.length ≤ 4 ∧ 1 ≤ x.ws.length ∧ Curs g a len cap (m + 40) w' ∧ Only g w w') := by
  have hg := hc.lt
  have H := Lib.hid hc
  clear hc
  go_enter Tryd.func26, Tryd.ntmps26
  go_wp2_with fail
  refine wp_gen (fun W => Below w.heap.size w W ∧ Blk W w.heap.size 52 [.int .i64 0, .slice none 0 0, .slice none 0 0, .int .i64 0, .int .i64 0]) ⟨by repeat (first | exact Below.refl _ _ | refine Below.setCell ?_ (by first | omega | (simp; done) | (simp; omega)) _ | refine Below.alloc ?_ (by first | omega | (simp; done) | (simp; omega)) _ | apply Below.drew), by with_reducible (repeat (first | (refine blk_new_at _ _ _ _ ?_; first | rfl | (simp; done)) | refine Blk.alloc ?_ _ | apply Blk.drew | refine Blk.setOther ?_ (by first | (simp; done) | (simp; omega)) _))⟩ ?_
  rintro W1 ⟨b1, k1⟩
  have B1 := Lib.hid b1
  have K1 := Lib.hid k1
  have C1 := Lib.hid (H.out.below b1)
  have Z1 := Lib.hid (show w.heap.size < W1.heap.size from k1.lt)
  clear b1 k1
  have hgb : g < W1.heap.size := C1.out.lt
  go_cut [3] (fun v wx => ∃ x, v = .pointer (some ⟨x, 0, none⟩) ∧ Bare W1.heap.size wx x ∧ Curs g a len cap (m + 15) wx ∧ Only g W1 wx)
  case first =>
    refine mix.wp_region_free (VC g W1.heap.size) (fun n wx => Curs g a len cap (m + n) wx ∧ Only g W1 wx) 76 [8, 9, 10, 11, 12, 13, 14, 15, 16, 17, 18, 19, 20, 3] rfl (by kernel_rfl) (by kernel_rfl) (by kernel_rfl) ⟨C1.out.below (Below.refl _ _).drew, (Only.refl g W1).drew⟩ ?_ ?_
    · refine ⟨?_, ?_, ?_, ?_, ?_, ?_, ?_, ?_, ?_, ?_, ?_, ?_, ?_, ?_, ?_, trivial⟩
      · intro n A W hn hG hL hP K hK
        have e0 : A.tmps.getD 0 undef = .pointer (some ⟨g, 0, none⟩) := hL.same 0 (by decide)
        go_simp
        exact hK _ _ rfl ⟨hG.1.more (by omega), hG.2⟩ (fun _ _ h => h)
      · intro n A W hn hG hL hP K hK
        have hn15 : n < 15 := hn
        have e0 : A.tmps.getD 8 undef = .pointer (some ⟨g, 0, none⟩) := hP 0 (by kernel_rfl) _ _ rfl rfl
        go_simp
        refine (pick_any g a len cap (m + n) 3 W (by omega) hG.1).mono ?_
        rintro e w' ⟨r, rfl, r0, r1, hc, ho⟩
        exact hK _ _ ⟨r, rfl, r0, by omega⟩ ⟨hc, hG.2.trans ho⟩ (VC.keep (keep_only hgb ho))
      · intro n A W hn hG hL hP K hK
        go_simp
        exact hK _ _ ⟨W.heap.size, rfl, hG.2.size, _, _, _, _, blk_new W _ _⟩ ⟨(hG.1.below ((Below.refl _ _).alloc (Nat.le_refl _) _)).more (by omega), hG.2.alloc _⟩ (VC.keep (fun b t vs _ h => h.alloc _))
      · intro n A W hn hG hL hP K hK
        have e0 : A.tmps.getD 0 undef = .pointer (some ⟨g, 0, none⟩) := hL.same 0 (by decide)
        go_simp
        exact hK _ _ rfl ⟨hG.1.more (by omega), hG.2⟩ (fun _ _ h => h)
      · intro n A W hn hG hL hP K hK
        have hn15 : n < 15 := hn
        have e0 : A.tmps.getD 11 undef = .pointer (some ⟨g, 0, none⟩) := hP 3 (by kernel_rfl) _ _ rfl rfl
        go_simp
        refine (pick_any g a len cap (m + n) 4 W (by omega) hG.1).mono ?_
        rintro e w' ⟨r, rfl, r0, r1, hc, ho⟩
        exact hK _ _ ⟨r.toNat, by rw [Int.toNat_of_nonneg r0], by omega⟩ ⟨hc, hG.2.trans ho⟩ (VC.keep (keep_only hgb ho))
      · intro n A W hn hG hL hP K hK
        obtain ⟨b, e1, hb⟩ : ∃ b, A.tmps.getD 10 undef = .slice (some ⟨b, 0, none⟩) 4 4 ∧ Four W1.heap.size W b := hP 2 (by kernel_rfl) _ _ rfl rfl
        obtain ⟨r, e2, hr⟩ : ∃ r : Nat, A.tmps.getD 12 undef = .int .i64 (r : Int) ∧ r < 4 := hP 4 (by kernel_rfl) _ _ rfl rfl
        have hr2 : (r : Int) < 4 := by omega
        have hr0 : (0 : Int) ≤ (r : Int) := by omega
        go_simp
        exact hK _ _ ⟨b, r, rfl, hr, hb⟩ ⟨hG.1.more (by omega), hG.2⟩ (fun _ _ h => h)
      · intro n A W hn hG hL hP K hK
        obtain ⟨b, r, e1, hr, hb⟩ : ∃ b r : Nat, A.tmps.getD 13 undef = .pointer (some ⟨b, r, none⟩) ∧ r < 4 ∧ Four W1.heap.size W b := hP 5 (by kernel_rfl) _ _ rfl rfl
        obtain ⟨z, hz⟩ := four_cell hb hr
        go_simp
        exact hK _ _ ⟨z, rfl⟩ ⟨hG.1.more (by omega), hG.2⟩ (fun _ _ h => h)
      · intro n A W hn hG hL hP K hK
        go_simp
        exact hK _ _ ⟨W.heap.size, rfl, hG.2.size, _, _, _, _, blk_new W _ _⟩ ⟨(hG.1.below ((Below.refl _ _).alloc (Nat.le_refl _) _)).more (by omega), hG.2.alloc _⟩ (VC.keep (fun b t vs _ h => h.alloc _))
      · intro n A W hn hG hL hP K hK
        have e0 : A.tmps.getD 0 undef = .pointer (some ⟨g, 0, none⟩) := hL.same 0 (by decide)
        go_simp
        exact hK _ _ rfl ⟨hG.1.more (by omega), hG.2⟩ (fun _ _ h => h)
      · intro n A W hn hG hL hP K hK
        have hn15 : n < 15 := hn
        have e0 : A.tmps.getD 16 undef = .pointer (some ⟨g, 0, none⟩) := hP 8 (by kernel_rfl) _ _ rfl rfl
        go_simp
        refine (pick_any g a len cap (m + n) 4 W (by omega) hG.1).mono ?_
        rintro e w' ⟨r, rfl, r0, r1, hc, ho⟩
        exact hK _ _ ⟨r.toNat, by rw [Int.toNat_of_nonneg r0], by omega⟩ ⟨hc, hG.2.trans ho⟩ (VC.keep (keep_only hgb ho))
      · intro n A W hn hG hL hP K hK
        obtain ⟨b, e1, hb⟩ : ∃ b, A.tmps.getD 15 undef = .slice (some ⟨b, 0, none⟩) 4 4 ∧ Four W1.heap.size W b := hP 7 (by kernel_rfl) _ _ rfl rfl
        obtain ⟨r, e2, hr⟩ : ∃ r : Nat, A.tmps.getD 17 undef = .int .i64 (r : Int) ∧ r < 4 := hP 9 (by kernel_rfl) _ _ rfl rfl
        have hr2 : (r : Int) < 4 := by omega
        have hr0 : (0 : Int) ≤ (r : Int) := by omega
        go_simp
        exact hK _ _ ⟨b, r, rfl, hr, hb⟩ ⟨hG.1.more (by omega), hG.2⟩ (fun _ _ h => h)
      · intro n A W hn hG hL hP K hK
        obtain ⟨b, r, e1, hr, hb⟩ : ∃ b r : Nat, A.tmps.getD 18 undef = .pointer (some ⟨b, r, none⟩) ∧ r < 4 ∧ Four W1.heap.size W b := hP 10 (by kernel_rfl) _ _ rfl rfl
        obtain ⟨z, hz⟩ := four_cell hb hr
        go_simp
        exact hK _ _ ⟨z, rfl⟩ ⟨hG.1.more (by omega), hG.2⟩ (fun _ _ h => h)
      · intro n A W hn hG hL hP K hK
        obtain ⟨d, e1, d0, d2⟩ : ∃ r : Int, A.tmps.getD 9 undef = .int .i64 r ∧ 0 ≤ r ∧ r ≤ 2 := hP 1 (by kernel_rfl) _ _ rfl rfl
        obtain ⟨p, e2⟩ : ∃ r : Int, A.tmps.getD 14 undef = .int .i64 r := hP 6 (by kernel_rfl) _ _ rfl rfl
        obtain ⟨q, e3⟩ : ∃ r : Int, A.tmps.getD 19 undef = .int .i64 r := hP 11 (by kernel_rfl) _ _ rfl rfl
        have e1' : A.tmps[9]?.getD undef = .int .i64 d := by simpa using e1
        have e2' : A.tmps[14]?.getD undef = .int .i64 p := by simpa using e2
        have e3' : A.tmps[19]?.getD undef = .int .i64 q := by simpa using e3
        go_simp
        exact hK _ _ ⟨d, p, q, rfl, d0, d2⟩ ⟨hG.1.more (by omega), hG.2⟩ (fun _ _ h => h)
      · intro n A W hn hG hL hP K hK
        go_simp
        exact hK _ _ ⟨W.heap.size, rfl, hG.2.size, 0, 0, 0, by omega, by omega, blk_new W _ _⟩ ⟨(hG.1.below ((Below.refl _ _).alloc (Nat.le_refl _) _)).more (by omega), hG.2.alloc _⟩ (VC.keep (fun b t vs _ h => h.alloc _))
      · intro n A W hn hG hL hP K hK
        obtain ⟨d, p, q, e1, d0, d2⟩ : ∃ d dl lt : Int, A.tmps.getD 20 undef = .agg #[.int .i64 d, .slice none 0 0, .slice none 0 0, .int .i64 dl, .int .i64 lt] ∧ 0 ≤ d ∧ d ≤ 2 := hP 12 (by kernel_rfl) _ _ rfl rfl
        obtain ⟨x, e2, hx⟩ : ∃ x, A.tmps.getD 3 undef = .pointer (some ⟨x, 0, none⟩) ∧ Bare W1.heap.size W x := hP 13 (by kernel_rfl) _ _ rfl rfl
        obtain ⟨hx0, d', p', q', _, _, hb⟩ := hx
        have hf := hb.frozen
        have c0 := hb.cell 0
        have c1 := hb.cell 1
        have c2 := hb.cell 2
        have c3 := hb.cell 3
        have c4 := hb.cell 4
        simp at c0 c1 c2 c3 c4
        go_simp
        have hW : Blk (((((W.setCell ⟨x, 0, none⟩ (.int .i64 d)).setCell ⟨x, 1, none⟩ (.slice none 0 0)).setCell ⟨x, 2, none⟩ (.slice none 0 0)).setCell ⟨x, 3, none⟩ (.int .i64 p)).setCell ⟨x, 4, none⟩ (.int .i64 q)) x 52 [.int .i64 d, .slice none 0 0, .slice none 0 0, .int .i64 p, .int .i64 q] := by (apply Blk.of_eq; (repeat (first | (with_reducible exact hb) | (with_reducible apply Blk.set) | ((with_reducible apply Blk.other); · first | (simp; done) | (simp; omega)) | (with_reducible apply Blk.drew))); rfl)
        have hO : ∀ b, b ≠ x → (((((W.setCell ⟨x, 0, none⟩ (.int .i64 d)).setCell ⟨x, 1, none⟩ (.slice none 0 0)).setCell ⟨x, 2, none⟩ (.slice none 0 0)).setCell ⟨x, 3, none⟩ (.int .i64 p)).setCell ⟨x, 4, none⟩ (.int .i64 q)).heap[b]? = W.heap[b]? := by
          intro b hb'
          rw [Below.heap_setCell _ _ _ b hb', Below.heap_setCell _ _ _ b hb', Below.heap_setCell _ _ _ b hb', Below.heap_setCell _ _ _ b hb', Below.heap_setCell _ _ _ b hb']
        have hBl : Below W1.heap.size W (((((W.setCell ⟨x, 0, none⟩ (.int .i64 d)).setCell ⟨x, 1, none⟩ (.slice none 0 0)).setCell ⟨x, 2, none⟩ (.slice none 0 0)).setCell ⟨x, 3, none⟩ (.int .i64 p)).setCell ⟨x, 4, none⟩ (.int .i64 q)) := by repeat (first | exact Below.refl _ _ | refine Below.setCell ?_ (by first | omega | (simp; done) | (simp; omega)) _ | refine Below.alloc ?_ (by first | omega | (simp; done) | (simp; omega)) _ | apply Below.drew)
        generalize ((((W.setCell ⟨x, 0, none⟩ (.int .i64 d)).setCell ⟨x, 1, none⟩ (.slice none 0 0)).setCell ⟨x, 2, none⟩ (.slice none 0 0)).setCell ⟨x, 3, none⟩ (.int .i64 p)).setCell ⟨x, 4, none⟩ (.int .i64 q) = W' at *
        refine hK undef W' trivial ⟨(hG.1.belowB hBl hgb).more (by omega), hG.2.then_below hBl (Nat.le_refl _)⟩ (VC.keep2 ?_ ?_)
        · rintro b ⟨h0, z1, z2, z3, z4, hz⟩
          refine ⟨h0, z1, z2, z3, z4, ?_⟩
          have : b ≠ x := by
            rintro rfl
            have := hz.symm.trans hb
            simp at this
          exact (hO b this).trans hz
        · rintro b ⟨h0, z1, z2, z3, y1, y2, hz⟩
          by_cases hbx : b = x
          · subst hbx
            exact ⟨h0, d, p, q, d0, d2, hW⟩
          · exact ⟨h0, z1, z2, z3, y1, y2, (hO b hbx).trans hz⟩
    · intro n wx f hn hG hV
      have hn15 : n ≤ 15 := hn
      obtain ⟨x, e3, hx⟩ : ∃ x, f 3 = .pointer (some ⟨x, 0, none⟩) ∧ Bare W1.heap.size wx x := hV 13 _ 3 rfl rfl
      simp [mix.lit]
      go_wp2_with fail
      go_meet
      exact ⟨x, e3, hx, hG.1.more (by omega), hG.2⟩
  case rest =>
  obtain ⟨x, rfl, ⟨hx0, d, dl, lt, hd0, hd2, hxb⟩, hc2, ho2⟩ := hcut
  generalize wc = W2 at *
  have K2 := Lib.hid (show Blk W2 w.heap.size 52 [.int .i64 0, .slice none 0 0, .slice none 0 0, .int .i64 0, .int .i64 0] by
    show W2.heap[w.heap.size]? = _
    rw [ho2.block w.heap.size Z1.out (by omega)]
    exact K1.out)
  have X2 := Lib.hid hxb
  have C2 := Lib.hid hc2
  have O2 := Lib.hid ((Only.of_below B1.out).trans ho2)
  have XG := Lib.hid (show x ≠ g ∧ x ≠ w.heap.size ∧ w.heap.size < x by have := Z1.out; omega)
  clear hxb hc2 ho2 B1 K1 C1 Z1 hgb hx0 H
  go_wp2_with fail
  refine calls_gen (fun W => Below W2.heap.size W2 W ∧ Blk W W2.heap.size 77 [.int .i64 10, .int .i64 10, .int .i64 60, .int .i64 60, .int .i64 20, .int .i64 10, .int .i64 60, .int .i64 20]) ⟨by repeat (first | exact Below.refl _ _ | refine Below.setCell ?_ (by first | omega | (simp; done) | (simp; omega)) _ | refine Below.alloc ?_ (by first | omega | (simp; done) | (simp; omega)) _ | apply Below.drew), by with_reducible (repeat (first | (refine blk_new_at _ _ _ _ ?_; first | rfl | (simp; done)) | refine Blk.alloc ?_ _ | apply Blk.drew | refine Blk.setOther ?_ (by first | (simp; done) | (simp; omega)) _))⟩ ?_
  rintro W3 ⟨b3, k3⟩
  have hx2 := X2.out.lt
  have hg2 := C2.out.lt
  refine (pick_any g a len cap (m + 15) 4 W3 (by omega) (C2.out.below b3)).mono ?_
  rintro e W4 ⟨r, rfl, r0, r1, hc4, ho4⟩
  have hk3 := k3.lt
  have Y4 := Lib.hid (show Blk W4 W2.heap.size 77 [.int .i64 10, .int .i64 10, .int .i64 60, .int .i64 60, .int .i64 20, .int .i64 10, .int .i64 60, .int .i64 20] from (ho4.block _ hk3 (by omega)).trans k3)
  have X4 := Lib.hid (show Blk W4 x 52 [.int .i64 d, .slice none 0 0, .slice none 0 0, .int .i64 dl, .int .i64 lt] from (ho4.block _ (Nat.lt_of_lt_of_le hx2 b3.size) XG.out.1).trans (X2.out.below b3 hx2))
  have K4 := Lib.hid (show Blk W4 w.heap.size 52 [.int .i64 0, .slice none 0 0, .slice none 0 0, .int .i64 0, .int .i64 0] from (ho4.block _ (Nat.lt_of_lt_of_le K2.out.lt b3.size) (by omega)).trans (K2.out.below b3 K2.out.lt))
  have C4 := Lib.hid hc4
  have O4 := Lib.hid ((O2.out.trans (Only.of_below b3)).trans ho4)
  have hy4 : W2.heap.size ≠ g ∧ W2.heap.size ≠ x := by omega
  clear b3 k3 hc4 ho4 X2 K2 C2 O2 hk3 hx2 hg2
  go_wp2_with fail
  refine (pick_any g a len cap (m + 15 + 1) 2 W4 (by omega) C4.out).mono ?_
  rintro e W5 ⟨q, rfl, q0, q1, hc5, ho5⟩
  have Y5 := Lib.hid (show Blk W5 W2.heap.size 77 [.int .i64 10, .int .i64 10, .int .i64 60, .int .i64 60, .int .i64 20, .int .i64 10, .int .i64 60, .int .i64 20] from (ho5.block _ Y4.out.lt hy4.1).trans Y4.out)
  have X5 := Lib.hid (show Blk W5 x 52 [.int .i64 d, .slice none 0 0, .slice none 0 0, .int .i64 dl, .int .i64 lt] from (ho5.block _ X4.out.lt XG.out.1).trans X4.out)
  have K5 := Lib.hid (show Blk W5 w.heap.size 52 [.int .i64 0, .slice none 0 0, .slice none 0 0, .int .i64 0, .int .i64 0] from (ho5.block _ K4.out.lt (by omega)).trans K4.out)
  have C5 := Lib.hid hc5
  have O5 := Lib.hid (O4.out.trans ho5)
  clear hc5 ho5 Y4 X4 K4 C4 O4
  obtain ⟨r', rfl⟩ : ∃ r' : Nat, r = (r' : Int) := ⟨r.toNat, by omega⟩
  obtain ⟨q', rfl⟩ : ∃ q' : Nat, q = (q' : Int) := ⟨q.toNat, by omega⟩
  have hr4 : r' < 4 := by omega
  have hq2 : q' < 2 := by omega
  generalize W2.heap.size = y at *
  clear r0 r1 q0 q1
  have hA5 : WinsAt g a len cap (m + 15 + 1 + 1) w W5.heap.size x y d dl lt [] W5 := ⟨_, X5.out, Grows.nil, Y5.out, K5.out, C5.out, O5.out, Nat.le_refl _⟩
  have HLO := Lib.hid (show x < W5.heap.size ∧ y < W5.heap.size ∧ w.heap.size < W5.heap.size from ⟨X5.out.lt, Y5.out.lt, K5.out.lt⟩)
  have HX := Lib.hid XG.out.2.2
  have HA5 := Lib.hid hA5
  clear hA5 X5 Y5 K5 C5 O5
  generalize W5.heap.size = lo at *
  go_wp2_with fail
  go_loopg [5, 6] (q' + 1) (fun k at' kk wr => ∃ (c j : Nat) (ws : List (Int × Int)), c = k ∧ at' = .int .i64 (j : Int) ∧ j < 4 ∧ kk = .int .i64 (c : Int) ∧ ws.length + c = q' + 1 ∧ WinsAt g a len cap (m + 15 + 1 + 1) w lo x y d dl lt ws wr)
  case atStart => exact ⟨q' + 1, r', [], rfl, rfl, hr4, by go_num, by simp, HA5.out⟩
  case round =>
    obtain ⟨c, j, ws, hcn, rfl, hj, rfl, hws, hA⟩ := hrel
    clear HA5
    have HA := Lib.hid hA
    have HCN := Lib.hid hcn
    clear hA hcn
    by_cases hk : c = 0
    case pos =>
      subst hk
      have hn0 : ¬ (0 : Int) < ((0 : Nat) : Int) := by omega
      obtain ⟨wv, hX, hG, -, hK, hC, hO, hlo⟩ := HA.out
      have hM : MasksAt g a len cap (m + 15 + 1 + 1) w lo x d dl lt ws [] wr := ⟨wv, .slice none 0 0, hX, ⟨hG, Grows.nil, fun b _ => by simp [Value.ownBlock]⟩, hK, hC, hO, hlo⟩
      have HM := Lib.hid hM
      have c0 := hX.cell 0
      simp at c0
      clear HA hX hG hK hC hO hlo hM
      have hws2 := Lib.hid (show ws.length = q' + 1 by omega)
      clear hws HCN hj
      have hd3 : d = 0 ∨ d = 1 ∨ d = 2 := by omega
      obtain ⟨pd, hpd⟩ : ∃ pd : Nat, pd = if d = 0 then 1 else if d = 1 then 2 else 4 := ⟨_, rfl⟩
      have hpd4 : pd ≤ 4 := by rw [hpd]; split <;> (try split) <;> omega
      have hshl : wrap64 (2 ^ d.toNat) = (pd : Int) := by rw [hpd]; rcases hd3 with rfl | rfl | rfl <;> first | rfl | kernel_rfl
      clear hpd c0 hd3
      go_wp2_with fail
      go_loopg [7] pd (fun k mm wr => ∃ (i : Nat) (ms : List Int), i + k = pd ∧ mm = .int .i64 (i : Int) ∧ ms.length ≤ 4 ∧ MasksAt g a len cap (m + 15 + 1 + 1 + i) w lo x d dl lt ws ms wr)
      case atStart => exact ⟨0, [], by omega, rfl, by simp, HM.out⟩
      case round =>
        obtain ⟨i, ms, hik, rfl, hms, hM⟩ := hrel
        clear HM
        have HM := Lib.hid hM
        obtain ⟨wv, mv, hX, hA, hK, hC, hO, hlo⟩ := hM
        have c0 := hX.cell 0
        have c2 := hX.cell 2
        simp at c0 c2
        obtain ⟨aw, cw, hwv⟩ := hA.1.slice
        obtain ⟨am, cm, hmv⟩ := hA.2.1.slice
        simp only at hmv hwv
        have HX6 := Lib.hid hX
        have HA6 := Lib.hid hA
        have HK6 := Lib.hid hK
        have HC6 := Lib.hid hC
        have HO6 := Lib.hid hO
        have HL6 := Lib.hid hlo
        have HMV := Lib.hid hmv
        have HWV := Lib.hid hwv
        rw [hmv] at c2
        clear hX hA hK hC hO hlo hmv hwv
        by_cases hlt : i < pd
        case neg =>
          obtain rfl : i = pd := by omega
          have hlt2 : ¬ (i : Int) < (i : Int) := by omega
          have k0 := HK6.out.cell 0
          have k1 := HK6.out.cell 1
          have k2 := HK6.out.cell 2
          have k3 := HK6.out.cell 3
          have k4 := HK6.out.cell 4
          have kf := HK6.out.frozen
          have e1 := HX6.out.cell 1
          have e3 := HX6.out.cell 3
          have e4 := HX6.out.cell 4
          have xf := HX6.out.frozen
          have hkl := HK6.out.lt
          have hxl := HX6.out.lt
          have hxn := XG.out.2.2
          have hxn2 : ¬ w.heap.size = x := by omega
          have hxn3 : ¬ x = w.heap.size := by omega
          simp at k0 k1 k2 k3 k4 e1 e3 e4
          rw [HWV.out] at e1
          have hlox := HLO.out
          by_cases hme : ms.length = 0
          · have hme' : ((ms.length : Int) == 0) = true := by rw [beq_iff_eq]; omega
            go_wp2_with fail
            have hl6 := HL6.out
            have hsz : (five w.heap.size (.int .i64 d) (.slice aw ws.length cw) (.slice (some ⟨wr.heap.size, 0, none⟩) 1 1) (.int .i64 dl) (.int .i64 lt) (wr.setCell ⟨x, 2, none⟩ (.slice (some ⟨wr.heap.size, 0, none⟩) 1 1))).heap.size = wr.heap.size := by simp [five, World.setCell]
            have hBB : Below w.heap.size wr ((five w.heap.size (.int .i64 d) (.slice aw ws.length cw) (.slice (some ⟨wr.heap.size, 0, none⟩) 1 1) (.int .i64 dl) (.int .i64 lt) (wr.setCell ⟨x, 2, none⟩ (.slice (some ⟨wr.heap.size, 0, none⟩) 1 1))).alloc (.cells #[.int .i64 0] 3)) := ((Below.setCell (p := ⟨x, 2, none⟩) (Below.refl w.heap.size wr) (by show w.heap.size ≤ x; omega) _).trans five_below).alloc (by omega) _
            have hneq : ∀ b, b ≠ x → b ≠ w.heap.size → b < wr.heap.size → (((five w.heap.size (.int .i64 d) (.slice aw ws.length cw) (.slice (some ⟨wr.heap.size, 0, none⟩) 1 1) (.int .i64 dl) (.int .i64 lt) (wr.setCell ⟨x, 2, none⟩ (.slice (some ⟨wr.heap.size, 0, none⟩) 1 1))).alloc (.cells #[.int .i64 0] 3))).heap[b]? = wr.heap[b]? := fun b hb hb1 hb2 => (Below.heap_alloc _ _ _ (by omega)).trans ((five_other b hb1).trans (Below.heap_setCell _ _ _ b hb))
            have hKb : Blk ((five w.heap.size (.int .i64 d) (.slice aw ws.length cw) (.slice (some ⟨wr.heap.size, 0, none⟩) 1 1) (.int .i64 dl) (.int .i64 lt) (wr.setCell ⟨x, 2, none⟩ (.slice (some ⟨wr.heap.size, 0, none⟩) 1 1))).alloc (.cells #[.int .i64 0] 3)) w.heap.size 52 [.int .i64 d, .slice aw ws.length cw, (.slice (some ⟨wr.heap.size, 0, none⟩) 1 1), .int .i64 dl, .int .i64 lt] := (five_blk (show Blk (wr.setCell ⟨x, 2, none⟩ (.slice (some ⟨wr.heap.size, 0, none⟩) 1 1)) w.heap.size 52 [.int .i64 0, .slice none 0 0, .slice none 0 0, .int .i64 0, .int .i64 0] from (Below.heap_setCell _ _ _ _ (by show w.heap.size ≠ x; omega)).trans HK6.out)).alloc _
            have hGw : Grows 2 RWin 77 lo ((five w.heap.size (.int .i64 d) (.slice aw ws.length cw) (.slice (some ⟨wr.heap.size, 0, none⟩) 1 1) (.int .i64 dl) (.int .i64 lt) (wr.setCell ⟨x, 2, none⟩ (.slice (some ⟨wr.heap.size, 0, none⟩) 1 1))).alloc (.cells #[.int .i64 0] 3)) (.slice aw ws.length cw) ws := by
              have h := HA6.out.1
              rw [HWV.out] at h
              exact h.keep local_Win (fun b hb hb2 => hneq b (by omega) (by omega) hb2)
            have hGm : Grows 1 RInt 3 lo ((five w.heap.size (.int .i64 d) (.slice aw ws.length cw) (.slice (some ⟨wr.heap.size, 0, none⟩) 1 1) (.int .i64 dl) (.int .i64 lt) (wr.setCell ⟨x, 2, none⟩ (.slice (some ⟨wr.heap.size, 0, none⟩) 1 1))).alloc (.cells #[.int .i64 0] 3)) (.slice (some ⟨wr.heap.size, 0, none⟩) 1 1) [0] := by
              have hb : Blk ((five w.heap.size (.int .i64 d) (.slice aw ws.length cw) (.slice (some ⟨wr.heap.size, 0, none⟩) 1 1) (.int .i64 dl) (.int .i64 lt) (wr.setCell ⟨x, 2, none⟩ (.slice (some ⟨wr.heap.size, 0, none⟩) 1 1))).alloc (.cells #[.int .i64 0] 3)) wr.heap.size 3 [.int .i64 0] := by
                have := blk_new (five w.heap.size (.int .i64 d) (.slice aw ws.length cw) (.slice (some ⟨wr.heap.size, 0, none⟩) 1 1) (.int .i64 dl) (.int .i64 lt) (wr.setCell ⟨x, 2, none⟩ (.slice (some ⟨wr.heap.size, 0, none⟩) 1 1))) 3 [.int .i64 0]
                rw [hsz] at this
                exact this
              exact Grows.built (R := RInt) wr.heap.size [0] [.int .i64 0] rfl (fun k z c hz hc => by
                have : k = 0 := by have := (List.getElem?_eq_some_iff.1 hz).1; simp at this; omega
                subst this
                simp at hz hc
                subst hz hc
                exact ⟨rfl, rfl⟩) hl6 hb (by simp [maxLen])
            have hAA : ConfAt lo ⟨d, ws, [0], dl, lt⟩ (.slice aw ws.length cw) (.slice (some ⟨wr.heap.size, 0, none⟩) 1 1) ((five w.heap.size (.int .i64 d) (.slice aw ws.length cw) (.slice (some ⟨wr.heap.size, 0, none⟩) 1 1) (.int .i64 dl) (.int .i64 lt) (wr.setCell ⟨x, 2, none⟩ (.slice (some ⟨wr.heap.size, 0, none⟩) 1 1))).alloc (.cells #[.int .i64 0] 3)) := ⟨hGw, hGm, fun b hb => by
              have := HA6.out.1.lt b (by rw [HWV.out]; exact hb)
              simp [Value.ownBlock]; omega⟩
            have hCC : Curs g a len cap (m + 40) ((five w.heap.size (.int .i64 d) (.slice aw ws.length cw) (.slice (some ⟨wr.heap.size, 0, none⟩) 1 1) (.int .i64 dl) (.int .i64 lt) (wr.setCell ⟨x, 2, none⟩ (.slice (some ⟨wr.heap.size, 0, none⟩) 1 1))).alloc (.cells #[.int .i64 0] 3)) := (HC6.out.belowB hBB hg).more (by omega)
            have hOO : Only g w ((five w.heap.size (.int .i64 d) (.slice aw ws.length cw) (.slice (some ⟨wr.heap.size, 0, none⟩) 1 1) (.int .i64 dl) (.int .i64 lt) (wr.setCell ⟨x, 2, none⟩ (.slice (some ⟨wr.heap.size, 0, none⟩) 1 1))).alloc (.cells #[.int .i64 0] 3)) := HO6.out.then_below hBB (Nat.le_refl _)
            have HALL := Lib.hid (And.intro hKb (And.intro hAA (And.intro hCC hOO)))
            clear hKb hAA hCC hOO hGw hGm hneq hBB hsz
            unfold five at HALL
            refine body_gen (fun W9 => Blk W9 w.heap.size 52 [.int .i64 d, .slice aw ws.length cw, (.slice (some ⟨wr.heap.size, 0, none⟩) 1 1), .int .i64 dl, .int .i64 lt] ∧ ConfAt lo ⟨d, ws, [0], dl, lt⟩ (.slice aw ws.length cw) (.slice (some ⟨wr.heap.size, 0, none⟩) 1 1) W9 ∧ Curs g a len cap (m + 40) W9 ∧ Only g w W9) HALL.out ?_
            rintro W9 ⟨q9, a9, c9, o9⟩
            have z0 := q9.cell 0
            have z1 := q9.cell 1
            have z2 := q9.cell 2
            have z3 := q9.cell 3
            have z4 := q9.cell 4
            simp at z0 z1 z2 z3 z4
            refine bodyPost_ret (v := .agg #[.int .i64 d, .slice aw ws.length cw, (.slice (some ⟨wr.heap.size, 0, none⟩) 1 1), .int .i64 dl, .int .i64 lt]) (by simp [results, Tryd.results26, go_sem, z0, z1, z2, z3, z4]) rfl ⟨⟨d, ws, [0], dl, lt⟩, _, _, rfl, a9.lower (by omega), by have := hws2.out; simp only; omega, by simp, by have := hws2.out; simp only; omega, c9, o9⟩
          · have hme' : ((ms.length : Int) == 0) = false := by rw [beq_eq_false_iff_ne]; omega
            go_wp2_with fail
            refine body_gen (fun W9 => Blk W9 w.heap.size 52 [.int .i64 d, .slice aw ws.length cw, .slice am ms.length cm, .int .i64 dl, .int .i64 lt] ∧ ConfAt lo ⟨d, ws, ms, dl, lt⟩ (.slice aw ws.length cw) (.slice am ms.length cm) W9 ∧ Curs g a len cap (m + 40) W9 ∧ Only g w W9) ?_ ?_
            · refine ⟨five_blk HK6.out, ?_, (HC6.out.belowB five_below hg).more (by omega), HO6.out.then_below five_below (Nat.le_refl _)⟩
              have h := HA6.out
              rw [HWV.out, HMV.out] at h
              exact h.stay (fun b hb _ => five_other b (by omega))
            rintro W9 ⟨q9, a9, c9, o9⟩
            have z0 := q9.cell 0
            have z1 := q9.cell 1
            have z2 := q9.cell 2
            have z3 := q9.cell 3
            have z4 := q9.cell 4
            simp at z0 z1 z2 z3 z4
            refine bodyPost_ret (v := .agg #[.int .i64 d, .slice aw ws.length cw, .slice am ms.length cm, .int .i64 dl, .int .i64 lt]) (by simp [results, Tryd.results26, go_sem, z0, z1, z2, z3, z4]) rfl ⟨⟨d, ws, ms, dl, lt⟩, _, _, rfl, a9.lower (by omega), by have := hws2.out; simp only; omega, by exact hms, by have := hws2.out; simp only; omega, c9, o9⟩
        have hlt2 : (i : Int) < (pd : Int) := by omega
        go_wp2_with fail
        refine (pick_any g a len cap (m + 15 + 1 + 1 + i) 2 wr (by omega) HC6.out).mono ?_
        rintro e W7 ⟨r, rfl, r0, r1, hc7, ho7⟩
        have hlox := HLO.out
        have X7 := Lib.hid (show Blk W7 x 52 [.int .i64 d, wv, mv, .int .i64 dl, .int .i64 lt] from (ho7.block x HX6.out.lt XG.out.1).trans HX6.out)
        have A7 := Lib.hid (show ConfAt lo ⟨d, ws, ms, dl, lt⟩ wv mv W7 from ⟨HA6.out.1.keep local_Win (fun b hb hb2 => ho7.block b hb2 (by omega)), HA6.out.2.1.keep local_int (fun b hb hb2 => ho7.block b hb2 (by omega)), HA6.out.2.2⟩)
        have K7 := Lib.hid (show Blk W7 w.heap.size 52 [.int .i64 0, .slice none 0 0, .slice none 0 0, .int .i64 0, .int .i64 0] from (ho7.block _ HK6.out.lt (by omega)).trans HK6.out)
        have C7 := Lib.hid hc7
        have O7 := Lib.hid (HO6.out.trans ho7)
        have L7 := Lib.hid (Nat.le_trans HL6.out ho7.size)
        have e2 := X7.out.cell 2
        have f7 := X7.out.frozen
        simp at e2
        rw [HMV.out] at e2
        clear c0 c2 hc7 ho7 HX6 HA6 HK6 HC6 HO6 HL6 HM
        cases hr : (r == 0) with
        | false =>
          go_wp2_with fail
          go_roundg (pd - (i + 1))
          case measure => omega
          case rel => exact ⟨i + 1, ms, by omega, by go_num, hms, wv, mv, X7.out, A7.out, K7.out, C7.out, O7.out, L7.out⟩
        | true =>
        by_cases hm4 : ms.length < 4
        case neg =>
          have hm4' : ¬ (ms.length : Int) < 4 := by omega
          go_wp2_with fail
          go_roundg (pd - (i + 1))
          case measure => omega
          case rel => exact ⟨i + 1, ms, by omega, by go_num, hms, wv, mv, X7.out, A7.out, K7.out, C7.out, O7.out, L7.out⟩
        have hm4' : (ms.length : Int) < 4 := by omega
        obtain ⟨i0, hi, hi2⟩ := Option.map_eq_some_iff.1 win.info_int
        simp only [Prod.mk.injEq] at hi2
        obtain ⟨hz0, hz1, hz2⟩ := hi2
        have HGM := Lib.hid (show Grows 1 RInt 3 lo W7 (.slice am ms.length cm) ms by have := A7.out.2.1; rw [HMV.out] at this; exact this)
        go_wp2_with (at_builtin; refine push2 (v := .slice am ms.length cm) local_int rfl _ _ 30 rfl i0 (.int .i64 0) 8 Tryd.underlying30 hi hz0 hz1 hz2 rfl (by decide) rfl HGM.out ((Below.refl _ _).alloc (Nat.le_refl _) _) W7.heap.size 1 rfl [.int .i64 (i : Int)] rfl (fun u hu => by simp at hu; subst hu; rfl) (fun j u hj => by have := cell_one_new W7 (.int .i64 (i : Int)) 3 j u hj; rwa [Go.WideShapes.add_plain, Nat.zero_add] at this) (i : Int) [] ⟨rfl, rfl⟩ Own.nil (by omega) (by unfold maxLen; omega) L7.out ?_; intro v' W8 hG8 hb8 hk8 hw8; obtain ⟨a8, cap8, hv8⟩ := hG8.slice; subst hv8; have hb9 : Below lo W7 W8 := ((Below.refl _ _).alloc L7.out _).trans hb8; have X8 := X7.out.belowB hb9 hlox.1; have e8 := X8.cell 2; have f8 := X8.frozen; simp at e8)
        have hne : ∀ b, b ≠ x → (W8.setCell ⟨x, 2, none⟩ (.slice a8 (ms ++ [(i : Int)]).length cap8)).heap[b]? = W8.heap[b]? := fun b hb => Below.heap_setCell _ _ _ b hb
        have hB9 : Below x W8 (W8.setCell ⟨x, 2, none⟩ (.slice a8 (ms ++ [(i : Int)]).length cap8)) := below_set _
        have hwold : ∀ b, wv.ownBlock = some b → lo ≤ b ∧ b < W7.heap.size := A7.out.1.lt
        have A9 : MasksAt g a len cap (m + 15 + 1 + 1 + (i + 1)) w lo x d dl lt ws (ms ++ [(i : Int)]) (W8.setCell ⟨x, 2, none⟩ (.slice a8 (ms ++ [(i : Int)]).length cap8)) := by
          refine ⟨wv, _, (X8.set 2 _).of_eq (by simp), ⟨A7.out.1.stay local_Win plain_win (fun b hb => ?_), hG8.keep local_int (fun b hb _ => hne b (by omega)), fun b hb => ?_⟩, (hne _ (by have := HX.out; omega)).trans (K7.out.belowB hb9 hlox.2.2), (C7.out.belowB hb9 (by omega)).belowB hB9 (by have := HX.out; omega), (O7.out.then_below hb9 (by omega)).then_below hB9 (by have := HX.out; omega), ?_⟩
          · have h1 := hwold b hb
            have h2 : (Value.slice am ms.length cm).ownBlock ≠ some b := by rw [← HMV.out]; exact A7.out.2.2 b hb
            rw [hne b (by omega), hk8 b (by simp; omega) h2]
            exact Below.heap_alloc _ _ _ h1.2
          · have h1 := hwold b hb
            rcases hw8 with e | e
            · rw [e, ← HMV.out]; exact A7.out.2.2 b hb
            · rw [e]; intro h; simp at h; omega
          · have := hb9.size; have := L7.out; simp [World.setCell]; omega
        have A9' := Lib.hid A9
        clear A9 hwold hne hB9 hk8 hw8 hb8 hG8 X8 e8 f8 hb9
        simp only [List.length_append, List.length_cons, List.length_nil, Nat.zero_add] at A9'
        generalize W8.setCell ⟨x, 2, none⟩ (.slice a8 (ms.length + 1) cap8) = W9 at *
        go_roundg (pd - (i + 1))
        case measure => omega
        case rel => exact ⟨i + 1, ms ++ [(i : Int)], by omega, by go_num, by simp; omega, A9'.out⟩
    obtain ⟨k, rfl⟩ : ∃ k, c = k + 1 := ⟨c - 1, by omega⟩
    have hk0 : (0 : Int) < ((k + 1 : Nat) : Int) := by omega
    have hk0' : (0 : Int) < (k : Int) + 1 := by omega
    obtain ⟨wv, hX, hG, hY, hK, hC, hO, hlo⟩ := HA.out
    have c1 := hX.cell 1
    have f1 := hX.frozen
    simp at c1
    obtain ⟨z, l, hz, hl⟩ := eight_cell hY hj
    have hj4 : (j : Int) < 4 := by omega
    have hj0 : (0 : Int) ≤ (j : Int) := by omega
    have HX6 := Lib.hid hX
    have HG6 := Lib.hid hG
    have HY6 := Lib.hid hY
    have HK6 := Lib.hid hK
    have HC6 := Lib.hid hC
    have HO6 := Lib.hid hO
    have HL6 := Lib.hid hlo
    clear hX hG hY hK hC hO hlo HA
    obtain ⟨i0, hi, hi2⟩ := Option.map_eq_some_iff.1 info_Win
    simp only [Prod.mk.injEq] at hi2
    obtain ⟨hz0, hz1, hz2⟩ := hi2
    go_wp2_with fail
    refine mix.wp_region_tail (fun w' => w'.cell? ⟨x, 1, none⟩ = some wv ∧ w'.cell? ⟨y, j * 2, none⟩ = some (.int .i64 z) ∧ w'.cell? ⟨y, j * 2 + 1, none⟩ = some (.int .i64 l)) [6,7] [0,1,2,3,4,5,6,7,8] (by kernel_rfl) (by kernel_rfl) (fun _ _ d _ _ h => by cases d <;> exact h) ⟨c1, hz, hl⟩ ?_
    simp only [List.filterMap_cons, List.filterMap_nil, List.getElem?_cons_zero, List.getElem?_cons_succ, Option.map_some]
    (repeat (apply mix.ordt_take; (· rfl); (· rfl); (· (intro w' hSw; (try dsimp only at hSw); go_simp; try with_reducible rfl)); (try simp only [Act.put, List.setIfInBounds_toArray, List.set_cons_zero, List.set_cons_succ])))
    refine mix.ordt_hard rfl (fun K hK => ?_); go_simp
    have hlx := HX6.out.lt
    have hly := HY6.out.lt
    refine hK.out _ _ (by refine ⟨?_, ?_, ?_⟩ <;> (rw [show ∀ p, (wr.alloc (Obj.cells #[Value.int IntKind.i64 z, Value.int IntKind.i64 l] 77)).drew.cell? p = (wr.alloc (Obj.cells #[Value.int IntKind.i64 z, Value.int IntKind.i64 l] 77)).cell? p from fun _ => rfl]) <;> first | exact ((Below.refl wr.heap.size wr).alloc (Nat.le_refl _) _).cell (p := ⟨x, 1, none⟩) hlx |>.trans c1 | exact ((Below.refl wr.heap.size wr).alloc (Nat.le_refl _) _).cell (p := ⟨y, j * 2, none⟩) hly |>.trans hz | exact ((Below.refl wr.heap.size wr).alloc (Nat.le_refl _) _).cell (p := ⟨y, j * 2 + 1, none⟩) hly |>.trans hl) (fun hSw => ?_); clear hK K hSw; (try simp only [Act.put, List.setIfInBounds_toArray, List.set_cons_zero, List.set_cons_succ])
    refine mix.ordt_hardb rfl rfl (fun K hK => ?_)
    refine push_wp (v := wv) local_Win _ _ 50 rfl i0 (.agg #[.int .i64 0, .int .i64 0]) 16 Tryd.underlying50 hi hz0 hz1 hz2 rfl (by decide) rfl HG6.out (((Below.refl _ _).alloc (Nat.le_refl _) _).drew) wr.heap.size 1 rfl [.int .i64 z, .int .i64 l] rfl (fun u hu => by simp at hu; rcases hu with rfl | rfl <;> rfl) (fun j u hj => ?_) (z, l) [] ⟨rfl, rfl⟩ Own.nil (by omega) (by unfold maxLen; omega) HL6.out ?_
    · have := (blk_new wr 77 [.int .i64 z, .int .i64 l]).cell j
      exact this.trans hj
    intro v' W7 hG7 hb7 hk7 hw7
    obtain ⟨a', cap', hv'⟩ := hG7.slice
    subst hv'
    generalize (ws ++ [(z, l)]).length = n' at hG7 ⊢
    have hBw : Below lo wr W7 := (((Below.refl _ _).alloc HL6.out _).drew).trans hb7
    have l1 := HLO.out
    have X7 := Lib.hid (HX6.out.belowB hBw l1.1)
    have A7 := Lib.hid (show WinsAt g a len cap (m + 15 + 1 + 1) w lo x y d dl lt (ws ++ [(z, l)]) (W7.setCell ⟨x, 1, none⟩ (.slice a' n' cap')) by
      have hB8 : Below x W7 (W7.setCell ⟨x, 1, none⟩ (.slice a' n' cap')) := below_set _
      have hne : ∀ b, b ≠ x → (W7.setCell ⟨x, 1, none⟩ (.slice a' n' cap')).heap[b]? = W7.heap[b]? := fun b hb => Below.heap_setCell _ _ _ b hb
      refine ⟨(.slice a' n' cap'), ?_, hG7.keep local_Win (fun b hb _ => hne b (by omega)), (hne y (by omega)).trans (HY6.out.belowB hBw l1.2.1), (hne _ (by have := HX.out; omega)).trans (HK6.out.belowB hBw l1.2.2), ?_, ?_, ?_⟩
      · have := X7.out.set 1 (.slice a' n' cap')
        exact this.of_eq (by simp)
      · exact (HC6.out.belowB hBw (by omega)).belowB hB8 (by have := HX.out; omega)
      · exact (HO6.out.then_below hBw (by omega)).then_below hB8 (by have := HX.out; omega)
      · have := hBw.size; have := HL6.out; simp [World.setCell]; omega)
    have c7 := X7.out.cell 1
    have f7 := X7.out.frozen
    have y0 := (HY6.out.belowB hBw l1.2.1)
    have e1 : W7.cell? ⟨y, j * 2, none⟩ = some (.int .i64 z) := (hBw.cell (p := ⟨y, j * 2, none⟩) l1.2.1).trans hz
    have e2 : W7.cell? ⟨y, j * 2 + 1, none⟩ = some (.int .i64 l) := (hBw.cell (p := ⟨y, j * 2 + 1, none⟩) l1.2.1).trans hl
    simp at c7
    clear hk7 hw7 hb7 hG7 c1 f1 hz hl y0 l1 hBw hlx hly hz0 hz1 hz2 hi
    refine hK.out _ _ (by exact ⟨c7, e1, e2⟩) (fun hSw => ?_); clear hK K hSw; (try simp only [Act.put, List.setIfInBounds_toArray, List.set_cons_zero, List.set_cons_succ])
    (repeat (apply mix.ordt_take; (· rfl); (· rfl); (· (intro w' hSw; (try dsimp only at hSw); go_simp; try with_reducible rfl)); (try simp only [Act.put, List.setIfInBounds_toArray, List.set_cons_zero, List.set_cons_succ])))
    refine mix.ordt_end ?_; refine mix.last_step (fun K hK => ?_); go_simp
    refine hK _ _ ?_
    clear hK K c7 f7 e1 e2 X7
    have W8e : ∃ W8, W7.setCell ⟨x, 1, none⟩ (.slice a' n' cap') = W8 := ⟨_, rfl⟩
    obtain ⟨W8, hW8⟩ := W8e
    rw [hW8] at A7 ⊢
    clear hW8
    go_wp2_with fail
    go_roundg k
    case measure => have := HCN.out; omega
    case rel => exact ⟨k, (j + 1) % 4, ws ++ [(z, l)], rfl, congrArg (Value.int .i64) (by omega), by omega, congrArg (Value.int .i64) (by omega), by simp; omega, A7.out⟩
end Go.Proofs.YtpcekmllmnfmmaaDoor.cur
