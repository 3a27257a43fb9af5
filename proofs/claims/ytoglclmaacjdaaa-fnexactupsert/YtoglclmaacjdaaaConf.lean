/-
  A CONFIG AS A VALUE AND IN A BOX; THE CONTRACTS OF szConfig, toConfig, eqConfig: what each call answers; nothing that was there is written.
  Condition: the Config's slices hold the given windows and masks.
-/
import Derived.Test.YtoglclmaacjdaaaWinRows
import Derived.Test.YtoglclmaacjdaaaBlk
import Derived.Deep.DeepCutAuto
import Derived.Deep.RegionHeld3
namespace Go.Proofs.Ytoglclmaacjdaaa.win
open Go.RowKit

/-- What a Config's numbers and slices are. -/
structure Cf where
  d : Int
  wa : Option Addr
  wl : Nat
  wc : Nat
  ma : Option Addr
  ml : Nat
  mc : Nat
  dl : Int
  lt : Int
def Cf.cells (c : Cf) : Array Value := #[.int .i64 c.d, .slice c.wa c.wl c.wc, .slice c.ma c.ml c.mc, .int .i64 c.dl, .int .i64 c.lt]
/-- The windows and masks that its slices hold. -/
def Cf.In (c : Cf) (w : World) (ws : List (Int × Int)) (ms : List Int) : Prop := WRow w c.wa c.wl ws ∧ Row w c.ma c.ml ms
theorem Cf.In.below {c : Cf} {w w' : World} {ws : List (Int × Int)} {ms : List Int} (h : c.In w ws ms) (hb : Below w.heap.size w w') : c.In w' ws ms := ⟨h.1.below hb, h.2.below hb⟩

set_option maxHeartbeats 400000 in
theorem szWinS (a : Option Addr) (len cap : Nat) (n : Int) (w : World) (h0 : 0 ≤ n) (h1 : n ≤ 1048576) (hm : len ≤ 9223372036854775807) :
    Calls Try.prog 73 #[.slice a len cap, .int .i64 n] w fun e w' => e = .returned (.int .i64 (if (len : Int) ≤ n then n - (len : Int) else -1)) ∧ w = w' := by
  by_cases h : (len : Int) ≤ n
  · rw [if_pos h]
    go_enter Try.func73, Try.ntmps73
    go_wp2_with fail
    go_ret
    exact ⟨rfl, rfl⟩
  · rw [if_neg h]
    go_enter Try.func73, Try.ntmps73
    go_wp2_with fail
    go_ret
    exact ⟨rfl, rfl⟩

set_option maxHeartbeats 400000 in
theorem szIntS (a : Option Addr) (len cap : Nat) (n : Int) (w : World) (h0 : 0 ≤ n) (h1 : n ≤ 1048576) (hm : len ≤ 9223372036854775807) :
    Calls Try.prog 74 #[.slice a len cap, .int .i64 n] w fun e w' => e = .returned (.int .i64 (if (len : Int) ≤ n then n - (len : Int) else -1)) ∧ w = w' := by
  by_cases h : (len : Int) ≤ n
  · rw [if_pos h]
    go_enter Try.func74, Try.ntmps74
    go_wp2_with fail
    go_ret
    exact ⟨rfl, rfl⟩
  · rw [if_neg h]
    go_enter Try.func74, Try.ntmps74
    go_wp2_with fail
    go_ret
    exact ⟨rfl, rfl⟩

/-- What is left of 2 to the 20 behind a Config: below 0 where it is too long. -/
def szB (c : Cf) (n : Int) : Int := if (c.wl : Int) ≤ n then (if (c.ml : Int) ≤ n - (c.wl : Int) then n - (c.wl : Int) - (c.ml : Int) else -1) else -1

set_option maxHeartbeats 400000 in
theorem szConfig (c : Cf) (n : Int) (w : World) (h0 : 0 ≤ n) (h1 : n ≤ 1048576) (hm : c.wl ≤ 9223372036854775807) (hm' : c.ml ≤ 9223372036854775807) :
    Calls Try.prog 28 #[.agg c.cells, .int .i64 n] w fun e w' => e = .returned (.int .i64 (szB c n)) ∧ Below w.heap.size w w' := by
  obtain ⟨d, wa, wl, wc, ma, ml, mc, dl, lt⟩ := c
  simp only [Cf.cells, szB] at *
  by_cases h : (wl : Int) ≤ n
  · rw [if_pos h]
    by_cases h' : (ml : Int) ≤ n - (wl : Int)
    · rw [if_pos h']
      go_enter Try.func28, Try.ntmps28
      go_wp2_with (first | (go_at_call 73; refine (szWinS _ _ _ _ _ h0 h1 hm).mono ?_; rw [if_pos h]; rintro e w' ⟨rfl, rfl⟩) | (go_at_call 74; refine (szIntS _ _ _ _ _ (by omega) (by omega) hm').mono ?_; rw [if_pos h']; rintro e w' ⟨rfl, rfl⟩))
      go_ret
      exact ⟨rfl, (Below.refl _ _).alloc (Nat.le_refl _) _⟩
    · rw [if_neg h']
      go_enter Try.func28, Try.ntmps28
      go_wp2_with (first | (go_at_call 73; refine (szWinS _ _ _ _ _ h0 h1 hm).mono ?_; rw [if_pos h]; rintro e w' ⟨rfl, rfl⟩) | (go_at_call 74; refine (szIntS _ _ _ _ _ (by omega) (by omega) hm').mono ?_; rw [if_neg (show ¬ (ml : Int) ≤ n - (wl : Int) by omega)]; rintro e w' ⟨rfl, rfl⟩))
      go_ret
      exact ⟨rfl, (Below.refl _ _).alloc (Nat.le_refl _) _⟩
  · rw [if_neg h]
    go_enter Try.func28, Try.ntmps28
    go_wp2_with (go_at_call 73; refine (szWinS _ _ _ _ _ h0 h1 hm).mono ?_; rw [if_neg h]; rintro e w' ⟨rfl, rfl⟩)
    go_ret
    exact ⟨rfl, (Below.refl _ _).alloc (Nat.le_refl _) _⟩

/-- What toConfig leaves: a Config of the same numbers whose slices are new rows, apart from each other. -/
def CopiedC (w : World) (c : Cf) (ws : List (Int × Int)) (ms : List Int) (e : Ending) (w' : World) : Prop :=
  ∃ g h : Nat, e = .returned (.agg (Cf.cells ⟨c.d, some ⟨g, 0, none⟩, c.wl, c.wl, some ⟨h, 0, none⟩, c.ml, c.ml, c.dl, c.lt⟩)) ∧ w.heap.size ≤ g ∧ g < h ∧ Below w.heap.size w w' ∧ w'.rowIs g 158 (c.wl * 2) (wcell ws) ∧ w'.rowIs h 3 c.ml (fun i => .int .i64 (ms.getD i 0))

set_option maxHeartbeats 1000000 in
theorem toConfig (c : Cf) (ws : List (Int × Int)) (ms : List Int) (w : World) (hm : c.wl ≤ 2000000) (hm' : c.ml ≤ 2000000) (hin : c.In w ws ms) :
    Calls Try.prog 31 #[.agg c.cells] w (CopiedC w c ws ms) := by
  obtain ⟨d, wa, wl, wc, ma, ml, mc, dl, lt⟩ := c
  simp only [Cf.cells] at *
  have HI := Lib.hid hin
  clear hin
  go_enter Try.func31, Try.ntmps31
  go_wp2_with fail
  refine calls_gen (fun W => Below w.heap.size w W ∧ w.heap.size + 3 ≤ W.heap.size ∧ Blk W w.heap.size 54 [.int .i64 d, .slice wa wl wc, .slice ma ml mc, .int .i64 dl, .int .i64 lt] ∧ Blk W (w.heap.size + 1) 63 [.int .i64 0, .slice none 0 0, .slice none 0 0, .int .i64 0, .int .i64 0] ∧ Blk W (w.heap.size + 1 + 1) 63 [.int .i64 d, .slice none 0 0, .slice none 0 0, .int .i64 0, .int .i64 0]) ?_ ?_
  · refine ⟨?_, ?_, ?_, ?_, ?_⟩
    · repeat (first | exact Below.refl _ _ | refine Below.setCell ?_ (by first | omega | (simp; done) | (simp; omega)) _ | refine Below.alloc ?_ (by first | omega | (simp; done) | (simp; omega)) _ | apply Below.drew)
    · simp
    · with_reducible (repeat (first | (refine blk_new_at _ _ _ _ ?_; first | rfl | (simp; done)) | refine Blk.alloc ?_ _ | apply Blk.drew | refine Blk.setOther ?_ (by first | (simp; done) | (simp; omega)) _))
    · with_reducible (repeat (first | (refine blk_new_at _ _ _ _ ?_; first | rfl | (simp; done)) | refine Blk.alloc ?_ _ | apply Blk.drew | refine Blk.setOther ?_ (by first | (simp; done) | (simp; omega)) _))
    · with_reducible (repeat (first | (refine blk_new_at _ _ _ _ ?_; first | rfl | (simp; done)) | refine Blk.alloc ?_ _ | apply Blk.drew | refine Blk.setOther ?_ (by first | (simp; done) | (simp; omega)) _))
  rintro W1 ⟨b1, z1, k0, k1, k2⟩
  refine (toWinS wa wl wc ws W1 hm (HI.out.1.below b1)).mono ?_
  rintro e W2 ⟨rfl, b2, r2⟩
  have B2 := Lib.hid (b1.trans (b2.mono b1.size))
  have j0 := Lib.hid (k0.below b2 k0.lt)
  have j1 := Lib.hid (k1.below b2 k1.lt)
  have K2 := Lib.hid (k2.below b2 k2.lt)
  have R2 := Lib.hid r2
  have Z1 := Lib.hid z1
  have Z2 := Lib.hid (b2.size)
  obtain ⟨g, hg⟩ : ∃ g, W1.heap.size = g := ⟨_, rfl⟩
  have G := Lib.hid (show w.heap.size + 3 ≤ g by omega)
  have L := Lib.hid (show g < W2.heap.size by rw [← hg]; exact r2.lt)
  rw [hg] at R2 ⊢
  have c2 := K2.out.cell 1
  have f2 := K2.out.frozen
  have c0 := j0.out.cell 2
  simp at c2 c0
  clear b1 b2 k0 k1 k2 z1 r2 hg Z1 Z2
  go_wp2_with fail
  refine calls_gen (fun W => Below w.heap.size w W ∧ g < W.heap.size ∧ W.rowIs g 158 (wl * 2) (wcell ws) ∧ Blk W w.heap.size 54 [.int .i64 d, .slice wa wl wc, .slice ma ml mc, .int .i64 dl, .int .i64 lt] ∧ Blk W (w.heap.size + 1) 63 [.int .i64 0, .slice none 0 0, .slice none 0 0, .int .i64 0, .int .i64 0] ∧ Blk W (w.heap.size + 1 + 1) 63 [.int .i64 d, .slice (some ⟨g, 0, none⟩) wl wl, .slice none 0 0, .int .i64 0, .int .i64 0]) ?_ ?_
  · refine ⟨B2.out.setCell (by simp; omega) _, by simpa using L.out, R2.out.setOther (by simp; have := G.out; omega) _, j0.out.setOther (by simp; omega) _, j1.out.setOther (by simp) _, K2.out.set 1 _⟩
  clear B2 j0 j1 K2 R2 L c2 f2 c0
  rintro W3 ⟨b3, z3, r3, k0, k1, k2⟩
  refine (toIntS ma ml mc ms W3 hm' (HI.out.2.below b3)).mono ?_
  rintro e W4 ⟨rfl, b4, r4⟩
  have B4 := Lib.hid (b3.trans (b4.mono b3.size))
  have j0 := Lib.hid (k0.below b4 k0.lt)
  have j1 := Lib.hid (k1.below b4 k1.lt)
  have K2 := Lib.hid (k2.below b4 k2.lt)
  have R3 := Lib.hid (r3.of_block (b4.block _ r3.lt))
  have R4 := Lib.hid r4
  obtain ⟨h, hh⟩ : ∃ h, W3.heap.size = h := ⟨_, rfl⟩
  have G2 := Lib.hid (show g < h by omega)
  rw [hh] at R4 ⊢
  have c20 := K2.out.cell 0
  have c21 := K2.out.cell 1
  have c22 := K2.out.cell 2
  have c23 := K2.out.cell 3
  have c24 := K2.out.cell 4
  have f2 := K2.out.frozen
  have c10 := j1.out.cell 0
  have c11 := j1.out.cell 1
  have c12 := j1.out.cell 2
  have c13 := j1.out.cell 3
  have c14 := j1.out.cell 4
  have f1 := j1.out.frozen
  have c03 := j0.out.cell 3
  have c04 := j0.out.cell 4
  simp at c20 c21 c22 c23 c24 c10 c11 c12 c13 c14 c03 c04
  clear b3 b4 k0 k1 k2 z3 r3 r4 hh
  go_wp2_with fail
  refine body_gen (fun W => Below w.heap.size w W ∧ W.rowIs g 158 (wl * 2) (wcell ws) ∧ W.rowIs h 3 ml (fun i => .int .i64 (ms.getD i 0)) ∧ Blk W (w.heap.size + 1) 63 [.int .i64 d, .slice (some ⟨g, 0, none⟩) wl wl, .slice (some ⟨h, 0, none⟩) ml ml, .int .i64 dl, .int .i64 lt]) ?_ ?_
  · have hG := G.out
    have hG2 := G2.out
    refine ⟨?_, ?_, ?_, ?_⟩
    · exact (((((((B4.out.setCell (by simp; omega) _).setCell (by simp; omega) _).setCell (by simp; omega) _).setCell (by simp) _).setCell (by simp) _).setCell (by simp) _).setCell (by simp) _).setCell (by simp) _
    · exact (((((((R3.out.setOther (by simp; omega) _).setOther (by simp; omega) _).setOther (by simp; omega) _).setOther (by simp; omega) _).setOther (by simp; omega) _).setOther (by simp; omega) _).setOther (by simp; omega) _).setOther (by simp; omega) _
    · exact (((((((R4.out.setOther (by simp; omega) _).setOther (by simp; omega) _).setOther (by simp; omega) _).setOther (by simp; omega) _).setOther (by simp; omega) _).setOther (by simp; omega) _).setOther (by simp; omega) _).setOther (by simp; omega) _
    · exact (((((((j1.out.setOther (by simp) _).setOther (by simp) _).setOther (by simp) _).set 0 _).set 1 _).set 2 _).set 3 _).set 4 _
  clear B4 j0 j1 K2 R3 R4 c20 c21 c22 c23 c24 c10 c11 c12 c13 c14 c03 c04 f1 f2
  rintro W ⟨bW, rW, sW, kW⟩
  have c10 := kW.cell 0
  have c11 := kW.cell 1
  have c12 := kW.cell 2
  have c13 := kW.cell 3
  have c14 := kW.cell 4
  simp at c10 c11 c12 c13 c14
  refine bodyPost_ret (v := .agg (Cf.cells ⟨d, some ⟨g, 0, none⟩, wl, wl, some ⟨h, 0, none⟩, ml, ml, dl, lt⟩)) (by simp [results, Try.results31, go_sem, c10, c11, c12, c13, c14, Cf.cells]) rfl ?_
  exact ⟨g, h, rfl, by have := G.out; omega, G2.out, bW, rW, sW⟩

set_option maxHeartbeats 1000000 in
theorem eqConfig_same (c c' : Cf) (ws : List (Int × Int)) (ms : List Int) (w : World) (hd : c.d = c'.d) (hdl : c.dl = c'.dl) (hlt : c.lt = c'.lt) (hwl : c.wl = c'.wl) (hml : c.ml = c'.ml) (hm : c.wl ≤ 2000000) (hm' : c.ml ≤ 2000000) (hin : c.In w ws ms) (hin' : c'.In w ws ms) :
    Calls Try.prog 34 #[.agg c.cells, .agg c'.cells] w fun e w' => e = .returned (.bool true) ∧ Below w.heap.size w w' := by
  obtain ⟨d, wa, wl, wc, ma, ml, mc, dl, lt⟩ := c
  obtain ⟨d', wa', wl', wc', ma', ml', mc', dl', lt'⟩ := c'
  simp only [Cf.cells, Cf.In] at *
  subst hd hdl hlt hwl hml
  have HI := Lib.hid hin
  have HJ := Lib.hid hin'
  clear hin hin'
  go_enter Try.func34, Try.ntmps34
  go_wp2_with fail
  refine calls_gen (fun W => Below w.heap.size w W ∧ Blk W w.heap.size 63 [.int .i64 d, .slice wa wl wc, .slice ma ml mc, .int .i64 dl, .int .i64 lt] ∧ Blk W (w.heap.size + 1) 63 [.int .i64 d, .slice wa' wl wc', .slice ma' ml mc', .int .i64 dl, .int .i64 lt]) ?_ ?_
  · refine ⟨?_, ?_, ?_⟩
    · repeat (first | exact Below.refl _ _ | refine Below.setCell ?_ (by first | omega | (simp; done) | (simp; omega)) _ | refine Below.alloc ?_ (by first | omega | (simp; done) | (simp; omega)) _ | apply Below.drew)
    · with_reducible (repeat (first | (refine blk_new_at _ _ _ _ ?_; first | rfl | (simp; done)) | refine Blk.alloc ?_ _ | apply Blk.drew | refine Blk.setOther ?_ (by first | (simp; done) | (simp; omega)) _))
    · with_reducible (repeat (first | (refine blk_new_at _ _ _ _ ?_; first | rfl | (simp; done)) | refine Blk.alloc ?_ _ | apply Blk.drew | refine Blk.setOther ?_ (by first | (simp; done) | (simp; omega)) _))
  rintro W1 ⟨b1, k0, k1⟩
  refine (eqWinS_same wa wa' wl wc wc' ws W1 hm (HI.out.1.below b1) (HJ.out.1.below b1)).mono ?_
  rintro e W2 ⟨rfl, b2⟩
  have B2 := Lib.hid (b1.trans (b2.mono b1.size))
  have j0 := Lib.hid (k0.below b2 k0.lt)
  have j1 := Lib.hid (k1.below b2 k1.lt)
  have c02 := j0.out.cell 2
  have c12 := j1.out.cell 2
  simp at c02 c12
  clear b1 b2 k0 k1
  go_wp2_with fail
  refine (eqIntS_same ma ma' ml mc mc' ms W2 hm' (HI.out.2.below B2.out) (HJ.out.2.below B2.out)).mono ?_
  rintro e W3 ⟨rfl, b3⟩
  have B3 := Lib.hid (B2.out.trans (b3.mono B2.out.size))
  have i0 := Lib.hid (j0.out.below b3 j0.out.lt)
  have i1 := Lib.hid (j1.out.below b3 j1.out.lt)
  have c03 := i0.out.cell 3
  have c13 := i1.out.cell 3
  have c04 := i0.out.cell 4
  have c14 := i1.out.cell 4
  simp at c03 c13 c04 c14
  clear b3 c02 c12
  go_wp2_with fail
  go_ret
  exact ⟨rfl, B3.out⟩
end Go.Proofs.Ytoglclmaacjdaaa.win
