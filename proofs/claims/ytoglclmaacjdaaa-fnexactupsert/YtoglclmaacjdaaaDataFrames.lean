/-
  DATA: Frame, []Frame: the notions; THE CONTRACTS OF the laws' own functions (copies, sizes, equality) over them. Written by tools/gendata.py.
-/
import Derived.Test.YtoglclmaacjdaaaDataStates
namespace Go.Proofs.Ytoglclmaacjdaaa.dat
open Go.RowKit Go.Proofs.Ytoglclmaacjdaaa.win
set_option linter.unusedVariables false

structure FrameD where
  epoch : Int
  count : Int
  rows : List RowD
/-- The slices' own cells. -/
structure FrameH where
  rowsa : Option Addr
  rowsl : Nat
  rowsc : Nat
def Frame.list (x : FrameD) (h : FrameH) : List Value := [.int .i64 x.epoch, .int .i64 x.count, .slice h.rowsa h.rowsl h.rowsc]
def Frame.Is (w : World) (x : FrameD) (h : FrameH) (fp : List Nat) : Prop := ∃ f0 : List Nat, fp = f0 ∧ GRow 9 RRow w h.rowsa h.rowsl x.rows f0 ∧ h.rowsl ≤ h.rowsc ∧ h.rowsc ≤ 9223372036854775807
def RFrame : Rel FrameD := fun w cs x fp => ∃ h : FrameH, cs = Frame.list x h ∧ Frame.Is w x h fp
theorem Frame.Is.keep {w w' : World} {x : FrameD} {h : FrameH} {fp : List Nat} (hi : Frame.Is w x h fp) (hf : ∀ b ∈ fp, w'.heap[b]? = w.heap[b]?) : Frame.Is w' x h fp := by
  obtain ⟨f0, rfl, r0, u0, v0⟩ := hi
  exact ⟨_, rfl, r0.keep local_Row (fun b hb => hf b (by simp [hb])), u0, v0⟩
theorem Frame.Is.lt {w : World} {x : FrameD} {h : FrameH} {fp : List Nat} (hi : Frame.Is w x h fp) : ∀ b ∈ fp, b < w.heap.size := by
  obtain ⟨f0, rfl, r0, u0, v0⟩ := hi
  intro b hb
  exact r0.lt local_Row b hb
theorem Frame.Is.below {w w' : World} {x : FrameD} {h : FrameH} {fp : List Nat} (hi : Frame.Is w x h fp) (hb : Below w.heap.size w w') : Frame.Is w' x h fp := hi.keep fun b hb' => hb.block b (hi.lt b hb')
theorem local_Frame : Local RFrame := ⟨fun ⟨h, e, hi⟩ hf => ⟨h, e, hi.keep hf⟩, fun ⟨_, _, hi⟩ => hi.lt⟩
def Frame.sz (x : FrameD) : Nat := szL Row.sz x.rows

def CopiedFrame (w : World) (x : FrameD) (e : Ending) (w' : World) : Prop := ∃ (h : FrameH) (fp : List Nat), e = .returned (.agg (Frame.list x h).toArray) ∧ Frame.Is w' x h fp ∧ Own w.heap.size w' fp ∧ Below w.heap.size w w'
set_option maxRecDepth 100000 in
set_option maxHeartbeats 2000000 in
theorem to_Frame (x : FrameD) (h : FrameH) (fp : List Nat) (w : World) (hmax : Frame.sz x ≤ 2000000) (hin : Frame.Is w x h fp) : Calls Try.prog 32 #[.agg (Frame.list x h).toArray] w (CopiedFrame w x) := by
  obtain ⟨f0, rfl, r0, u0, v0⟩ := hin
  have R0 := Lib.hid r0
  have HM := Lib.hid hmax
  unfold Frame.sz at HM
  have U0 := Lib.hid (And.intro u0 v0)
  clear hmax r0 u0 v0
  simp only [Frame.list]
  go_enter Try.func32, Try.ntmps32
  go_wp2_with fail
  refine calls_gen (fun W => Below w.heap.size w W ∧ w.heap.size + 3 ≤ W.heap.size ∧ Blk W w.heap.size 57 [.int .i64 x.epoch, .int .i64 x.count, .slice h.rowsa h.rowsl h.rowsc] ∧ Blk W (w.heap.size + 1) 51 [.int .i64 0, .int .i64 0, .slice none 0 0] ∧ Blk W (w.heap.size + 1 + 1) 51 [.int .i64 x.epoch, .int .i64 x.count, .slice none 0 0] ∧ Own (w.heap.size + 3) W []) ?_ ?_
  · refine ⟨?_, ?_, ?_, ?_, ?_, ?_⟩
    · repeat (first | exact Below.refl _ _ | refine Below.setCell ?_ (by first | omega | (simp; done) | (simp; omega)) _ | refine Below.alloc ?_ (by first | omega | (simp; done) | (simp; omega)) _ | apply Below.drew)
    · simp
    · with_reducible (repeat (first | (refine blk_new_at _ _ _ _ ?_; first | rfl | (simp; done)) | refine Blk.alloc ?_ _ | apply Blk.drew | refine Blk.setOther ?_ (by first | (simp; done) | (simp; omega)) _))
    · with_reducible (repeat (first | (refine blk_new_at _ _ _ _ ?_; first | rfl | (simp; done)) | refine Blk.alloc ?_ _ | apply Blk.drew | refine Blk.setOther ?_ (by first | (simp; done) | (simp; omega)) _))
    · with_reducible (repeat (first | (refine blk_new_at _ _ _ _ ?_; first | rfl | (simp; done)) | refine Blk.alloc ?_ _ | apply Blk.drew | refine Blk.setOther ?_ (by first | (simp; done) | (simp; omega)) _))
    · exact Own.nil
  rintro W0 ⟨b, z, k0, k1, k2, ow⟩
  refine (to_RowS h.rowsa h.rowsl h.rowsc x.rows _ W0 (by have := HM.out; omega) (R0.out.below local_Row b)).mono ?_
  rintro e V0 ⟨g0, F0, rfl, row, own, bel⟩
  have BB := Lib.hid (b.trans (bel.mono b.size))
  have ZZ := Lib.hid (Nat.le_trans z bel.size)
  have K0 := Lib.hid (k0.below bel k0.lt)
  have K1 := Lib.hid (k1.below bel k1.lt)
  have K2 := Lib.hid (k2.below bel k2.lt)
  have Q0 := Lib.hid row
  have OW := Lib.hid (own.mono z)
  clear b z k0 k1 k2  ow bel row own
  have c0_0 := K0.out.cell 0
  have c1_0 := K1.out.cell 0
  have c2_0 := K2.out.cell 0
  have c0_1 := K0.out.cell 1
  have c1_1 := K1.out.cell 1
  have c2_1 := K2.out.cell 1
  have c0_2 := K0.out.cell 2
  have c1_2 := K1.out.cell 2
  have c2_2 := K2.out.cell 2
  have f1 := K1.out.frozen
  have f2 := K2.out.frozen
  simp at c0_0 c0_1 c0_2 c1_0 c1_1 c1_2 c2_0 c2_1 c2_2
  skip
  go_wp2_with fail
  refine body_gen (fun W => Below w.heap.size w W ∧ Blk W (w.heap.size + 1) 51 [.int .i64 x.epoch, .int .i64 x.count, .slice (some ⟨g0, 0, none⟩) h.rowsl h.rowsl] ∧ GRow 9 RRow W (some ⟨g0, 0, none⟩) h.rowsl x.rows F0 ∧ Own (w.heap.size + 3) W (F0)) ?_ ?_
  · refine ⟨?_, ?_, ?_, ?_⟩
    · have hz := ZZ.out
      repeat (first | (with_reducible exact BB.out) | refine Below.setCell ?_ (by simp; try omega) _)
    · (apply Blk.of_eq; (repeat (first | (with_reducible exact K1.out) | (with_reducible apply Blk.set) | ((with_reducible apply Blk.other); · first | (simp; done) | (simp; omega)) | (with_reducible apply Blk.drew))); rfl)
    · repeat (first | (with_reducible exact Q0.out) | refine GRow.set local_Row ?_ (fun b hb => by have := (OW.out.2 b (by simp [hb])).1; simp; omega) _ _)
    · with_reducible (repeat (first | exact OW.out | refine Own.set ?_ _ _ _))
  clear BB ZZ K0 K1 K2 Q0 OW c0_0 c0_1 c0_2 c1_0 c1_1 c1_2 c2_0 c2_1 c2_2 f1 f2
  rintro W ⟨b, k1, q0, ow⟩
  have c1_0 := k1.cell 0
  have c1_1 := k1.cell 1
  have c1_2 := k1.cell 2
  simp at c1_0 c1_1 c1_2
  refine bodyPost_ret (v := .agg (Frame.list x ⟨some ⟨g0, 0, none⟩, h.rowsl, h.rowsl⟩).toArray) (by simp [results, Try.results32, go_sem, c1_0, c1_1, c1_2, Frame.list]) rfl ?_
  exact ⟨_, F0, rfl, ⟨F0, rfl, q0, Nat.le_refl _, Nat.le_trans U0.out.1 U0.out.2⟩, ow.mono (by omega), b⟩

set_option maxRecDepth 100000 in
set_option maxHeartbeats 2000000 in
theorem sz_Frame (x : FrameD) (h : FrameH) (fp : List Nat) (n : Int) (w : World) (h0 : 0 ≤ n) (h1 : n ≤ 1048576) (hin : Frame.Is w x h fp) : Calls Try.prog 29 #[.agg (Frame.list x h).toArray, .int .i64 n] w (Left n (Frame.sz x) w) := by
  obtain ⟨f0, rfl, r0, u0, v0⟩ := hin
  have R0 := Lib.hid r0
  clear r0
  unfold Left
  obtain ⟨r, hr⟩ : ∃ r : Int, (if ((Frame.sz x : Nat) : Int) ≤ n then n - ((Frame.sz x : Nat) : Int) else -1) = r := ⟨_, rfl⟩
  rw [hr]
  unfold Frame.sz at hr
  have HE := Lib.hid hr
  clear hr
  simp only [Frame.list]
  go_enter Try.func29, Try.ntmps29
  go_wp2_with fail
  refine calls_gen (fun W => Below w.heap.size w W ∧ Blk W w.heap.size 57 [.int .i64 x.epoch, .int .i64 x.count, .slice h.rowsa h.rowsl h.rowsc]) ⟨by repeat (first | exact Below.refl _ _ | refine Below.setCell ?_ (by first | omega | (simp; done) | (simp; omega)) _ | refine Below.alloc ?_ (by first | omega | (simp; done) | (simp; omega)) _ | apply Below.drew), by with_reducible (repeat (first | (refine blk_new_at _ _ _ _ ?_; first | rfl | (simp; done)) | refine Blk.alloc ?_ _ | apply Blk.drew | refine Blk.setOther ?_ (by first | (simp; done) | (simp; omega)) _))⟩ ?_
  rintro W0 ⟨b, k⟩
  have BB := Lib.hid b
  have KK := Lib.hid k
  clear b k
  refine (sz_RowS h.rowsa h.rowsl h.rowsc x.rows _ _ W0 h0 h1 u0 v0 (R0.out.below local_Row BB.out)).mono ?_
  rintro e V0 ⟨rfl, b⟩
  have B0 := Lib.hid (BB.out.trans (b.mono BB.out.size))
  have K0 := Lib.hid (KK.out.below b KK.out.lt)
  clear b BB KK
  have BB := B0
  have KK := K0
  clear B0 K0
  have c0_0 := KK.out.cell 0
  have c0_1 := KK.out.cell 1
  have c0_2 := KK.out.cell 2
  simp at c0_0 c0_1 c0_2
  by_cases g0 : ((szL Row.sz x.rows : Nat) : Int) ≤ n
  case neg =>
    rw [if_neg g0]
    go_wp2_with fail
    go_ret
    exact ⟨ret_int (by rw [← HE.out, if_neg (by omega)]), BB.out⟩
  rw [if_pos g0]
  go_wp2_with fail
  go_ret
  exact ⟨ret_int (by rw [← HE.out, if_pos (by omega)]; try omega), BB.out⟩

set_option maxRecDepth 100000 in
set_option maxHeartbeats 2000000 in
theorem eq_Frame (x : FrameD) (h h' : FrameH) (fp fp' : List Nat) (w : World) (hmax : Frame.sz x ≤ 2000000) (hin : Frame.Is w x h fp) (hin' : Frame.Is w x h' fp') : Calls Try.prog 35 #[.agg (Frame.list x h).toArray, .agg (Frame.list x h').toArray] w fun e w' => e = .returned (.bool true) ∧ Below w.heap.size w w' := by
  obtain ⟨f0, rfl, r0, u0, v0⟩ := hin
  obtain ⟨f0', rfl, r0', u0', v0'⟩ := hin'
  have R0 := Lib.hid (And.intro r0 r0')
  have e0 : h.rowsl = h'.rowsl := r0.1.symm.trans r0'.1
  have HM := Lib.hid hmax
  unfold Frame.sz at HM
  clear hmax r0 u0 v0 r0' u0' v0'
  obtain ⟨m0, y0⟩ : ∃ m, h.rowsl = m := ⟨_, rfl⟩
  simp only [Frame.list]
  rw [y0] at e0 R0 ⊢
  rw [← e0] at R0 ⊢
  clear e0 y0
  go_enter Try.func35, Try.ntmps35
  go_wp2_with fail
  refine calls_gen (fun W => Below w.heap.size w W ∧ Blk W w.heap.size 51 [.int .i64 x.epoch, .int .i64 x.count, .slice h.rowsa m0 h.rowsc] ∧ Blk W (w.heap.size + 1) 51 [.int .i64 x.epoch, .int .i64 x.count, .slice h'.rowsa m0 h'.rowsc]) ⟨by repeat (first | exact Below.refl _ _ | refine Below.setCell ?_ (by first | omega | (simp; done) | (simp; omega)) _ | refine Below.alloc ?_ (by first | omega | (simp; done) | (simp; omega)) _ | apply Below.drew), by with_reducible (repeat (first | (refine blk_new_at _ _ _ _ ?_; first | rfl | (simp; done)) | refine Blk.alloc ?_ _ | apply Blk.drew | refine Blk.setOther ?_ (by first | (simp; done) | (simp; omega)) _)), by with_reducible (repeat (first | (refine blk_new_at _ _ _ _ ?_; first | rfl | (simp; done)) | refine Blk.alloc ?_ _ | apply Blk.drew | refine Blk.setOther ?_ (by first | (simp; done) | (simp; omega)) _))⟩ ?_
  rintro W0 ⟨b, k, q⟩
  have BB := Lib.hid b
  have KK := Lib.hid k
  have QQ := Lib.hid q
  clear b k q
  refine (eq_RowS h.rowsa h'.rowsa m0 h.rowsc h'.rowsc x.rows _ _ W0 (by have := HM.out; omega) (R0.out.1.below local_Row BB.out) (R0.out.2.below local_Row BB.out)).mono ?_
  rintro e V0 ⟨rfl, b⟩
  have B0 := Lib.hid (BB.out.trans (b.mono BB.out.size))
  have K0 := Lib.hid (KK.out.below b KK.out.lt)
  have Q0 := Lib.hid (QQ.out.below b QQ.out.lt)
  clear b BB KK QQ
  have BB := B0
  have KK := K0
  have QQ := Q0
  clear B0 K0 Q0
  have c0_0 := KK.out.cell 0
  have d0_0 := QQ.out.cell 0
  have c0_1 := KK.out.cell 1
  have d0_1 := QQ.out.cell 1
  have c0_2 := KK.out.cell 2
  have d0_2 := QQ.out.cell 2
  simp at c0_0 d0_0 c0_1 d0_1 c0_2 d0_2
  go_wp2_with fail
  go_ret
  exact ⟨rfl, BB.out⟩

theorem info_Frame : (Try.prog.info? 51).map (fun i => (i.zero, i.size, i.bytes)) = some (some (.agg #[.int .i64 0, .int .i64 0, .slice none 0 0]), 3, 40) := by kernel_rfl
set_option maxRecDepth 100000 in
set_option maxHeartbeats 1000000 in
theorem to_FrameS (a : Option Addr) (len cap : Nat) (l : List FrameD) (fp : List Nat) (w : World) (hmax : szL Frame.sz l ≤ 2000000) (hrow : GRow 3 RFrame w a len l fp) :
    Calls Try.prog 43 #[.slice a len cap] w (Copied 3 RFrame w len l) := by
  have hlen := hrow.1
  have hsz : l.length ≤ 2000000 := by unfold szL at hmax; omega
  have hmk := run_make_n (P := Try.prog) 44 51 (.agg #[.int .i64 0, .int .i64 0, .slice none 0 0]) 3 40 Try.underlying44 info_Frame .i64 .i64 len (by omega) (by omega)
  have HM := Lib.hid hmax
  have HC := Lib.hid hrow
  have HL := Lib.hid hlen
  have HS := Lib.hid (show len ≤ 2000000 by omega)
  clear hrow hlen hsz hmax
  go_enter Try.func43, Try.ntmps43
  go_wp2_with fail
  have HZ := HS.out
  go_loopg [4] len (fun k i wr => ∃ j : Nat, j + k = len ∧ i = .int .i64 j ∧ Laying 3 RFrame 51 [.int .i64 0, .int .i64 0, .slice none 0 0] l w j wr)
  case atStart => exact ⟨0, by omega, rfl, by have := Laying.start (k := 3) (R := RFrame) (t := 51) (w := w) (zc := [.int .i64 0, .int .i64 0, .slice none 0 0]) (by decide) len HL.out.symm; simpa using this⟩
  case round =>
    obtain ⟨j, hj, rfl, hC⟩ := hrel
    clear hmk
    have HB := Lib.hid hC
    by_cases hlt : j < len
    · have hlt2 : (j : Int) < (len : Int) := by omega
      have h02 : (0 : Int) ≤ (j : Int) := by omega
      obtain ⟨b, off, x, f, cs, rfl, hbl, hx, hcl, hR, hc⟩ := HC.out.at hlt
      obtain ⟨h, rfl, hi⟩ := hR
      have c0 : wr.cell? ⟨b, off + j * 3, none⟩ = some (.int .i64 x.epoch) := (hC.below.cell (p := ⟨b, off + j * 3 + 0, none⟩) hbl).trans (hc 0 (by omega))
      have c1 : wr.cell? ⟨b, off + j * 3 + 1, none⟩ = some (.int .i64 x.count) := (hC.below.cell (p := ⟨b, off + j * 3 + 1, none⟩) hbl).trans (hc 1 (by omega))
      have c2 : wr.cell? ⟨b, off + j * 3 + 2, none⟩ = some (.slice h.rowsa h.rowsl h.rowsc) := (hC.below.cell (p := ⟨b, off + j * 3 + 2, none⟩) hbl).trans (hc 2 (by omega))
      have HX := Lib.hid hx
      have HI := Lib.hid hi
      clear hc hx hi
      go_wp2_with fail
      refine (to_Frame x h f wr (by have := sz_elem_le Frame.sz l HX.out; have := HM.out; unfold szL at this; omega) (HI.out.below hC.below)).mono ?_
      rintro e w3 ⟨h', f', rfl, hi', hown, hb3⟩
      have d0 : w3.cell? ⟨w.heap.size, j * 3, none⟩ = some (.int .i64 0) := by have := (hb3.cell (p := ⟨w.heap.size, _, none⟩) hC.lt).trans (hC.cell rfl (by rw [HL.out]; omega) 0 (by omega)); simpa using this
      have g0 : w3.frozen? ⟨w.heap.size, j * 3, none⟩ = false := (hb3.frozen (p := ⟨w.heap.size, _, none⟩) hC.lt).trans (hC.frozen _)
      have d1 : w3.cell? ⟨w.heap.size, j * 3 + 1, none⟩ = some (.int .i64 0) := by have := (hb3.cell (p := ⟨w.heap.size, _, none⟩) hC.lt).trans (hC.cell rfl (by rw [HL.out]; omega) 1 (by omega)); simpa using this
      have g1 : w3.frozen? ⟨w.heap.size, j * 3 + 1, none⟩ = false := (hb3.frozen (p := ⟨w.heap.size, _, none⟩) hC.lt).trans (hC.frozen _)
      have d2 : w3.cell? ⟨w.heap.size, j * 3 + 2, none⟩ = some (.slice none 0 0) := by have := (hb3.cell (p := ⟨w.heap.size, _, none⟩) hC.lt).trans (hC.cell rfl (by rw [HL.out]; omega) 2 (by omega)); simpa using this
      have g2 : w3.frozen? ⟨w.heap.size, j * 3 + 2, none⟩ = false := (hb3.frozen (p := ⟨w.heap.size, _, none⟩) hC.lt).trans (hC.frozen _)
      have HI' := Lib.hid (And.intro hi' hown)
      have HB3 := Lib.hid hb3
      clear hC hb3 hi' hown c0 c1 c2
      simp only [Frame.list]
      go_wp2_with fail
      go_roundg (len - (j + 1))
      case measure => omega
      case rel =>
        refine ⟨j + 1, by omega, by go_num, HB.out.step local_Frame rfl (by rw [HL.out]; omega) HX.out (cs := [.int .i64 x.epoch, .int .i64 x.count, .slice h'.rowsa h'.rowsl h'.rowsc]) rfl ⟨h', rfl, HI'.out.1⟩ HI'.out.2 HB3.out ?_ ((((Below.refl _ _).setCell (by simp) _).setCell (by simp) _).setCell (by simp) _) ?_⟩
        · intro L hL hl
          exact (Blk.put (Blk.put (Blk.put (Blk.start hL (j * 3)) (j * 3) (by simp) (by simp; omega) _) (j * 3 + 1) (by simp) (by simp; omega) _) (j * 3 + 2) (by simp) (by simp; omega) _)
        · intro b hb
          rw [Below.heap_setCell _ _ _ b hb]; rw [Below.heap_setCell _ _ _ b hb]; rw [Below.heap_setCell _ _ _ b hb]
    · clear hC
      go_wp2_with fail
      go_ret
      exact HB.out.done (by rw [HL.out]; omega) _ HL.out.symm

set_option maxRecDepth 100000 in
set_option maxHeartbeats 1000000 in
theorem sz_FrameS (a : Option Addr) (len cap : Nat) (l : List FrameD) (fp : List Nat) (n : Int) (w : World) (h0 : 0 ≤ n) (h1 : n ≤ 1048576) (hcap : len ≤ cap) (hm : cap ≤ 9223372036854775807) (hrow : GRow 3 RFrame w a len l fp) :
    Calls Try.prog 42 #[.slice a len cap, .int .i64 n] w (Left n (szL Frame.sz l) w) := by
  have hl := hrow.1
  have HR := Lib.hid hrow
  have HL := Lib.hid hl
  clear hrow hl
  unfold Left szL
  by_cases h : (len : Int) ≤ n
  case neg =>
    rw [HL.out, if_neg (by omega)]
    go_enter Try.func42, Try.ntmps42
    go_wp2_with fail
    go_ret
    exact ⟨rfl, Below.refl _ _⟩
  rw [HL.out]
  obtain ⟨r, hr⟩ : ∃ r : Int, (if ((len + (l.map Frame.sz).sum : Nat) : Int) ≤ n then n - ((len + (l.map Frame.sz).sum : Nat) : Int) else -1) = r := ⟨_, rfl⟩
  rw [hr]
  have HE := Lib.hid hr
  clear hr
  go_enter Try.func42, Try.ntmps42
  go_wp2_with fail
  go_loopg [1, 5] len (fun k lft i wr => ∃ j : Nat, j + k = len ∧ i = .int .i64 j ∧ ∃ s : Int, lft = .int .i64 s ∧ 0 ≤ s ∧ s = n - ((len + ((l.take j).map Frame.sz).sum : Nat) : Int) ∧ Below w.heap.size w wr)
  case atStart => exact ⟨0, by omega, rfl, _, rfl, by omega, by simp, Below.refl _ _⟩
  case round =>
    obtain ⟨j, hj, rfl, s, rfl, hs0, hs, hb⟩ := hrel
    have HB := Lib.hid hb
    have HS := Lib.hid hs
    have hs1 : s ≤ 1048576 := by omega
    clear hs
    by_cases hlt : j < len
    · have hlt2 : (j : Int) < (len : Int) := by omega
      have h02 : (0 : Int) ≤ (j : Int) := by omega
      obtain ⟨b, off, x, f, cs, rfl, hbl, hx, hcl, hR, hc⟩ := HR.out.at hlt
      obtain ⟨h, rfl, hi⟩ := hR
      have c0 : wr.cell? ⟨b, off + j * 3, none⟩ = some (.int .i64 x.epoch) := (hb.cell (p := ⟨b, off + j * 3 + 0, none⟩) hbl).trans (hc 0 (by omega))
      have c1 : wr.cell? ⟨b, off + j * 3 + 1, none⟩ = some (.int .i64 x.count) := (hb.cell (p := ⟨b, off + j * 3 + 1, none⟩) hbl).trans (hc 1 (by omega))
      have c2 : wr.cell? ⟨b, off + j * 3 + 2, none⟩ = some (.slice h.rowsa h.rowsl h.rowsc) := (hb.cell (p := ⟨b, off + j * 3 + 2, none⟩) hbl).trans (hc 2 (by omega))
      have HT := Lib.hid (sum_take_succ Frame.sz l hx)
      have HU := Lib.hid (sum_take_le Frame.sz l (j + 1))
      have HX := Lib.hid hx
      have HI := Lib.hid (hi.below hb)
      clear hb hc hx hi
      go_wp2_with fail
      refine (sz_Frame x h f s wr hs0 hs1 HI.out).mono ?_
      rintro e w3 ⟨rfl, hb3⟩
      have HB3 := Lib.hid (HB.out.trans (hb3.mono HB.out.size))
      clear hb3 c0 c1 c2
      by_cases hle : (Frame.sz x : Int) ≤ s
      · rw [if_pos hle]
        go_wp2_with fail
        go_roundg (len - (j + 1))
        case measure => omega
        case rel => exact ⟨j + 1, by omega, by go_num, _, rfl, by omega, by rw [HT.out]; have := HS.out; omega, HB3.out⟩
      · rw [if_neg hle]
        go_wp2_with fail
        go_ret
        exact ⟨ret_int (by rw [← HE.out, if_neg (by have := HS.out; have := HT.out; have := HU.out; omega)]), HB3.out⟩
    · clear hb
      obtain rfl : j = len := by omega
      have hs := HS.out
      rw [List.take_of_length_le (by rw [HL.out]; omega)] at hs
      have HQ := Lib.hid hs
      clear hs HS
      go_wp2_with fail
      go_ret
      exact ⟨ret_int (by rw [← HE.out, if_pos (by have := HQ.out; omega), HQ.out]), HB.out⟩

set_option maxRecDepth 100000 in
set_option maxHeartbeats 1000000 in
theorem eq_FrameS (a a' : Option Addr) (len cap cap' : Nat) (l : List FrameD) (fp fp' : List Nat) (w : World) (hmax : szL Frame.sz l ≤ 2000000) (hrow : GRow 3 RFrame w a len l fp) (hrow' : GRow 3 RFrame w a' len l fp') :
    Calls Try.prog 44 #[.slice a len cap, .slice a' len cap'] w fun e w' => e = .returned (.bool true) ∧ Below w.heap.size w w' := by
  have hsz : l.length ≤ 2000000 := by unfold szL at hmax; omega
  have hlm : len ≤ 2000000 := by rw [← hrow.1]; exact hsz
  have HC := Lib.hid hrow
  have HC' := Lib.hid hrow'
  have HM := Lib.hid hmax
  clear hrow hrow' hmax hsz
  go_enter Try.func44, Try.ntmps44
  go_wp2_with fail
  go_loopg [5] len (fun k i wr => ∃ j : Nat, j + k = len ∧ i = .int .i64 j ∧ Below w.heap.size w wr)
  case atStart => exact ⟨0, by omega, rfl, Below.refl _ _⟩
  case round =>
    obtain ⟨j, hj, rfl, hb⟩ := hrel
    have HB := Lib.hid hb
    by_cases hlt : j < len
    · have hlt2 : (j : Int) < (len : Int) := by omega
      have h02 : (0 : Int) ≤ (j : Int) := by omega
      obtain ⟨b, off, x, f, cs, rfl, hbl, hx, hcl, hR, hc⟩ := HC.out.at hlt
      obtain ⟨b', off', x', f', cs', rfl, hbl', hx', hcl', hR', hc'⟩ := HC'.out.at hlt
      obtain rfl : x = x' := by rw [hx] at hx'; exact Option.some.inj hx'
      obtain ⟨h, rfl, hi⟩ := hR
      obtain ⟨h', rfl, hi'⟩ := hR'
      have c0 : wr.cell? ⟨b, off + j * 3, none⟩ = some (.int .i64 x.epoch) := by have := (hb.cell (p := ⟨b, off + j * 3 + 0, none⟩) hbl).trans (hc 0 (by omega)); simpa [Frame.list] using this
      have c1 : wr.cell? ⟨b, off + j * 3 + 1, none⟩ = some (.int .i64 x.count) := by have := (hb.cell (p := ⟨b, off + j * 3 + 1, none⟩) hbl).trans (hc 1 (by omega)); simpa [Frame.list] using this
      have c2 : wr.cell? ⟨b, off + j * 3 + 2, none⟩ = some (.slice h.rowsa h.rowsl h.rowsc) := by have := (hb.cell (p := ⟨b, off + j * 3 + 2, none⟩) hbl).trans (hc 2 (by omega)); simpa [Frame.list] using this
      have c0' : wr.cell? ⟨b', off' + j * 3, none⟩ = some (.int .i64 x.epoch) := by have := (hb.cell (p := ⟨b', off' + j * 3 + 0, none⟩) hbl').trans (hc' 0 (by omega)); simpa [Frame.list] using this
      have c1' : wr.cell? ⟨b', off' + j * 3 + 1, none⟩ = some (.int .i64 x.count) := by have := (hb.cell (p := ⟨b', off' + j * 3 + 1, none⟩) hbl').trans (hc' 1 (by omega)); simpa [Frame.list] using this
      have c2' : wr.cell? ⟨b', off' + j * 3 + 2, none⟩ = some (.slice h'.rowsa h'.rowsl h'.rowsc) := by have := (hb.cell (p := ⟨b', off' + j * 3 + 2, none⟩) hbl').trans (hc' 2 (by omega)); simpa [Frame.list] using this
      have HI := Lib.hid (And.intro (hi.below hb) (hi'.below hb))
      have HX := Lib.hid hx
      clear hb hc hc' hx hx' hi hi'
      go_wp2_with fail
      go_still_tail 8, (by kernel_rfl)
      change wpList _ _ _ _ _ wr.drew
      have HB2 := Lib.hid (HB.out.drew)
      have HI2 := Lib.hid (And.intro (HI.out.1.keep (w' := wr.drew) (fun _ _ => rfl)) (HI.out.2.keep (w' := wr.drew) (fun _ _ => rfl)))
      clear HI
      generalize wr.drew = wd at *
      go_wp2_with fail
      refine (eq_Frame x h h' _ _ _ (by have := sz_elem_le Frame.sz l HX.out; have := HM.out; unfold szL at this; omega) HI2.out.1 HI2.out.2).mono ?_
      rintro e w3 ⟨rfl, hb3⟩
      have HB3 := Lib.hid (HB2.out.trans (hb3.mono HB2.out.size))
      clear hb3
      go_wp2_with fail
      go_roundg (len - (j + 1))
      case measure => omega
      case rel => exact ⟨j + 1, by omega, by go_num, HB3.out⟩
    · clear hb
      go_wp2_with fail
      go_ret
      exact ⟨rfl, HB.out⟩

end Go.Proofs.Ytoglclmaacjdaaa.dat
