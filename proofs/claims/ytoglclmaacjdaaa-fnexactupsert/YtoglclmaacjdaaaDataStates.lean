/-
  DATA: Row, []Row, State: the notions; THE CONTRACTS OF the laws' own functions (copies, sizes, equality) over them. Written by tools/gendata.py.
-/
import Derived.Test.YtoglclmaacjdaaaDataPanes
namespace Go.Proofs.Ytoglclmaacjdaaa.dat
open Go.RowKit Go.Proofs.Ytoglclmaacjdaaa.win
set_option linter.unusedVariables false

structure RowD where
  win : Int
  mask : Int
  start : Int
  key : List Int
  a : AggD
  times : Int
/-- The slices' own cells. -/
structure RowH where
  keya : Option Addr
  keyl : Nat
  keyc : Nat
def Row.list (x : RowD) (h : RowH) : List Value := [.int .i64 x.win, .int .i64 x.mask, .int .i64 x.start, .slice h.keya h.keyl h.keyc, .int .i64 x.a.n, .int .i64 x.a.sm, .int .i64 x.a.mn, .int .i64 x.a.mx, .int .i64 x.times]
def Row.Is (w : World) (x : RowD) (h : RowH) (fp : List Nat) : Prop := ∃ f0 : List Nat, fp = f0 ∧ GRow 1 RInt w h.keya h.keyl x.key f0 ∧ h.keyl ≤ h.keyc ∧ h.keyc ≤ 9223372036854775807
def RRow : Rel RowD := fun w cs x fp => ∃ h : RowH, cs = Row.list x h ∧ Row.Is w x h fp
theorem Row.Is.keep {w w' : World} {x : RowD} {h : RowH} {fp : List Nat} (hi : Row.Is w x h fp) (hf : ∀ b ∈ fp, w'.heap[b]? = w.heap[b]?) : Row.Is w' x h fp := by
  obtain ⟨f0, rfl, r0, u0, v0⟩ := hi
  exact ⟨_, rfl, r0.keep local_int (fun b hb => hf b (by simp [hb])), u0, v0⟩
theorem Row.Is.lt {w : World} {x : RowD} {h : RowH} {fp : List Nat} (hi : Row.Is w x h fp) : ∀ b ∈ fp, b < w.heap.size := by
  obtain ⟨f0, rfl, r0, u0, v0⟩ := hi
  intro b hb
  exact r0.lt local_int b hb
theorem Row.Is.below {w w' : World} {x : RowD} {h : RowH} {fp : List Nat} (hi : Row.Is w x h fp) (hb : Below w.heap.size w w') : Row.Is w' x h fp := hi.keep fun b hb' => hb.block b (hi.lt b hb')
theorem local_Row : Local RRow := ⟨fun ⟨h, e, hi⟩ hf => ⟨h, e, hi.keep hf⟩, fun ⟨_, _, hi⟩ => hi.lt⟩
def Row.sz (x : RowD) : Nat := x.key.length

def CopiedRow (w : World) (x : RowD) (e : Ending) (w' : World) : Prop := ∃ (h : RowH) (fp : List Nat), e = .returned (.agg (Row.list x h).toArray) ∧ Row.Is w' x h fp ∧ Own w.heap.size w' fp ∧ Below w.heap.size w w'
set_option maxRecDepth 100000 in
set_option maxHeartbeats 2000000 in
theorem to_Row (x : RowD) (h : RowH) (fp : List Nat) (w : World) (hmax : Row.sz x ≤ 2000000) (hin : Row.Is w x h fp) : Calls Try.prog 89 #[.agg (Row.list x h).toArray] w (CopiedRow w x) := by
  obtain ⟨f0, rfl, r0, u0, v0⟩ := hin
  have R0 := Lib.hid r0
  have HM := Lib.hid hmax
  unfold Row.sz at HM
  have U0 := Lib.hid (And.intro u0 v0)
  clear hmax r0 u0 v0
  simp only [Row.list]
  go_enter Try.func89, Try.ntmps89
  go_wp2_with fail
  refine calls_gen (fun W => Below w.heap.size w W ∧ w.heap.size + 3 ≤ W.heap.size ∧ Blk W w.heap.size 137 [.int .i64 x.win, .int .i64 x.mask, .int .i64 x.start, .slice h.keya h.keyl h.keyc, .int .i64 x.a.n, .int .i64 x.a.sm, .int .i64 x.a.mn, .int .i64 x.a.mx, .int .i64 x.times] ∧ Blk W (w.heap.size + 1) 120 [.int .i64 0, .int .i64 0, .int .i64 0, .slice none 0 0, .int .i64 0, .int .i64 0, .int .i64 0, .int .i64 0, .int .i64 0] ∧ Blk W (w.heap.size + 1 + 1) 120 [.int .i64 x.win, .int .i64 x.mask, .int .i64 x.start, .slice none 0 0, .int .i64 0, .int .i64 0, .int .i64 0, .int .i64 0, .int .i64 0] ∧ Own (w.heap.size + 3) W []) ?_ ?_
  · refine ⟨?_, ?_, ?_, ?_, ?_, ?_⟩
    · repeat (first | exact Below.refl _ _ | refine Below.setCell ?_ (by first | omega | (simp; done) | (simp; omega)) _ | refine Below.alloc ?_ (by first | omega | (simp; done) | (simp; omega)) _ | apply Below.drew)
    · simp
    · with_reducible (repeat (first | (refine blk_new_at _ _ _ _ ?_; first | rfl | (simp; done)) | refine Blk.alloc ?_ _ | apply Blk.drew | refine Blk.setOther ?_ (by first | (simp; done) | (simp; omega)) _))
    · with_reducible (repeat (first | (refine blk_new_at _ _ _ _ ?_; first | rfl | (simp; done)) | refine Blk.alloc ?_ _ | apply Blk.drew | refine Blk.setOther ?_ (by first | (simp; done) | (simp; omega)) _))
    · with_reducible (repeat (first | (refine blk_new_at _ _ _ _ ?_; first | rfl | (simp; done)) | refine Blk.alloc ?_ _ | apply Blk.drew | refine Blk.setOther ?_ (by first | (simp; done) | (simp; omega)) _))
    · exact Own.nil
  rintro W0 ⟨b, z, k0, k1, k2, ow⟩
  refine (to_IntS h.keya h.keyl h.keyc x.key _ W0 (by have := HM.out; omega) (R0.out.below local_int b)).mono ?_
  rintro e V0 ⟨g0, F0, rfl, row, own, bel⟩
  have BB := Lib.hid (b.trans (bel.mono b.size))
  have ZZ := Lib.hid (Nat.le_trans z bel.size)
  have K0 := Lib.hid (k0.below bel k0.lt)
  have K1 := Lib.hid (k1.below bel k1.lt)
  have K2 := Lib.hid (k2.below bel k2.lt)
  have Q0 := Lib.hid row
  have OW := Lib.hid (own.mono z)
  clear b z k0 k1 k2  ow bel row own
  have c0_0 := K0.out.cell 0
  have c1_0 := K1.out.cell 0
  have c2_0 := K2.out.cell 0
  have c0_1 := K0.out.cell 1
  have c1_1 := K1.out.cell 1
  have c2_1 := K2.out.cell 1
  have c0_2 := K0.out.cell 2
  have c1_2 := K1.out.cell 2
  have c2_2 := K2.out.cell 2
  have c0_3 := K0.out.cell 3
  have c1_3 := K1.out.cell 3
  have c2_3 := K2.out.cell 3
  have c0_4 := K0.out.cell 4
  have c1_4 := K1.out.cell 4
  have c2_4 := K2.out.cell 4
  have c0_5 := K0.out.cell 5
  have c1_5 := K1.out.cell 5
  have c2_5 := K2.out.cell 5
  have c0_6 := K0.out.cell 6
  have c1_6 := K1.out.cell 6
  have c2_6 := K2.out.cell 6
  have c0_7 := K0.out.cell 7
  have c1_7 := K1.out.cell 7
  have c2_7 := K2.out.cell 7
  have c0_8 := K0.out.cell 8
  have c1_8 := K1.out.cell 8
  have c2_8 := K2.out.cell 8
  have f1 := K1.out.frozen
  have f2 := K2.out.frozen
  simp at c0_0 c0_1 c0_2 c0_3 c0_4 c0_5 c0_6 c0_7 c0_8 c1_0 c1_1 c1_2 c1_3 c1_4 c1_5 c1_6 c1_7 c1_8 c2_0 c2_1 c2_2 c2_3 c2_4 c2_5 c2_6 c2_7 c2_8
  skip
  go_wp2_with fail
  refine calls_gen (fun W => Below w.heap.size w W ∧ w.heap.size + 3 ≤ W.heap.size ∧ Blk W w.heap.size 137 [.int .i64 x.win, .int .i64 x.mask, .int .i64 x.start, .slice h.keya h.keyl h.keyc, .int .i64 x.a.n, .int .i64 x.a.sm, .int .i64 x.a.mn, .int .i64 x.a.mx, .int .i64 x.times] ∧ Blk W (w.heap.size + 1) 120 [.int .i64 0, .int .i64 0, .int .i64 0, .slice none 0 0, .int .i64 0, .int .i64 0, .int .i64 0, .int .i64 0, .int .i64 0] ∧ Blk W (w.heap.size + 1 + 1) 120 [.int .i64 x.win, .int .i64 x.mask, .int .i64 x.start, .slice (some ⟨g0, 0, none⟩) h.keyl h.keyl, .int .i64 0, .int .i64 0, .int .i64 0, .int .i64 0, .int .i64 0] ∧ GRow 1 RInt W (some ⟨g0, 0, none⟩) h.keyl x.key F0 ∧ Own (w.heap.size + 3) W (F0)) ?_ ?_
  · refine ⟨?_, ?_, ?_, ?_, ?_, ?_, ?_⟩
    · have hz := ZZ.out
      repeat (first | (with_reducible exact BB.out) | refine Below.setCell ?_ (by simp; try omega) _)
    · have hz := ZZ.out
      simpa using hz
    · (apply Blk.of_eq; (repeat (first | (with_reducible exact K0.out) | (with_reducible apply Blk.set) | ((with_reducible apply Blk.other); · first | (simp; done) | (simp; omega)) | (with_reducible apply Blk.drew))); rfl)
    · (apply Blk.of_eq; (repeat (first | (with_reducible exact K1.out) | (with_reducible apply Blk.set) | ((with_reducible apply Blk.other); · first | (simp; done) | (simp; omega)) | (with_reducible apply Blk.drew))); rfl)
    · (apply Blk.of_eq; (repeat (first | (with_reducible exact K2.out) | (with_reducible apply Blk.set) | ((with_reducible apply Blk.other); · first | (simp; done) | (simp; omega)) | (with_reducible apply Blk.drew))); rfl)
    · repeat (first | (with_reducible exact Q0.out) | refine GRow.set local_int ?_ (fun b hb => by have := (OW.out.2 b (by simp [hb])).1; simp; omega) _ _)
    · with_reducible (repeat (first | exact OW.out | refine Own.set ?_ _ _ _))
  clear BB ZZ K0 K1 K2 Q0 OW c0_0 c0_1 c0_2 c0_3 c0_4 c0_5 c0_6 c0_7 c0_8 c1_0 c1_1 c1_2 c1_3 c1_4 c1_5 c1_6 c1_7 c1_8 c2_0 c2_1 c2_2 c2_3 c2_4 c2_5 c2_6 c2_7 c2_8 f1 f2
  rintro W1 ⟨b, z, k0, k1, k2, q0, ow⟩
  refine (to_Agg x.a W1).mono ?_
  rintro e V1 ⟨rfl, bel⟩
  have BB := Lib.hid (b.trans (bel.mono b.size))
  have ZZ := Lib.hid (Nat.le_trans z bel.size)
  have K0 := Lib.hid (k0.below bel k0.lt)
  have K1 := Lib.hid (k1.below bel k1.lt)
  have K2 := Lib.hid (k2.below bel k2.lt)
  have Q0 := Lib.hid (q0.below local_int bel)
  have OW := Lib.hid (ow.below bel)
  clear b z k0 k1 k2 q0 ow bel
  have c0_0 := K0.out.cell 0
  have c1_0 := K1.out.cell 0
  have c2_0 := K2.out.cell 0
  have c0_1 := K0.out.cell 1
  have c1_1 := K1.out.cell 1
  have c2_1 := K2.out.cell 1
  have c0_2 := K0.out.cell 2
  have c1_2 := K1.out.cell 2
  have c2_2 := K2.out.cell 2
  have c0_3 := K0.out.cell 3
  have c1_3 := K1.out.cell 3
  have c2_3 := K2.out.cell 3
  have c0_4 := K0.out.cell 4
  have c1_4 := K1.out.cell 4
  have c2_4 := K2.out.cell 4
  have c0_5 := K0.out.cell 5
  have c1_5 := K1.out.cell 5
  have c2_5 := K2.out.cell 5
  have c0_6 := K0.out.cell 6
  have c1_6 := K1.out.cell 6
  have c2_6 := K2.out.cell 6
  have c0_7 := K0.out.cell 7
  have c1_7 := K1.out.cell 7
  have c2_7 := K2.out.cell 7
  have c0_8 := K0.out.cell 8
  have c1_8 := K1.out.cell 8
  have c2_8 := K2.out.cell 8
  have f1 := K1.out.frozen
  have f2 := K2.out.frozen
  simp at c0_0 c0_1 c0_2 c0_3 c0_4 c0_5 c0_6 c0_7 c0_8 c1_0 c1_1 c1_2 c1_3 c1_4 c1_5 c1_6 c1_7 c1_8 c2_0 c2_1 c2_2 c2_3 c2_4 c2_5 c2_6 c2_7 c2_8
  simp only [Agg.list]
  go_wp2_with fail
  refine body_gen (fun W => Below w.heap.size w W ∧ Blk W (w.heap.size + 1) 120 [.int .i64 x.win, .int .i64 x.mask, .int .i64 x.start, .slice (some ⟨g0, 0, none⟩) h.keyl h.keyl, .int .i64 x.a.n, .int .i64 x.a.sm, .int .i64 x.a.mn, .int .i64 x.a.mx, .int .i64 x.times] ∧ GRow 1 RInt W (some ⟨g0, 0, none⟩) h.keyl x.key F0 ∧ Own (w.heap.size + 3) W (F0)) ?_ ?_
  · refine ⟨?_, ?_, ?_, ?_⟩
    · have hz := ZZ.out
      repeat (first | (with_reducible exact BB.out) | refine Below.setCell ?_ (by simp; try omega) _)
    · (apply Blk.of_eq; (repeat (first | (with_reducible exact K1.out) | (with_reducible apply Blk.set) | ((with_reducible apply Blk.other); · first | (simp; done) | (simp; omega)) | (with_reducible apply Blk.drew))); rfl)
    · repeat (first | (with_reducible exact Q0.out) | refine GRow.set local_int ?_ (fun b hb => by have := (OW.out.2 b (by simp [hb])).1; simp; omega) _ _)
    · with_reducible (repeat (first | exact OW.out | refine Own.set ?_ _ _ _))
  clear BB ZZ K0 K1 K2 Q0 OW c0_0 c0_1 c0_2 c0_3 c0_4 c0_5 c0_6 c0_7 c0_8 c1_0 c1_1 c1_2 c1_3 c1_4 c1_5 c1_6 c1_7 c1_8 c2_0 c2_1 c2_2 c2_3 c2_4 c2_5 c2_6 c2_7 c2_8 f1 f2
  rintro W ⟨b, k1, q0, ow⟩
  have c1_0 := k1.cell 0
  have c1_1 := k1.cell 1
  have c1_2 := k1.cell 2
  have c1_3 := k1.cell 3
  have c1_4 := k1.cell 4
  have c1_5 := k1.cell 5
  have c1_6 := k1.cell 6
  have c1_7 := k1.cell 7
  have c1_8 := k1.cell 8
  simp at c1_0 c1_1 c1_2 c1_3 c1_4 c1_5 c1_6 c1_7 c1_8
  refine bodyPost_ret (v := .agg (Row.list x ⟨some ⟨g0, 0, none⟩, h.keyl, h.keyl⟩).toArray) (by simp [results, Try.results89, go_sem, c1_0, c1_1, c1_2, c1_3, c1_4, c1_5, c1_6, c1_7, c1_8, Row.list]) rfl ?_
  exact ⟨_, F0, rfl, ⟨F0, rfl, q0, Nat.le_refl _, Nat.le_trans U0.out.1 U0.out.2⟩, ow.mono (by omega), b⟩

set_option maxRecDepth 100000 in
set_option maxHeartbeats 2000000 in
theorem sz_Row (x : RowD) (h : RowH) (fp : List Nat) (n : Int) (w : World) (h0 : 0 ≤ n) (h1 : n ≤ 1048576) (hin : Row.Is w x h fp) : Calls Try.prog 83 #[.agg (Row.list x h).toArray, .int .i64 n] w (Left n (Row.sz x) w) := by
  obtain ⟨f0, rfl, r0, u0, v0⟩ := hin
  have R0 := Lib.hid r0
  clear r0
  unfold Left
  obtain ⟨r, hr⟩ : ∃ r : Int, (if ((Row.sz x : Nat) : Int) ≤ n then n - ((Row.sz x : Nat) : Int) else -1) = r := ⟨_, rfl⟩
  rw [hr]
  unfold Row.sz at hr
  have HE := Lib.hid hr
  clear hr
  simp only [Row.list]
  go_enter Try.func83, Try.ntmps83
  go_wp2_with fail
  refine calls_gen (fun W => Below w.heap.size w W ∧ Blk W w.heap.size 137 [.int .i64 x.win, .int .i64 x.mask, .int .i64 x.start, .slice h.keya h.keyl h.keyc, .int .i64 x.a.n, .int .i64 x.a.sm, .int .i64 x.a.mn, .int .i64 x.a.mx, .int .i64 x.times]) ⟨by repeat (first | exact Below.refl _ _ | refine Below.setCell ?_ (by first | omega | (simp; done) | (simp; omega)) _ | refine Below.alloc ?_ (by first | omega | (simp; done) | (simp; omega)) _ | apply Below.drew), by with_reducible (repeat (first | (refine blk_new_at _ _ _ _ ?_; first | rfl | (simp; done)) | refine Blk.alloc ?_ _ | apply Blk.drew | refine Blk.setOther ?_ (by first | (simp; done) | (simp; omega)) _))⟩ ?_
  rintro W0 ⟨b, k⟩
  have BB := Lib.hid b
  have KK := Lib.hid k
  clear b k
  refine (sz_IntS h.keya h.keyl h.keyc x.key _ _ W0 h0 h1 u0 v0 (R0.out.below local_int BB.out)).mono ?_
  rintro e V0 ⟨rfl, b⟩
  have B0 := Lib.hid (BB.out.trans (b.mono BB.out.size))
  have K0 := Lib.hid (KK.out.below b KK.out.lt)
  clear b BB KK
  have BB := B0
  have KK := K0
  clear B0 K0
  have c0_0 := KK.out.cell 0
  have c0_1 := KK.out.cell 1
  have c0_2 := KK.out.cell 2
  have c0_3 := KK.out.cell 3
  have c0_4 := KK.out.cell 4
  have c0_5 := KK.out.cell 5
  have c0_6 := KK.out.cell 6
  have c0_7 := KK.out.cell 7
  have c0_8 := KK.out.cell 8
  simp at c0_0 c0_1 c0_2 c0_3 c0_4 c0_5 c0_6 c0_7 c0_8
  by_cases g0 : ((x.key.length : Nat) : Int) ≤ n
  case neg =>
    rw [if_neg g0]
    go_wp2_with fail
    go_ret
    exact ⟨ret_int (by rw [← HE.out, if_neg (by omega)]), BB.out⟩
  rw [if_pos g0]
  go_wp2_with fail
  go_ret
  exact ⟨ret_int (by rw [← HE.out, if_pos (by omega)]; try omega), BB.out⟩

set_option maxRecDepth 100000 in
set_option maxHeartbeats 2000000 in
theorem eq_Row (x : RowD) (h h' : RowH) (fp fp' : List Nat) (w : World) (hmax : Row.sz x ≤ 2000000) (hin : Row.Is w x h fp) (hin' : Row.Is w x h' fp') : Calls Try.prog 90 #[.agg (Row.list x h).toArray, .agg (Row.list x h').toArray] w fun e w' => e = .returned (.bool true) ∧ Below w.heap.size w w' := by
  obtain ⟨f0, rfl, r0, u0, v0⟩ := hin
  obtain ⟨f0', rfl, r0', u0', v0'⟩ := hin'
  have R0 := Lib.hid (And.intro r0 r0')
  have e0 : h.keyl = h'.keyl := r0.1.symm.trans r0'.1
  have HM := Lib.hid hmax
  unfold Row.sz at HM
  clear hmax r0 u0 v0 r0' u0' v0'
  obtain ⟨m0, y0⟩ : ∃ m, h.keyl = m := ⟨_, rfl⟩
  simp only [Row.list]
  rw [y0] at e0 R0 ⊢
  rw [← e0] at R0 ⊢
  clear e0 y0
  go_enter Try.func90, Try.ntmps90
  go_wp2_with fail
  refine calls_gen (fun W => Below w.heap.size w W ∧ Blk W w.heap.size 120 [.int .i64 x.win, .int .i64 x.mask, .int .i64 x.start, .slice h.keya m0 h.keyc, .int .i64 x.a.n, .int .i64 x.a.sm, .int .i64 x.a.mn, .int .i64 x.a.mx, .int .i64 x.times] ∧ Blk W (w.heap.size + 1) 120 [.int .i64 x.win, .int .i64 x.mask, .int .i64 x.start, .slice h'.keya m0 h'.keyc, .int .i64 x.a.n, .int .i64 x.a.sm, .int .i64 x.a.mn, .int .i64 x.a.mx, .int .i64 x.times]) ⟨by repeat (first | exact Below.refl _ _ | refine Below.setCell ?_ (by first | omega | (simp; done) | (simp; omega)) _ | refine Below.alloc ?_ (by first | omega | (simp; done) | (simp; omega)) _ | apply Below.drew), by with_reducible (repeat (first | (refine blk_new_at _ _ _ _ ?_; first | rfl | (simp; done)) | refine Blk.alloc ?_ _ | apply Blk.drew | refine Blk.setOther ?_ (by first | (simp; done) | (simp; omega)) _)), by with_reducible (repeat (first | (refine blk_new_at _ _ _ _ ?_; first | rfl | (simp; done)) | refine Blk.alloc ?_ _ | apply Blk.drew | refine Blk.setOther ?_ (by first | (simp; done) | (simp; omega)) _))⟩ ?_
  rintro W0 ⟨b, k, q⟩
  have BB := Lib.hid b
  have KK := Lib.hid k
  have QQ := Lib.hid q
  clear b k q
  refine (eq_IntS h.keya h'.keya m0 h.keyc h'.keyc x.key _ _ W0 (by have := HM.out; omega) (R0.out.1.below local_int BB.out) (R0.out.2.below local_int BB.out)).mono ?_
  rintro e V0 ⟨rfl, b⟩
  have B0 := Lib.hid (BB.out.trans (b.mono BB.out.size))
  have K0 := Lib.hid (KK.out.below b KK.out.lt)
  have Q0 := Lib.hid (QQ.out.below b QQ.out.lt)
  clear b BB KK QQ
  have BB := B0
  have KK := K0
  have QQ := Q0
  clear B0 K0 Q0
  have c0_0 := KK.out.cell 0
  have d0_0 := QQ.out.cell 0
  have c0_1 := KK.out.cell 1
  have d0_1 := QQ.out.cell 1
  have c0_2 := KK.out.cell 2
  have d0_2 := QQ.out.cell 2
  have c0_3 := KK.out.cell 3
  have d0_3 := QQ.out.cell 3
  have c0_4 := KK.out.cell 4
  have d0_4 := QQ.out.cell 4
  have c0_5 := KK.out.cell 5
  have d0_5 := QQ.out.cell 5
  have c0_6 := KK.out.cell 6
  have d0_6 := QQ.out.cell 6
  have c0_7 := KK.out.cell 7
  have d0_7 := QQ.out.cell 7
  have c0_8 := KK.out.cell 8
  have d0_8 := QQ.out.cell 8
  simp at c0_0 d0_0 c0_1 d0_1 c0_2 d0_2 c0_3 d0_3 c0_4 d0_4 c0_5 d0_5 c0_6 d0_6 c0_7 d0_7 c0_8 d0_8
  go_wp2_with fail
  refine (eq_Agg x.a V0).mono ?_
  rintro e V1 ⟨rfl, b⟩
  have B1 := Lib.hid (BB.out.trans (b.mono BB.out.size))
  have K1 := Lib.hid (KK.out.below b KK.out.lt)
  have Q1 := Lib.hid (QQ.out.below b QQ.out.lt)
  clear b BB KK QQ
  have BB := B1
  have KK := K1
  have QQ := Q1
  clear B1 K1 Q1
  have c1_0 := KK.out.cell 0
  have d1_0 := QQ.out.cell 0
  have c1_1 := KK.out.cell 1
  have d1_1 := QQ.out.cell 1
  have c1_2 := KK.out.cell 2
  have d1_2 := QQ.out.cell 2
  have c1_3 := KK.out.cell 3
  have d1_3 := QQ.out.cell 3
  have c1_4 := KK.out.cell 4
  have d1_4 := QQ.out.cell 4
  have c1_5 := KK.out.cell 5
  have d1_5 := QQ.out.cell 5
  have c1_6 := KK.out.cell 6
  have d1_6 := QQ.out.cell 6
  have c1_7 := KK.out.cell 7
  have d1_7 := QQ.out.cell 7
  have c1_8 := KK.out.cell 8
  have d1_8 := QQ.out.cell 8
  simp at c1_0 d1_0 c1_1 d1_1 c1_2 d1_2 c1_3 d1_3 c1_4 d1_4 c1_5 d1_5 c1_6 d1_6 c1_7 d1_7 c1_8 d1_8
  go_wp2_with fail
  go_ret
  exact ⟨rfl, BB.out⟩

theorem info_Row : (Try.prog.info? 120).map (fun i => (i.zero, i.size, i.bytes)) = some (some (.agg #[.int .i64 0, .int .i64 0, .int .i64 0, .slice none 0 0, .int .i64 0, .int .i64 0, .int .i64 0, .int .i64 0, .int .i64 0]), 9, 88) := by kernel_rfl
set_option maxRecDepth 100000 in
set_option maxHeartbeats 1000000 in
theorem to_RowS (a : Option Addr) (len cap : Nat) (l : List RowD) (fp : List Nat) (w : World) (hmax : szL Row.sz l ≤ 2000000) (hrow : GRow 9 RRow w a len l fp) :
    Calls Try.prog 38 #[.slice a len cap] w (Copied 9 RRow w len l) := by
  have hlen := hrow.1
  have hsz : l.length ≤ 2000000 := by unfold szL at hmax; omega
  have hmk := run_make_n (P := Try.prog) 46 120 (.agg #[.int .i64 0, .int .i64 0, .int .i64 0, .slice none 0 0, .int .i64 0, .int .i64 0, .int .i64 0, .int .i64 0, .int .i64 0]) 9 88 Try.underlying46 info_Row .i64 .i64 len (by omega) (by omega)
  have HM := Lib.hid hmax
  have HC := Lib.hid hrow
  have HL := Lib.hid hlen
  have HS := Lib.hid (show len ≤ 2000000 by omega)
  clear hrow hlen hsz hmax
  go_enter Try.func38, Try.ntmps38
  go_wp2_with fail
  have HZ := HS.out
  go_loopg [4] len (fun k i wr => ∃ j : Nat, j + k = len ∧ i = .int .i64 j ∧ Laying 9 RRow 120 [.int .i64 0, .int .i64 0, .int .i64 0, .slice none 0 0, .int .i64 0, .int .i64 0, .int .i64 0, .int .i64 0, .int .i64 0] l w j wr)
  case atStart => exact ⟨0, by omega, rfl, by have := Laying.start (k := 9) (R := RRow) (t := 120) (w := w) (zc := [.int .i64 0, .int .i64 0, .int .i64 0, .slice none 0 0, .int .i64 0, .int .i64 0, .int .i64 0, .int .i64 0, .int .i64 0]) (by decide) len HL.out.symm; simpa using this⟩
  case round =>
    obtain ⟨j, hj, rfl, hC⟩ := hrel
    clear hmk
    have HB := Lib.hid hC
    by_cases hlt : j < len
    · have hlt2 : (j : Int) < (len : Int) := by omega
      have h02 : (0 : Int) ≤ (j : Int) := by omega
      obtain ⟨b, off, x, f, cs, rfl, hbl, hx, hcl, hR, hc⟩ := HC.out.at hlt
      obtain ⟨h, rfl, hi⟩ := hR
      have c0 : wr.cell? ⟨b, off + j * 9, none⟩ = some (.int .i64 x.win) := (hC.below.cell (p := ⟨b, off + j * 9 + 0, none⟩) hbl).trans (hc 0 (by omega))
      have c1 : wr.cell? ⟨b, off + j * 9 + 1, none⟩ = some (.int .i64 x.mask) := (hC.below.cell (p := ⟨b, off + j * 9 + 1, none⟩) hbl).trans (hc 1 (by omega))
      have c2 : wr.cell? ⟨b, off + j * 9 + 2, none⟩ = some (.int .i64 x.start) := (hC.below.cell (p := ⟨b, off + j * 9 + 2, none⟩) hbl).trans (hc 2 (by omega))
      have c3 : wr.cell? ⟨b, off + j * 9 + 3, none⟩ = some (.slice h.keya h.keyl h.keyc) := (hC.below.cell (p := ⟨b, off + j * 9 + 3, none⟩) hbl).trans (hc 3 (by omega))
      have c4 : wr.cell? ⟨b, off + j * 9 + 4, none⟩ = some (.int .i64 x.a.n) := (hC.below.cell (p := ⟨b, off + j * 9 + 4, none⟩) hbl).trans (hc 4 (by omega))
      have c5 : wr.cell? ⟨b, off + j * 9 + 5, none⟩ = some (.int .i64 x.a.sm) := (hC.below.cell (p := ⟨b, off + j * 9 + 5, none⟩) hbl).trans (hc 5 (by omega))
      have c6 : wr.cell? ⟨b, off + j * 9 + 6, none⟩ = some (.int .i64 x.a.mn) := (hC.below.cell (p := ⟨b, off + j * 9 + 6, none⟩) hbl).trans (hc 6 (by omega))
      have c7 : wr.cell? ⟨b, off + j * 9 + 7, none⟩ = some (.int .i64 x.a.mx) := (hC.below.cell (p := ⟨b, off + j * 9 + 7, none⟩) hbl).trans (hc 7 (by omega))
      have c8 : wr.cell? ⟨b, off + j * 9 + 8, none⟩ = some (.int .i64 x.times) := (hC.below.cell (p := ⟨b, off + j * 9 + 8, none⟩) hbl).trans (hc 8 (by omega))
      have HX := Lib.hid hx
      have HI := Lib.hid hi
      clear hc hx hi
      go_wp2_with fail
      refine (to_Row x h f wr (by have := sz_elem_le Row.sz l HX.out; have := HM.out; unfold szL at this; omega) (HI.out.below hC.below)).mono ?_
      rintro e w3 ⟨h', f', rfl, hi', hown, hb3⟩
      have d0 : w3.cell? ⟨w.heap.size, j * 9, none⟩ = some (.int .i64 0) := by have := (hb3.cell (p := ⟨w.heap.size, _, none⟩) hC.lt).trans (hC.cell rfl (by rw [HL.out]; omega) 0 (by omega)); simpa using this
      have g0 : w3.frozen? ⟨w.heap.size, j * 9, none⟩ = false := (hb3.frozen (p := ⟨w.heap.size, _, none⟩) hC.lt).trans (hC.frozen _)
      have d1 : w3.cell? ⟨w.heap.size, j * 9 + 1, none⟩ = some (.int .i64 0) := by have := (hb3.cell (p := ⟨w.heap.size, _, none⟩) hC.lt).trans (hC.cell rfl (by rw [HL.out]; omega) 1 (by omega)); simpa using this
      have g1 : w3.frozen? ⟨w.heap.size, j * 9 + 1, none⟩ = false := (hb3.frozen (p := ⟨w.heap.size, _, none⟩) hC.lt).trans (hC.frozen _)
      have d2 : w3.cell? ⟨w.heap.size, j * 9 + 2, none⟩ = some (.int .i64 0) := by have := (hb3.cell (p := ⟨w.heap.size, _, none⟩) hC.lt).trans (hC.cell rfl (by rw [HL.out]; omega) 2 (by omega)); simpa using this
      have g2 : w3.frozen? ⟨w.heap.size, j * 9 + 2, none⟩ = false := (hb3.frozen (p := ⟨w.heap.size, _, none⟩) hC.lt).trans (hC.frozen _)
      have d3 : w3.cell? ⟨w.heap.size, j * 9 + 3, none⟩ = some (.slice none 0 0) := by have := (hb3.cell (p := ⟨w.heap.size, _, none⟩) hC.lt).trans (hC.cell rfl (by rw [HL.out]; omega) 3 (by omega)); simpa using this
      have g3 : w3.frozen? ⟨w.heap.size, j * 9 + 3, none⟩ = false := (hb3.frozen (p := ⟨w.heap.size, _, none⟩) hC.lt).trans (hC.frozen _)
      have d4 : w3.cell? ⟨w.heap.size, j * 9 + 4, none⟩ = some (.int .i64 0) := by have := (hb3.cell (p := ⟨w.heap.size, _, none⟩) hC.lt).trans (hC.cell rfl (by rw [HL.out]; omega) 4 (by omega)); simpa using this
      have g4 : w3.frozen? ⟨w.heap.size, j * 9 + 4, none⟩ = false := (hb3.frozen (p := ⟨w.heap.size, _, none⟩) hC.lt).trans (hC.frozen _)
      have d5 : w3.cell? ⟨w.heap.size, j * 9 + 5, none⟩ = some (.int .i64 0) := by have := (hb3.cell (p := ⟨w.heap.size, _, none⟩) hC.lt).trans (hC.cell rfl (by rw [HL.out]; omega) 5 (by omega)); simpa using this
      have g5 : w3.frozen? ⟨w.heap.size, j * 9 + 5, none⟩ = false := (hb3.frozen (p := ⟨w.heap.size, _, none⟩) hC.lt).trans (hC.frozen _)
      have d6 : w3.cell? ⟨w.heap.size, j * 9 + 6, none⟩ = some (.int .i64 0) := by have := (hb3.cell (p := ⟨w.heap.size, _, none⟩) hC.lt).trans (hC.cell rfl (by rw [HL.out]; omega) 6 (by omega)); simpa using this
      have g6 : w3.frozen? ⟨w.heap.size, j * 9 + 6, none⟩ = false := (hb3.frozen (p := ⟨w.heap.size, _, none⟩) hC.lt).trans (hC.frozen _)
      have d7 : w3.cell? ⟨w.heap.size, j * 9 + 7, none⟩ = some (.int .i64 0) := by have := (hb3.cell (p := ⟨w.heap.size, _, none⟩) hC.lt).trans (hC.cell rfl (by rw [HL.out]; omega) 7 (by omega)); simpa using this
      have g7 : w3.frozen? ⟨w.heap.size, j * 9 + 7, none⟩ = false := (hb3.frozen (p := ⟨w.heap.size, _, none⟩) hC.lt).trans (hC.frozen _)
      have d8 : w3.cell? ⟨w.heap.size, j * 9 + 8, none⟩ = some (.int .i64 0) := by have := (hb3.cell (p := ⟨w.heap.size, _, none⟩) hC.lt).trans (hC.cell rfl (by rw [HL.out]; omega) 8 (by omega)); simpa using this
      have g8 : w3.frozen? ⟨w.heap.size, j * 9 + 8, none⟩ = false := (hb3.frozen (p := ⟨w.heap.size, _, none⟩) hC.lt).trans (hC.frozen _)
      have HI' := Lib.hid (And.intro hi' hown)
      have HB3 := Lib.hid hb3
      clear hC hb3 hi' hown c0 c1 c2 c3 c4 c5 c6 c7 c8
      simp only [Row.list]
      go_wp2_with fail
      go_roundg (len - (j + 1))
      case measure => omega
      case rel =>
        refine ⟨j + 1, by omega, by go_num, HB.out.step local_Row rfl (by rw [HL.out]; omega) HX.out (cs := [.int .i64 x.win, .int .i64 x.mask, .int .i64 x.start, .slice h'.keya h'.keyl h'.keyc, .int .i64 x.a.n, .int .i64 x.a.sm, .int .i64 x.a.mn, .int .i64 x.a.mx, .int .i64 x.times]) rfl ⟨h', rfl, HI'.out.1⟩ HI'.out.2 HB3.out ?_ ((((((((((Below.refl _ _).setCell (by simp) _).setCell (by simp) _).setCell (by simp) _).setCell (by simp) _).setCell (by simp) _).setCell (by simp) _).setCell (by simp) _).setCell (by simp) _).setCell (by simp) _) ?_⟩
        · intro L hL hl
          exact (Blk.put (Blk.put (Blk.put (Blk.put (Blk.put (Blk.put (Blk.put (Blk.put (Blk.put (Blk.start hL (j * 9)) (j * 9) (by simp) (by simp; omega) _) (j * 9 + 1) (by simp) (by simp; omega) _) (j * 9 + 2) (by simp) (by simp; omega) _) (j * 9 + 3) (by simp) (by simp; omega) _) (j * 9 + 4) (by simp) (by simp; omega) _) (j * 9 + 5) (by simp) (by simp; omega) _) (j * 9 + 6) (by simp) (by simp; omega) _) (j * 9 + 7) (by simp) (by simp; omega) _) (j * 9 + 8) (by simp) (by simp; omega) _)
        · intro b hb
          rw [Below.heap_setCell _ _ _ b hb]; rw [Below.heap_setCell _ _ _ b hb]; rw [Below.heap_setCell _ _ _ b hb]; rw [Below.heap_setCell _ _ _ b hb]; rw [Below.heap_setCell _ _ _ b hb]; rw [Below.heap_setCell _ _ _ b hb]; rw [Below.heap_setCell _ _ _ b hb]; rw [Below.heap_setCell _ _ _ b hb]; rw [Below.heap_setCell _ _ _ b hb]
    · clear hC
      go_wp2_with fail
      go_ret
      exact HB.out.done (by rw [HL.out]; omega) _ HL.out.symm

set_option maxRecDepth 100000 in
set_option maxHeartbeats 1000000 in
theorem sz_RowS (a : Option Addr) (len cap : Nat) (l : List RowD) (fp : List Nat) (n : Int) (w : World) (h0 : 0 ≤ n) (h1 : n ≤ 1048576) (hcap : len ≤ cap) (hm : cap ≤ 9223372036854775807) (hrow : GRow 9 RRow w a len l fp) :
    Calls Try.prog 36 #[.slice a len cap, .int .i64 n] w (Left n (szL Row.sz l) w) := by
  have hl := hrow.1
  have HR := Lib.hid hrow
  have HL := Lib.hid hl
  clear hrow hl
  unfold Left szL
  by_cases h : (len : Int) ≤ n
  case neg =>
    rw [HL.out, if_neg (by omega)]
    go_enter Try.func36, Try.ntmps36
    go_wp2_with fail
    go_ret
    exact ⟨rfl, Below.refl _ _⟩
  rw [HL.out]
  obtain ⟨r, hr⟩ : ∃ r : Int, (if ((len + (l.map Row.sz).sum : Nat) : Int) ≤ n then n - ((len + (l.map Row.sz).sum : Nat) : Int) else -1) = r := ⟨_, rfl⟩
  rw [hr]
  have HE := Lib.hid hr
  clear hr
  go_enter Try.func36, Try.ntmps36
  go_wp2_with fail
  go_loopg [1, 5] len (fun k lft i wr => ∃ j : Nat, j + k = len ∧ i = .int .i64 j ∧ ∃ s : Int, lft = .int .i64 s ∧ 0 ≤ s ∧ s = n - ((len + ((l.take j).map Row.sz).sum : Nat) : Int) ∧ Below w.heap.size w wr)
  case atStart => exact ⟨0, by omega, rfl, _, rfl, by omega, by simp, Below.refl _ _⟩
  case round =>
    obtain ⟨j, hj, rfl, s, rfl, hs0, hs, hb⟩ := hrel
    have HB := Lib.hid hb
    have HS := Lib.hid hs
    have hs1 : s ≤ 1048576 := by omega
    clear hs
    by_cases hlt : j < len
    · have hlt2 : (j : Int) < (len : Int) := by omega
      have h02 : (0 : Int) ≤ (j : Int) := by omega
      obtain ⟨b, off, x, f, cs, rfl, hbl, hx, hcl, hR, hc⟩ := HR.out.at hlt
      obtain ⟨h, rfl, hi⟩ := hR
      have c0 : wr.cell? ⟨b, off + j * 9, none⟩ = some (.int .i64 x.win) := (hb.cell (p := ⟨b, off + j * 9 + 0, none⟩) hbl).trans (hc 0 (by omega))
      have c1 : wr.cell? ⟨b, off + j * 9 + 1, none⟩ = some (.int .i64 x.mask) := (hb.cell (p := ⟨b, off + j * 9 + 1, none⟩) hbl).trans (hc 1 (by omega))
      have c2 : wr.cell? ⟨b, off + j * 9 + 2, none⟩ = some (.int .i64 x.start) := (hb.cell (p := ⟨b, off + j * 9 + 2, none⟩) hbl).trans (hc 2 (by omega))
      have c3 : wr.cell? ⟨b, off + j * 9 + 3, none⟩ = some (.slice h.keya h.keyl h.keyc) := (hb.cell (p := ⟨b, off + j * 9 + 3, none⟩) hbl).trans (hc 3 (by omega))
      have c4 : wr.cell? ⟨b, off + j * 9 + 4, none⟩ = some (.int .i64 x.a.n) := (hb.cell (p := ⟨b, off + j * 9 + 4, none⟩) hbl).trans (hc 4 (by omega))
      have c5 : wr.cell? ⟨b, off + j * 9 + 5, none⟩ = some (.int .i64 x.a.sm) := (hb.cell (p := ⟨b, off + j * 9 + 5, none⟩) hbl).trans (hc 5 (by omega))
      have c6 : wr.cell? ⟨b, off + j * 9 + 6, none⟩ = some (.int .i64 x.a.mn) := (hb.cell (p := ⟨b, off + j * 9 + 6, none⟩) hbl).trans (hc 6 (by omega))
      have c7 : wr.cell? ⟨b, off + j * 9 + 7, none⟩ = some (.int .i64 x.a.mx) := (hb.cell (p := ⟨b, off + j * 9 + 7, none⟩) hbl).trans (hc 7 (by omega))
      have c8 : wr.cell? ⟨b, off + j * 9 + 8, none⟩ = some (.int .i64 x.times) := (hb.cell (p := ⟨b, off + j * 9 + 8, none⟩) hbl).trans (hc 8 (by omega))
      have HT := Lib.hid (sum_take_succ Row.sz l hx)
      have HU := Lib.hid (sum_take_le Row.sz l (j + 1))
      have HX := Lib.hid hx
      have HI := Lib.hid (hi.below hb)
      clear hb hc hx hi
      go_wp2_with fail
      refine (sz_Row x h f s wr hs0 hs1 HI.out).mono ?_
      rintro e w3 ⟨rfl, hb3⟩
      have HB3 := Lib.hid (HB.out.trans (hb3.mono HB.out.size))
      clear hb3 c0 c1 c2 c3 c4 c5 c6 c7 c8
      by_cases hle : (Row.sz x : Int) ≤ s
      · rw [if_pos hle]
        go_wp2_with fail
        go_roundg (len - (j + 1))
        case measure => omega
        case rel => exact ⟨j + 1, by omega, by go_num, _, rfl, by omega, by rw [HT.out]; have := HS.out; omega, HB3.out⟩
      · rw [if_neg hle]
        go_wp2_with fail
        go_ret
        exact ⟨ret_int (by rw [← HE.out, if_neg (by have := HS.out; have := HT.out; have := HU.out; omega)]), HB3.out⟩
    · clear hb
      obtain rfl : j = len := by omega
      have hs := HS.out
      rw [List.take_of_length_le (by rw [HL.out]; omega)] at hs
      have HQ := Lib.hid hs
      clear hs HS
      go_wp2_with fail
      go_ret
      exact ⟨ret_int (by rw [← HE.out, if_pos (by have := HQ.out; omega), HQ.out]), HB.out⟩

set_option maxRecDepth 100000 in
set_option maxHeartbeats 1000000 in
theorem eq_RowS (a a' : Option Addr) (len cap cap' : Nat) (l : List RowD) (fp fp' : List Nat) (w : World) (hmax : szL Row.sz l ≤ 2000000) (hrow : GRow 9 RRow w a len l fp) (hrow' : GRow 9 RRow w a' len l fp') :
    Calls Try.prog 39 #[.slice a len cap, .slice a' len cap'] w fun e w' => e = .returned (.bool true) ∧ Below w.heap.size w w' := by
  have hsz : l.length ≤ 2000000 := by unfold szL at hmax; omega
  have hlm : len ≤ 2000000 := by rw [← hrow.1]; exact hsz
  have HC := Lib.hid hrow
  have HC' := Lib.hid hrow'
  have HM := Lib.hid hmax
  clear hrow hrow' hmax hsz
  go_enter Try.func39, Try.ntmps39
  go_wp2_with fail
  go_loopg [5] len (fun k i wr => ∃ j : Nat, j + k = len ∧ i = .int .i64 j ∧ Below w.heap.size w wr)
  case atStart => exact ⟨0, by omega, rfl, Below.refl _ _⟩
  case round =>
    obtain ⟨j, hj, rfl, hb⟩ := hrel
    have HB := Lib.hid hb
    by_cases hlt : j < len
    · have hlt2 : (j : Int) < (len : Int) := by omega
      have h02 : (0 : Int) ≤ (j : Int) := by omega
      obtain ⟨b, off, x, f, cs, rfl, hbl, hx, hcl, hR, hc⟩ := HC.out.at hlt
      obtain ⟨b', off', x', f', cs', rfl, hbl', hx', hcl', hR', hc'⟩ := HC'.out.at hlt
      obtain rfl : x = x' := by rw [hx] at hx'; exact Option.some.inj hx'
      obtain ⟨h, rfl, hi⟩ := hR
      obtain ⟨h', rfl, hi'⟩ := hR'
      have c0 : wr.cell? ⟨b, off + j * 9, none⟩ = some (.int .i64 x.win) := by have := (hb.cell (p := ⟨b, off + j * 9 + 0, none⟩) hbl).trans (hc 0 (by omega)); simpa [Row.list] using this
      have c1 : wr.cell? ⟨b, off + j * 9 + 1, none⟩ = some (.int .i64 x.mask) := by have := (hb.cell (p := ⟨b, off + j * 9 + 1, none⟩) hbl).trans (hc 1 (by omega)); simpa [Row.list] using this
      have c2 : wr.cell? ⟨b, off + j * 9 + 2, none⟩ = some (.int .i64 x.start) := by have := (hb.cell (p := ⟨b, off + j * 9 + 2, none⟩) hbl).trans (hc 2 (by omega)); simpa [Row.list] using this
      have c3 : wr.cell? ⟨b, off + j * 9 + 3, none⟩ = some (.slice h.keya h.keyl h.keyc) := by have := (hb.cell (p := ⟨b, off + j * 9 + 3, none⟩) hbl).trans (hc 3 (by omega)); simpa [Row.list] using this
      have c4 : wr.cell? ⟨b, off + j * 9 + 4, none⟩ = some (.int .i64 x.a.n) := by have := (hb.cell (p := ⟨b, off + j * 9 + 4, none⟩) hbl).trans (hc 4 (by omega)); simpa [Row.list] using this
      have c5 : wr.cell? ⟨b, off + j * 9 + 5, none⟩ = some (.int .i64 x.a.sm) := by have := (hb.cell (p := ⟨b, off + j * 9 + 5, none⟩) hbl).trans (hc 5 (by omega)); simpa [Row.list] using this
      have c6 : wr.cell? ⟨b, off + j * 9 + 6, none⟩ = some (.int .i64 x.a.mn) := by have := (hb.cell (p := ⟨b, off + j * 9 + 6, none⟩) hbl).trans (hc 6 (by omega)); simpa [Row.list] using this
      have c7 : wr.cell? ⟨b, off + j * 9 + 7, none⟩ = some (.int .i64 x.a.mx) := by have := (hb.cell (p := ⟨b, off + j * 9 + 7, none⟩) hbl).trans (hc 7 (by omega)); simpa [Row.list] using this
      have c8 : wr.cell? ⟨b, off + j * 9 + 8, none⟩ = some (.int .i64 x.times) := by have := (hb.cell (p := ⟨b, off + j * 9 + 8, none⟩) hbl).trans (hc 8 (by omega)); simpa [Row.list] using this
      have c0' : wr.cell? ⟨b', off' + j * 9, none⟩ = some (.int .i64 x.win) := by have := (hb.cell (p := ⟨b', off' + j * 9 + 0, none⟩) hbl').trans (hc' 0 (by omega)); simpa [Row.list] using this
      have c1' : wr.cell? ⟨b', off' + j * 9 + 1, none⟩ = some (.int .i64 x.mask) := by have := (hb.cell (p := ⟨b', off' + j * 9 + 1, none⟩) hbl').trans (hc' 1 (by omega)); simpa [Row.list] using this
      have c2' : wr.cell? ⟨b', off' + j * 9 + 2, none⟩ = some (.int .i64 x.start) := by have := (hb.cell (p := ⟨b', off' + j * 9 + 2, none⟩) hbl').trans (hc' 2 (by omega)); simpa [Row.list] using this
      have c3' : wr.cell? ⟨b', off' + j * 9 + 3, none⟩ = some (.slice h'.keya h'.keyl h'.keyc) := by have := (hb.cell (p := ⟨b', off' + j * 9 + 3, none⟩) hbl').trans (hc' 3 (by omega)); simpa [Row.list] using this
      have c4' : wr.cell? ⟨b', off' + j * 9 + 4, none⟩ = some (.int .i64 x.a.n) := by have := (hb.cell (p := ⟨b', off' + j * 9 + 4, none⟩) hbl').trans (hc' 4 (by omega)); simpa [Row.list] using this
      have c5' : wr.cell? ⟨b', off' + j * 9 + 5, none⟩ = some (.int .i64 x.a.sm) := by have := (hb.cell (p := ⟨b', off' + j * 9 + 5, none⟩) hbl').trans (hc' 5 (by omega)); simpa [Row.list] using this
      have c6' : wr.cell? ⟨b', off' + j * 9 + 6, none⟩ = some (.int .i64 x.a.mn) := by have := (hb.cell (p := ⟨b', off' + j * 9 + 6, none⟩) hbl').trans (hc' 6 (by omega)); simpa [Row.list] using this
      have c7' : wr.cell? ⟨b', off' + j * 9 + 7, none⟩ = some (.int .i64 x.a.mx) := by have := (hb.cell (p := ⟨b', off' + j * 9 + 7, none⟩) hbl').trans (hc' 7 (by omega)); simpa [Row.list] using this
      have c8' : wr.cell? ⟨b', off' + j * 9 + 8, none⟩ = some (.int .i64 x.times) := by have := (hb.cell (p := ⟨b', off' + j * 9 + 8, none⟩) hbl').trans (hc' 8 (by omega)); simpa [Row.list] using this
      have HI := Lib.hid (And.intro (hi.below hb) (hi'.below hb))
      have HX := Lib.hid hx
      clear hb hc hc' hx hx' hi hi'
      go_wp2_with fail
      go_still_tail 8, (by kernel_rfl)
      change wpList _ _ _ _ _ wr.drew
      have HB2 := Lib.hid (HB.out.drew)
      have HI2 := Lib.hid (And.intro (HI.out.1.keep (w' := wr.drew) (fun _ _ => rfl)) (HI.out.2.keep (w' := wr.drew) (fun _ _ => rfl)))
      clear HI
      generalize wr.drew = wd at *
      go_wp2_with fail
      refine (eq_Row x h h' _ _ _ (by have := sz_elem_le Row.sz l HX.out; have := HM.out; unfold szL at this; omega) HI2.out.1 HI2.out.2).mono ?_
      rintro e w3 ⟨rfl, hb3⟩
      have HB3 := Lib.hid (HB2.out.trans (hb3.mono HB2.out.size))
      clear hb3
      go_wp2_with fail
      go_roundg (len - (j + 1))
      case measure => omega
      case rel => exact ⟨j + 1, by omega, by go_num, HB3.out⟩
    · clear hb
      go_wp2_with fail
      go_ret
      exact ⟨rfl, HB.out⟩

structure StateD where
  offs : List Int
  marks : List Int
  panes : List PaneD
  rows : List RowD
  drops : Int
  bad : Int
/-- The slices' own cells. -/
structure StateH where
  offsa : Option Addr
  offsl : Nat
  offsc : Nat
  marksa : Option Addr
  marksl : Nat
  marksc : Nat
  panesa : Option Addr
  panesl : Nat
  panesc : Nat
  rowsa : Option Addr
  rowsl : Nat
  rowsc : Nat
def State.list (x : StateD) (h : StateH) : List Value := [.slice h.offsa h.offsl h.offsc, .slice h.marksa h.marksl h.marksc, .slice h.panesa h.panesl h.panesc, .slice h.rowsa h.rowsl h.rowsc, .int .i64 x.drops, .int .i64 x.bad]
def State.Is (w : World) (x : StateD) (h : StateH) (fp : List Nat) : Prop := ∃ f0 f1 f2 f3 : List Nat, fp = f0 ++ (f1 ++ (f2 ++ f3)) ∧ GRow 1 RInt w h.offsa h.offsl x.offs f0 ∧ h.offsl ≤ h.offsc ∧ h.offsc ≤ 9223372036854775807 ∧ GRow 1 RInt w h.marksa h.marksl x.marks f1 ∧ h.marksl ≤ h.marksc ∧ h.marksc ≤ 9223372036854775807 ∧ GRow 8 RPane w h.panesa h.panesl x.panes f2 ∧ h.panesl ≤ h.panesc ∧ h.panesc ≤ 9223372036854775807 ∧ GRow 9 RRow w h.rowsa h.rowsl x.rows f3 ∧ h.rowsl ≤ h.rowsc ∧ h.rowsc ≤ 9223372036854775807
def RState : Rel StateD := fun w cs x fp => ∃ h : StateH, cs = State.list x h ∧ State.Is w x h fp
theorem State.Is.keep {w w' : World} {x : StateD} {h : StateH} {fp : List Nat} (hi : State.Is w x h fp) (hf : ∀ b ∈ fp, w'.heap[b]? = w.heap[b]?) : State.Is w' x h fp := by
  obtain ⟨f0, f1, f2, f3, rfl, r0, u0, v0, r1, u1, v1, r2, u2, v2, r3, u3, v3⟩ := hi
  exact ⟨f0, f1, f2, f3, rfl, r0.keep local_int (fun b hb => hf b (by simp [hb])), u0, v0, r1.keep local_int (fun b hb => hf b (by simp [hb])), u1, v1, r2.keep local_Pane (fun b hb => hf b (by simp [hb])), u2, v2, r3.keep local_Row (fun b hb => hf b (by simp [hb])), u3, v3⟩
theorem State.Is.lt {w : World} {x : StateD} {h : StateH} {fp : List Nat} (hi : State.Is w x h fp) : ∀ b ∈ fp, b < w.heap.size := by
  obtain ⟨f0, f1, f2, f3, rfl, r0, u0, v0, r1, u1, v1, r2, u2, v2, r3, u3, v3⟩ := hi
  intro b hb
  simp only [List.mem_append] at hb
  rcases hb with hb | (hb | (hb | hb))
  · exact r0.lt local_int b hb
  · exact r1.lt local_int b hb
  · exact r2.lt local_Pane b hb
  · exact r3.lt local_Row b hb
theorem State.Is.below {w w' : World} {x : StateD} {h : StateH} {fp : List Nat} (hi : State.Is w x h fp) (hb : Below w.heap.size w w') : State.Is w' x h fp := hi.keep fun b hb' => hb.block b (hi.lt b hb')
theorem local_State : Local RState := ⟨fun ⟨h, e, hi⟩ hf => ⟨h, e, hi.keep hf⟩, fun ⟨_, _, hi⟩ => hi.lt⟩
def State.sz (x : StateD) : Nat := x.offs.length + x.marks.length + szL Pane.sz x.panes + szL Row.sz x.rows

def CopiedState (w : World) (x : StateD) (e : Ending) (w' : World) : Prop := ∃ (h : StateH) (fp : List Nat), e = .returned (.agg (State.list x h).toArray) ∧ State.Is w' x h fp ∧ Own w.heap.size w' fp ∧ Below w.heap.size w w'
end Go.Proofs.Ytoglclmaacjdaaa.dat
