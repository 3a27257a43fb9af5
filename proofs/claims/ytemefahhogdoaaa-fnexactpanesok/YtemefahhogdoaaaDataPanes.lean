/-
  DATA: Agg, Pane, []Pane: the notions; THE CONTRACTS OF the laws' own functions (copies, sizes, equality) over them. Written by tools/gendata.py.
-/
import Derived.Test.YtemefahhogdoaaaDataEvents
namespace Go.Proofs.Ytemefahhogdoaaa.dat
open Go.RowKit Go.Proofs.Ytemefahhogdoaaa.win
set_option linter.unusedVariables false

structure AggD where
  n : Int
  sm : Int
  mn : Int
  mx : Int
def Agg.list (x : AggD) : List Value := [.int .i64 x.n, .int .i64 x.sm, .int .i64 x.mn, .int .i64 x.mx]
def RAgg : Rel AggD := fun _ cs x fp => cs = Agg.list x ∧ fp = []
theorem local_Agg : Local RAgg := ⟨fun h _ => h, fun h b hb => by rw [h.2] at hb; simp at hb⟩

set_option maxRecDepth 100000 in
set_option maxHeartbeats 2000000 in
theorem to_Agg (x : AggD) (w : World) : Calls Try.prog 114 #[.agg (Agg.list x).toArray] w fun e w' => e = .returned (.agg (Agg.list x).toArray) ∧ Below w.heap.size w w' := by
  simp only [Agg.list]
  go_enter Try.func114, Try.ntmps114
  go_wp2
  refine bodyPost_ret (v := .agg #[.int .i64 x.n, .int .i64 x.sm, .int .i64 x.mn, .int .i64 x.mx]) (by simp [results, Try.results114, go_sem]) rfl ⟨rfl, ?_⟩
  exact (((Below.refl _ _).alloc (Nat.le_refl _) _).alloc (by simp) _).alloc (by simp; omega) _

set_option maxRecDepth 100000 in
set_option maxHeartbeats 2000000 in
theorem eq_Agg (x : AggD) (w : World) : Calls Try.prog 126 #[.agg (Agg.list x).toArray, .agg (Agg.list x).toArray] w fun e w' => e = .returned (.bool true) ∧ Below w.heap.size w w' := by
  simp only [Agg.list]
  go_enter Try.func126, Try.ntmps126
  go_wp2_with fail
  go_ret
  exact ⟨rfl, by repeat (first | exact Below.refl _ _ | (refine Below.alloc ?_ (by simp; try omega) _))⟩

structure PaneD where
  win : Int
  mask : Int
  start : Int
  key : List Int
  a : AggD
/-- The slices' own cells. -/
structure PaneH where
  keya : Option Addr
  keyl : Nat
  keyc : Nat
def Pane.list (x : PaneD) (h : PaneH) : List Value := [.int .i64 x.win, .int .i64 x.mask, .int .i64 x.start, .slice h.keya h.keyl h.keyc, .int .i64 x.a.n, .int .i64 x.a.sm, .int .i64 x.a.mn, .int .i64 x.a.mx]
def Pane.Is (w : World) (x : PaneD) (h : PaneH) (fp : List Nat) : Prop := ∃ f0 : List Nat, fp = f0 ∧ GRow 1 RInt w h.keya h.keyl x.key f0 ∧ h.keyl ≤ h.keyc ∧ h.keyc ≤ 9223372036854775807
def RPane : Rel PaneD := fun w cs x fp => ∃ h : PaneH, cs = Pane.list x h ∧ Pane.Is w x h fp
theorem Pane.Is.keep {w w' : World} {x : PaneD} {h : PaneH} {fp : List Nat} (hi : Pane.Is w x h fp) (hf : ∀ b ∈ fp, w'.heap[b]? = w.heap[b]?) : Pane.Is w' x h fp := by
  obtain ⟨f0, rfl, r0, u0, v0⟩ := hi
  exact ⟨_, rfl, r0.keep local_int (fun b hb => hf b (by simp [hb])), u0, v0⟩
theorem Pane.Is.lt {w : World} {x : PaneD} {h : PaneH} {fp : List Nat} (hi : Pane.Is w x h fp) : ∀ b ∈ fp, b < w.heap.size := by
  obtain ⟨f0, rfl, r0, u0, v0⟩ := hi
  intro b hb
  exact r0.lt local_int b hb
theorem Pane.Is.below {w w' : World} {x : PaneD} {h : PaneH} {fp : List Nat} (hi : Pane.Is w x h fp) (hb : Below w.heap.size w w') : Pane.Is w' x h fp := hi.keep fun b hb' => hb.block b (hi.lt b hb')
theorem local_Pane : Local RPane := ⟨fun ⟨h, e, hi⟩ hf => ⟨h, e, hi.keep hf⟩, fun ⟨_, _, hi⟩ => hi.lt⟩
def Pane.sz (x : PaneD) : Nat := x.key.length

def CopiedPane (w : World) (x : PaneD) (e : Ending) (w' : World) : Prop := ∃ (h : PaneH) (fp : List Nat), e = .returned (.agg (Pane.list x h).toArray) ∧ Pane.Is w' x h fp ∧ Own w.heap.size w' fp ∧ Below w.heap.size w w'
set_option maxRecDepth 100000 in
set_option maxHeartbeats 2000000 in
theorem to_Pane (x : PaneD) (h : PaneH) (fp : List Nat) (w : World) (hmax : Pane.sz x ≤ 2000000) (hin : Pane.Is w x h fp) : Calls Try.prog 86 #[.agg (Pane.list x h).toArray] w (CopiedPane w x) := by
  obtain ⟨f0, rfl, r0, u0, v0⟩ := hin
  have R0 := Lib.hid r0
  have HM := Lib.hid hmax
  unfold Pane.sz at HM
  have U0 := Lib.hid (And.intro u0 v0)
  clear hmax r0 u0 v0
  simp only [Pane.list]
  go_enter Try.func86, Try.ntmps86
  go_wp2_with fail
  refine calls_gen (fun W => Below w.heap.size w W ∧ w.heap.size + 3 ≤ W.heap.size ∧ Blk W w.heap.size 125 [.int .i64 x.win, .int .i64 x.mask, .int .i64 x.start, .slice h.keya h.keyl h.keyc, .int .i64 x.a.n, .int .i64 x.a.sm, .int .i64 x.a.mn, .int .i64 x.a.mx] ∧ Blk W (w.heap.size + 1) 130 [.int .i64 0, .int .i64 0, .int .i64 0, .slice none 0 0, .int .i64 0, .int .i64 0, .int .i64 0, .int .i64 0] ∧ Blk W (w.heap.size + 1 + 1) 130 [.int .i64 x.win, .int .i64 x.mask, .int .i64 x.start, .slice none 0 0, .int .i64 0, .int .i64 0, .int .i64 0, .int .i64 0] ∧ Own (w.heap.size + 3) W []) ?_ ?_
  · refine ⟨?_, ?_, ?_, ?_, ?_, ?_⟩
    · repeat (first | exact Below.refl _ _ | refine Below.setCell ?_ (by first | omega | (simp; done) | (simp; omega)) _ | refine Below.alloc ?_ (by first | omega | (simp; done) | (simp; omega)) _ | apply Below.drew)
    · simp
    · with_reducible (repeat (first | (refine blk_new_at _ _ _ _ ?_; first | rfl | (simp; done)) | refine Blk.alloc ?_ _ | apply Blk.drew | refine Blk.setOther ?_ (by first | (simp; done) | (simp; omega)) _))
    · with_reducible (repeat (first | (refine blk_new_at _ _ _ _ ?_; first | rfl | (simp; done)) | refine Blk.alloc ?_ _ | apply Blk.drew | refine Blk.setOther ?_ (by first | (simp; done) | (simp; omega)) _))
    · with_reducible (repeat (first | (refine blk_new_at _ _ _ _ ?_; first | rfl | (simp; done)) | refine Blk.alloc ?_ _ | apply Blk.drew | refine Blk.setOther ?_ (by first | (simp; done) | (simp; omega)) _))
    · exact Own.nil
  rintro W0 ⟨b, z, k0, k1, k2, ow⟩
  refine (to_IntS h.keya h.keyl h.keyc x.key _ W0 (by have := HM.out; omega) (R0.out.below local_int b)).mono ?_
  rintro e V0 ⟨g0, F0, rfl, row, own, bel⟩
  have BB := Lib.hid (b.trans (bel.mono b.size))
  have ZZ := Lib.hid (Nat.le_trans z bel.size)
  have K0 := Lib.hid (k0.below bel k0.lt)
  have K1 := Lib.hid (k1.below bel k1.lt)
  have K2 := Lib.hid (k2.below bel k2.lt)
  have Q0 := Lib.hid row
  have OW := Lib.hid (own.mono z)
  clear b z k0 k1 k2  ow bel row own
  have c0_0 := K0.out.cell 0
  have c1_0 := K1.out.cell 0
  have c2_0 := K2.out.cell 0
  have c0_1 := K0.out.cell 1
  have c1_1 := K1.out.cell 1
  have c2_1 := K2.out.cell 1
  have c0_2 := K0.out.cell 2
  have c1_2 := K1.out.cell 2
  have c2_2 := K2.out.cell 2
  have c0_3 := K0.out.cell 3
  have c1_3 := K1.out.cell 3
  have c2_3 := K2.out.cell 3
  have c0_4 := K0.out.cell 4
  have c1_4 := K1.out.cell 4
  have c2_4 := K2.out.cell 4
  have c0_5 := K0.out.cell 5
  have c1_5 := K1.out.cell 5
  have c2_5 := K2.out.cell 5
  have c0_6 := K0.out.cell 6
  have c1_6 := K1.out.cell 6
  have c2_6 := K2.out.cell 6
  have c0_7 := K0.out.cell 7
  have c1_7 := K1.out.cell 7
  have c2_7 := K2.out.cell 7
  have f1 := K1.out.frozen
  have f2 := K2.out.frozen
  simp at c0_0 c0_1 c0_2 c0_3 c0_4 c0_5 c0_6 c0_7 c1_0 c1_1 c1_2 c1_3 c1_4 c1_5 c1_6 c1_7 c2_0 c2_1 c2_2 c2_3 c2_4 c2_5 c2_6 c2_7
  skip
  go_wp2_with fail
  refine calls_gen (fun W => Below w.heap.size w W ∧ w.heap.size + 3 ≤ W.heap.size ∧ Blk W w.heap.size 125 [.int .i64 x.win, .int .i64 x.mask, .int .i64 x.start, .slice h.keya h.keyl h.keyc, .int .i64 x.a.n, .int .i64 x.a.sm, .int .i64 x.a.mn, .int .i64 x.a.mx] ∧ Blk W (w.heap.size + 1) 130 [.int .i64 0, .int .i64 0, .int .i64 0, .slice none 0 0, .int .i64 0, .int .i64 0, .int .i64 0, .int .i64 0] ∧ Blk W (w.heap.size + 1 + 1) 130 [.int .i64 x.win, .int .i64 x.mask, .int .i64 x.start, .slice (some ⟨g0, 0, none⟩) h.keyl h.keyl, .int .i64 0, .int .i64 0, .int .i64 0, .int .i64 0] ∧ GRow 1 RInt W (some ⟨g0, 0, none⟩) h.keyl x.key F0 ∧ Own (w.heap.size + 3) W (F0)) ?_ ?_
  · refine ⟨?_, ?_, ?_, ?_, ?_, ?_, ?_⟩
    · have hz := ZZ.out
      repeat (first | (with_reducible exact BB.out) | refine Below.setCell ?_ (by simp; try omega) _)
    · have hz := ZZ.out
      simpa using hz
    · (apply Blk.of_eq; (repeat (first | (with_reducible exact K0.out) | (with_reducible apply Blk.set) | ((with_reducible apply Blk.other); · first | (simp; done) | (simp; omega)) | (with_reducible apply Blk.drew))); rfl)
    · (apply Blk.of_eq; (repeat (first | (with_reducible exact K1.out) | (with_reducible apply Blk.set) | ((with_reducible apply Blk.other); · first | (simp; done) | (simp; omega)) | (with_reducible apply Blk.drew))); rfl)
    · (apply Blk.of_eq; (repeat (first | (with_reducible exact K2.out) | (with_reducible apply Blk.set) | ((with_reducible apply Blk.other); · first | (simp; done) | (simp; omega)) | (with_reducible apply Blk.drew))); rfl)
    · repeat (first | (with_reducible exact Q0.out) | refine GRow.set local_int ?_ (fun b hb => by have := (OW.out.2 b (by simp [hb])).1; simp; omega) _ _)
    · with_reducible (repeat (first | exact OW.out | refine Own.set ?_ _ _ _))
  clear BB ZZ K0 K1 K2 Q0 OW c0_0 c0_1 c0_2 c0_3 c0_4 c0_5 c0_6 c0_7 c1_0 c1_1 c1_2 c1_3 c1_4 c1_5 c1_6 c1_7 c2_0 c2_1 c2_2 c2_3 c2_4 c2_5 c2_6 c2_7 f1 f2
  rintro W1 ⟨b, z, k0, k1, k2, q0, ow⟩
  refine (to_Agg x.a W1).mono ?_
  rintro e V1 ⟨rfl, bel⟩
  have BB := Lib.hid (b.trans (bel.mono b.size))
  have ZZ := Lib.hid (Nat.le_trans z bel.size)
  have K0 := Lib.hid (k0.below bel k0.lt)
  have K1 := Lib.hid (k1.below bel k1.lt)
  have K2 := Lib.hid (k2.below bel k2.lt)
  have Q0 := Lib.hid (q0.below local_int bel)
  have OW := Lib.hid (ow.below bel)
  clear b z k0 k1 k2 q0 ow bel
  have c0_0 := K0.out.cell 0
  have c1_0 := K1.out.cell 0
  have c2_0 := K2.out.cell 0
  have c0_1 := K0.out.cell 1
  have c1_1 := K1.out.cell 1
  have c2_1 := K2.out.cell 1
  have c0_2 := K0.out.cell 2
  have c1_2 := K1.out.cell 2
  have c2_2 := K2.out.cell 2
  have c0_3 := K0.out.cell 3
  have c1_3 := K1.out.cell 3
  have c2_3 := K2.out.cell 3
  have c0_4 := K0.out.cell 4
  have c1_4 := K1.out.cell 4
  have c2_4 := K2.out.cell 4
  have c0_5 := K0.out.cell 5
  have c1_5 := K1.out.cell 5
  have c2_5 := K2.out.cell 5
  have c0_6 := K0.out.cell 6
  have c1_6 := K1.out.cell 6
  have c2_6 := K2.out.cell 6
  have c0_7 := K0.out.cell 7
  have c1_7 := K1.out.cell 7
  have c2_7 := K2.out.cell 7
  have f1 := K1.out.frozen
  have f2 := K2.out.frozen
  simp at c0_0 c0_1 c0_2 c0_3 c0_4 c0_5 c0_6 c0_7 c1_0 c1_1 c1_2 c1_3 c1_4 c1_5 c1_6 c1_7 c2_0 c2_1 c2_2 c2_3 c2_4 c2_5 c2_6 c2_7
  simp only [Agg.list]
  go_wp2_with fail
  refine body_gen (fun W => Below w.heap.size w W ∧ Blk W (w.heap.size + 1) 130 [.int .i64 x.win, .int .i64 x.mask, .int .i64 x.start, .slice (some ⟨g0, 0, none⟩) h.keyl h.keyl, .int .i64 x.a.n, .int .i64 x.a.sm, .int .i64 x.a.mn, .int .i64 x.a.mx] ∧ GRow 1 RInt W (some ⟨g0, 0, none⟩) h.keyl x.key F0 ∧ Own (w.heap.size + 3) W (F0)) ?_ ?_
  · refine ⟨?_, ?_, ?_, ?_⟩
    · have hz := ZZ.out
      repeat (first | (with_reducible exact BB.out) | refine Below.setCell ?_ (by simp; try omega) _)
    · (apply Blk.of_eq; (repeat (first | (with_reducible exact K1.out) | (with_reducible apply Blk.set) | ((with_reducible apply Blk.other); · first | (simp; done) | (simp; omega)) | (with_reducible apply Blk.drew))); rfl)
    · repeat (first | (with_reducible exact Q0.out) | refine GRow.set local_int ?_ (fun b hb => by have := (OW.out.2 b (by simp [hb])).1; simp; omega) _ _)
    · with_reducible (repeat (first | exact OW.out | refine Own.set ?_ _ _ _))
  clear BB ZZ K0 K1 K2 Q0 OW c0_0 c0_1 c0_2 c0_3 c0_4 c0_5 c0_6 c0_7 c1_0 c1_1 c1_2 c1_3 c1_4 c1_5 c1_6 c1_7 c2_0 c2_1 c2_2 c2_3 c2_4 c2_5 c2_6 c2_7 f1 f2
  rintro W ⟨b, k1, q0, ow⟩
  have c1_0 := k1.cell 0
  have c1_1 := k1.cell 1
  have c1_2 := k1.cell 2
  have c1_3 := k1.cell 3
  have c1_4 := k1.cell 4
  have c1_5 := k1.cell 5
  have c1_6 := k1.cell 6
  have c1_7 := k1.cell 7
  simp at c1_0 c1_1 c1_2 c1_3 c1_4 c1_5 c1_6 c1_7
  refine bodyPost_ret (v := .agg (Pane.list x ⟨some ⟨g0, 0, none⟩, h.keyl, h.keyl⟩).toArray) (by simp [results, Try.results86, go_sem, c1_0, c1_1, c1_2, c1_3, c1_4, c1_5, c1_6, c1_7, Pane.list]) rfl ?_
  exact ⟨_, F0, rfl, ⟨F0, rfl, q0, Nat.le_refl _, Nat.le_trans U0.out.1 U0.out.2⟩, ow.mono (by omega), b⟩

set_option maxRecDepth 100000 in
set_option maxHeartbeats 2000000 in
theorem sz_Pane (x : PaneD) (h : PaneH) (fp : List Nat) (n : Int) (w : World) (h0 : 0 ≤ n) (h1 : n ≤ 1048576) (hin : Pane.Is w x h fp) : Calls Try.prog 80 #[.agg (Pane.list x h).toArray, .int .i64 n] w (Left n (Pane.sz x) w) := by
  obtain ⟨f0, rfl, r0, u0, v0⟩ := hin
  have R0 := Lib.hid r0
  clear r0
  unfold Left
  obtain ⟨r, hr⟩ : ∃ r : Int, (if ((Pane.sz x : Nat) : Int) ≤ n then n - ((Pane.sz x : Nat) : Int) else -1) = r := ⟨_, rfl⟩
  rw [hr]
  unfold Pane.sz at hr
  have HE := Lib.hid hr
  clear hr
  simp only [Pane.list]
  go_enter Try.func80, Try.ntmps80
  go_wp2_with fail
  refine calls_gen (fun W => Below w.heap.size w W ∧ Blk W w.heap.size 125 [.int .i64 x.win, .int .i64 x.mask, .int .i64 x.start, .slice h.keya h.keyl h.keyc, .int .i64 x.a.n, .int .i64 x.a.sm, .int .i64 x.a.mn, .int .i64 x.a.mx]) ⟨by repeat (first | exact Below.refl _ _ | refine Below.setCell ?_ (by first | omega | (simp; done) | (simp; omega)) _ | refine Below.alloc ?_ (by first | omega | (simp; done) | (simp; omega)) _ | apply Below.drew), by with_reducible (repeat (first | (refine blk_new_at _ _ _ _ ?_; first | rfl | (simp; done)) | refine Blk.alloc ?_ _ | apply Blk.drew | refine Blk.setOther ?_ (by first | (simp; done) | (simp; omega)) _))⟩ ?_
  rintro W0 ⟨b, k⟩
  have BB := Lib.hid b
  have KK := Lib.hid k
  clear b k
  refine (sz_IntS h.keya h.keyl h.keyc x.key _ _ W0 h0 h1 u0 v0 (R0.out.below local_int BB.out)).mono ?_
  rintro e V0 ⟨rfl, b⟩
  have B0 := Lib.hid (BB.out.trans (b.mono BB.out.size))
  have K0 := Lib.hid (KK.out.below b KK.out.lt)
  clear b BB KK
  have BB := B0
  have KK := K0
  clear B0 K0
  have c0_0 := KK.out.cell 0
  have c0_1 := KK.out.cell 1
  have c0_2 := KK.out.cell 2
  have c0_3 := KK.out.cell 3
  have c0_4 := KK.out.cell 4
  have c0_5 := KK.out.cell 5
  have c0_6 := KK.out.cell 6
  have c0_7 := KK.out.cell 7
  simp at c0_0 c0_1 c0_2 c0_3 c0_4 c0_5 c0_6 c0_7
  by_cases g0 : ((x.key.length : Nat) : Int) ≤ n
  case neg =>
    rw [if_neg g0]
    go_wp2_with fail
    go_ret
    exact ⟨ret_int (by rw [← HE.out, if_neg (by omega)]), BB.out⟩
  rw [if_pos g0]
  go_wp2_with fail
  go_ret
  exact ⟨ret_int (by rw [← HE.out, if_pos (by omega)]; try omega), BB.out⟩

set_option maxRecDepth 100000 in
set_option maxHeartbeats 2000000 in
theorem eq_Pane (x : PaneD) (h h' : PaneH) (fp fp' : List Nat) (w : World) (hmax : Pane.sz x ≤ 2000000) (hin : Pane.Is w x h fp) (hin' : Pane.Is w x h' fp') : Calls Try.prog 93 #[.agg (Pane.list x h).toArray, .agg (Pane.list x h').toArray] w fun e w' => e = .returned (.bool true) ∧ Below w.heap.size w w' := by
  obtain ⟨f0, rfl, r0, u0, v0⟩ := hin
  obtain ⟨f0', rfl, r0', u0', v0'⟩ := hin'
  have R0 := Lib.hid (And.intro r0 r0')
  have e0 : h.keyl = h'.keyl := r0.1.symm.trans r0'.1
  have HM := Lib.hid hmax
  unfold Pane.sz at HM
  clear hmax r0 u0 v0 r0' u0' v0'
  obtain ⟨m0, y0⟩ : ∃ m, h.keyl = m := ⟨_, rfl⟩
  simp only [Pane.list]
  rw [y0] at e0 R0 ⊢
  rw [← e0] at R0 ⊢
  clear e0 y0
  go_enter Try.func93, Try.ntmps93
  go_wp2_with fail
  refine calls_gen (fun W => Below w.heap.size w W ∧ Blk W w.heap.size 130 [.int .i64 x.win, .int .i64 x.mask, .int .i64 x.start, .slice h.keya m0 h.keyc, .int .i64 x.a.n, .int .i64 x.a.sm, .int .i64 x.a.mn, .int .i64 x.a.mx] ∧ Blk W (w.heap.size + 1) 130 [.int .i64 x.win, .int .i64 x.mask, .int .i64 x.start, .slice h'.keya m0 h'.keyc, .int .i64 x.a.n, .int .i64 x.a.sm, .int .i64 x.a.mn, .int .i64 x.a.mx]) ⟨by repeat (first | exact Below.refl _ _ | refine Below.setCell ?_ (by first | omega | (simp; done) | (simp; omega)) _ | refine Below.alloc ?_ (by first | omega | (simp; done) | (simp; omega)) _ | apply Below.drew), by with_reducible (repeat (first | (refine blk_new_at _ _ _ _ ?_; first | rfl | (simp; done)) | refine Blk.alloc ?_ _ | apply Blk.drew | refine Blk.setOther ?_ (by first | (simp; done) | (simp; omega)) _)), by with_reducible (repeat (first | (refine blk_new_at _ _ _ _ ?_; first | rfl | (simp; done)) | refine Blk.alloc ?_ _ | apply Blk.drew | refine Blk.setOther ?_ (by first | (simp; done) | (simp; omega)) _))⟩ ?_
  rintro W0 ⟨b, k, q⟩
  have BB := Lib.hid b
  have KK := Lib.hid k
  have QQ := Lib.hid q
  clear b k q
  refine (eq_IntS h.keya h'.keya m0 h.keyc h'.keyc x.key _ _ W0 (by have := HM.out; omega) (R0.out.1.below local_int BB.out) (R0.out.2.below local_int BB.out)).mono ?_
  rintro e V0 ⟨rfl, b⟩
  have B0 := Lib.hid (BB.out.trans (b.mono BB.out.size))
  have K0 := Lib.hid (KK.out.below b KK.out.lt)
  have Q0 := Lib.hid (QQ.out.below b QQ.out.lt)
  clear b BB KK QQ
  have BB := B0
  have KK := K0
  have QQ := Q0
  clear B0 K0 Q0
  have c0_0 := KK.out.cell 0
  have d0_0 := QQ.out.cell 0
  have c0_1 := KK.out.cell 1
  have d0_1 := QQ.out.cell 1
  have c0_2 := KK.out.cell 2
  have d0_2 := QQ.out.cell 2
  have c0_3 := KK.out.cell 3
  have d0_3 := QQ.out.cell 3
  have c0_4 := KK.out.cell 4
  have d0_4 := QQ.out.cell 4
  have c0_5 := KK.out.cell 5
  have d0_5 := QQ.out.cell 5
  have c0_6 := KK.out.cell 6
  have d0_6 := QQ.out.cell 6
  have c0_7 := KK.out.cell 7
  have d0_7 := QQ.out.cell 7
  simp at c0_0 d0_0 c0_1 d0_1 c0_2 d0_2 c0_3 d0_3 c0_4 d0_4 c0_5 d0_5 c0_6 d0_6 c0_7 d0_7
  go_wp2_with fail
  refine (eq_Agg x.a V0).mono ?_
  rintro e V1 ⟨rfl, b⟩
  have B1 := Lib.hid (BB.out.trans (b.mono BB.out.size))
  have K1 := Lib.hid (KK.out.below b KK.out.lt)
  have Q1 := Lib.hid (QQ.out.below b QQ.out.lt)
  clear b BB KK QQ
  have BB := B1
  have KK := K1
  have QQ := Q1
  clear B1 K1 Q1
  have c1_0 := KK.out.cell 0
  have d1_0 := QQ.out.cell 0
  have c1_1 := KK.out.cell 1
  have d1_1 := QQ.out.cell 1
  have c1_2 := KK.out.cell 2
  have d1_2 := QQ.out.cell 2
  have c1_3 := KK.out.cell 3
  have d1_3 := QQ.out.cell 3
  have c1_4 := KK.out.cell 4
  have d1_4 := QQ.out.cell 4
  have c1_5 := KK.out.cell 5
  have d1_5 := QQ.out.cell 5
  have c1_6 := KK.out.cell 6
  have d1_6 := QQ.out.cell 6
  have c1_7 := KK.out.cell 7
  have d1_7 := QQ.out.cell 7
  simp at c1_0 d1_0 c1_1 d1_1 c1_2 d1_2 c1_3 d1_3 c1_4 d1_4 c1_5 d1_5 c1_6 d1_6 c1_7 d1_7
  go_wp2_with fail
  go_ret
  exact ⟨rfl, BB.out⟩

theorem info_Pane : (Try.prog.info? 130).map (fun i => (i.zero, i.size, i.bytes)) = some (some (.agg #[.int .i64 0, .int .i64 0, .int .i64 0, .slice none 0 0, .int .i64 0, .int .i64 0, .int .i64 0, .int .i64 0]), 8, 80) := by kernel_rfl
set_option maxRecDepth 100000 in
set_option maxHeartbeats 1000000 in
theorem to_PaneS (a : Option Addr) (len cap : Nat) (l : List PaneD) (fp : List Nat) (w : World) (hmax : szL Pane.sz l ≤ 2000000) (hrow : GRow 8 RPane w a len l fp) :
    Calls Try.prog 46 #[.slice a len cap] w (Copied 8 RPane w len l) := by
  have hlen := hrow.1
  have hsz : l.length ≤ 2000000 := by unfold szL at hmax; omega
  have hmk := run_make_n (P := Try.prog) 73 130 (.agg #[.int .i64 0, .int .i64 0, .int .i64 0, .slice none 0 0, .int .i64 0, .int .i64 0, .int .i64 0, .int .i64 0]) 8 80 Try.underlying73 info_Pane .i64 .i64 len (by omega) (by omega)
  have HM := Lib.hid hmax
  have HC := Lib.hid hrow
  have HL := Lib.hid hlen
  have HS := Lib.hid (show len ≤ 2000000 by omega)
  clear hrow hlen hsz hmax
  go_enter Try.func46, Try.ntmps46
  go_wp2_with fail
  have HZ := HS.out
  go_loopg [4] len (fun k i wr => ∃ j : Nat, j + k = len ∧ i = .int .i64 j ∧ Laying 8 RPane 130 [.int .i64 0, .int .i64 0, .int .i64 0, .slice none 0 0, .int .i64 0, .int .i64 0, .int .i64 0, .int .i64 0] l w j wr)
  case atStart => exact ⟨0, by omega, rfl, by have := Laying.start (k := 8) (R := RPane) (t := 130) (w := w) (zc := [.int .i64 0, .int .i64 0, .int .i64 0, .slice none 0 0, .int .i64 0, .int .i64 0, .int .i64 0, .int .i64 0]) (by decide) len HL.out.symm; simpa using this⟩
  case round =>
    obtain ⟨j, hj, rfl, hC⟩ := hrel
    clear hmk
    have HB := Lib.hid hC
    by_cases hlt : j < len
    · have hlt2 : (j : Int) < (len : Int) := by omega
      have h02 : (0 : Int) ≤ (j : Int) := by omega
      obtain ⟨b, off, x, f, cs, rfl, hbl, hx, hcl, hR, hc⟩ := HC.out.at hlt
      obtain ⟨h, rfl, hi⟩ := hR
      have c0 : wr.cell? ⟨b, off + j * 8, none⟩ = some (.int .i64 x.win) := (hC.below.cell (p := ⟨b, off + j * 8 + 0, none⟩) hbl).trans (hc 0 (by omega))
      have c1 : wr.cell? ⟨b, off + j * 8 + 1, none⟩ = some (.int .i64 x.mask) := (hC.below.cell (p := ⟨b, off + j * 8 + 1, none⟩) hbl).trans (hc 1 (by omega))
      have c2 : wr.cell? ⟨b, off + j * 8 + 2, none⟩ = some (.int .i64 x.start) := (hC.below.cell (p := ⟨b, off + j * 8 + 2, none⟩) hbl).trans (hc 2 (by omega))
      have c3 : wr.cell? ⟨b, off + j * 8 + 3, none⟩ = some (.slice h.keya h.keyl h.keyc) := (hC.below.cell (p := ⟨b, off + j * 8 + 3, none⟩) hbl).trans (hc 3 (by omega))
      have c4 : wr.cell? ⟨b, off + j * 8 + 4, none⟩ = some (.int .i64 x.a.n) := (hC.below.cell (p := ⟨b, off + j * 8 + 4, none⟩) hbl).trans (hc 4 (by omega))
      have c5 : wr.cell? ⟨b, off + j * 8 + 5, none⟩ = some (.int .i64 x.a.sm) := (hC.below.cell (p := ⟨b, off + j * 8 + 5, none⟩) hbl).trans (hc 5 (by omega))
      have c6 : wr.cell? ⟨b, off + j * 8 + 6, none⟩ = some (.int .i64 x.a.mn) := (hC.below.cell (p := ⟨b, off + j * 8 + 6, none⟩) hbl).trans (hc 6 (by omega))
      have c7 : wr.cell? ⟨b, off + j * 8 + 7, none⟩ = some (.int .i64 x.a.mx) := (hC.below.cell (p := ⟨b, off + j * 8 + 7, none⟩) hbl).trans (hc 7 (by omega))
      have HX := Lib.hid hx
      have HI := Lib.hid hi
      clear hc hx hi
      go_wp2_with fail
      refine (to_Pane x h f wr (by have := sz_elem_le Pane.sz l HX.out; have := HM.out; unfold szL at this; omega) (HI.out.below hC.below)).mono ?_
      rintro e w3 ⟨h', f', rfl, hi', hown, hb3⟩
      have d0 : w3.cell? ⟨w.heap.size, j * 8, none⟩ = some (.int .i64 0) := by have := (hb3.cell (p := ⟨w.heap.size, _, none⟩) hC.lt).trans (hC.cell rfl (by rw [HL.out]; omega) 0 (by omega)); simpa using this
      have g0 : w3.frozen? ⟨w.heap.size, j * 8, none⟩ = false := (hb3.frozen (p := ⟨w.heap.size, _, none⟩) hC.lt).trans (hC.frozen _)
      have d1 : w3.cell? ⟨w.heap.size, j * 8 + 1, none⟩ = some (.int .i64 0) := by have := (hb3.cell (p := ⟨w.heap.size, _, none⟩) hC.lt).trans (hC.cell rfl (by rw [HL.out]; omega) 1 (by omega)); simpa using this
      have g1 : w3.frozen? ⟨w.heap.size, j * 8 + 1, none⟩ = false := (hb3.frozen (p := ⟨w.heap.size, _, none⟩) hC.lt).trans (hC.frozen _)
      have d2 : w3.cell? ⟨w.heap.size, j * 8 + 2, none⟩ = some (.int .i64 0) := by have := (hb3.cell (p := ⟨w.heap.size, _, none⟩) hC.lt).trans (hC.cell rfl (by rw [HL.out]; omega) 2 (by omega)); simpa using this
      have g2 : w3.frozen? ⟨w.heap.size, j * 8 + 2, none⟩ = false := (hb3.frozen (p := ⟨w.heap.size, _, none⟩) hC.lt).trans (hC.frozen _)
      have d3 : w3.cell? ⟨w.heap.size, j * 8 + 3, none⟩ = some (.slice none 0 0) := by have := (hb3.cell (p := ⟨w.heap.size, _, none⟩) hC.lt).trans (hC.cell rfl (by rw [HL.out]; omega) 3 (by omega)); simpa using this
      have g3 : w3.frozen? ⟨w.heap.size, j * 8 + 3, none⟩ = false := (hb3.frozen (p := ⟨w.heap.size, _, none⟩) hC.lt).trans (hC.frozen _)
      have d4 : w3.cell? ⟨w.heap.size, j * 8 + 4, none⟩ = some (.int .i64 0) := by have := (hb3.cell (p := ⟨w.heap.size, _, none⟩) hC.lt).trans (hC.cell rfl (by rw [HL.out]; omega) 4 (by omega)); simpa using this
      have g4 : w3.frozen? ⟨w.heap.size, j * 8 + 4, none⟩ = false := (hb3.frozen (p := ⟨w.heap.size, _, none⟩) hC.lt).trans (hC.frozen _)
      have d5 : w3.cell? ⟨w.heap.size, j * 8 + 5, none⟩ = some (.int .i64 0) := by have := (hb3.cell (p := ⟨w.heap.size, _, none⟩) hC.lt).trans (hC.cell rfl (by rw [HL.out]; omega) 5 (by omega)); simpa using this
      have g5 : w3.frozen? ⟨w.heap.size, j * 8 + 5, none⟩ = false := (hb3.frozen (p := ⟨w.heap.size, _, none⟩) hC.lt).trans (hC.frozen _)
      have d6 : w3.cell? ⟨w.heap.size, j * 8 + 6, none⟩ = some (.int .i64 0) := by have := (hb3.cell (p := ⟨w.heap.size, _, none⟩) hC.lt).trans (hC.cell rfl (by rw [HL.out]; omega) 6 (by omega)); simpa using this
      have g6 : w3.frozen? ⟨w.heap.size, j * 8 + 6, none⟩ = false := (hb3.frozen (p := ⟨w.heap.size, _, none⟩) hC.lt).trans (hC.frozen _)
      have d7 : w3.cell? ⟨w.heap.size, j * 8 + 7, none⟩ = some (.int .i64 0) := by have := (hb3.cell (p := ⟨w.heap.size, _, none⟩) hC.lt).trans (hC.cell rfl (by rw [HL.out]; omega) 7 (by omega)); simpa using this
      have g7 : w3.frozen? ⟨w.heap.size, j * 8 + 7, none⟩ = false := (hb3.frozen (p := ⟨w.heap.size, _, none⟩) hC.lt).trans (hC.frozen _)
      have HI' := Lib.hid (And.intro hi' hown)
      have HB3 := Lib.hid hb3
      clear hC hb3 hi' hown c0 c1 c2 c3 c4 c5 c6 c7
      simp only [Pane.list]
      go_wp2_with fail
      go_roundg (len - (j + 1))
      case measure => omega
      case rel =>
        refine ⟨j + 1, by omega, by go_num, HB.out.step local_Pane rfl (by rw [HL.out]; omega) HX.out (cs := [.int .i64 x.win, .int .i64 x.mask, .int .i64 x.start, .slice h'.keya h'.keyl h'.keyc, .int .i64 x.a.n, .int .i64 x.a.sm, .int .i64 x.a.mn, .int .i64 x.a.mx]) rfl ⟨h', rfl, HI'.out.1⟩ HI'.out.2 HB3.out ?_ (((((((((Below.refl _ _).setCell (by simp) _).setCell (by simp) _).setCell (by simp) _).setCell (by simp) _).setCell (by simp) _).setCell (by simp) _).setCell (by simp) _).setCell (by simp) _) ?_⟩
        · intro L hL hl
          exact (Blk.put (Blk.put (Blk.put (Blk.put (Blk.put (Blk.put (Blk.put (Blk.put (Blk.start hL (j * 8)) (j * 8) (by simp) (by simp; omega) _) (j * 8 + 1) (by simp) (by simp; omega) _) (j * 8 + 2) (by simp) (by simp; omega) _) (j * 8 + 3) (by simp) (by simp; omega) _) (j * 8 + 4) (by simp) (by simp; omega) _) (j * 8 + 5) (by simp) (by simp; omega) _) (j * 8 + 6) (by simp) (by simp; omega) _) (j * 8 + 7) (by simp) (by simp; omega) _)
        · intro b hb
          rw [Below.heap_setCell _ _ _ b hb]; rw [Below.heap_setCell _ _ _ b hb]; rw [Below.heap_setCell _ _ _ b hb]; rw [Below.heap_setCell _ _ _ b hb]; rw [Below.heap_setCell _ _ _ b hb]; rw [Below.heap_setCell _ _ _ b hb]; rw [Below.heap_setCell _ _ _ b hb]; rw [Below.heap_setCell _ _ _ b hb]
    · clear hC
      go_wp2_with fail
      go_ret
      exact HB.out.done (by rw [HL.out]; omega) _ HL.out.symm

set_option maxRecDepth 100000 in
set_option maxHeartbeats 1000000 in
theorem sz_PaneS (a : Option Addr) (len cap : Nat) (l : List PaneD) (fp : List Nat) (n : Int) (w : World) (h0 : 0 ≤ n) (h1 : n ≤ 1048576) (hcap : len ≤ cap) (hm : cap ≤ 9223372036854775807) (hrow : GRow 8 RPane w a len l fp) :
    Calls Try.prog 43 #[.slice a len cap, .int .i64 n] w (Left n (szL Pane.sz l) w) := by
  have hl := hrow.1
  have HR := Lib.hid hrow
  have HL := Lib.hid hl
  clear hrow hl
  unfold Left szL
  by_cases h : (len : Int) ≤ n
  case neg =>
    rw [HL.out, if_neg (by omega)]
    go_enter Try.func43, Try.ntmps43
    go_wp2_with fail
    go_ret
    exact ⟨rfl, Below.refl _ _⟩
  rw [HL.out]
  obtain ⟨r, hr⟩ : ∃ r : Int, (if ((len + (l.map Pane.sz).sum : Nat) : Int) ≤ n then n - ((len + (l.map Pane.sz).sum : Nat) : Int) else -1) = r := ⟨_, rfl⟩
  rw [hr]
  have HE := Lib.hid hr
  clear hr
  go_enter Try.func43, Try.ntmps43
  go_wp2_with fail
  go_loopg [1, 5] len (fun k lft i wr => ∃ j : Nat, j + k = len ∧ i = .int .i64 j ∧ ∃ s : Int, lft = .int .i64 s ∧ 0 ≤ s ∧ s = n - ((len + ((l.take j).map Pane.sz).sum : Nat) : Int) ∧ Below w.heap.size w wr)
  case atStart => exact ⟨0, by omega, rfl, _, rfl, by omega, by simp, Below.refl _ _⟩
  case round =>
    obtain ⟨j, hj, rfl, s, rfl, hs0, hs, hb⟩ := hrel
    have HB := Lib.hid hb
    have HS := Lib.hid hs
    have hs1 : s ≤ 1048576 := by omega
    clear hs
    by_cases hlt : j < len
    · have hlt2 : (j : Int) < (len : Int) := by omega
      have h02 : (0 : Int) ≤ (j : Int) := by omega
      obtain ⟨b, off, x, f, cs, rfl, hbl, hx, hcl, hR, hc⟩ := HR.out.at hlt
      obtain ⟨h, rfl, hi⟩ := hR
      have c0 : wr.cell? ⟨b, off + j * 8, none⟩ = some (.int .i64 x.win) := (hb.cell (p := ⟨b, off + j * 8 + 0, none⟩) hbl).trans (hc 0 (by omega))
      have c1 : wr.cell? ⟨b, off + j * 8 + 1, none⟩ = some (.int .i64 x.mask) := (hb.cell (p := ⟨b, off + j * 8 + 1, none⟩) hbl).trans (hc 1 (by omega))
      have c2 : wr.cell? ⟨b, off + j * 8 + 2, none⟩ = some (.int .i64 x.start) := (hb.cell (p := ⟨b, off + j * 8 + 2, none⟩) hbl).trans (hc 2 (by omega))
      have c3 : wr.cell? ⟨b, off + j * 8 + 3, none⟩ = some (.slice h.keya h.keyl h.keyc) := (hb.cell (p := ⟨b, off + j * 8 + 3, none⟩) hbl).trans (hc 3 (by omega))
      have c4 : wr.cell? ⟨b, off + j * 8 + 4, none⟩ = some (.int .i64 x.a.n) := (hb.cell (p := ⟨b, off + j * 8 + 4, none⟩) hbl).trans (hc 4 (by omega))
      have c5 : wr.cell? ⟨b, off + j * 8 + 5, none⟩ = some (.int .i64 x.a.sm) := (hb.cell (p := ⟨b, off + j * 8 + 5, none⟩) hbl).trans (hc 5 (by omega))
      have c6 : wr.cell? ⟨b, off + j * 8 + 6, none⟩ = some (.int .i64 x.a.mn) := (hb.cell (p := ⟨b, off + j * 8 + 6, none⟩) hbl).trans (hc 6 (by omega))
      have c7 : wr.cell? ⟨b, off + j * 8 + 7, none⟩ = some (.int .i64 x.a.mx) := (hb.cell (p := ⟨b, off + j * 8 + 7, none⟩) hbl).trans (hc 7 (by omega))
      have HT := Lib.hid (sum_take_succ Pane.sz l hx)
      have HU := Lib.hid (sum_take_le Pane.sz l (j + 1))
      have HX := Lib.hid hx
      have HI := Lib.hid (hi.below hb)
      clear hb hc hx hi
      go_wp2_with fail
      refine (sz_Pane x h f s wr hs0 hs1 HI.out).mono ?_
      rintro e w3 ⟨rfl, hb3⟩
      have HB3 := Lib.hid (HB.out.trans (hb3.mono HB.out.size))
      clear hb3 c0 c1 c2 c3 c4 c5 c6 c7
      by_cases hle : (Pane.sz x : Int) ≤ s
      · rw [if_pos hle]
        go_wp2_with fail
        go_roundg (len - (j + 1))
        case measure => omega
        case rel => exact ⟨j + 1, by omega, by go_num, _, rfl, by omega, by rw [HT.out]; have := HS.out; omega, HB3.out⟩
      · rw [if_neg hle]
        go_wp2_with fail
        go_ret
        exact ⟨ret_int (by rw [← HE.out, if_neg (by have := HS.out; have := HT.out; have := HU.out; omega)]), HB3.out⟩
    · clear hb
      obtain rfl : j = len := by omega
      have hs := HS.out
      rw [List.take_of_length_le (by rw [HL.out]; omega)] at hs
      have HQ := Lib.hid hs
      clear hs HS
      go_wp2_with fail
      go_ret
      exact ⟨ret_int (by rw [← HE.out, if_pos (by have := HQ.out; omega), HQ.out]), HB.out⟩

set_option maxRecDepth 100000 in
set_option maxHeartbeats 1000000 in
theorem eq_PaneS (a a' : Option Addr) (len cap cap' : Nat) (l : List PaneD) (fp fp' : List Nat) (w : World) (hmax : szL Pane.sz l ≤ 2000000) (hrow : GRow 8 RPane w a len l fp) (hrow' : GRow 8 RPane w a' len l fp') :
    Calls Try.prog 49 #[.slice a len cap, .slice a' len cap'] w fun e w' => e = .returned (.bool true) ∧ Below w.heap.size w w' := by
  have hsz : l.length ≤ 2000000 := by unfold szL at hmax; omega
  have hlm : len ≤ 2000000 := by rw [← hrow.1]; exact hsz
  have HC := Lib.hid hrow
  have HC' := Lib.hid hrow'
  have HM := Lib.hid hmax
  clear hrow hrow' hmax hsz
  go_enter Try.func49, Try.ntmps49
  go_wp2_with fail
  go_loopg [5] len (fun k i wr => ∃ j : Nat, j + k = len ∧ i = .int .i64 j ∧ Below w.heap.size w wr)
  case atStart => exact ⟨0, by omega, rfl, Below.refl _ _⟩
  case round =>
    obtain ⟨j, hj, rfl, hb⟩ := hrel
    have HB := Lib.hid hb
    by_cases hlt : j < len
    · have hlt2 : (j : Int) < (len : Int) := by omega
      have h02 : (0 : Int) ≤ (j : Int) := by omega
      obtain ⟨b, off, x, f, cs, rfl, hbl, hx, hcl, hR, hc⟩ := HC.out.at hlt
      obtain ⟨b', off', x', f', cs', rfl, hbl', hx', hcl', hR', hc'⟩ := HC'.out.at hlt
      obtain rfl : x = x' := by rw [hx] at hx'; exact Option.some.inj hx'
      obtain ⟨h, rfl, hi⟩ := hR
      obtain ⟨h', rfl, hi'⟩ := hR'
      have c0 : wr.cell? ⟨b, off + j * 8, none⟩ = some (.int .i64 x.win) := by have := (hb.cell (p := ⟨b, off + j * 8 + 0, none⟩) hbl).trans (hc 0 (by omega)); simpa [Pane.list] using this
      have c1 : wr.cell? ⟨b, off + j * 8 + 1, none⟩ = some (.int .i64 x.mask) := by have := (hb.cell (p := ⟨b, off + j * 8 + 1, none⟩) hbl).trans (hc 1 (by omega)); simpa [Pane.list] using this
      have c2 : wr.cell? ⟨b, off + j * 8 + 2, none⟩ = some (.int .i64 x.start) := by have := (hb.cell (p := ⟨b, off + j * 8 + 2, none⟩) hbl).trans (hc 2 (by omega)); simpa [Pane.list] using this
      have c3 : wr.cell? ⟨b, off + j * 8 + 3, none⟩ = some (.slice h.keya h.keyl h.keyc) := by have := (hb.cell (p := ⟨b, off + j * 8 + 3, none⟩) hbl).trans (hc 3 (by omega)); simpa [Pane.list] using this
      have c4 : wr.cell? ⟨b, off + j * 8 + 4, none⟩ = some (.int .i64 x.a.n) := by have := (hb.cell (p := ⟨b, off + j * 8 + 4, none⟩) hbl).trans (hc 4 (by omega)); simpa [Pane.list] using this
      have c5 : wr.cell? ⟨b, off + j * 8 + 5, none⟩ = some (.int .i64 x.a.sm) := by have := (hb.cell (p := ⟨b, off + j * 8 + 5, none⟩) hbl).trans (hc 5 (by omega)); simpa [Pane.list] using this
      have c6 : wr.cell? ⟨b, off + j * 8 + 6, none⟩ = some (.int .i64 x.a.mn) := by have := (hb.cell (p := ⟨b, off + j * 8 + 6, none⟩) hbl).trans (hc 6 (by omega)); simpa [Pane.list] using this
      have c7 : wr.cell? ⟨b, off + j * 8 + 7, none⟩ = some (.int .i64 x.a.mx) := by have := (hb.cell (p := ⟨b, off + j * 8 + 7, none⟩) hbl).trans (hc 7 (by omega)); simpa [Pane.list] using this
      have c0' : wr.cell? ⟨b', off' + j * 8, none⟩ = some (.int .i64 x.win) := by have := (hb.cell (p := ⟨b', off' + j * 8 + 0, none⟩) hbl').trans (hc' 0 (by omega)); simpa [Pane.list] using this
      have c1' : wr.cell? ⟨b', off' + j * 8 + 1, none⟩ = some (.int .i64 x.mask) := by have := (hb.cell (p := ⟨b', off' + j * 8 + 1, none⟩) hbl').trans (hc' 1 (by omega)); simpa [Pane.list] using this
      have c2' : wr.cell? ⟨b', off' + j * 8 + 2, none⟩ = some (.int .i64 x.start) := by have := (hb.cell (p := ⟨b', off' + j * 8 + 2, none⟩) hbl').trans (hc' 2 (by omega)); simpa [Pane.list] using this
      have c3' : wr.cell? ⟨b', off' + j * 8 + 3, none⟩ = some (.slice h'.keya h'.keyl h'.keyc) := by have := (hb.cell (p := ⟨b', off' + j * 8 + 3, none⟩) hbl').trans (hc' 3 (by omega)); simpa [Pane.list] using this
      have c4' : wr.cell? ⟨b', off' + j * 8 + 4, none⟩ = some (.int .i64 x.a.n) := by have := (hb.cell (p := ⟨b', off' + j * 8 + 4, none⟩) hbl').trans (hc' 4 (by omega)); simpa [Pane.list] using this
      have c5' : wr.cell? ⟨b', off' + j * 8 + 5, none⟩ = some (.int .i64 x.a.sm) := by have := (hb.cell (p := ⟨b', off' + j * 8 + 5, none⟩) hbl').trans (hc' 5 (by omega)); simpa [Pane.list] using this
      have c6' : wr.cell? ⟨b', off' + j * 8 + 6, none⟩ = some (.int .i64 x.a.mn) := by have := (hb.cell (p := ⟨b', off' + j * 8 + 6, none⟩) hbl').trans (hc' 6 (by omega)); simpa [Pane.list] using this
      have c7' : wr.cell? ⟨b', off' + j * 8 + 7, none⟩ = some (.int .i64 x.a.mx) := by have := (hb.cell (p := ⟨b', off' + j * 8 + 7, none⟩) hbl').trans (hc' 7 (by omega)); simpa [Pane.list] using this
      have HI := Lib.hid (And.intro (hi.below hb) (hi'.below hb))
      have HX := Lib.hid hx
      clear hb hc hc' hx hx' hi hi'
      go_wp2_with fail
      go_still_tail 8, (by kernel_rfl)
      change wpList _ _ _ _ _ wr.drew
      have HB2 := Lib.hid (HB.out.drew)
      have HI2 := Lib.hid (And.intro (HI.out.1.keep (w' := wr.drew) (fun _ _ => rfl)) (HI.out.2.keep (w' := wr.drew) (fun _ _ => rfl)))
      clear HI
      generalize wr.drew = wd at *
      go_wp2_with fail
      refine (eq_Pane x h h' _ _ _ (by have := sz_elem_le Pane.sz l HX.out; have := HM.out; unfold szL at this; omega) HI2.out.1 HI2.out.2).mono ?_
      rintro e w3 ⟨rfl, hb3⟩
      have HB3 := Lib.hid (HB2.out.trans (hb3.mono HB2.out.size))
      clear hb3
      go_wp2_with fail
      go_roundg (len - (j + 1))
      case measure => omega
      case rel => exact ⟨j + 1, by omega, by go_num, HB3.out⟩
    · clear hb
      go_wp2_with fail
      go_ret
      exact ⟨rfl, HB.out⟩

end Go.Proofs.Ytemefahhogdoaaa.dat
