/-
  DATA: Config, Event, Part, []Part: the notions; THE CONTRACTS OF the laws' own functions (copies, sizes, equality) over them. Written by tools/gendata.py.
-/
import Derived.Test.YtoglclmaacjdaaaDataInts
namespace Go.Proofs.Ytoglclmaacjdaaa.dat
open Go.RowKit Go.Proofs.Ytoglclmaacjdaaa.win
set_option linter.unusedVariables false

structure ConfD where
  d : Int
  ws : List (Int × Int)
  ms : List Int
  dl : Int
  lt : Int
/-- The slices' own cells. -/
structure ConfigH where
  wsa : Option Addr
  wsl : Nat
  wsc : Nat
  msa : Option Addr
  msl : Nat
  msc : Nat
def Config.list (x : ConfD) (h : ConfigH) : List Value := [.int .i64 x.d, .slice h.wsa h.wsl h.wsc, .slice h.msa h.msl h.msc, .int .i64 x.dl, .int .i64 x.lt]
def Config.Is (w : World) (x : ConfD) (h : ConfigH) (fp : List Nat) : Prop := ∃ f0 f1 : List Nat, fp = f0 ++ f1 ∧ GRow 2 RWin w h.wsa h.wsl x.ws f0 ∧ h.wsl ≤ h.wsc ∧ h.wsc ≤ 9223372036854775807 ∧ GRow 1 RInt w h.msa h.msl x.ms f1 ∧ h.msl ≤ h.msc ∧ h.msc ≤ 9223372036854775807
def RConfig : Rel ConfD := fun w cs x fp => ∃ h : ConfigH, cs = Config.list x h ∧ Config.Is w x h fp
theorem Config.Is.keep {w w' : World} {x : ConfD} {h : ConfigH} {fp : List Nat} (hi : Config.Is w x h fp) (hf : ∀ b ∈ fp, w'.heap[b]? = w.heap[b]?) : Config.Is w' x h fp := by
  obtain ⟨f0, f1, rfl, r0, u0, v0, r1, u1, v1⟩ := hi
  exact ⟨f0, f1, rfl, r0.keep local_Win (fun b hb => hf b (by simp [hb])), u0, v0, r1.keep local_int (fun b hb => hf b (by simp [hb])), u1, v1⟩
theorem Config.Is.lt {w : World} {x : ConfD} {h : ConfigH} {fp : List Nat} (hi : Config.Is w x h fp) : ∀ b ∈ fp, b < w.heap.size := by
  obtain ⟨f0, f1, rfl, r0, u0, v0, r1, u1, v1⟩ := hi
  intro b hb
  simp only [List.mem_append] at hb
  rcases hb with hb | hb
  · exact r0.lt local_Win b hb
  · exact r1.lt local_int b hb
theorem Config.Is.below {w w' : World} {x : ConfD} {h : ConfigH} {fp : List Nat} (hi : Config.Is w x h fp) (hb : Below w.heap.size w w') : Config.Is w' x h fp := hi.keep fun b hb' => hb.block b (hi.lt b hb')
theorem local_Config : Local RConfig := ⟨fun ⟨h, e, hi⟩ hf => ⟨h, e, hi.keep hf⟩, fun ⟨_, _, hi⟩ => hi.lt⟩
def Config.sz (x : ConfD) : Nat := x.ws.length + x.ms.length

def CopiedConfig (w : World) (x : ConfD) (e : Ending) (w' : World) : Prop := ∃ (h : ConfigH) (fp : List Nat), e = .returned (.agg (Config.list x h).toArray) ∧ Config.Is w' x h fp ∧ Own w.heap.size w' fp ∧ Below w.heap.size w w'
set_option maxRecDepth 100000 in
set_option maxHeartbeats 2000000 in
theorem to_Config (x : ConfD) (h : ConfigH) (fp : List Nat) (w : World) (hmax : Config.sz x ≤ 2000000) (hin : Config.Is w x h fp) : Calls Try.prog 31 #[.agg (Config.list x h).toArray] w (CopiedConfig w x) := by
  obtain ⟨f0, f1, rfl, r0, u0, v0, r1, u1, v1⟩ := hin
  have R0 := Lib.hid r0
  have R1 := Lib.hid r1
  have HM := Lib.hid hmax
  unfold Config.sz at HM
  have U0 := Lib.hid (And.intro u0 v0)
  have U1 := Lib.hid (And.intro u1 v1)
  clear hmax r0 u0 v0 r1 u1 v1
  simp only [Config.list]
  go_enter Try.func31, Try.ntmps31
  go_wp2_with fail
  refine calls_gen (fun W => Below w.heap.size w W ∧ w.heap.size + 3 ≤ W.heap.size ∧ Blk W w.heap.size 54 [.int .i64 x.d, .slice h.wsa h.wsl h.wsc, .slice h.msa h.msl h.msc, .int .i64 x.dl, .int .i64 x.lt] ∧ Blk W (w.heap.size + 1) 63 [.int .i64 0, .slice none 0 0, .slice none 0 0, .int .i64 0, .int .i64 0] ∧ Blk W (w.heap.size + 1 + 1) 63 [.int .i64 x.d, .slice none 0 0, .slice none 0 0, .int .i64 0, .int .i64 0] ∧ Own (w.heap.size + 3) W []) ?_ ?_
  · refine ⟨?_, ?_, ?_, ?_, ?_, ?_⟩
    · repeat (first | exact Below.refl _ _ | refine Below.setCell ?_ (by first | omega | (simp; done) | (simp; omega)) _ | refine Below.alloc ?_ (by first | omega | (simp; done) | (simp; omega)) _ | apply Below.drew)
    · simp
    · with_reducible (repeat (first | (refine blk_new_at _ _ _ _ ?_; first | rfl | (simp; done)) | refine Blk.alloc ?_ _ | apply Blk.drew | refine Blk.setOther ?_ (by first | (simp; done) | (simp; omega)) _))
    · with_reducible (repeat (first | (refine blk_new_at _ _ _ _ ?_; first | rfl | (simp; done)) | refine Blk.alloc ?_ _ | apply Blk.drew | refine Blk.setOther ?_ (by first | (simp; done) | (simp; omega)) _))
    · with_reducible (repeat (first | (refine blk_new_at _ _ _ _ ?_; first | rfl | (simp; done)) | refine Blk.alloc ?_ _ | apply Blk.drew | refine Blk.setOther ?_ (by first | (simp; done) | (simp; omega)) _))
    · exact Own.nil
  rintro W0 ⟨b, z, k0, k1, k2, ow⟩
  refine (to_WinS h.wsa h.wsl h.wsc x.ws _ W0 (by have := HM.out; omega) (R0.out.below local_Win b)).mono ?_
  rintro e V0 ⟨g0, F0, rfl, row, own, bel⟩
  have BB := Lib.hid (b.trans (bel.mono b.size))
  have ZZ := Lib.hid (Nat.le_trans z bel.size)
  have K0 := Lib.hid (k0.below bel k0.lt)
  have K1 := Lib.hid (k1.below bel k1.lt)
  have K2 := Lib.hid (k2.below bel k2.lt)
  have Q0 := Lib.hid row
  have OW := Lib.hid (own.mono z)
  clear b z k0 k1 k2  ow bel row own
  have c0_0 := K0.out.cell 0
  have c1_0 := K1.out.cell 0
  have c2_0 := K2.out.cell 0
  have c0_1 := K0.out.cell 1
  have c1_1 := K1.out.cell 1
  have c2_1 := K2.out.cell 1
  have c0_2 := K0.out.cell 2
  have c1_2 := K1.out.cell 2
  have c2_2 := K2.out.cell 2
  have c0_3 := K0.out.cell 3
  have c1_3 := K1.out.cell 3
  have c2_3 := K2.out.cell 3
  have c0_4 := K0.out.cell 4
  have c1_4 := K1.out.cell 4
  have c2_4 := K2.out.cell 4
  have f1 := K1.out.frozen
  have f2 := K2.out.frozen
  simp at c0_0 c0_1 c0_2 c0_3 c0_4 c1_0 c1_1 c1_2 c1_3 c1_4 c2_0 c2_1 c2_2 c2_3 c2_4
  skip
  go_wp2_with fail
  refine calls_gen (fun W => Below w.heap.size w W ∧ w.heap.size + 3 ≤ W.heap.size ∧ Blk W w.heap.size 54 [.int .i64 x.d, .slice h.wsa h.wsl h.wsc, .slice h.msa h.msl h.msc, .int .i64 x.dl, .int .i64 x.lt] ∧ Blk W (w.heap.size + 1) 63 [.int .i64 0, .slice none 0 0, .slice none 0 0, .int .i64 0, .int .i64 0] ∧ Blk W (w.heap.size + 1 + 1) 63 [.int .i64 x.d, .slice (some ⟨g0, 0, none⟩) h.wsl h.wsl, .slice none 0 0, .int .i64 0, .int .i64 0] ∧ GRow 2 RWin W (some ⟨g0, 0, none⟩) h.wsl x.ws F0 ∧ Own (w.heap.size + 3) W (F0)) ?_ ?_
  · refine ⟨?_, ?_, ?_, ?_, ?_, ?_, ?_⟩
    · have hz := ZZ.out
      repeat (first | (with_reducible exact BB.out) | refine Below.setCell ?_ (by simp; try omega) _)
    · have hz := ZZ.out
      simpa using hz
    · (apply Blk.of_eq; (repeat (first | (with_reducible exact K0.out) | (with_reducible apply Blk.set) | ((with_reducible apply Blk.other); · first | (simp; done) | (simp; omega)) | (with_reducible apply Blk.drew))); rfl)
    · (apply Blk.of_eq; (repeat (first | (with_reducible exact K1.out) | (with_reducible apply Blk.set) | ((with_reducible apply Blk.other); · first | (simp; done) | (simp; omega)) | (with_reducible apply Blk.drew))); rfl)
    · (apply Blk.of_eq; (repeat (first | (with_reducible exact K2.out) | (with_reducible apply Blk.set) | ((with_reducible apply Blk.other); · first | (simp; done) | (simp; omega)) | (with_reducible apply Blk.drew))); rfl)
    · repeat (first | (with_reducible exact Q0.out) | refine GRow.set local_Win ?_ (fun b hb => by have := (OW.out.2 b (by simp [hb])).1; simp; omega) _ _)
    · with_reducible (repeat (first | exact OW.out | refine Own.set ?_ _ _ _))
  clear BB ZZ K0 K1 K2 Q0 OW c0_0 c0_1 c0_2 c0_3 c0_4 c1_0 c1_1 c1_2 c1_3 c1_4 c2_0 c2_1 c2_2 c2_3 c2_4 f1 f2
  rintro W1 ⟨b, z, k0, k1, k2, q0, ow⟩
  refine (to_IntS h.msa h.msl h.msc x.ms _ W1 (by have := HM.out; omega) (R1.out.below local_int b)).mono ?_
  rintro e V1 ⟨g1, F1, rfl, row, own, bel⟩
  have BB := Lib.hid (b.trans (bel.mono b.size))
  have ZZ := Lib.hid (Nat.le_trans z bel.size)
  have K0 := Lib.hid (k0.below bel k0.lt)
  have K1 := Lib.hid (k1.below bel k1.lt)
  have K2 := Lib.hid (k2.below bel k2.lt)
  have Q0 := Lib.hid (q0.below local_Win bel)
  have Q1 := Lib.hid row
  have OW := Lib.hid ((ow.below bel).append own (fun b hb => (ow.2 b hb).2.lt) (by omega))
  clear b z k0 k1 k2 q0 ow bel row own
  have c0_0 := K0.out.cell 0
  have c1_0 := K1.out.cell 0
  have c2_0 := K2.out.cell 0
  have c0_1 := K0.out.cell 1
  have c1_1 := K1.out.cell 1
  have c2_1 := K2.out.cell 1
  have c0_2 := K0.out.cell 2
  have c1_2 := K1.out.cell 2
  have c2_2 := K2.out.cell 2
  have c0_3 := K0.out.cell 3
  have c1_3 := K1.out.cell 3
  have c2_3 := K2.out.cell 3
  have c0_4 := K0.out.cell 4
  have c1_4 := K1.out.cell 4
  have c2_4 := K2.out.cell 4
  have f1 := K1.out.frozen
  have f2 := K2.out.frozen
  simp at c0_0 c0_1 c0_2 c0_3 c0_4 c1_0 c1_1 c1_2 c1_3 c1_4 c2_0 c2_1 c2_2 c2_3 c2_4
  skip
  go_wp2_with fail
  refine body_gen (fun W => Below w.heap.size w W ∧ Blk W (w.heap.size + 1) 63 [.int .i64 x.d, .slice (some ⟨g0, 0, none⟩) h.wsl h.wsl, .slice (some ⟨g1, 0, none⟩) h.msl h.msl, .int .i64 x.dl, .int .i64 x.lt] ∧ GRow 2 RWin W (some ⟨g0, 0, none⟩) h.wsl x.ws F0 ∧ GRow 1 RInt W (some ⟨g1, 0, none⟩) h.msl x.ms F1 ∧ Own (w.heap.size + 3) W (F0 ++ F1)) ?_ ?_
  · refine ⟨?_, ?_, ?_, ?_, ?_⟩
    · have hz := ZZ.out
      repeat (first | (with_reducible exact BB.out) | refine Below.setCell ?_ (by simp; try omega) _)
    · (apply Blk.of_eq; (repeat (first | (with_reducible exact K1.out) | (with_reducible apply Blk.set) | ((with_reducible apply Blk.other); · first | (simp; done) | (simp; omega)) | (with_reducible apply Blk.drew))); rfl)
    · repeat (first | (with_reducible exact Q0.out) | refine GRow.set local_Win ?_ (fun b hb => by have := (OW.out.2 b (by simp [hb])).1; simp; omega) _ _)
    · repeat (first | (with_reducible exact Q1.out) | refine GRow.set local_int ?_ (fun b hb => by have := (OW.out.2 b (by simp [hb])).1; simp; omega) _ _)
    · with_reducible (repeat (first | exact OW.out | refine Own.set ?_ _ _ _))
  clear BB ZZ K0 K1 K2 Q0 Q1 OW c0_0 c0_1 c0_2 c0_3 c0_4 c1_0 c1_1 c1_2 c1_3 c1_4 c2_0 c2_1 c2_2 c2_3 c2_4 f1 f2
  rintro W ⟨b, k1, q0, q1, ow⟩
  have c1_0 := k1.cell 0
  have c1_1 := k1.cell 1
  have c1_2 := k1.cell 2
  have c1_3 := k1.cell 3
  have c1_4 := k1.cell 4
  simp at c1_0 c1_1 c1_2 c1_3 c1_4
  refine bodyPost_ret (v := .agg (Config.list x ⟨some ⟨g0, 0, none⟩, h.wsl, h.wsl, some ⟨g1, 0, none⟩, h.msl, h.msl⟩).toArray) (by simp [results, Try.results31, go_sem, c1_0, c1_1, c1_2, c1_3, c1_4, Config.list]) rfl ?_
  exact ⟨_, F0 ++ F1, rfl, ⟨F0, F1, rfl, q0, Nat.le_refl _, Nat.le_trans U0.out.1 U0.out.2, q1, Nat.le_refl _, Nat.le_trans U1.out.1 U1.out.2⟩, ow.mono (by omega), b⟩

set_option maxRecDepth 100000 in
set_option maxHeartbeats 2000000 in
theorem sz_Config (x : ConfD) (h : ConfigH) (fp : List Nat) (n : Int) (w : World) (h0 : 0 ≤ n) (h1 : n ≤ 1048576) (hin : Config.Is w x h fp) : Calls Try.prog 28 #[.agg (Config.list x h).toArray, .int .i64 n] w (Left n (Config.sz x) w) := by
  obtain ⟨f0, f1, rfl, r0, u0, v0, r1, u1, v1⟩ := hin
  have R0 := Lib.hid r0
  clear r0
  have R1 := Lib.hid r1
  clear r1
  unfold Left
  obtain ⟨r, hr⟩ : ∃ r : Int, (if ((Config.sz x : Nat) : Int) ≤ n then n - ((Config.sz x : Nat) : Int) else -1) = r := ⟨_, rfl⟩
  rw [hr]
  unfold Config.sz at hr
  have HE := Lib.hid hr
  clear hr
  simp only [Config.list]
  go_enter Try.func28, Try.ntmps28
  go_wp2_with fail
  refine calls_gen (fun W => Below w.heap.size w W ∧ Blk W w.heap.size 54 [.int .i64 x.d, .slice h.wsa h.wsl h.wsc, .slice h.msa h.msl h.msc, .int .i64 x.dl, .int .i64 x.lt]) ⟨by repeat (first | exact Below.refl _ _ | refine Below.setCell ?_ (by first | omega | (simp; done) | (simp; omega)) _ | refine Below.alloc ?_ (by first | omega | (simp; done) | (simp; omega)) _ | apply Below.drew), by with_reducible (repeat (first | (refine blk_new_at _ _ _ _ ?_; first | rfl | (simp; done)) | refine Blk.alloc ?_ _ | apply Blk.drew | refine Blk.setOther ?_ (by first | (simp; done) | (simp; omega)) _))⟩ ?_
  rintro W0 ⟨b, k⟩
  have BB := Lib.hid b
  have KK := Lib.hid k
  clear b k
  refine (sz_WinS h.wsa h.wsl h.wsc x.ws _ _ W0 h0 h1 u0 v0 (R0.out.below local_Win BB.out)).mono ?_
  rintro e V0 ⟨rfl, b⟩
  have B0 := Lib.hid (BB.out.trans (b.mono BB.out.size))
  have K0 := Lib.hid (KK.out.below b KK.out.lt)
  clear b BB KK
  have BB := B0
  have KK := K0
  clear B0 K0
  have c0_0 := KK.out.cell 0
  have c0_1 := KK.out.cell 1
  have c0_2 := KK.out.cell 2
  have c0_3 := KK.out.cell 3
  have c0_4 := KK.out.cell 4
  simp at c0_0 c0_1 c0_2 c0_3 c0_4
  by_cases g0 : ((x.ws.length : Nat) : Int) ≤ n
  case neg =>
    rw [if_neg g0]
    go_wp2_with fail
    go_ret
    exact ⟨ret_int (by rw [← HE.out, if_neg (by omega)]), BB.out⟩
  rw [if_pos g0]
  go_wp2_with fail
  refine (sz_IntS h.msa h.msl h.msc x.ms _ _ V0 (by omega) (by omega) u1 v1 (R1.out.below local_int BB.out)).mono ?_
  rintro e V1 ⟨rfl, b⟩
  have B1 := Lib.hid (BB.out.trans (b.mono BB.out.size))
  have K1 := Lib.hid (KK.out.below b KK.out.lt)
  clear b BB KK
  have BB := B1
  have KK := K1
  clear B1 K1
  have c1_0 := KK.out.cell 0
  have c1_1 := KK.out.cell 1
  have c1_2 := KK.out.cell 2
  have c1_3 := KK.out.cell 3
  have c1_4 := KK.out.cell 4
  simp at c1_0 c1_1 c1_2 c1_3 c1_4
  by_cases g1 : ((x.ms.length : Nat) : Int) ≤ n - ((x.ws.length : Nat) : Int)
  case neg =>
    rw [if_neg g1]
    go_wp2_with fail
    go_ret
    exact ⟨ret_int (by rw [← HE.out, if_neg (by omega)]), BB.out⟩
  rw [if_pos g1]
  go_wp2_with fail
  go_ret
  exact ⟨ret_int (by rw [← HE.out, if_pos (by omega)]; try omega), BB.out⟩

set_option maxRecDepth 100000 in
set_option maxHeartbeats 2000000 in
theorem eq_Config (x : ConfD) (h h' : ConfigH) (fp fp' : List Nat) (w : World) (hmax : Config.sz x ≤ 2000000) (hin : Config.Is w x h fp) (hin' : Config.Is w x h' fp') : Calls Try.prog 34 #[.agg (Config.list x h).toArray, .agg (Config.list x h').toArray] w fun e w' => e = .returned (.bool true) ∧ Below w.heap.size w w' := by
  obtain ⟨f0, f1, rfl, r0, u0, v0, r1, u1, v1⟩ := hin
  obtain ⟨f0', f1', rfl, r0', u0', v0', r1', u1', v1'⟩ := hin'
  have R0 := Lib.hid (And.intro r0 r0')
  have e0 : h.wsl = h'.wsl := r0.1.symm.trans r0'.1
  have R1 := Lib.hid (And.intro r1 r1')
  have e1 : h.msl = h'.msl := r1.1.symm.trans r1'.1
  have HM := Lib.hid hmax
  unfold Config.sz at HM
  clear hmax r0 u0 v0 r0' u0' v0' r1 u1 v1 r1' u1' v1'
  obtain ⟨m0, y0⟩ : ∃ m, h.wsl = m := ⟨_, rfl⟩
  obtain ⟨m1, y1⟩ : ∃ m, h.msl = m := ⟨_, rfl⟩
  simp only [Config.list]
  rw [y0] at e0 R0 ⊢
  rw [← e0] at R0 ⊢
  clear e0 y0
  rw [y1] at e1 R1 ⊢
  rw [← e1] at R1 ⊢
  clear e1 y1
  go_enter Try.func34, Try.ntmps34
  go_wp2_with fail
  refine calls_gen (fun W => Below w.heap.size w W ∧ Blk W w.heap.size 63 [.int .i64 x.d, .slice h.wsa m0 h.wsc, .slice h.msa m1 h.msc, .int .i64 x.dl, .int .i64 x.lt] ∧ Blk W (w.heap.size + 1) 63 [.int .i64 x.d, .slice h'.wsa m0 h'.wsc, .slice h'.msa m1 h'.msc, .int .i64 x.dl, .int .i64 x.lt]) ⟨by repeat (first | exact Below.refl _ _ | refine Below.setCell ?_ (by first | omega | (simp; done) | (simp; omega)) _ | refine Below.alloc ?_ (by first | omega | (simp; done) | (simp; omega)) _ | apply Below.drew), by with_reducible (repeat (first | (refine blk_new_at _ _ _ _ ?_; first | rfl | (simp; done)) | refine Blk.alloc ?_ _ | apply Blk.drew | refine Blk.setOther ?_ (by first | (simp; done) | (simp; omega)) _)), by with_reducible (repeat (first | (refine blk_new_at _ _ _ _ ?_; first | rfl | (simp; done)) | refine Blk.alloc ?_ _ | apply Blk.drew | refine Blk.setOther ?_ (by first | (simp; done) | (simp; omega)) _))⟩ ?_
  rintro W0 ⟨b, k, q⟩
  have BB := Lib.hid b
  have KK := Lib.hid k
  have QQ := Lib.hid q
  clear b k q
  refine (eq_WinS h.wsa h'.wsa m0 h.wsc h'.wsc x.ws _ _ W0 (by have := HM.out; omega) (R0.out.1.below local_Win BB.out) (R0.out.2.below local_Win BB.out)).mono ?_
  rintro e V0 ⟨rfl, b⟩
  have B0 := Lib.hid (BB.out.trans (b.mono BB.out.size))
  have K0 := Lib.hid (KK.out.below b KK.out.lt)
  have Q0 := Lib.hid (QQ.out.below b QQ.out.lt)
  clear b BB KK QQ
  have BB := B0
  have KK := K0
  have QQ := Q0
  clear B0 K0 Q0
  have c0_0 := KK.out.cell 0
  have d0_0 := QQ.out.cell 0
  have c0_1 := KK.out.cell 1
  have d0_1 := QQ.out.cell 1
  have c0_2 := KK.out.cell 2
  have d0_2 := QQ.out.cell 2
  have c0_3 := KK.out.cell 3
  have d0_3 := QQ.out.cell 3
  have c0_4 := KK.out.cell 4
  have d0_4 := QQ.out.cell 4
  simp at c0_0 d0_0 c0_1 d0_1 c0_2 d0_2 c0_3 d0_3 c0_4 d0_4
  go_wp2_with fail
  refine (eq_IntS h.msa h'.msa m1 h.msc h'.msc x.ms _ _ V0 (by have := HM.out; omega) (R1.out.1.below local_int BB.out) (R1.out.2.below local_int BB.out)).mono ?_
  rintro e V1 ⟨rfl, b⟩
  have B1 := Lib.hid (BB.out.trans (b.mono BB.out.size))
  have K1 := Lib.hid (KK.out.below b KK.out.lt)
  have Q1 := Lib.hid (QQ.out.below b QQ.out.lt)
  clear b BB KK QQ
  have BB := B1
  have KK := K1
  have QQ := Q1
  clear B1 K1 Q1
  have c1_0 := KK.out.cell 0
  have d1_0 := QQ.out.cell 0
  have c1_1 := KK.out.cell 1
  have d1_1 := QQ.out.cell 1
  have c1_2 := KK.out.cell 2
  have d1_2 := QQ.out.cell 2
  have c1_3 := KK.out.cell 3
  have d1_3 := QQ.out.cell 3
  have c1_4 := KK.out.cell 4
  have d1_4 := QQ.out.cell 4
  simp at c1_0 d1_0 c1_1 d1_1 c1_2 d1_2 c1_3 d1_3 c1_4 d1_4
  go_wp2_with fail
  go_ret
  exact ⟨rfl, BB.out⟩

structure EventD where
  t : Int
  ds : List Int
  v : Int
/-- The slices' own cells. -/
structure EventH where
  dsa : Option Addr
  dsl : Nat
  dsc : Nat
def Event.list (x : EventD) (h : EventH) : List Value := [.int .i64 x.t, .slice h.dsa h.dsl h.dsc, .int .i64 x.v]
def Event.Is (w : World) (x : EventD) (h : EventH) (fp : List Nat) : Prop := ∃ f0 : List Nat, fp = f0 ∧ GRow 1 RInt w h.dsa h.dsl x.ds f0 ∧ h.dsl ≤ h.dsc ∧ h.dsc ≤ 9223372036854775807
def REvent : Rel EventD := fun w cs x fp => ∃ h : EventH, cs = Event.list x h ∧ Event.Is w x h fp
theorem Event.Is.keep {w w' : World} {x : EventD} {h : EventH} {fp : List Nat} (hi : Event.Is w x h fp) (hf : ∀ b ∈ fp, w'.heap[b]? = w.heap[b]?) : Event.Is w' x h fp := by
  obtain ⟨f0, rfl, r0, u0, v0⟩ := hi
  exact ⟨_, rfl, r0.keep local_int (fun b hb => hf b (by simp [hb])), u0, v0⟩
theorem Event.Is.lt {w : World} {x : EventD} {h : EventH} {fp : List Nat} (hi : Event.Is w x h fp) : ∀ b ∈ fp, b < w.heap.size := by
  obtain ⟨f0, rfl, r0, u0, v0⟩ := hi
  intro b hb
  exact r0.lt local_int b hb
theorem Event.Is.below {w w' : World} {x : EventD} {h : EventH} {fp : List Nat} (hi : Event.Is w x h fp) (hb : Below w.heap.size w w') : Event.Is w' x h fp := hi.keep fun b hb' => hb.block b (hi.lt b hb')
theorem local_Event : Local REvent := ⟨fun ⟨h, e, hi⟩ hf => ⟨h, e, hi.keep hf⟩, fun ⟨_, _, hi⟩ => hi.lt⟩
def Event.sz (x : EventD) : Nat := x.ds.length

def CopiedEvent (w : World) (x : EventD) (e : Ending) (w' : World) : Prop := ∃ (h : EventH) (fp : List Nat), e = .returned (.agg (Event.list x h).toArray) ∧ Event.Is w' x h fp ∧ Own w.heap.size w' fp ∧ Below w.heap.size w w'
structure PartD where
  recs : List ByteArray
/-- The slices' own cells. -/
structure PartH where
  recsa : Option Addr
  recsl : Nat
  recsc : Nat
def Part.list (x : PartD) (h : PartH) : List Value := [.slice h.recsa h.recsl h.recsc]
def Part.Is (w : World) (x : PartD) (h : PartH) (fp : List Nat) : Prop := ∃ f0 : List Nat, fp = f0 ∧ GRow 1 RStr w h.recsa h.recsl x.recs f0 ∧ h.recsl ≤ h.recsc ∧ h.recsc ≤ 9223372036854775807
def RPart : Rel PartD := fun w cs x fp => ∃ h : PartH, cs = Part.list x h ∧ Part.Is w x h fp
theorem Part.Is.keep {w w' : World} {x : PartD} {h : PartH} {fp : List Nat} (hi : Part.Is w x h fp) (hf : ∀ b ∈ fp, w'.heap[b]? = w.heap[b]?) : Part.Is w' x h fp := by
  obtain ⟨f0, rfl, r0, u0, v0⟩ := hi
  exact ⟨_, rfl, r0.keep local_str (fun b hb => hf b (by simp [hb])), u0, v0⟩
theorem Part.Is.lt {w : World} {x : PartD} {h : PartH} {fp : List Nat} (hi : Part.Is w x h fp) : ∀ b ∈ fp, b < w.heap.size := by
  obtain ⟨f0, rfl, r0, u0, v0⟩ := hi
  intro b hb
  exact r0.lt local_str b hb
theorem Part.Is.below {w w' : World} {x : PartD} {h : PartH} {fp : List Nat} (hi : Part.Is w x h fp) (hb : Below w.heap.size w w') : Part.Is w' x h fp := hi.keep fun b hb' => hb.block b (hi.lt b hb')
theorem local_Part : Local RPart := ⟨fun ⟨h, e, hi⟩ hf => ⟨h, e, hi.keep hf⟩, fun ⟨_, _, hi⟩ => hi.lt⟩
def Part.sz (x : PartD) : Nat := szL ByteArray.size x.recs

def CopiedPart (w : World) (x : PartD) (e : Ending) (w' : World) : Prop := ∃ (h : PartH) (fp : List Nat), e = .returned (.agg (Part.list x h).toArray) ∧ Part.Is w' x h fp ∧ Own w.heap.size w' fp ∧ Below w.heap.size w w'
theorem info_Part : (Try.prog.info? 214).map (fun i => (i.zero, i.size, i.bytes)) = some (some (.agg #[.slice none 0 0]), 1, 24) := by kernel_rfl
end Go.Proofs.Ytoglclmaacjdaaa.dat
