/-
  THE CONTRACT OF PanesOk of the model; nothing that was there is written.
  Condition: panes of at most 2,000,000 numbers.
-/
import Derived.Test.YtoglclmaacjdaaaPanesWhere
namespace Go.Proofs.Ytoglclmaacjdaaa.dat
open Go.RowKit Go.Proofs.Ytoglclmaacjdaaa.win

/-- A pane, as the model asks. -/
def paneB2 (c : ConfD) (p : PaneD) : Bool := whereB c p && agg.okB p.a.n p.a.sm p.a.mn p.a.mx && !(p.a.n == 0)
theorem paneB2_eq (c : ConfD) (p : PaneD) : paneB2 c p = paneB c p := by
  unfold paneB2 paneB whereB
  cases h : agg.okB p.a.n p.a.sm p.a.mn p.a.mx with
  | false => simp
  | true =>
    have := (agg.ok_bds ((agg.okB_iff _ _ _ _).1 h)).1
    have e : (!(p.a.n == 0)) = decide (0 < p.a.n) := by
      rw [Bool.eq_iff_iff]; simp; omega
    rw [e]
theorem bad_at {c : ConfD} {l : List PaneD} {j : Nat} {x : PaneD} (hx : l[j]? = some x) (h : paneB2 c x = false) : (l.all (paneB c) && riseB l) = false := by
  rw [paneB2_eq] at h
  rw [List.all_eq_false.2 ⟨x, List.mem_of_getElem? hx, by rw [h]; simp⟩]
  rfl
theorem good2 {c : ConfD} {p : PaneD} (h1 : whereB c p = true) (h2 : agg.okB p.a.n p.a.sm p.a.mn p.a.mx = true) (h3 : ¬ p.a.n = 0) : paneB c p = true := by
  rw [← paneB2_eq]; unfold paneB2; rw [h1, h2]; simp [h3]
theorem fall_at {c : ConfD} {l : List PaneD} {j : Nat} {x y : PaneD} (hx : l[j]? = some x) (hy : l[j + 1]? = some y) (h : ¬ paneC x y < 0) : (l.all (paneB c) && riseB l) = false := by
  have : riseB l = false := by
    rw [← Bool.not_eq_true, riseB_iff]
    intro hall
    exact h (hall j x y hx hy)
  rw [this]; simp
/-- The first j are right. -/
def RightTo (c : ConfD) (l : List PaneD) (j : Nat) : Prop := (∀ (i : Nat) x, i < j → l[i]? = some x → paneB c x = true) ∧ ∀ (i : Nat) x y, i + 1 < j → l[i]? = some x → l[i + 1]? = some y → paneC x y < 0
theorem right_all {c : ConfD} {l : List PaneD} {j : Nat} (h : RightTo c l j) (hj : l.length = j) : (l.all (paneB c) && riseB l) = true := by
  rw [Bool.and_eq_true]
  refine ⟨List.all_eq_true.2 fun x hx => ?_, riseB_iff.2 fun i x y hx hy => ?_⟩
  · obtain ⟨i, hi, rfl⟩ := List.getElem_of_mem hx
    exact h.1 i _ (by omega) (List.getElem?_eq_getElem hi)
  · have := (List.getElem?_eq_some_iff.1 hy).1
    exact h.2 i x y (by omega) hx hy
theorem step_first {c : ConfD} {l : List PaneD} {x : PaneD} (hx : l[0]? = some x) (h : paneB c x = true) : RightTo c l 1 := by
  refine ⟨fun i y hi hy => ?_, fun i _ _ hi => by omega⟩
  obtain rfl : i = 0 := by omega
  rw [hx] at hy; cases hy; exact h
theorem step_next {c : ConfD} {l : List PaneD} {k : Nat} {x y : PaneD} (hn : RightTo c l (k + 1)) (hy : l[k]? = some y) (hx : l[k + 1]? = some x) (h : paneB c x = true) (hlt : paneC y x < 0) : RightTo c l (k + 1 + 1) := by
  refine ⟨fun i z hi hz => ?_, fun i a b hi ha hb => ?_⟩
  · by_cases e : i = k + 1
    · subst e; rw [hx] at hz; cases hz; exact h
    · exact hn.1 i z (by omega) hz
  · by_cases e : i = k
    · subst e
      rw [hy] at ha; rw [hx] at hb
      cases ha; cases hb; exact hlt
    · exact hn.2 i a b (by omega) ha hb

set_option maxRecDepth 100000 in
set_option maxHeartbeats 16000000 in
theorem spec_PanesOk (c : ConfD) (ch : ConfigH) (cf : List Nat) (a : Option Addr) (len cap : Nat) (l : List PaneD) (fp : List Nat) (w : World) (hc : Config.Is w c ch cf) (hrow : GRow 8 RPane w a len l fp) (_ : len ≤ cap) (_ : cap ≤ 9223372036854775807) (_ : Config.sz c ≤ 2000000) (hmax : szL Pane.sz l ≤ 2000000) :
    Calls Try.prog 113 #[.agg (Config.list c ch).toArray, .slice a len cap] w fun e w' => e = .returned (.bool (panesB c l)) ∧ Below w.heap.size w w' := by
  obtain ⟨r, hr⟩ : ∃ r, panesB c l = r := ⟨_, rfl⟩
  rw [hr]
  unfold panesB at hr
  have hlm : len ≤ 2000000 := by rw [← hrow.1]; unfold szL at hmax; omega
  have HX := Lib.hid hrow
  have HM := Lib.hid hmax
  have HC := Lib.hid hc
  have HR0 := Lib.hid hr
  clear hr hrow hmax hc
  simp only [Config.list]
  go_enter Try.func113, Try.ntmps113
  go_wp2_with fail
  refine calls_gen (fun W => Below w.heap.size w W ∧ Blk W w.heap.size 63 (Config.list c ch)) ⟨by repeat (first | exact Below.refl _ _ | refine Below.setCell ?_ (by first | omega | (simp; done) | (simp; omega)) _ | refine Below.alloc ?_ (by first | omega | (simp; done) | (simp; omega)) _ | apply Below.drew), by unfold Config.list; with_reducible (repeat (first | (refine blk_new_at _ _ _ _ ?_; first | rfl | (simp; done)) | refine Blk.alloc ?_ _ | apply Blk.drew | refine Blk.setOther ?_ (by first | (simp; done) | (simp; omega)) _))⟩ ?_
  rintro W1 ⟨b1, k1⟩
  refine (spec_Conf c ch cf W1 (HC.out.below b1)).mono ?_
  rintro e W2 ⟨rfl, b2⟩
  have B2 := Lib.hid (b1.trans (b2.mono b1.size))
  have K2 := Lib.hid (k1.below b2 k1.lt)
  clear b1 k1 b2
  cases p1 : confD c with
  | false =>
    have P1 := Lib.hid p1
    clear p1
    go_wp2_with fail
    go_ret
    exact ⟨ret_bool (by rw [← HR0.out, P1.out]; rfl), B2.out⟩
  | true =>
  have HO := Lib.hid p1
  have HR := Lib.hid (show (l.all (paneB c) && riseB l) = r by rw [← HR0.out, p1]; simp)
  clear p1 HR0
  go_wp2_with fail
  have c0 := K2.out.cell 0
  have c1 := K2.out.cell 1
  have c2 := K2.out.cell 2
  have c3 := K2.out.cell 3
  have c4 := K2.out.cell 4
  have bl0 := K2.out.lt
  simp [Config.list] at c0 c1 c2 c3 c4
  go_loopg [5] len (fun k i wr => ∃ j : Nat, j + k = len ∧ i = .int .i64 j ∧ Below w.heap.size w wr ∧ wr.cell? ⟨w.heap.size, 0, none⟩ = some (.int .i64 c.d) ∧ wr.cell? ⟨w.heap.size, 1, none⟩ = some (.slice ch.wsa ch.wsl ch.wsc) ∧ wr.cell? ⟨w.heap.size, 2, none⟩ = some (.slice ch.msa ch.msl ch.msc) ∧ wr.cell? ⟨w.heap.size, 3, none⟩ = some (.int .i64 c.dl) ∧ wr.cell? ⟨w.heap.size, 4, none⟩ = some (.int .i64 c.lt) ∧ w.heap.size < wr.heap.size ∧ RightTo c l j)
  case atStart => exact ⟨0, by omega, rfl, B2.out, c0, c1, c2, c3, c4, bl0, ⟨fun i _ hi => by omega, fun i _ _ hi => by omega⟩⟩
  case round =>
    clear c0 c1 c2 c3 c4 bl0 K2 B2
    obtain ⟨j, hj, rfl, hb, c0, c1, c2, c3, c4, bl0, hno⟩ := hrel
    have HB := Lib.hid hb
    have HN := Lib.hid hno
    clear hno
    by_cases hlt : j < len
    case neg =>
      clear hb
      obtain rfl : j = len := by omega
      have E := Lib.hid (right_all HN.out HX.out.1)
      go_wp2_with fail
      go_ret
      exact ⟨ret_bool (by rw [← HR.out, E.out]), HB.out⟩
    by_cases hj0 : j = 0
    case pos =>
      subst hj0
      obtain ⟨b, off, x, f, cs, ha, hbl, hx, hcl, hR, hc⟩ := HX.out.at (j := 0) hlt
      obtain ⟨h, rfl, hi⟩ := hR
      subst ha
      have bl1 : b < wr.heap.size := Nat.lt_of_lt_of_le hbl hb.size
      have e0 := (hb.cell (p := ⟨b, off + 0 * 8 + 0, none⟩) hbl).trans (hc 0 (by omega))
      have e1 := (hb.cell (p := ⟨b, off + 0 * 8 + 1, none⟩) hbl).trans (hc 1 (by omega))
      have e2 := (hb.cell (p := ⟨b, off + 0 * 8 + 2, none⟩) hbl).trans (hc 2 (by omega))
      have e3 := (hb.cell (p := ⟨b, off + 0 * 8 + 3, none⟩) hbl).trans (hc 3 (by omega))
      have e4 := (hb.cell (p := ⟨b, off + 0 * 8 + 4, none⟩) hbl).trans (hc 4 (by omega))
      have e5 := (hb.cell (p := ⟨b, off + 0 * 8 + 5, none⟩) hbl).trans (hc 5 (by omega))
      have e6 := (hb.cell (p := ⟨b, off + 0 * 8 + 6, none⟩) hbl).trans (hc 6 (by omega))
      have e7 := (hb.cell (p := ⟨b, off + 0 * 8 + 7, none⟩) hbl).trans (hc 7 (by omega))
      simp [Pane.list] at e0 e1 e2 e3 e4 e5 e6 e7
      have HI := Lib.hid (hi.below hb)
      have HE := Lib.hid hx
      have HZ := Lib.hid (show Pane.sz x ≤ 2000000 by have := sz_elem_le Pane.sz l hx; have := HM.out; unfold szL at this; omega)
      have h05 : (0 : Int) < (len : Int) := by omega
      clear hb hc hx hi
      go_wp2_with fail
      refine mix.wp_region_mixh (fun w' => w'.cell? ⟨w.heap.size, 0, none⟩ = some (.int .i64 c.d) ∧ w'.cell? ⟨w.heap.size, 1, none⟩ = some (.slice ch.wsa ch.wsl ch.wsc) ∧ w'.cell? ⟨w.heap.size, 2, none⟩ = some (.slice ch.msa ch.msl ch.msc) ∧ w'.cell? ⟨w.heap.size, 3, none⟩ = some (.int .i64 c.dl) ∧ w'.cell? ⟨w.heap.size, 4, none⟩ = some (.int .i64 c.lt) ∧ w'.cell? ⟨b, off, none⟩ = some (.int .i64 x.win) ∧ w'.cell? ⟨b, off + 1, none⟩ = some (.int .i64 x.mask) ∧ w'.cell? ⟨b, off + 2, none⟩ = some (.int .i64 x.start) ∧ w'.cell? ⟨b, off + 3, none⟩ = some (.slice h.keya h.keyl h.keyc) ∧ w'.cell? ⟨b, off + 4, none⟩ = some (.int .i64 x.a.n) ∧ w'.cell? ⟨b, off + 5, none⟩ = some (.int .i64 x.a.sm) ∧ w'.cell? ⟨b, off + 6, none⟩ = some (.int .i64 x.a.mn) ∧ w'.cell? ⟨b, off + 7, none⟩ = some (.int .i64 x.a.mx)) [5,13,38] (by kernel_rfl) (by kernel_rfl) (fun _ _ d _ _ h => by cases d <;> exact h) ⟨c0, c1, c2, c3, c4, e0, e1, e2, e3, e4, e5, e6, e7⟩ ?_
      have HS : Hid ((fun w' => w'.cell? ⟨w.heap.size, 0, none⟩ = some (.int .i64 c.d) ∧ w'.cell? ⟨w.heap.size, 1, none⟩ = some (.slice ch.wsa ch.wsl ch.wsc) ∧ w'.cell? ⟨w.heap.size, 2, none⟩ = some (.slice ch.msa ch.msl ch.msc) ∧ w'.cell? ⟨w.heap.size, 3, none⟩ = some (.int .i64 c.dl) ∧ w'.cell? ⟨w.heap.size, 4, none⟩ = some (.int .i64 c.lt) ∧ w'.cell? ⟨b, off, none⟩ = some (.int .i64 x.win) ∧ w'.cell? ⟨b, off + 1, none⟩ = some (.int .i64 x.mask) ∧ w'.cell? ⟨b, off + 2, none⟩ = some (.int .i64 x.start) ∧ w'.cell? ⟨b, off + 3, none⟩ = some (.slice h.keya h.keyl h.keyc) ∧ w'.cell? ⟨b, off + 4, none⟩ = some (.int .i64 x.a.n) ∧ w'.cell? ⟨b, off + 5, none⟩ = some (.int .i64 x.a.sm) ∧ w'.cell? ⟨b, off + 6, none⟩ = some (.int .i64 x.a.mn) ∧ w'.cell? ⟨b, off + 7, none⟩ = some (.int .i64 x.a.mx)) wr.drew) := ⟨c0, c1, c2, c3, c4, e0, e1, e2, e3, e4, e5, e6, e7⟩
      clear c0 c1 c2 c3 c4 e0 e1 e2 e3 e4 e5 e6 e7
      (repeat (first | (apply mix.held_take; (· rfl); (· rfl); (· (intro w' hSw; (try dsimp only at hSw); go_simp; try with_reducible rfl)); (try simp only [Act.put, List.setIfInBounds_toArray, List.set_cons_zero, List.set_cons_succ])) | ((refine mix.held_pass rfl (by rfl) ?_); (try simp only [Act.put, List.setIfInBounds_toArray, List.set_cons_zero, List.set_cons_succ]))))
      refine mix.held_hard rfl (fun K hK => ?_); go_simp
      refine (spec_Where c ch cf x h f wr.drew (HC.out.below HB.out.drew) (HI.out.keep (fun _ _ => rfl)) HO.out HZ.out).mono ?_
      rintro e W3 ⟨rfl, b3⟩
      have HS3 : Hid ((fun w' => w'.cell? ⟨w.heap.size, 0, none⟩ = some (.int .i64 c.d) ∧ w'.cell? ⟨w.heap.size, 1, none⟩ = some (.slice ch.wsa ch.wsl ch.wsc) ∧ w'.cell? ⟨w.heap.size, 2, none⟩ = some (.slice ch.msa ch.msl ch.msc) ∧ w'.cell? ⟨w.heap.size, 3, none⟩ = some (.int .i64 c.dl) ∧ w'.cell? ⟨w.heap.size, 4, none⟩ = some (.int .i64 c.lt) ∧ w'.cell? ⟨b, off, none⟩ = some (.int .i64 x.win) ∧ w'.cell? ⟨b, off + 1, none⟩ = some (.int .i64 x.mask) ∧ w'.cell? ⟨b, off + 2, none⟩ = some (.int .i64 x.start) ∧ w'.cell? ⟨b, off + 3, none⟩ = some (.slice h.keya h.keyl h.keyc) ∧ w'.cell? ⟨b, off + 4, none⟩ = some (.int .i64 x.a.n) ∧ w'.cell? ⟨b, off + 5, none⟩ = some (.int .i64 x.a.sm) ∧ w'.cell? ⟨b, off + 6, none⟩ = some (.int .i64 x.a.mn) ∧ w'.cell? ⟨b, off + 7, none⟩ = some (.int .i64 x.a.mx)) W3) := by
        obtain ⟨t0, t1, t2, t3, t4, t5, t6, t7, t8, t9, t10, t11, t12⟩ := HS.out
        exact ⟨keepc b3 bl0 t0, keepc b3 bl0 t1, keepc b3 bl0 t2, keepc b3 bl0 t3, keepc b3 bl0 t4, keepc b3 bl1 t5, keepc b3 bl1 t6, keepc b3 bl1 t7, keepc b3 bl1 t8, keepc b3 bl1 t9, keepc b3 bl1 t10, keepc b3 bl1 t11, keepc b3 bl1 t12⟩
      have B3 := Lib.hid (HB.out.drew.trans (b3.mono HB.out.size))
      have l30 := Nat.lt_of_lt_of_le bl0 b3.size
      have l31 := Nat.lt_of_lt_of_le bl1 b3.size
      have HI3 := Lib.hid ((HI.out.keep (w' := wr.drew) (fun _ _ => rfl)).below b3)
      clear b3 HI HS bl0 bl1
      have bl0 := l30
      have bl1 := l31
      cases pw : whereB c x with
      | false =>
        have HW := Lib.hid pw
        clear pw
        refine hK.out _ _ (HS3.out) (fun hSw => ?_); clear hK K hSw; (try simp only [Act.put, List.setIfInBounds_toArray, List.set_cons_zero, List.set_cons_succ])
        (repeat (first | (apply mix.held_take; (· rfl); (· rfl); (· (intro w' hSw; (try dsimp only at hSw); go_simp; try with_reducible rfl)); (try simp only [Act.put, List.setIfInBounds_toArray, List.set_cons_zero, List.set_cons_succ])) | ((refine mix.held_pass rfl (by rfl) ?_); (try simp only [Act.put, List.setIfInBounds_toArray, List.set_cons_zero, List.set_cons_succ]))))
        refine mix.held_hard rfl (fun K hK => ?_); go_simp
        refine hK.out _ _ (HS3.out) (fun hSw => ?_); clear hK K hSw; (try simp only [Act.put, List.setIfInBounds_toArray, List.set_cons_zero, List.set_cons_succ])
        (repeat (first | (apply mix.held_take; (· rfl); (· rfl); (· (intro w' hSw; (try dsimp only at hSw); go_simp; try with_reducible rfl)); (try simp only [Act.put, List.setIfInBounds_toArray, List.set_cons_zero, List.set_cons_succ])) | ((refine mix.held_pass rfl (by rfl) ?_); (try simp only [Act.put, List.setIfInBounds_toArray, List.set_cons_zero, List.set_cons_succ]))))
        refine mix.held_hard rfl (fun K hK => ?_); go_simp
        refine hK.out _ _ (HS3.out) (fun hSw => ?_); clear hK K hSw; (try simp only [Act.put, List.setIfInBounds_toArray, List.set_cons_zero, List.set_cons_succ])
        (repeat (first | (apply mix.held_take; (· rfl); (· rfl); (· (intro w' hSw; (try dsimp only at hSw); go_simp; try with_reducible rfl)); (try simp only [Act.put, List.setIfInBounds_toArray, List.set_cons_zero, List.set_cons_succ])) | ((refine mix.held_pass rfl (by rfl) ?_); (try simp only [Act.put, List.setIfInBounds_toArray, List.set_cons_zero, List.set_cons_succ]))))
        refine mix.held_end ?_
        go_wp2_with fail
        go_ret
        exact ⟨ret_bool (by rw [← HR.out, bad_at HE.out (by unfold paneB2; rw [HW.out]; rfl)]), B3.out⟩
      | true =>
      have HW := Lib.hid pw
      clear pw
      refine hK.out _ _ (HS3.out) (fun hSw => ?_); clear hK K hSw; (try simp only [Act.put, List.setIfInBounds_toArray, List.set_cons_zero, List.set_cons_succ])
      (repeat (first | (apply mix.held_take; (· rfl); (· rfl); (· (intro w' hSw; (try dsimp only at hSw); go_simp; try with_reducible rfl)); (try simp only [Act.put, List.setIfInBounds_toArray, List.set_cons_zero, List.set_cons_succ])) | ((refine mix.held_pass rfl (by rfl) ?_); (try simp only [Act.put, List.setIfInBounds_toArray, List.set_cons_zero, List.set_cons_succ]))))
      refine mix.held_hard rfl (fun K hK => ?_); go_simp
      refine (agg.spec_AggOk _ _ _ _ W3).mono ?_
      rintro e W4 ⟨rfl, b4⟩
      have HS4 : Hid ((fun w' => w'.cell? ⟨w.heap.size, 0, none⟩ = some (.int .i64 c.d) ∧ w'.cell? ⟨w.heap.size, 1, none⟩ = some (.slice ch.wsa ch.wsl ch.wsc) ∧ w'.cell? ⟨w.heap.size, 2, none⟩ = some (.slice ch.msa ch.msl ch.msc) ∧ w'.cell? ⟨w.heap.size, 3, none⟩ = some (.int .i64 c.dl) ∧ w'.cell? ⟨w.heap.size, 4, none⟩ = some (.int .i64 c.lt) ∧ w'.cell? ⟨b, off, none⟩ = some (.int .i64 x.win) ∧ w'.cell? ⟨b, off + 1, none⟩ = some (.int .i64 x.mask) ∧ w'.cell? ⟨b, off + 2, none⟩ = some (.int .i64 x.start) ∧ w'.cell? ⟨b, off + 3, none⟩ = some (.slice h.keya h.keyl h.keyc) ∧ w'.cell? ⟨b, off + 4, none⟩ = some (.int .i64 x.a.n) ∧ w'.cell? ⟨b, off + 5, none⟩ = some (.int .i64 x.a.sm) ∧ w'.cell? ⟨b, off + 6, none⟩ = some (.int .i64 x.a.mn) ∧ w'.cell? ⟨b, off + 7, none⟩ = some (.int .i64 x.a.mx)) W4) := by
        obtain ⟨t0, t1, t2, t3, t4, t5, t6, t7, t8, t9, t10, t11, t12⟩ := HS3.out
        exact ⟨keepc b4 bl0 t0, keepc b4 bl0 t1, keepc b4 bl0 t2, keepc b4 bl0 t3, keepc b4 bl0 t4, keepc b4 bl1 t5, keepc b4 bl1 t6, keepc b4 bl1 t7, keepc b4 bl1 t8, keepc b4 bl1 t9, keepc b4 bl1 t10, keepc b4 bl1 t11, keepc b4 bl1 t12⟩
      have B4 := Lib.hid (B3.out.trans (b4.mono B3.out.size))
      have l40 := Nat.lt_of_lt_of_le bl0 b4.size
      have l41 := Nat.lt_of_lt_of_le bl1 b4.size
      have HI5 := Lib.hid (HI3.out.below b4)
      clear b4 HI3 HS3 bl0 bl1 l30 l31
      have bl0 := l40
      have bl1 := l41
      obtain ⟨s3, hs3⟩ : ∃ s, agg.okB x.a.n x.a.sm x.a.mn x.a.mx = s := ⟨_, rfl⟩
      have HOK := Lib.hid hs3
      rw [hs3]
      clear hs3
      cases s3 with
      | false =>
        refine hK.out _ _ (HS4.out) (fun hSw => ?_); clear hK K hSw; (try simp only [Act.put, List.setIfInBounds_toArray, List.set_cons_zero, List.set_cons_succ])
        (repeat (first | (apply mix.held_take; (· rfl); (· rfl); (· (intro w' hSw; (try dsimp only at hSw); go_simp; try with_reducible rfl)); (try simp only [Act.put, List.setIfInBounds_toArray, List.set_cons_zero, List.set_cons_succ])) | ((refine mix.held_pass rfl (by rfl) ?_); (try simp only [Act.put, List.setIfInBounds_toArray, List.set_cons_zero, List.set_cons_succ]))))
        refine mix.held_hard rfl (fun K hK => ?_); go_simp
        refine hK.out _ _ (HS4.out) (fun hSw => ?_); clear hK K hSw; (try simp only [Act.put, List.setIfInBounds_toArray, List.set_cons_zero, List.set_cons_succ])
        (repeat (first | (apply mix.held_take; (· rfl); (· rfl); (· (intro w' hSw; (try dsimp only at hSw); go_simp; try with_reducible rfl)); (try simp only [Act.put, List.setIfInBounds_toArray, List.set_cons_zero, List.set_cons_succ])) | ((refine mix.held_pass rfl (by rfl) ?_); (try simp only [Act.put, List.setIfInBounds_toArray, List.set_cons_zero, List.set_cons_succ]))))
        refine mix.held_end ?_
        go_wp2_with fail
        go_ret
        exact ⟨ret_bool (by rw [← HR.out, bad_at HE.out (by unfold paneB2; rw [HOK.out]; simp)]), B4.out⟩
      | true =>
      by_cases hz0 : x.a.n = 0
      case pos =>
        have hz1 : (x.a.n == 0) = true := by simp [hz0]
        have HZ0 := Lib.hid hz0
        clear hz0
        refine hK.out _ _ (HS4.out) (fun hSw => ?_); clear hK K hSw; (try simp only [Act.put, List.setIfInBounds_toArray, List.set_cons_zero, List.set_cons_succ])
        (repeat (first | (apply mix.held_take; (· rfl); (· rfl); (· (intro w' hSw; (try dsimp only at hSw); go_simp; try with_reducible rfl)); (try simp only [Act.put, List.setIfInBounds_toArray, List.set_cons_zero, List.set_cons_succ])) | ((refine mix.held_pass rfl (by rfl) ?_); (try simp only [Act.put, List.setIfInBounds_toArray, List.set_cons_zero, List.set_cons_succ]))))
        refine mix.held_hard rfl (fun K hK => ?_); go_simp
        refine hK.out _ _ (HS4.out) (fun hSw => ?_); clear hK K hSw; (try simp only [Act.put, List.setIfInBounds_toArray, List.set_cons_zero, List.set_cons_succ])
        (repeat (first | (apply mix.held_take; (· rfl); (· rfl); (· (intro w' hSw; (try dsimp only at hSw); go_simp; try with_reducible rfl)); (try simp only [Act.put, List.setIfInBounds_toArray, List.set_cons_zero, List.set_cons_succ])) | ((refine mix.held_pass rfl (by rfl) ?_); (try simp only [Act.put, List.setIfInBounds_toArray, List.set_cons_zero, List.set_cons_succ]))))
        refine mix.held_end ?_
        go_wp2_with fail
        go_ret
        exact ⟨ret_bool (by rw [← HR.out, bad_at HE.out (by unfold paneB2; rw [HZ0.out]; simp)]), B4.out⟩
      have hz1 : (x.a.n == 0) = false := by simp [hz0]
      have HGOOD := Lib.hid (good2 HW.out HOK.out hz0)
      clear hz0
      refine hK.out _ _ (HS4.out) (fun hSw => ?_); clear hK K hSw; (try simp only [Act.put, List.setIfInBounds_toArray, List.set_cons_zero, List.set_cons_succ])
      (repeat (first | (apply mix.held_take; (· rfl); (· rfl); (· (intro w' hSw; (try dsimp only at hSw); go_simp; try with_reducible rfl)); (try simp only [Act.put, List.setIfInBounds_toArray, List.set_cons_zero, List.set_cons_succ])) | ((refine mix.held_pass rfl (by rfl) ?_); (try simp only [Act.put, List.setIfInBounds_toArray, List.set_cons_zero, List.set_cons_succ]))))
      refine mix.held_hard rfl (fun K hK => ?_); go_simp
      refine hK.out _ _ (HS4.out) (fun hSw => ?_); clear hK K hSw; (try simp only [Act.put, List.setIfInBounds_toArray, List.set_cons_zero, List.set_cons_succ])
      (repeat (first | (apply mix.held_take; (· rfl); (· rfl); (· (intro w' hSw; (try dsimp only at hSw); go_simp; try with_reducible rfl)); (try simp only [Act.put, List.setIfInBounds_toArray, List.set_cons_zero, List.set_cons_succ])) | ((refine mix.held_pass rfl (by rfl) ?_); (try simp only [Act.put, List.setIfInBounds_toArray, List.set_cons_zero, List.set_cons_succ]))))
      refine mix.held_end ?_
      go_wp2_with fail
      go_roundg (len - 1)
      case measure => omega
      case rel => exact ⟨1, by omega, rfl, B4.out, HS4.out.1, HS4.out.2.1, HS4.out.2.2.1, HS4.out.2.2.2.1, HS4.out.2.2.2.2.1, bl0, step_first HE.out HGOOD.out⟩
    obtain ⟨k, rfl⟩ : ∃ k, j = k + 1 := ⟨j - 1, by omega⟩
    clear hj0
    obtain ⟨b, off, x, f, cs, ha, hbl, hx, hcl, hR, hc⟩ := HX.out.at (j := k + 1) hlt
    obtain ⟨h, rfl, hi⟩ := hR
    obtain ⟨b', off', y, f', cs', ha', hbl', hy, hcl', hR', hc'⟩ := HX.out.at (j := k) (by omega)
    obtain ⟨h', rfl, hi'⟩ := hR'
    obtain ⟨rfl, rfl⟩ : b = b' ∧ off = off' := by rw [ha] at ha'; cases ha'; exact ⟨rfl, rfl⟩
    clear ha'
    subst ha
    have bl1 : b < wr.heap.size := Nat.lt_of_lt_of_le hbl hb.size
    have e0 := (hb.cell (p := ⟨b, off + (k + 1) * 8 + 0, none⟩) hbl).trans (hc 0 (by omega))
    have e1 := (hb.cell (p := ⟨b, off + (k + 1) * 8 + 1, none⟩) hbl).trans (hc 1 (by omega))
    have e2 := (hb.cell (p := ⟨b, off + (k + 1) * 8 + 2, none⟩) hbl).trans (hc 2 (by omega))
    have e3 := (hb.cell (p := ⟨b, off + (k + 1) * 8 + 3, none⟩) hbl).trans (hc 3 (by omega))
    have e4 := (hb.cell (p := ⟨b, off + (k + 1) * 8 + 4, none⟩) hbl).trans (hc 4 (by omega))
    have e5 := (hb.cell (p := ⟨b, off + (k + 1) * 8 + 5, none⟩) hbl).trans (hc 5 (by omega))
    have e6 := (hb.cell (p := ⟨b, off + (k + 1) * 8 + 6, none⟩) hbl).trans (hc 6 (by omega))
    have e7 := (hb.cell (p := ⟨b, off + (k + 1) * 8 + 7, none⟩) hbl).trans (hc 7 (by omega))
    have g0 := (hb.cell (p := ⟨b, off + k * 8 + 0, none⟩) hbl).trans (hc' 0 (by omega))
    have g1 := (hb.cell (p := ⟨b, off + k * 8 + 1, none⟩) hbl).trans (hc' 1 (by omega))
    have g2 := (hb.cell (p := ⟨b, off + k * 8 + 2, none⟩) hbl).trans (hc' 2 (by omega))
    have g3 := (hb.cell (p := ⟨b, off + k * 8 + 3, none⟩) hbl).trans (hc' 3 (by omega))
    have g4 := (hb.cell (p := ⟨b, off + k * 8 + 4, none⟩) hbl).trans (hc' 4 (by omega))
    have g5 := (hb.cell (p := ⟨b, off + k * 8 + 5, none⟩) hbl).trans (hc' 5 (by omega))
    have g6 := (hb.cell (p := ⟨b, off + k * 8 + 6, none⟩) hbl).trans (hc' 6 (by omega))
    have g7 := (hb.cell (p := ⟨b, off + k * 8 + 7, none⟩) hbl).trans (hc' 7 (by omega))
    simp [Pane.list] at e0 e1 e2 e3 e4 e5 e6 e7 g0 g1 g2 g3 g4 g5 g6 g7
    have HI := Lib.hid (hi.below hb)
    have HE := Lib.hid hx
    have HZ := Lib.hid (show Pane.sz x ≤ 2000000 by have := sz_elem_le Pane.sz l hx; have := HM.out; unfold szL at this; omega)
    have HI2 := Lib.hid (hi'.below hb)
    have HE2 := Lib.hid hy
    have HZ2 := Lib.hid (show Pane.sz y ≤ 2000000 by have := sz_elem_le Pane.sz l hy; have := HM.out; unfold szL at this; omega)
    have hN : ((k : Int) + 1).toNat = k + 1 := by omega
    have hW : IntKind.i64.wrap (k : Int) = (k : Int) := IntWalk.i64_in _ (by omega)
    have h03 : (0 : Int) ≤ (k : Int) + 1 := by omega
    have h04 : (0 : Int) < (k : Int) + 1 := by omega
    have h05 : (k : Int) + 1 < (len : Int) := by omega
    have h06 : (k : Int) < (len : Int) := by omega
    have h07 : (0 : Int) ≤ (k : Int) := by omega
    clear hb hc hx hi hc' hy hi'
    go_wp2_with fail
    refine mix.wp_region_mixh (fun w' => w'.cell? ⟨w.heap.size, 0, none⟩ = some (.int .i64 c.d) ∧ w'.cell? ⟨w.heap.size, 1, none⟩ = some (.slice ch.wsa ch.wsl ch.wsc) ∧ w'.cell? ⟨w.heap.size, 2, none⟩ = some (.slice ch.msa ch.msl ch.msc) ∧ w'.cell? ⟨w.heap.size, 3, none⟩ = some (.int .i64 c.dl) ∧ w'.cell? ⟨w.heap.size, 4, none⟩ = some (.int .i64 c.lt) ∧ w'.cell? ⟨b, off + (k + 1) * 8, none⟩ = some (.int .i64 x.win) ∧ w'.cell? ⟨b, off + (k + 1) * 8 + 1, none⟩ = some (.int .i64 x.mask) ∧ w'.cell? ⟨b, off + (k + 1) * 8 + 2, none⟩ = some (.int .i64 x.start) ∧ w'.cell? ⟨b, off + (k + 1) * 8 + 3, none⟩ = some (.slice h.keya h.keyl h.keyc) ∧ w'.cell? ⟨b, off + (k + 1) * 8 + 4, none⟩ = some (.int .i64 x.a.n) ∧ w'.cell? ⟨b, off + (k + 1) * 8 + 5, none⟩ = some (.int .i64 x.a.sm) ∧ w'.cell? ⟨b, off + (k + 1) * 8 + 6, none⟩ = some (.int .i64 x.a.mn) ∧ w'.cell? ⟨b, off + (k + 1) * 8 + 7, none⟩ = some (.int .i64 x.a.mx) ∧ w'.cell? ⟨b, off + k * 8, none⟩ = some (.int .i64 y.win) ∧ w'.cell? ⟨b, off + k * 8 + 1, none⟩ = some (.int .i64 y.mask) ∧ w'.cell? ⟨b, off + k * 8 + 2, none⟩ = some (.int .i64 y.start) ∧ w'.cell? ⟨b, off + k * 8 + 3, none⟩ = some (.slice h'.keya h'.keyl h'.keyc) ∧ w'.cell? ⟨b, off + k * 8 + 4, none⟩ = some (.int .i64 y.a.n) ∧ w'.cell? ⟨b, off + k * 8 + 5, none⟩ = some (.int .i64 y.a.sm) ∧ w'.cell? ⟨b, off + k * 8 + 6, none⟩ = some (.int .i64 y.a.mn) ∧ w'.cell? ⟨b, off + k * 8 + 7, none⟩ = some (.int .i64 y.a.mx)) [5,13,38] (by kernel_rfl) (by kernel_rfl) (fun _ _ d _ _ h => by cases d <;> exact h) ⟨c0, c1, c2, c3, c4, e0, e1, e2, e3, e4, e5, e6, e7, g0, g1, g2, g3, g4, g5, g6, g7⟩ ?_
    have HS : Hid ((fun w' => w'.cell? ⟨w.heap.size, 0, none⟩ = some (.int .i64 c.d) ∧ w'.cell? ⟨w.heap.size, 1, none⟩ = some (.slice ch.wsa ch.wsl ch.wsc) ∧ w'.cell? ⟨w.heap.size, 2, none⟩ = some (.slice ch.msa ch.msl ch.msc) ∧ w'.cell? ⟨w.heap.size, 3, none⟩ = some (.int .i64 c.dl) ∧ w'.cell? ⟨w.heap.size, 4, none⟩ = some (.int .i64 c.lt) ∧ w'.cell? ⟨b, off + (k + 1) * 8, none⟩ = some (.int .i64 x.win) ∧ w'.cell? ⟨b, off + (k + 1) * 8 + 1, none⟩ = some (.int .i64 x.mask) ∧ w'.cell? ⟨b, off + (k + 1) * 8 + 2, none⟩ = some (.int .i64 x.start) ∧ w'.cell? ⟨b, off + (k + 1) * 8 + 3, none⟩ = some (.slice h.keya h.keyl h.keyc) ∧ w'.cell? ⟨b, off + (k + 1) * 8 + 4, none⟩ = some (.int .i64 x.a.n) ∧ w'.cell? ⟨b, off + (k + 1) * 8 + 5, none⟩ = some (.int .i64 x.a.sm) ∧ w'.cell? ⟨b, off + (k + 1) * 8 + 6, none⟩ = some (.int .i64 x.a.mn) ∧ w'.cell? ⟨b, off + (k + 1) * 8 + 7, none⟩ = some (.int .i64 x.a.mx) ∧ w'.cell? ⟨b, off + k * 8, none⟩ = some (.int .i64 y.win) ∧ w'.cell? ⟨b, off + k * 8 + 1, none⟩ = some (.int .i64 y.mask) ∧ w'.cell? ⟨b, off + k * 8 + 2, none⟩ = some (.int .i64 y.start) ∧ w'.cell? ⟨b, off + k * 8 + 3, none⟩ = some (.slice h'.keya h'.keyl h'.keyc) ∧ w'.cell? ⟨b, off + k * 8 + 4, none⟩ = some (.int .i64 y.a.n) ∧ w'.cell? ⟨b, off + k * 8 + 5, none⟩ = some (.int .i64 y.a.sm) ∧ w'.cell? ⟨b, off + k * 8 + 6, none⟩ = some (.int .i64 y.a.mn) ∧ w'.cell? ⟨b, off + k * 8 + 7, none⟩ = some (.int .i64 y.a.mx)) wr.drew) := ⟨c0, c1, c2, c3, c4, e0, e1, e2, e3, e4, e5, e6, e7, g0, g1, g2, g3, g4, g5, g6, g7⟩
    clear c0 c1 c2 c3 c4 e0 e1 e2 e3 e4 e5 e6 e7 g0 g1 g2 g3 g4 g5 g6 g7
    (repeat (first | (apply mix.held_take; (· rfl); (· rfl); (· (intro w' hSw; (try dsimp only at hSw); go_simp; try with_reducible rfl)); (try simp only [Act.put, List.setIfInBounds_toArray, List.set_cons_zero, List.set_cons_succ])) | ((refine mix.held_pass rfl (by rfl) ?_); (try simp only [Act.put, List.setIfInBounds_toArray, List.set_cons_zero, List.set_cons_succ]))))
    refine mix.held_hard rfl (fun K hK => ?_); go_simp
    refine (spec_Where c ch cf x h f wr.drew (HC.out.below HB.out.drew) (HI.out.keep (fun _ _ => rfl)) HO.out HZ.out).mono ?_
    rintro e W3 ⟨rfl, b3⟩
    have HS3 : Hid ((fun w' => w'.cell? ⟨w.heap.size, 0, none⟩ = some (.int .i64 c.d) ∧ w'.cell? ⟨w.heap.size, 1, none⟩ = some (.slice ch.wsa ch.wsl ch.wsc) ∧ w'.cell? ⟨w.heap.size, 2, none⟩ = some (.slice ch.msa ch.msl ch.msc) ∧ w'.cell? ⟨w.heap.size, 3, none⟩ = some (.int .i64 c.dl) ∧ w'.cell? ⟨w.heap.size, 4, none⟩ = some (.int .i64 c.lt) ∧ w'.cell? ⟨b, off + (k + 1) * 8, none⟩ = some (.int .i64 x.win) ∧ w'.cell? ⟨b, off + (k + 1) * 8 + 1, none⟩ = some (.int .i64 x.mask) ∧ w'.cell? ⟨b, off + (k + 1) * 8 + 2, none⟩ = some (.int .i64 x.start) ∧ w'.cell? ⟨b, off + (k + 1) * 8 + 3, none⟩ = some (.slice h.keya h.keyl h.keyc) ∧ w'.cell? ⟨b, off + (k + 1) * 8 + 4, none⟩ = some (.int .i64 x.a.n) ∧ w'.cell? ⟨b, off + (k + 1) * 8 + 5, none⟩ = some (.int .i64 x.a.sm) ∧ w'.cell? ⟨b, off + (k + 1) * 8 + 6, none⟩ = some (.int .i64 x.a.mn) ∧ w'.cell? ⟨b, off + (k + 1) * 8 + 7, none⟩ = some (.int .i64 x.a.mx) ∧ w'.cell? ⟨b, off + k * 8, none⟩ = some (.int .i64 y.win) ∧ w'.cell? ⟨b, off + k * 8 + 1, none⟩ = some (.int .i64 y.mask) ∧ w'.cell? ⟨b, off + k * 8 + 2, none⟩ = some (.int .i64 y.start) ∧ w'.cell? ⟨b, off + k * 8 + 3, none⟩ = some (.slice h'.keya h'.keyl h'.keyc) ∧ w'.cell? ⟨b, off + k * 8 + 4, none⟩ = some (.int .i64 y.a.n) ∧ w'.cell? ⟨b, off + k * 8 + 5, none⟩ = some (.int .i64 y.a.sm) ∧ w'.cell? ⟨b, off + k * 8 + 6, none⟩ = some (.int .i64 y.a.mn) ∧ w'.cell? ⟨b, off + k * 8 + 7, none⟩ = some (.int .i64 y.a.mx)) W3) := by
      obtain ⟨t0, t1, t2, t3, t4, t5, t6, t7, t8, t9, t10, t11, t12, t13, t14, t15, t16, t17, t18, t19, t20⟩ := HS.out
      exact ⟨keepc b3 bl0 t0, keepc b3 bl0 t1, keepc b3 bl0 t2, keepc b3 bl0 t3, keepc b3 bl0 t4, keepc b3 bl1 t5, keepc b3 bl1 t6, keepc b3 bl1 t7, keepc b3 bl1 t8, keepc b3 bl1 t9, keepc b3 bl1 t10, keepc b3 bl1 t11, keepc b3 bl1 t12, keepc b3 bl1 t13, keepc b3 bl1 t14, keepc b3 bl1 t15, keepc b3 bl1 t16, keepc b3 bl1 t17, keepc b3 bl1 t18, keepc b3 bl1 t19, keepc b3 bl1 t20⟩
    have B3 := Lib.hid (HB.out.drew.trans (b3.mono HB.out.size))
    have l30 := Nat.lt_of_lt_of_le bl0 b3.size
    have l31 := Nat.lt_of_lt_of_le bl1 b3.size
    have HI3 := Lib.hid ((HI.out.keep (w' := wr.drew) (fun _ _ => rfl)).below b3)
    have HI4 := Lib.hid ((HI2.out.keep (w' := wr.drew) (fun _ _ => rfl)).below b3)
    clear b3 HI HS bl0 bl1 HI2
    have bl0 := l30
    have bl1 := l31
    cases pw : whereB c x with
    | false =>
      have HW := Lib.hid pw
      clear pw
      refine hK.out _ _ (HS3.out) (fun hSw => ?_); clear hK K hSw; (try simp only [Act.put, List.setIfInBounds_toArray, List.set_cons_zero, List.set_cons_succ])
      (repeat (first | (apply mix.held_take; (· rfl); (· rfl); (· (intro w' hSw; (try dsimp only at hSw); go_simp; try with_reducible rfl)); (try simp only [Act.put, List.setIfInBounds_toArray, List.set_cons_zero, List.set_cons_succ])) | ((refine mix.held_pass rfl (by rfl) ?_); (try simp only [Act.put, List.setIfInBounds_toArray, List.set_cons_zero, List.set_cons_succ]))))
      refine mix.held_hard rfl (fun K hK => ?_); go_simp
      refine hK.out _ _ (HS3.out) (fun hSw => ?_); clear hK K hSw; (try simp only [Act.put, List.setIfInBounds_toArray, List.set_cons_zero, List.set_cons_succ])
      (repeat (first | (apply mix.held_take; (· rfl); (· rfl); (· (intro w' hSw; (try dsimp only at hSw); go_simp; try with_reducible rfl)); (try simp only [Act.put, List.setIfInBounds_toArray, List.set_cons_zero, List.set_cons_succ])) | ((refine mix.held_pass rfl (by rfl) ?_); (try simp only [Act.put, List.setIfInBounds_toArray, List.set_cons_zero, List.set_cons_succ]))))
      refine mix.held_hard rfl (fun K hK => ?_); go_simp
      refine hK.out _ _ (HS3.out) (fun hSw => ?_); clear hK K hSw; (try simp only [Act.put, List.setIfInBounds_toArray, List.set_cons_zero, List.set_cons_succ])
      (repeat (first | (apply mix.held_take; (· rfl); (· rfl); (· (intro w' hSw; (try dsimp only at hSw); go_simp; try with_reducible rfl)); (try simp only [Act.put, List.setIfInBounds_toArray, List.set_cons_zero, List.set_cons_succ])) | ((refine mix.held_pass rfl (by rfl) ?_); (try simp only [Act.put, List.setIfInBounds_toArray, List.set_cons_zero, List.set_cons_succ]))))
      refine mix.held_end ?_
      go_wp2_with fail
      go_ret
      exact ⟨ret_bool (by rw [← HR.out, bad_at HE.out (by unfold paneB2; rw [HW.out]; rfl)]), B3.out⟩
    | true =>
    have HW := Lib.hid pw
    clear pw
    refine hK.out _ _ (HS3.out) (fun hSw => ?_); clear hK K hSw; (try simp only [Act.put, List.setIfInBounds_toArray, List.set_cons_zero, List.set_cons_succ])
    (repeat (first | (apply mix.held_take; (· rfl); (· rfl); (· (intro w' hSw; (try dsimp only at hSw); go_simp; try with_reducible rfl)); (try simp only [Act.put, List.setIfInBounds_toArray, List.set_cons_zero, List.set_cons_succ])) | ((refine mix.held_pass rfl (by rfl) ?_); (try simp only [Act.put, List.setIfInBounds_toArray, List.set_cons_zero, List.set_cons_succ]))))
    refine mix.held_hard rfl (fun K hK => ?_); go_simp
    refine (agg.spec_AggOk _ _ _ _ W3).mono ?_
    rintro e W4 ⟨rfl, b4⟩
    have HS4 : Hid ((fun w' => w'.cell? ⟨w.heap.size, 0, none⟩ = some (.int .i64 c.d) ∧ w'.cell? ⟨w.heap.size, 1, none⟩ = some (.slice ch.wsa ch.wsl ch.wsc) ∧ w'.cell? ⟨w.heap.size, 2, none⟩ = some (.slice ch.msa ch.msl ch.msc) ∧ w'.cell? ⟨w.heap.size, 3, none⟩ = some (.int .i64 c.dl) ∧ w'.cell? ⟨w.heap.size, 4, none⟩ = some (.int .i64 c.lt) ∧ w'.cell? ⟨b, off + (k + 1) * 8, none⟩ = some (.int .i64 x.win) ∧ w'.cell? ⟨b, off + (k + 1) * 8 + 1, none⟩ = some (.int .i64 x.mask) ∧ w'.cell? ⟨b, off + (k + 1) * 8 + 2, none⟩ = some (.int .i64 x.start) ∧ w'.cell? ⟨b, off + (k + 1) * 8 + 3, none⟩ = some (.slice h.keya h.keyl h.keyc) ∧ w'.cell? ⟨b, off + (k + 1) * 8 + 4, none⟩ = some (.int .i64 x.a.n) ∧ w'.cell? ⟨b, off + (k + 1) * 8 + 5, none⟩ = some (.int .i64 x.a.sm) ∧ w'.cell? ⟨b, off + (k + 1) * 8 + 6, none⟩ = some (.int .i64 x.a.mn) ∧ w'.cell? ⟨b, off + (k + 1) * 8 + 7, none⟩ = some (.int .i64 x.a.mx) ∧ w'.cell? ⟨b, off + k * 8, none⟩ = some (.int .i64 y.win) ∧ w'.cell? ⟨b, off + k * 8 + 1, none⟩ = some (.int .i64 y.mask) ∧ w'.cell? ⟨b, off + k * 8 + 2, none⟩ = some (.int .i64 y.start) ∧ w'.cell? ⟨b, off + k * 8 + 3, none⟩ = some (.slice h'.keya h'.keyl h'.keyc) ∧ w'.cell? ⟨b, off + k * 8 + 4, none⟩ = some (.int .i64 y.a.n) ∧ w'.cell? ⟨b, off + k * 8 + 5, none⟩ = some (.int .i64 y.a.sm) ∧ w'.cell? ⟨b, off + k * 8 + 6, none⟩ = some (.int .i64 y.a.mn) ∧ w'.cell? ⟨b, off + k * 8 + 7, none⟩ = some (.int .i64 y.a.mx)) W4) := by
      obtain ⟨t0, t1, t2, t3, t4, t5, t6, t7, t8, t9, t10, t11, t12, t13, t14, t15, t16, t17, t18, t19, t20⟩ := HS3.out
      exact ⟨keepc b4 bl0 t0, keepc b4 bl0 t1, keepc b4 bl0 t2, keepc b4 bl0 t3, keepc b4 bl0 t4, keepc b4 bl1 t5, keepc b4 bl1 t6, keepc b4 bl1 t7, keepc b4 bl1 t8, keepc b4 bl1 t9, keepc b4 bl1 t10, keepc b4 bl1 t11, keepc b4 bl1 t12, keepc b4 bl1 t13, keepc b4 bl1 t14, keepc b4 bl1 t15, keepc b4 bl1 t16, keepc b4 bl1 t17, keepc b4 bl1 t18, keepc b4 bl1 t19, keepc b4 bl1 t20⟩
    have B4 := Lib.hid (B3.out.trans (b4.mono B3.out.size))
    have l40 := Nat.lt_of_lt_of_le bl0 b4.size
    have l41 := Nat.lt_of_lt_of_le bl1 b4.size
    have HI5 := Lib.hid (HI3.out.below b4)
    have HI6 := Lib.hid (HI4.out.below b4)
    clear b4 HI3 HS3 bl0 bl1 l30 l31 HI4
    have bl0 := l40
    have bl1 := l41
    obtain ⟨s3, hs3⟩ : ∃ s, agg.okB x.a.n x.a.sm x.a.mn x.a.mx = s := ⟨_, rfl⟩
    have HOK := Lib.hid hs3
    rw [hs3]
    clear hs3
    cases s3 with
    | false =>
      refine hK.out _ _ (HS4.out) (fun hSw => ?_); clear hK K hSw; (try simp only [Act.put, List.setIfInBounds_toArray, List.set_cons_zero, List.set_cons_succ])
      (repeat (first | (apply mix.held_take; (· rfl); (· rfl); (· (intro w' hSw; (try dsimp only at hSw); go_simp; try with_reducible rfl)); (try simp only [Act.put, List.setIfInBounds_toArray, List.set_cons_zero, List.set_cons_succ])) | ((refine mix.held_pass rfl (by rfl) ?_); (try simp only [Act.put, List.setIfInBounds_toArray, List.set_cons_zero, List.set_cons_succ]))))
      refine mix.held_hard rfl (fun K hK => ?_); go_simp
      refine hK.out _ _ (HS4.out) (fun hSw => ?_); clear hK K hSw; (try simp only [Act.put, List.setIfInBounds_toArray, List.set_cons_zero, List.set_cons_succ])
      (repeat (first | (apply mix.held_take; (· rfl); (· rfl); (· (intro w' hSw; (try dsimp only at hSw); go_simp; try with_reducible rfl)); (try simp only [Act.put, List.setIfInBounds_toArray, List.set_cons_zero, List.set_cons_succ])) | ((refine mix.held_pass rfl (by rfl) ?_); (try simp only [Act.put, List.setIfInBounds_toArray, List.set_cons_zero, List.set_cons_succ]))))
      refine mix.held_end ?_
      go_wp2_with fail
      go_ret
      exact ⟨ret_bool (by rw [← HR.out, bad_at HE.out (by unfold paneB2; rw [HOK.out]; simp)]), B4.out⟩
    | true =>
    by_cases hz0 : x.a.n = 0
    case pos =>
      have hz1 : (x.a.n == 0) = true := by simp [hz0]
      have HZ0 := Lib.hid hz0
      clear hz0
      refine hK.out _ _ (HS4.out) (fun hSw => ?_); clear hK K hSw; (try simp only [Act.put, List.setIfInBounds_toArray, List.set_cons_zero, List.set_cons_succ])
      (repeat (first | (apply mix.held_take; (· rfl); (· rfl); (· (intro w' hSw; (try dsimp only at hSw); go_simp; try with_reducible rfl)); (try simp only [Act.put, List.setIfInBounds_toArray, List.set_cons_zero, List.set_cons_succ])) | ((refine mix.held_pass rfl (by rfl) ?_); (try simp only [Act.put, List.setIfInBounds_toArray, List.set_cons_zero, List.set_cons_succ]))))
      refine mix.held_hard rfl (fun K hK => ?_); go_simp
      refine hK.out _ _ (HS4.out) (fun hSw => ?_); clear hK K hSw; (try simp only [Act.put, List.setIfInBounds_toArray, List.set_cons_zero, List.set_cons_succ])
      (repeat (first | (apply mix.held_take; (· rfl); (· rfl); (· (intro w' hSw; (try dsimp only at hSw); go_simp; try with_reducible rfl)); (try simp only [Act.put, List.setIfInBounds_toArray, List.set_cons_zero, List.set_cons_succ])) | ((refine mix.held_pass rfl (by rfl) ?_); (try simp only [Act.put, List.setIfInBounds_toArray, List.set_cons_zero, List.set_cons_succ]))))
      refine mix.held_end ?_
      go_wp2_with fail
      go_ret
      exact ⟨ret_bool (by rw [← HR.out, bad_at HE.out (by unfold paneB2; rw [HZ0.out]; simp)]), B4.out⟩
    have hz1 : (x.a.n == 0) = false := by simp [hz0]
    have HGOOD := Lib.hid (good2 HW.out HOK.out hz0)
    clear hz0
    refine hK.out _ _ (HS4.out) (fun hSw => ?_); clear hK K hSw; (try simp only [Act.put, List.setIfInBounds_toArray, List.set_cons_zero, List.set_cons_succ])
    (repeat (first | (apply mix.held_take; (· rfl); (· rfl); (· (intro w' hSw; (try dsimp only at hSw); go_simp; try with_reducible rfl)); (try simp only [Act.put, List.setIfInBounds_toArray, List.set_cons_zero, List.set_cons_succ])) | ((refine mix.held_pass rfl (by rfl) ?_); (try simp only [Act.put, List.setIfInBounds_toArray, List.set_cons_zero, List.set_cons_succ]))))
    refine mix.held_hard rfl (fun K hK => ?_); go_simp
    refine (spec_PaneCmp y h' f' x h f W4 HI6.out HI5.out HZ2.out HZ.out).mono ?_
    rintro e W5 ⟨rfl, b5⟩
    have HS5 : Hid ((fun w' => w'.cell? ⟨w.heap.size, 0, none⟩ = some (.int .i64 c.d) ∧ w'.cell? ⟨w.heap.size, 1, none⟩ = some (.slice ch.wsa ch.wsl ch.wsc) ∧ w'.cell? ⟨w.heap.size, 2, none⟩ = some (.slice ch.msa ch.msl ch.msc) ∧ w'.cell? ⟨w.heap.size, 3, none⟩ = some (.int .i64 c.dl) ∧ w'.cell? ⟨w.heap.size, 4, none⟩ = some (.int .i64 c.lt) ∧ w'.cell? ⟨b, off + (k + 1) * 8, none⟩ = some (.int .i64 x.win) ∧ w'.cell? ⟨b, off + (k + 1) * 8 + 1, none⟩ = some (.int .i64 x.mask) ∧ w'.cell? ⟨b, off + (k + 1) * 8 + 2, none⟩ = some (.int .i64 x.start) ∧ w'.cell? ⟨b, off + (k + 1) * 8 + 3, none⟩ = some (.slice h.keya h.keyl h.keyc) ∧ w'.cell? ⟨b, off + (k + 1) * 8 + 4, none⟩ = some (.int .i64 x.a.n) ∧ w'.cell? ⟨b, off + (k + 1) * 8 + 5, none⟩ = some (.int .i64 x.a.sm) ∧ w'.cell? ⟨b, off + (k + 1) * 8 + 6, none⟩ = some (.int .i64 x.a.mn) ∧ w'.cell? ⟨b, off + (k + 1) * 8 + 7, none⟩ = some (.int .i64 x.a.mx) ∧ w'.cell? ⟨b, off + k * 8, none⟩ = some (.int .i64 y.win) ∧ w'.cell? ⟨b, off + k * 8 + 1, none⟩ = some (.int .i64 y.mask) ∧ w'.cell? ⟨b, off + k * 8 + 2, none⟩ = some (.int .i64 y.start) ∧ w'.cell? ⟨b, off + k * 8 + 3, none⟩ = some (.slice h'.keya h'.keyl h'.keyc) ∧ w'.cell? ⟨b, off + k * 8 + 4, none⟩ = some (.int .i64 y.a.n) ∧ w'.cell? ⟨b, off + k * 8 + 5, none⟩ = some (.int .i64 y.a.sm) ∧ w'.cell? ⟨b, off + k * 8 + 6, none⟩ = some (.int .i64 y.a.mn) ∧ w'.cell? ⟨b, off + k * 8 + 7, none⟩ = some (.int .i64 y.a.mx)) W5) := by
      obtain ⟨t0, t1, t2, t3, t4, t5, t6, t7, t8, t9, t10, t11, t12, t13, t14, t15, t16, t17, t18, t19, t20⟩ := HS4.out
      exact ⟨keepc b5 bl0 t0, keepc b5 bl0 t1, keepc b5 bl0 t2, keepc b5 bl0 t3, keepc b5 bl0 t4, keepc b5 bl1 t5, keepc b5 bl1 t6, keepc b5 bl1 t7, keepc b5 bl1 t8, keepc b5 bl1 t9, keepc b5 bl1 t10, keepc b5 bl1 t11, keepc b5 bl1 t12, keepc b5 bl1 t13, keepc b5 bl1 t14, keepc b5 bl1 t15, keepc b5 bl1 t16, keepc b5 bl1 t17, keepc b5 bl1 t18, keepc b5 bl1 t19, keepc b5 bl1 t20⟩
    have B5 := Lib.hid (B4.out.trans (b5.mono B4.out.size))
    have l50 := Nat.lt_of_lt_of_le bl0 b5.size
    clear b5 HI5 HI6 HS4 bl1 bl0 l40 l41
    have bl0 := l50
    obtain ⟨q, hq⟩ : ∃ q, paneC y x = q := ⟨_, rfl⟩
    have HQ := Lib.hid hq
    rw [hq]
    clear hq
    by_cases hneg : q < 0
    case neg =>
      have hn2 : 0 ≤ q := by omega
      refine hK.out _ _ (HS5.out) (fun hSw => ?_); clear hK K hSw; (try simp only [Act.put, List.setIfInBounds_toArray, List.set_cons_zero, List.set_cons_succ])
      (repeat (first | (apply mix.held_take; (· rfl); (· rfl); (· (intro w' hSw; (try dsimp only at hSw); go_simp; try with_reducible rfl)); (try simp only [Act.put, List.setIfInBounds_toArray, List.set_cons_zero, List.set_cons_succ])) | ((refine mix.held_pass rfl (by rfl) ?_); (try simp only [Act.put, List.setIfInBounds_toArray, List.set_cons_zero, List.set_cons_succ]))))
      refine mix.held_end ?_
      go_wp2_with fail
      go_ret
      exact ⟨ret_bool (by rw [← HR.out, fall_at HE2.out HE.out (by rw [HQ.out]; omega)]), B5.out⟩
    have hn2 : ¬ 0 ≤ q := by omega
    refine hK.out _ _ (HS5.out) (fun hSw => ?_); clear hK K hSw; (try simp only [Act.put, List.setIfInBounds_toArray, List.set_cons_zero, List.set_cons_succ])
    (repeat (first | (apply mix.held_take; (· rfl); (· rfl); (· (intro w' hSw; (try dsimp only at hSw); go_simp; try with_reducible rfl)); (try simp only [Act.put, List.setIfInBounds_toArray, List.set_cons_zero, List.set_cons_succ])) | ((refine mix.held_pass rfl (by rfl) ?_); (try simp only [Act.put, List.setIfInBounds_toArray, List.set_cons_zero, List.set_cons_succ]))))
    refine mix.held_end ?_
    go_wp2_with fail
    go_roundg (len - (k + 1 + 1))
    case measure => omega
    case rel => exact ⟨k + 1 + 1, by omega, by go_num, B5.out, HS5.out.1, HS5.out.2.1, HS5.out.2.2.1, HS5.out.2.2.2.1, HS5.out.2.2.2.2.1, bl0, step_next HN.out HE2.out HE.out HGOOD.out (by rw [HQ.out]; exact hneg)⟩
end Go.Proofs.Ytoglclmaacjdaaa.dat
