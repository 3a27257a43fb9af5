/-
  THE CONTRACTS OF rowCmp and Upsert of the program: rows put into rows, one by one, in memory of the call's own; nothing that was there is written.
-/
import Derived.Test.YtoglclmaacjdaaaUpsertMath
import Derived.Test.YtoglclmaacjdaaaInsertRow
import Derived.Test.YtoglclmaacjdaaaCopied
import Derived.Test.YtoglclmaacjdaaaMixOrd
namespace Go.Proofs.Ytoglclmaacjdaaa.dat
open Go.RowKit Go.Proofs.Ytoglclmaacjdaaa.win

theorem row_pane_is {w : World} {x : RowD} {h : RowH} {f : List Nat} (hx : Row.Is w x h f) : Pane.Is w x.pane ⟨h.keya, h.keyl, h.keyc⟩ f := hx
theorem keep_two {W V : World} {p q : Nat} {t t' : TypeId} {v0 v1 v2 v3 v4 v5 v6 v7 v8 u0 u1 u2 u3 u4 u5 u6 u7 u8 : Value} (hp : Blk W p t [v0, v1, v2, v3, v4, v5, v6, v7, v8]) (hq : Blk W q t' [u0, u1, u2, u3, u4, u5, u6, u7, u8]) (h : Below W.heap.size W V) :
    (V.cell? ⟨p, 0, none⟩ = some v0 ∧ V.cell? ⟨p, 1, none⟩ = some v1 ∧ V.cell? ⟨p, 2, none⟩ = some v2 ∧ V.cell? ⟨p, 3, none⟩ = some v3 ∧ V.cell? ⟨p, 4, none⟩ = some v4 ∧ V.cell? ⟨p, 5, none⟩ = some v5 ∧ V.cell? ⟨p, 6, none⟩ = some v6 ∧ V.cell? ⟨p, 7, none⟩ = some v7 ∧ V.cell? ⟨p, 8, none⟩ = some v8) ∧
    (V.cell? ⟨q, 0, none⟩ = some u0 ∧ V.cell? ⟨q, 1, none⟩ = some u1 ∧ V.cell? ⟨q, 2, none⟩ = some u2 ∧ V.cell? ⟨q, 3, none⟩ = some u3 ∧ V.cell? ⟨q, 4, none⟩ = some u4 ∧ V.cell? ⟨q, 5, none⟩ = some u5 ∧ V.cell? ⟨q, 6, none⟩ = some u6 ∧ V.cell? ⟨q, 7, none⟩ = some u7 ∧ V.cell? ⟨q, 8, none⟩ = some u8) :=
  ⟨row_blk (hp.below h hp.lt), row_blk (hq.below h hq.lt)⟩

set_option maxRecDepth 100000 in
set_option maxHeartbeats 2000000 in
theorem rowCmp_ (x : RowD) (h : RowH) (f : List Nat) (y : RowD) (k : RowH) (g : List Nat) (w : World) (hx : Row.Is w x h f) (hy : Row.Is w y k g) (zx : Row.sz x ≤ 2000000) (zy : Row.sz y ≤ 2000000) :
    Calls Try.prog 71 #[.agg (Row.list x h).toArray, .agg (Row.list y k).toArray] w fun e w' => e = .returned (.int .i64 (paneC x.pane y.pane)) ∧ Below w.heap.size w w' := by
  have HX := Lib.hid hx
  have HY := Lib.hid hy
  have hP0 := fun w => rowPane x h w
  have hP1 := fun w => rowPane y k w
  obtain ⟨r, hr⟩ : ∃ r, paneC x.pane y.pane = r := ⟨_, rfl⟩
  have HRR := Lib.hid hr
  rw [hr]
  simp only [Row.list, Pane.list, RowD.pane] at hP0 hP1
  have HP0 := Lib.hid hP0
  have HP1 := Lib.hid hP1
  clear hx hy hP0 hP1 hr
  simp only [Row.list]
  go_enter Try.func71, Try.ntmps71
  go_wp2_with fail
  refine wp_gen (fun W => Below w.heap.size w W ∧ Blk W w.heap.size 120 (Row.list x h) ∧ Blk W (w.heap.size + 1) 120 (Row.list y k)) ⟨by repeat (first | exact Below.refl _ _ | refine Below.setCell ?_ (by first | omega | (simp; done) | (simp; omega)) _ | refine Below.alloc ?_ (by first | omega | (simp; done) | (simp; omega)) _ | apply Below.drew), by unfold Row.list; with_reducible (repeat (first | (refine blk_new_at _ _ _ _ ?_; first | rfl | (simp; done)) | refine Blk.alloc ?_ _ | apply Blk.drew | refine Blk.setOther ?_ (by first | (simp; done) | (simp; omega)) _)), by unfold Row.list; with_reducible (repeat (first | (refine blk_new_at _ _ _ _ ?_; first | rfl | (simp; done)) | refine Blk.alloc ?_ _ | apply Blk.drew | refine Blk.setOther ?_ (by first | (simp; done) | (simp; omega)) _))⟩ ?_
  rintro W ⟨b0, k0, m0⟩
  unfold Row.list at k0 m0
  have K0 := Lib.hid k0
  have M0 := Lib.hid m0
  have B0 := Lib.hid b0
  have HS := Lib.hid (fun V hb => keep_two (V := V) K0.out M0.out hb)
  clear k0 m0 b0
  refine mix.wp_region_ord (fun V => (V.cell? ⟨w.heap.size, 0, none⟩ = some (.int .i64 x.win) ∧ V.cell? ⟨w.heap.size, 1, none⟩ = some (.int .i64 x.mask) ∧ V.cell? ⟨w.heap.size, 2, none⟩ = some (.int .i64 x.start) ∧ V.cell? ⟨w.heap.size, 3, none⟩ = some (.slice h.keya h.keyl h.keyc) ∧ V.cell? ⟨w.heap.size, 4, none⟩ = some (.int .i64 x.a.n) ∧ V.cell? ⟨w.heap.size, 5, none⟩ = some (.int .i64 x.a.sm) ∧ V.cell? ⟨w.heap.size, 6, none⟩ = some (.int .i64 x.a.mn) ∧ V.cell? ⟨w.heap.size, 7, none⟩ = some (.int .i64 x.a.mx) ∧ V.cell? ⟨w.heap.size, 8, none⟩ = some (.int .i64 x.times)) ∧
    (V.cell? ⟨w.heap.size + 1, 0, none⟩ = some (.int .i64 y.win) ∧ V.cell? ⟨w.heap.size + 1, 1, none⟩ = some (.int .i64 y.mask) ∧ V.cell? ⟨w.heap.size + 1, 2, none⟩ = some (.int .i64 y.start) ∧ V.cell? ⟨w.heap.size + 1, 3, none⟩ = some (.slice k.keya k.keyl k.keyc) ∧ V.cell? ⟨w.heap.size + 1, 4, none⟩ = some (.int .i64 y.a.n) ∧ V.cell? ⟨w.heap.size + 1, 5, none⟩ = some (.int .i64 y.a.sm) ∧ V.cell? ⟨w.heap.size + 1, 6, none⟩ = some (.int .i64 y.a.mn) ∧ V.cell? ⟨w.heap.size + 1, 7, none⟩ = some (.int .i64 y.a.mx) ∧ V.cell? ⟨w.heap.size + 1, 8, none⟩ = some (.int .i64 y.times))) [1,3,4] [0,2,1,3,4,5] (by kernel_rfl) (by kernel_rfl) (fun _ _ d _ _ h => by cases d <;> exact h) (HS.out W (Below.refl _ _)) ?_
  simp only [List.filterMap_cons, List.filterMap_nil, List.getElem?_cons_zero, List.getElem?_cons_succ, Option.map_some]
  (repeat (first | (apply mix.ord_take; (· rfl); (· rfl); (· (intro w' hSw; (try dsimp only at hSw); go_simp; try with_reducible rfl)); (try simp only [Act.put, List.setIfInBounds_toArray, List.set_cons_zero, List.set_cons_succ])) | ((refine mix.ord_pass rfl (by rfl) ?_); (try simp only [Act.put, List.setIfInBounds_toArray, List.set_cons_zero, List.set_cons_succ]))))
  refine mix.ord_hard rfl (fun K hK => ?_); go_simp
  refine (HP0.out _).mono ?_
  rintro e W1 ⟨rfl, b1⟩
  have c1 : Below W.heap.size W W1 := (Below.refl _ _).drew.trans b1
  have S1 := Lib.hid (HS.out W1 c1)
  have C1 := Lib.hid c1
  clear b1 c1
  refine hK.out _ _ (S1.out) (fun hSw => ?_); clear hK K hSw; (try simp only [Act.put, List.setIfInBounds_toArray, List.set_cons_zero, List.set_cons_succ])
  refine mix.ord_hard rfl (fun K hK => ?_); go_simp
  refine (HP1.out _).mono ?_
  rintro e W2 ⟨rfl, b2⟩
  have c2 : Below W.heap.size W W2 := C1.out.trans (b2.mono C1.out.size)
  have S2 := Lib.hid (HS.out W2 c2)
  have C2 := Lib.hid c2
  clear b2 c2
  refine hK.out _ _ (S2.out) (fun hSw => ?_); clear hK K hSw; (try simp only [Act.put, List.setIfInBounds_toArray, List.set_cons_zero, List.set_cons_succ])
  refine mix.ord_hard rfl (fun K hK => ?_); go_simp
  have hcmp := impl_PaneCmp x.pane ⟨h.keya, h.keyl, h.keyc⟩ f y.pane ⟨k.keya, k.keyl, k.keyc⟩ g W2 (row_pane_is (HX.out.below (B0.out.trans (C2.out.mono B0.out.size)))) (row_pane_is (HY.out.below (B0.out.trans (C2.out.mono B0.out.size)))) zx zy
  rw [HRR.out] at hcmp
  simp only [Pane.list, RowD.pane] at hcmp
  refine hcmp.mono ?_
  clear hcmp
  rintro e W3 ⟨rfl, b3⟩
  have c3 : Below W.heap.size W W3 := C2.out.trans (b3.mono C2.out.size)
  have S3 := Lib.hid (HS.out W3 c3)
  have C3 := Lib.hid (B0.out.trans (c3.mono B0.out.size))
  clear b3 c3
  refine hK.out _ _ (S3.out) (fun hSw => ?_); clear hK K hSw; (try simp only [Act.put, List.setIfInBounds_toArray, List.set_cons_zero, List.set_cons_succ])
  (repeat (first | (apply mix.ord_take; (· rfl); (· rfl); (· (intro w' hSw; (try dsimp only at hSw); go_simp; try with_reducible rfl)); (try simp only [Act.put, List.setIfInBounds_toArray, List.set_cons_zero, List.set_cons_succ])) | ((refine mix.ord_pass rfl (by rfl) ?_); (try simp only [Act.put, List.setIfInBounds_toArray, List.set_cons_zero, List.set_cons_succ]))))
  refine mix.ord_end ?_
  go_wp2_with fail
  go_ret
  exact ⟨rfl, C3.out⟩

/-- make([]Row, 0, m). -/
theorem run_makeR (m : Nat) (hm : m ≤ 2000000) (w : World) :
    (Instr.makeSlice 46 (.int .i64 0) (.int .i64 (m : Int))).run Try.prog w = .ok (.slice (some ⟨w.heap.size, 0, none⟩) 0 m) (w.alloc (.cells (madeCells rowZ.cells (m * 9)) 120)) := by
  obtain ⟨i, hi, hz, hs, hb⟩ := row_info
  have hr := run_make (P := Try.prog) w 46 120 i _ Try.underlying46 hi hz .i64 .i64 0 m (Int.le_refl _) (by omega) (by rw [hb]; omega) (by omega)
  simp only [Int.toNat_zero, Int.toNat_natCast, hs] at hr
  exact hr

theorem flat_setAt {cs : List (List Value)} {k : Nat} (hk : ∀ c ∈ cs, c.length = k) {d : List Value} (hd : d.length = k) {m : Nat} (hm : m < cs.length) : (cs.set m d).flatten = putAt cs.flatten (m * k) d := by
  unfold putAt
  rw [(flat_take hk m (by omega)).1, hd, show m * k + k = (m + 1) * k by rw [Nat.succ_mul], (flat_take hk (m + 1) (by omega)).2, List.set_eq_take_append_cons_drop, if_pos hm]
  simp
theorem take_putAt_in (L : List Value) (o m : Nat) (d : List Value) (h1 : o + d.length ≤ m) (h2 : m ≤ L.length) : (putAt L o d).take m = putAt (L.take m) o d := by
  unfold putAt
  have hl : (L.take o ++ d).length = o + d.length := by rw [List.length_append, List.length_take]; omega
  rw [List.take_append, hl, List.take_of_length_le (by omega), List.take_take, Nat.min_eq_left (by omega), List.drop_take]
/-- A list of rows of the call's own, one row written over: its new key is younger. -/
theorem growRow_set {base : Nat} {wr w : World} {v : Value} {l : List RowD} {j : Nat} {y : RowD} {h : RowH} {f : List Nat} (hG : Grows 9 RRow 120 base wr v l) (hb : Below wr.heap.size wr w) (hj : j < l.length) (hy : Row.Is w y h f) (hf : Own wr.heap.size w f) :
    ∃ (b c : Nat) (u0 u1 u2 u3 u4 u5 u6 u7 u8 : Value), v = .slice (some ⟨b, 0, none⟩) l.length c ∧ base ≤ b ∧ b < wr.heap.size ∧
      (w.cell? ⟨b, j * 9, none⟩ = some u0 ∧ w.cell? ⟨b, j * 9 + 1, none⟩ = some u1 ∧ w.cell? ⟨b, j * 9 + 2, none⟩ = some u2 ∧ w.cell? ⟨b, j * 9 + 3, none⟩ = some u3 ∧ w.cell? ⟨b, j * 9 + 4, none⟩ = some u4 ∧ w.cell? ⟨b, j * 9 + 5, none⟩ = some u5 ∧ w.cell? ⟨b, j * 9 + 6, none⟩ = some u6 ∧ w.cell? ⟨b, j * 9 + 7, none⟩ = some u7 ∧ w.cell? ⟨b, j * 9 + 8, none⟩ = some u8) ∧ (∀ o, w.frozen? ⟨b, o, none⟩ = false) ∧
      Grows 9 RRow 120 base (w.setCells b (j * 9) (Row.list y h)) v (l.set j y) ∧ Below base w (w.setCells b (j * 9) (Row.list y h)) := by
  obtain ⟨css, F, e1, e2, e3, e4, e5, e6, hown⟩ := hG.ex
  have hlt := hG.lt
  rcases hown.2 with ⟨rfl, h0⟩ | ⟨g0, cap, cur, rfl, hbg, hh, hnc, hcm, hsz, htk⟩
  · omega
  obtain ⟨L, hL⟩ : ∃ L, cur = L.toArray := ⟨cur.toList, rfl⟩
  subst hL
  have hLl : L.length = cap * 9 := by simpa using hsz
  have hg0 : g0 < wr.heap.size := (Array.getElem?_eq_some_iff.1 hh).1
  have hbk : Blk w g0 120 L := (hb.block g0 hg0).trans hh
  have hcell : ∀ i, i < 9 → ∃ u, w.cell? ⟨g0, j * 9 + i, none⟩ = some u := fun i hi => ⟨_, (hbk.cell (j * 9 + i)).trans (List.getElem?_eq_getElem (by omega))⟩
  obtain ⟨u0, c0⟩ := hcell 0 (by omega)
  obtain ⟨u1, c1⟩ := hcell 1 (by omega)
  obtain ⟨u2, c2⟩ := hcell 2 (by omega)
  obtain ⟨u3, c3⟩ := hcell 3 (by omega)
  obtain ⟨u4, c4⟩ := hcell 4 (by omega)
  obtain ⟨u5, c5⟩ := hcell 5 (by omega)
  obtain ⟨u6, c6⟩ := hcell 6 (by omega)
  obtain ⟨u7, c7⟩ := hcell 7 (by omega)
  obtain ⟨u8, c8⟩ := hcell 8 (by omega)
  have hk' : Blk (w.setCells g0 (j * 9) (Row.list y h)) g0 120 (putAt L (j * 9) (Row.list y h)) := blk_setCells _ _ hbk (by simp [Row.list]; omega)
  have hap : Apart [g0] w (w.setCells g0 (j * 9) (Row.list y h)) := apart_setCells (by simp) _ _ (Apart.refl _ _)
  have hFg : ∀ b ∈ F.flatten, b ≠ g0 := fun b hbm e => (e6 b hbm).2.2 (by rw [e]; rfl)
  have hfg : ∀ b ∈ f, b ≠ g0 := fun b hbm => by have := (hf.2 b hbm).1; omega
  have hold : ∀ b ∈ F.flatten, (w.setCells g0 (j * 9) (Row.list y h)).heap[b]? = wr.heap[b]? := fun b hbm => (hap.block b (Nat.lt_of_lt_of_le (e6 b hbm).2.1.lt hb.size) (by simpa using hFg b hbm)).trans (hb.block b (e6 b hbm).2.1.lt)
  have hsub : ∀ b, b ∈ (F.set j f).flatten → b ∈ f ∨ b ∈ F.flatten := fun b hbm => by
    obtain ⟨q, hq, hbq⟩ := List.mem_flatten.1 hbm
    rcases List.mem_or_eq_of_mem_set hq with hq | rfl
    · exact .inr (List.mem_flatten.2 ⟨q, hq, hbq⟩)
    · exact .inl hbq
  refine ⟨g0, cap, u0, u1, u2, u3, u4, u5, u6, u7, u8, rfl, hbg, hg0, ⟨by simpa using c0, c1, c2, c3, c4, c5, c6, c7, c8⟩, fun o => hbk.frozen o, ⟨css.set j (Row.list y h), F.set j f, by simp [e1], by simp [e2], ?_, ?_, ?_, ?_, ?_⟩, hap.below (fun b hbm => by simp at hbm; omega) (by have := hb.size; omega)⟩
  · intro c hc
    rcases List.mem_or_eq_of_mem_set hc with hc | rfl
    · exact e3 c hc
    · rfl
  · intro i x c q hx hc hq
    by_cases hi : i = j
    · subst hi
      rw [List.getElem?_set_self hj] at hx
      rw [List.getElem?_set_self (by omega)] at hc hq
      cases hx; cases hc; cases hq
      exact ⟨h, rfl, hy.keep (fun b hbm => hap.block b (hf.2 b hbm).2.lt (by simpa using hfg b hbm))⟩
    · rw [List.getElem?_set_ne (Ne.symm hi)] at hx hc hq
      exact local_Row.keep (e4 i x c q hx hc hq) (fun b hbm => hold b (mem_flatten_of hq hbm))
  · have hn := List.pairwise_flatten.1 e5
    refine List.pairwise_flatten.2 ⟨fun q hq => ?_, ?_⟩
    · rcases List.mem_or_eq_of_mem_set hq with hq | rfl
      · exact hn.1 q hq
      · exact hf.1
    · rw [List.pairwise_iff_getElem] at hn ⊢
      intro i k hi hk hik p hp q hq e
      have hi' : i < F.length := by simpa using hi
      have hk2 : k < F.length := by simpa using hk
      rw [List.getElem_set] at hp hq
      have hFm : ∀ (m : Nat) (hm : m < F.length) b, b ∈ F[m] → b < wr.heap.size := fun m hm b hbm => (e6 b (List.mem_flatten.2 ⟨F[m], List.getElem_mem hm, hbm⟩)).2.1.lt
      split at hp <;> split at hq
      · omega
      · have h1 := (hf.2 p hp).1; have h2 := hFm k hk2 q hq; omega
      · have h1 := (hf.2 q hq).1; have h2 := hFm i hi' p hp; omega
      · exact hn.2 i k hi' hk2 hik p hp q hq e
  · intro b hbm
    rcases hsub b hbm with hb2 | hb2
    · exact ⟨by have := (hf.2 b hb2).1; omega, (hf.2 b hb2).2.same (hap.block b (hf.2 b hb2).2.lt (by simpa using hfg b hb2)), fun e => hfg b hb2 (by simpa [Value.ownBlock] using e.symm)⟩
    · exact ⟨(e6 b hb2).1, (e6 b hb2).2.1.same (hold b hb2), (e6 b hb2).2.2⟩
  · have hcl : css.flatten.length = l.length * 9 := by rw [flat_len e3, e1]
    have hfl := flat_setAt e3 (d := Row.list y h) rfl (m := j) (by omega)
    have htl : (css.set j (Row.list y h)).flatten.length = (l.set j y).length * 9 := by
      rw [hfl, putAt_len _ _ _ (by rw [hcl]; show j * 9 + 9 ≤ _; omega), hcl, List.length_set]
    refine ⟨htl, .inr ⟨g0, cap, (putAt L (j * 9) (Row.list y h)).toArray, by rw [List.length_set], hbg, hk', by rw [List.length_set]; exact hnc, hcm, ?_, ?_⟩⟩
    · rw [List.size_toArray, putAt_len _ _ _ (by show j * 9 + 9 ≤ _; omega), hLl]
    · rw [hfl, List.length_set, ← htk]
      exact take_putAt_in L (j * 9) (l.length * 9) (Row.list y h) (by show j * 9 + 9 ≤ _; omega) (by omega)
end Go.Proofs.Ytoglclmaacjdaaa.dat
