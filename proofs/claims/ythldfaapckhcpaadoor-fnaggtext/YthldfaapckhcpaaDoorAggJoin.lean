/-
  THE CONTRACTS OF eqAgg, with AND AggJoin, of the program and of its model: what each call answers, and that nothing that was there is written.
  Of with: both arguments are aggregates; else no condition.
-/
import Derived.Test.YthldfaapckhcpaaDoorAggOk
namespace Go.Proofs.YthldfaapckhcpaaDoor.agg
open Go.RowKit


set_option maxHeartbeats 400000 in
theorem eqAgg_same (n s mn mx : Int) (w : World) :
    Calls Tryd.prog 16 #[.agg #[.int .i64 n, .int .i64 s, .int .i64 mn, .int .i64 mx], .agg #[.int .i64 n, .int .i64 s, .int .i64 mn, .int .i64 mx]] w fun e w' => e = .returned (.bool true) ∧ Below w.heap.size w w' := by
  go_enter Tryd.func16, Tryd.ntmps16
  go_wp2
  go_ret
  exact ⟨rfl, ((Below.refl _ _).alloc (Nat.le_refl _) _).alloc (by simp) _⟩

/-- What joining answers, as the value that the program hands back. -/
def withV (n s mn mx n' s' mn' mx' : Int) : Q := wth ⟨n, s, mn, mx⟩ ⟨n', s', mn', mx'⟩

theorem bcell {W w1 : World} (hb : Below W.heap.size W w1) : (∀ b o, b < W.heap.size → w1.cell? ⟨b, o, none⟩ = W.cell? ⟨b, o, none⟩) ∧ (∀ b o, b < W.heap.size → w1.frozen? ⟨b, o, none⟩ = W.frozen? ⟨b, o, none⟩) :=
  ⟨fun b o h => hb.cell (p := ⟨b, o, none⟩) h, fun b o h => hb.frozen (p := ⟨b, o, none⟩) h⟩

/-- What AggJoin answers: the four numbers, and whether. -/
def joinV (n s mn mx n' s' mn' mx' : Int) : Q := joinQ ⟨n, s, mn, mx⟩ ⟨n', s', mn', mx'⟩
def joinT (n s mn mx n' s' mn' mx' : Int) : Bool := joinB ⟨n, s, mn, mx⟩ ⟨n', s', mn', mx'⟩

theorem joinT_cases (n s mn mx n' s' mn' mx' : Int) :
    (joinT n s mn mx n' s' mn' mx' = true ∧ joinV n s mn mx n' s' mn' mx' = withV n s mn mx n' s' mn' mx' ∧ OkP n s mn mx ∧ OkP n' s' mn' mx' ∧ n + n' ≤ 1000) ∨
    (joinT n s mn mx n' s' mn' mx' = false ∧ joinV n s mn mx n' s' mn' mx' = ⟨0, 0, 0, 0⟩ ∧ (okB n s mn mx = false ∨ (okB n s mn mx = true ∧ okB n' s' mn' mx' = false) ∨ (okB n s mn mx = true ∧ okB n' s' mn' mx' = true ∧ 1000 < n + n'))) := by
  by_cases h : JoinP ⟨n, s, mn, mx⟩ ⟨n', s', mn', mx'⟩
  · have e : joinT n s mn mx n' s' mn' mx' = true := by simp [joinT, joinB, h]
    exact .inl ⟨e, by unfold joinV joinQ; rw [if_pos (show joinB _ _ = true from e)]; rfl, h.1, h.2.1, h.2.2⟩
  · have e : joinT n s mn mx n' s' mn' mx' = false := by simp [joinT, joinB, h]
    refine .inr ⟨e, by unfold joinV joinQ; rw [if_neg (by rw [show joinB _ _ = false from e]; simp)]; rfl, ?_⟩
    by_cases ha : OkP n s mn mx
    · by_cases hb : OkP n' s' mn' mx'
      · refine .inr (.inr ⟨(okB_iff ..).2 ha, (okB_iff ..).2 hb, ?_⟩)
        apply Classical.byContradiction
        intro hn
        exact h ⟨ha, hb, by show n + n' ≤ 1000; omega⟩
      · exact .inr (.inl ⟨(okB_iff ..).2 ha, (okB_not ..).2 hb⟩)
    · exact .inl ((okB_not ..).2 ha)

set_option maxHeartbeats 400000 in
theorem spec_AggJoin_left (n s mn mx n' s' mn' mx' : Int) (w : World) (oa : okB n s mn mx = true) (ob : okB n' s' mn' mx' = true) (hle : n + n' ≤ 1000) (h : (n == 0) = true) :
    Calls Tryd.prog 47 #[.agg #[.int .i64 n, .int .i64 s, .int .i64 mn, .int .i64 mx], .agg #[.int .i64 n', .int .i64 s', .int .i64 mn', .int .i64 mx']] w fun e w' => e = .returned (.tuple #[.agg #[.int .i64 n', .int .i64 s', .int .i64 mn', .int .i64 mx'], .bool true]) ∧ Below w.heap.size w w' := by
  obtain ⟨c1, c2, c3, c4, c5, c6, c7⟩ := ok_bds ((okB_iff ..).1 oa)
  obtain ⟨d1, d2, d3, d4, d5, d6, d7⟩ := ok_bds ((okB_iff ..).1 ob)
  go_enter Tryd.func47, Tryd.ntmps47
  go_wp2_with fail
  refine (spec_AggOk _ _ _ _ _).mono ?_
  rintro e w1 ⟨rfl, hb1⟩
  obtain ⟨k1, f1⟩ := bcell hb1
  go_wp2_with fail
  refine (spec_AggOk _ _ _ _ _).mono ?_
  rintro e w2 ⟨rfl, hb2⟩
  replace hb2 := hb1.trans (hb2.mono hb1.size)
  clear k1 f1 hb1
  obtain ⟨k2, f2⟩ := bcell hb2
  have base : Below w.heap.size w w2 := ((((Below.refl _ _).alloc (Nat.le_refl _) _).alloc (by simp) _).alloc (by simp; omega) _).trans (hb2.mono (by simp; omega))
  go_wp2_with fail
  refine bodyPost_ret (v := .tuple #[.agg #[.int .i64 n', .int .i64 s', .int .i64 mn', .int .i64 mx'], .bool true]) (by simp [results, Tryd.results47, go_sem, k2]) rfl ⟨rfl, ?_⟩
  repeat (first | exact base | refine Below.setCell ?_ (by simp; try omega) _)

set_option maxHeartbeats 400000 in
theorem spec_AggJoin_right (n s mn mx n' s' mn' mx' : Int) (w : World) (oa : okB n s mn mx = true) (ob : okB n' s' mn' mx' = true) (hle : n + n' ≤ 1000) (h : (n == 0) = false) (h' : (n' == 0) = true) :
    Calls Tryd.prog 47 #[.agg #[.int .i64 n, .int .i64 s, .int .i64 mn, .int .i64 mx], .agg #[.int .i64 n', .int .i64 s', .int .i64 mn', .int .i64 mx']] w fun e w' => e = .returned (.tuple #[.agg #[.int .i64 n, .int .i64 s, .int .i64 mn, .int .i64 mx], .bool true]) ∧ Below w.heap.size w w' := by
  obtain ⟨c1, c2, c3, c4, c5, c6, c7⟩ := ok_bds ((okB_iff ..).1 oa)
  obtain ⟨d1, d2, d3, d4, d5, d6, d7⟩ := ok_bds ((okB_iff ..).1 ob)
  go_enter Tryd.func47, Tryd.ntmps47
  go_wp2_with fail
  refine (spec_AggOk _ _ _ _ _).mono ?_
  rintro e w1 ⟨rfl, hb1⟩
  obtain ⟨k1, f1⟩ := bcell hb1
  go_wp2_with fail
  refine (spec_AggOk _ _ _ _ _).mono ?_
  rintro e w2 ⟨rfl, hb2⟩
  replace hb2 := hb1.trans (hb2.mono hb1.size)
  clear k1 f1 hb1
  obtain ⟨k2, f2⟩ := bcell hb2
  have base : Below w.heap.size w w2 := ((((Below.refl _ _).alloc (Nat.le_refl _) _).alloc (by simp) _).alloc (by simp; omega) _).trans (hb2.mono (by simp; omega))
  go_wp2_with fail
  refine bodyPost_ret (v := .tuple #[.agg #[.int .i64 n, .int .i64 s, .int .i64 mn, .int .i64 mx], .bool true]) (by simp [results, Tryd.results47, go_sem, k2]) rfl ⟨rfl, ?_⟩
  repeat (first | exact base | refine Below.setCell ?_ (by simp; try omega) _)

set_option maxHeartbeats 400000 in
theorem spec_AggJoin_both (n s mn mx n' s' mn' mx' : Int) (w : World) (oa : okB n s mn mx = true) (ob : okB n' s' mn' mx' = true) (hle : n + n' ≤ 1000) (h : (n == 0) = false) (h' : (n' == 0) = false) :
    Calls Tryd.prog 47 #[.agg #[.int .i64 n, .int .i64 s, .int .i64 mn, .int .i64 mx], .agg #[.int .i64 n', .int .i64 s', .int .i64 mn', .int .i64 mx']] w fun e w' => e = .returned (.tuple #[.agg #[.int .i64 (n + n'), .int .i64 (s + s'), .int .i64 (min mn mn'), .int .i64 (max mx mx')], .bool true]) ∧ Below w.heap.size w w' := by
  obtain ⟨c1, c2, c3, c4, c5, c6, c7⟩ := ok_bds ((okB_iff ..).1 oa)
  obtain ⟨d1, d2, d3, d4, d5, d6, d7⟩ := ok_bds ((okB_iff ..).1 ob)
  go_enter Tryd.func47, Tryd.ntmps47
  go_wp2_with fail
  refine (spec_AggOk _ _ _ _ _).mono ?_
  rintro e w1 ⟨rfl, hb1⟩
  obtain ⟨k1, f1⟩ := bcell hb1
  go_wp2_with fail
  refine (spec_AggOk _ _ _ _ _).mono ?_
  rintro e w2 ⟨rfl, hb2⟩
  replace hb2 := hb1.trans (hb2.mono hb1.size)
  clear k1 f1 hb1
  obtain ⟨k2, f2⟩ := bcell hb2
  have base : Below w.heap.size w w2 := ((((Below.refl _ _).alloc (Nat.le_refl _) _).alloc (by simp) _).alloc (by simp; omega) _).trans (hb2.mono (by simp; omega))
  go_wp2_with fail
  all_goals first | rw [show min mn mn' = mn by omega] | rw [show min mn mn' = mn' by omega]
  all_goals first | rw [show max mx mx' = mx by omega] | rw [show max mx mx' = mx' by omega]
  all_goals refine bodyPost_ret (v := .tuple #[.agg #[.int .i64 (n + n'), .int .i64 (s + s'), .int .i64 _, .int .i64 _], .bool true]) (by simp [results, Tryd.results47, go_sem, k2]) rfl ⟨rfl, ?_⟩
  all_goals repeat (first | exact base | refine Below.setCell ?_ (by simp; try omega) _)

theorem spec_AggJoin_yes (n s mn mx n' s' mn' mx' : Int) (w : World) (ha : OkP n s mn mx) (hb : OkP n' s' mn' mx') (hle : n + n' ≤ 1000) :
    Calls Tryd.prog 47 #[.agg #[.int .i64 n, .int .i64 s, .int .i64 mn, .int .i64 mx], .agg #[.int .i64 n', .int .i64 s', .int .i64 mn', .int .i64 mx']] w fun e w' => e = .returned (.tuple #[.agg #[.int .i64 (withV n s mn mx n' s' mn' mx').n, .int .i64 (withV n s mn mx n' s' mn' mx').s, .int .i64 (withV n s mn mx n' s' mn' mx').mn, .int .i64 (withV n s mn mx n' s' mn' mx').mx], .bool true]) ∧ Below w.heap.size w w' := by
  have oa : okB n s mn mx = true := (okB_iff ..).2 ha
  have ob : okB n' s' mn' mx' = true := (okB_iff ..).2 hb
  by_cases h : n = 0
  · have e2 : withV n s mn mx n' s' mn' mx' = ⟨n', s', mn', mx'⟩ := by simp [withV, wth, h]
    rw [e2]
    exact spec_AggJoin_left n s mn mx n' s' mn' mx' w oa ob hle (by simp [h])
  · by_cases h' : n' = 0
    · have e2 : withV n s mn mx n' s' mn' mx' = ⟨n, s, mn, mx⟩ := by simp [withV, wth, h, h']
      rw [e2]
      exact spec_AggJoin_right n s mn mx n' s' mn' mx' w oa ob hle (by simp [h]) (by simp [h'])
    · have e2 : withV n s mn mx n' s' mn' mx' = ⟨n + n', s + s', min mn mn', max mx mx'⟩ := by simp [withV, wth, h, h']
      rw [e2]
      exact spec_AggJoin_both n s mn mx n' s' mn' mx' w oa ob hle (by simp [h]) (by simp [h'])

set_option maxHeartbeats 400000 in
theorem spec_AggJoin_no (n s mn mx n' s' mn' mx' : Int) (w : World) (hx : okB n s mn mx = false ∨ (okB n s mn mx = true ∧ okB n' s' mn' mx' = false) ∨ (okB n s mn mx = true ∧ okB n' s' mn' mx' = true ∧ 1000 < n + n')) :
    Calls Tryd.prog 47 #[.agg #[.int .i64 n, .int .i64 s, .int .i64 mn, .int .i64 mx], .agg #[.int .i64 n', .int .i64 s', .int .i64 mn', .int .i64 mx']] w fun e w' => e = .returned (.tuple #[.agg #[.int .i64 0, .int .i64 0, .int .i64 0, .int .i64 0], .bool false]) ∧ Below w.heap.size w w' := by
  rcases hx with oa | ⟨oa, ob⟩ | ⟨oa, ob, hgt⟩
  · go_enter Tryd.func47, Tryd.ntmps47
    go_wp2_with fail
    refine (spec_AggOk _ _ _ _ _).mono ?_
    rintro e w1 ⟨rfl, hb1⟩
    obtain ⟨k1, f1⟩ := bcell hb1
    have base : Below w.heap.size w w1 := ((((Below.refl _ _).alloc (Nat.le_refl _) _).alloc (by simp) _).alloc (by simp; omega) _).trans (hb1.mono (by simp; omega))
    go_wp2_with fail
    refine bodyPost_ret (v := .tuple #[.agg #[.int .i64 0, .int .i64 0, .int .i64 0, .int .i64 0], .bool false]) (by simp [results, Tryd.results47, go_sem, k1]) rfl ⟨rfl, ?_⟩
    repeat (first | exact base | refine Below.setCell ?_ (by simp; try omega) _)
  · go_enter Tryd.func47, Tryd.ntmps47
    go_wp2_with fail
    refine (spec_AggOk _ _ _ _ _).mono ?_
    rintro e w1 ⟨rfl, hb1⟩
    obtain ⟨k1, f1⟩ := bcell hb1
    go_wp2_with fail
    refine (spec_AggOk _ _ _ _ _).mono ?_
    rintro e w2 ⟨rfl, hb2⟩
    replace hb2 := hb1.trans (hb2.mono hb1.size)
    clear k1 f1 hb1
    obtain ⟨k2, f2⟩ := bcell hb2
    have base : Below w.heap.size w w2 := ((((Below.refl _ _).alloc (Nat.le_refl _) _).alloc (by simp) _).alloc (by simp; omega) _).trans (hb2.mono (by simp; omega))
    go_wp2_with fail
    refine bodyPost_ret (v := .tuple #[.agg #[.int .i64 0, .int .i64 0, .int .i64 0, .int .i64 0], .bool false]) (by simp [results, Tryd.results47, go_sem, k2]) rfl ⟨rfl, ?_⟩
    repeat (first | exact base | refine Below.setCell ?_ (by simp; try omega) _)
  · obtain ⟨c1, c2, -⟩ := ok_bds ((okB_iff ..).1 oa)
    obtain ⟨d1, d2, -⟩ := ok_bds ((okB_iff ..).1 ob)
    go_enter Tryd.func47, Tryd.ntmps47
    go_wp2_with fail
    refine (spec_AggOk _ _ _ _ _).mono ?_
    rintro e w1 ⟨rfl, hb1⟩
    obtain ⟨k1, f1⟩ := bcell hb1
    go_wp2_with fail
    refine (spec_AggOk _ _ _ _ _).mono ?_
    rintro e w2 ⟨rfl, hb2⟩
    replace hb2 := hb1.trans (hb2.mono hb1.size)
    clear k1 f1 hb1
    obtain ⟨k2, f2⟩ := bcell hb2
    have base : Below w.heap.size w w2 := ((((Below.refl _ _).alloc (Nat.le_refl _) _).alloc (by simp) _).alloc (by simp; omega) _).trans (hb2.mono (by simp; omega))
    go_wp2_with fail
    refine bodyPost_ret (v := .tuple #[.agg #[.int .i64 0, .int .i64 0, .int .i64 0, .int .i64 0], .bool false]) (by simp [results, Tryd.results47, go_sem, k2]) rfl ⟨rfl, ?_⟩
    repeat (first | exact base | refine Below.setCell ?_ (by simp; try omega) _)

theorem spec_AggJoin (n s mn mx n' s' mn' mx' : Int) (w : World) :
    Calls Tryd.prog 47 #[.agg #[.int .i64 n, .int .i64 s, .int .i64 mn, .int .i64 mx], .agg #[.int .i64 n', .int .i64 s', .int .i64 mn', .int .i64 mx']] w fun e w' => e = .returned (.tuple #[.agg #[.int .i64 (joinV n s mn mx n' s' mn' mx').n, .int .i64 (joinV n s mn mx n' s' mn' mx').s, .int .i64 (joinV n s mn mx n' s' mn' mx').mn, .int .i64 (joinV n s mn mx n' s' mn' mx').mx], .bool (joinT n s mn mx n' s' mn' mx')]) ∧ Below w.heap.size w w' := by
  rcases joinT_cases n s mn mx n' s' mn' mx' with ⟨h1, h2, h3, h4, h5⟩ | ⟨h1, h2, h3⟩
  · rw [h1, h2]; exact spec_AggJoin_yes _ _ _ _ _ _ _ _ w h3 h4 h5
  · rw [h1, h2]; exact spec_AggJoin_no _ _ _ _ _ _ _ _ w h3
end Go.Proofs.YthldfaapckhcpaaDoor.agg
