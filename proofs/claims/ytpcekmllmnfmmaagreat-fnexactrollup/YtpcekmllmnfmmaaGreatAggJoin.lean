/-
  THE CONTRACTS OF eqAgg, with AND AggJoin, of the program and of its model: what each call answers, and that nothing that was there is written.
  Of with: both arguments are aggregates; else no condition.
-/
import Derived.Test.YtpcekmllmnfmmaaGreatAggOk
namespace Go.Proofs.YtpcekmllmnfmmaaGreat.agg
open Go.RowKit


set_option maxHeartbeats 400000 in
theorem eqAgg_same (n s mn mx : Int) (w : World) :
    Calls Tryz.prog 79 #[.agg #[.int .i64 n, .int .i64 s, .int .i64 mn, .int .i64 mx], .agg #[.int .i64 n, .int .i64 s, .int .i64 mn, .int .i64 mx]] w fun e w' => e = .returned (.bool true) ∧ Below w.heap.size w w' := by
  go_enter Tryz.func79, Tryz.ntmps79
  go_wp2
  go_ret
  exact ⟨rfl, ((Below.refl _ _).alloc (Nat.le_refl _) _).alloc (by simp) _⟩

set_option maxHeartbeats 400000 in
theorem with_left (n s mn mx : Int) (w : World) :
    Calls Tryz.prog 102 #[.agg #[.int .i64 0, .int .i64 0, .int .i64 0, .int .i64 0], .agg #[.int .i64 n, .int .i64 s, .int .i64 mn, .int .i64 mx]] w fun e w' => e = .returned (.agg #[.int .i64 n, .int .i64 s, .int .i64 mn, .int .i64 mx]) ∧ Below w.heap.size w w' := by
  go_enter Tryz.func102, Tryz.ntmps102
  go_wp2
  refine bodyPost_ret (v := .agg #[.int .i64 n, .int .i64 s, .int .i64 mn, .int .i64 mx]) (by simp [results, Tryz.results102, go_sem]) rfl ⟨rfl, ?_⟩
  exact (((Below.refl _ _).alloc (Nat.le_refl _) _).alloc (by simp) _).alloc (by simp; omega) _

set_option maxHeartbeats 400000 in
theorem with_right (n s mn mx : Int) (w : World) (h : ¬ n = 0) :
    Calls Tryz.prog 102 #[.agg #[.int .i64 n, .int .i64 s, .int .i64 mn, .int .i64 mx], .agg #[.int .i64 0, .int .i64 0, .int .i64 0, .int .i64 0]] w fun e w' => e = .returned (.agg #[.int .i64 n, .int .i64 s, .int .i64 mn, .int .i64 mx]) ∧ Below w.heap.size w w' := by
  go_enter Tryz.func102, Tryz.ntmps102
  go_wp2
  refine bodyPost_ret (v := .agg #[.int .i64 n, .int .i64 s, .int .i64 mn, .int .i64 mx]) (by simp [results, Tryz.results102, go_sem]) rfl ⟨rfl, ?_⟩
  exact (((Below.refl _ _).alloc (Nat.le_refl _) _).alloc (by simp) _).alloc (by simp; omega) _

set_option maxHeartbeats 400000 in
theorem with_both (n s mn mx n' s' mn' mx' : Int) (w : World) (h : ¬ n = 0) (h' : ¬ n' = 0)
    (b1 : 0 ≤ n ∧ n ≤ 1000) (b2 : 0 ≤ n' ∧ n' ≤ 1000) (b3 : -2000000000 ≤ s ∧ s ≤ 2000000000) (b4 : -2000000000 ≤ s' ∧ s' ≤ 2000000000) :
    Calls Tryz.prog 102 #[.agg #[.int .i64 n, .int .i64 s, .int .i64 mn, .int .i64 mx], .agg #[.int .i64 n', .int .i64 s', .int .i64 mn', .int .i64 mx']] w fun e w' => e = .returned (.agg #[.int .i64 (n + n'), .int .i64 (s + s'), .int .i64 (min mn mn'), .int .i64 (max mx mx')]) ∧ Below w.heap.size w w' := by
  obtain ⟨c1, c2⟩ := b1
  obtain ⟨c3, c4⟩ := b2
  obtain ⟨c5, c6⟩ := b3
  obtain ⟨c7, c8⟩ := b4
  go_enter Tryz.func102, Tryz.ntmps102
  go_wp2
  all_goals first | rw [show min mn mn' = mn by omega] | rw [show min mn mn' = mn' by omega]
  all_goals first | rw [show max mx mx' = mx by omega] | rw [show max mx mx' = mx' by omega]
  all_goals refine bodyPost_ret (v := .agg #[.int .i64 (n + n'), .int .i64 (s + s'), .int .i64 _, .int .i64 _]) (by simp [results, Tryz.results102, go_sem]) rfl ⟨rfl, ?_⟩
  all_goals exact (((Below.refl _ _).alloc (Nat.le_refl _) _).alloc (by simp) _).alloc (by simp; omega) _

/-- What joining answers, as the value that the program hands back. -/
def withV (n s mn mx n' s' mn' mx' : Int) : Q := wth ⟨n, s, mn, mx⟩ ⟨n', s', mn', mx'⟩

theorem with_any (n s mn mx n' s' mn' mx' : Int) (w : World) (ha : OkP n s mn mx) (hb : OkP n' s' mn' mx') :
    Calls Tryz.prog 102 #[.agg #[.int .i64 n, .int .i64 s, .int .i64 mn, .int .i64 mx], .agg #[.int .i64 n', .int .i64 s', .int .i64 mn', .int .i64 mx']] w fun e w' => e = .returned (.agg #[.int .i64 (withV n s mn mx n' s' mn' mx').n, .int .i64 (withV n s mn mx n' s' mn' mx').s, .int .i64 (withV n s mn mx n' s' mn' mx').mn, .int .i64 (withV n s mn mx n' s' mn' mx').mx]) ∧ Below w.heap.size w w' := by
  have b1 := ok_bds ha
  have b2 := ok_bds hb
  by_cases h : n = 0
  · have e := n0 (a := ⟨n, s, mn, mx⟩) ha h
    simp only [zero, Q.mk.injEq] at e
    obtain ⟨rfl, rfl, rfl, rfl⟩ := e
    exact with_left n' s' mn' mx' w
  · by_cases h' : n' = 0
    · have e := n0 (a := ⟨n', s', mn', mx'⟩) hb h'
      simp only [zero, Q.mk.injEq] at e
      obtain ⟨rfl, rfl, rfl, rfl⟩ := e
      have e2 : withV n s mn mx 0 0 0 0 = ⟨n, s, mn, mx⟩ := by simp [withV, wth, h]
      rw [e2]
      exact with_right n s mn mx w h
    · have e2 : withV n s mn mx n' s' mn' mx' = ⟨n + n', s + s', min mn mn', max mx mx'⟩ := by simp [withV, wth, h, h']
      rw [e2]
      exact with_both n s mn mx n' s' mn' mx' w h h' (by omega) (by omega) (by omega) (by omega)

theorem bcell {W w1 : World} (hb : Below W.heap.size W w1) : (∀ b o, b < W.heap.size → w1.cell? ⟨b, o, none⟩ = W.cell? ⟨b, o, none⟩) ∧ (∀ b o, b < W.heap.size → w1.frozen? ⟨b, o, none⟩ = W.frozen? ⟨b, o, none⟩) :=
  ⟨fun b o h => hb.cell (p := ⟨b, o, none⟩) h, fun b o h => hb.frozen (p := ⟨b, o, none⟩) h⟩

set_option maxHeartbeats 400000 in
theorem impl_AggJoin_yes (n s mn mx n' s' mn' mx' : Int) (w : World) (ha : OkP n s mn mx) (hb : OkP n' s' mn' mx') (hle : n + n' ≤ 1000) :
    Calls Tryz.prog 74 #[.agg #[.int .i64 n, .int .i64 s, .int .i64 mn, .int .i64 mx], .agg #[.int .i64 n', .int .i64 s', .int .i64 mn', .int .i64 mx']] w fun e w' => e = .returned (.tuple #[.agg #[.int .i64 (withV n s mn mx n' s' mn' mx').n, .int .i64 (withV n s mn mx n' s' mn' mx').s, .int .i64 (withV n s mn mx n' s' mn' mx').mn, .int .i64 (withV n s mn mx n' s' mn' mx').mx], .bool true]) ∧ Below w.heap.size w w' := by
  have oa : okB n s mn mx = true := (okB_iff ..).2 ha
  have ob : okB n' s' mn' mx' = true := (okB_iff ..).2 hb
  obtain ⟨c1, c2, -⟩ := ok_bds ha
  obtain ⟨d1, d2, -⟩ := ok_bds hb
  have HA := Lib.hid ha
  have HB := Lib.hid hb
  clear ha hb
  go_enter Tryz.func74, Tryz.ntmps74
  go_wp2_with fail
  refine (impl_AggOk _ _ _ _ _).mono ?_
  rintro e w1 ⟨rfl, hb1⟩
  obtain ⟨k1, f1⟩ := bcell hb1
  go_wp2_with fail
  refine (impl_AggOk _ _ _ _ _).mono ?_
  rintro e w2 ⟨rfl, hb2⟩
  replace hb2 := hb1.trans (hb2.mono hb1.size)
  clear k1 f1 hb1
  obtain ⟨k2, f2⟩ := bcell hb2
  go_wp2_with fail
  refine (with_any _ _ _ _ _ _ _ _ _ HA.out HB.out).mono ?_
  rintro e w3 ⟨rfl, hb3⟩
  replace hb3 := hb2.trans (hb3.mono hb2.size)
  clear k2 f2 hb2
  obtain ⟨k3, f3⟩ := bcell hb3
  have base : Below w.heap.size w w3 := ((((Below.refl _ _).alloc (Nat.le_refl _) _).alloc (by simp) _).alloc (by simp; omega) _).trans (hb3.mono (by simp; omega))
  go_wp2_with fail
  refine bodyPost_ret (v := .tuple #[.agg #[.int .i64 (withV n s mn mx n' s' mn' mx').n, .int .i64 (withV n s mn mx n' s' mn' mx').s, .int .i64 (withV n s mn mx n' s' mn' mx').mn, .int .i64 (withV n s mn mx n' s' mn' mx').mx], .bool true]) (by simp [results, Tryz.results74, go_sem, k3]) rfl ⟨rfl, ?_⟩
  repeat (first | exact base | refine Below.setCell ?_ (by simp; try omega) _)

set_option maxHeartbeats 400000 in
theorem impl_AggJoin_no (n s mn mx n' s' mn' mx' : Int) (w : World) (hx : okB n s mn mx = false ∨ (okB n s mn mx = true ∧ okB n' s' mn' mx' = false) ∨ (okB n s mn mx = true ∧ okB n' s' mn' mx' = true ∧ 1000 < n + n')) :
    Calls Tryz.prog 74 #[.agg #[.int .i64 n, .int .i64 s, .int .i64 mn, .int .i64 mx], .agg #[.int .i64 n', .int .i64 s', .int .i64 mn', .int .i64 mx']] w fun e w' => e = .returned (.tuple #[.agg #[.int .i64 0, .int .i64 0, .int .i64 0, .int .i64 0], .bool false]) ∧ Below w.heap.size w w' := by
  rcases hx with oa | ⟨oa, ob⟩ | ⟨oa, ob, hgt⟩
  · go_enter Tryz.func74, Tryz.ntmps74
    go_wp2_with fail
    refine (impl_AggOk _ _ _ _ _).mono ?_
    rintro e w1 ⟨rfl, hb1⟩
    obtain ⟨k1, f1⟩ := bcell hb1
    have base : Below w.heap.size w w1 := ((((Below.refl _ _).alloc (Nat.le_refl _) _).alloc (by simp) _).alloc (by simp; omega) _).trans (hb1.mono (by simp; omega))
    go_wp2_with fail
    refine bodyPost_ret (v := .tuple #[.agg #[.int .i64 0, .int .i64 0, .int .i64 0, .int .i64 0], .bool false]) (by simp [results, Tryz.results74, go_sem, k1]) rfl ⟨rfl, ?_⟩
    repeat (first | exact base | refine Below.setCell ?_ (by simp; try omega) _)
  · go_enter Tryz.func74, Tryz.ntmps74
    go_wp2_with fail
    refine (impl_AggOk _ _ _ _ _).mono ?_
    rintro e w1 ⟨rfl, hb1⟩
    obtain ⟨k1, f1⟩ := bcell hb1
    go_wp2_with fail
    refine (impl_AggOk _ _ _ _ _).mono ?_
    rintro e w2 ⟨rfl, hb2⟩
    replace hb2 := hb1.trans (hb2.mono hb1.size)
    clear k1 f1 hb1
    obtain ⟨k2, f2⟩ := bcell hb2
    have base : Below w.heap.size w w2 := ((((Below.refl _ _).alloc (Nat.le_refl _) _).alloc (by simp) _).alloc (by simp; omega) _).trans (hb2.mono (by simp; omega))
    go_wp2_with fail
    refine bodyPost_ret (v := .tuple #[.agg #[.int .i64 0, .int .i64 0, .int .i64 0, .int .i64 0], .bool false]) (by simp [results, Tryz.results74, go_sem, k2]) rfl ⟨rfl, ?_⟩
    repeat (first | exact base | refine Below.setCell ?_ (by simp; try omega) _)
  · obtain ⟨c1, c2, -⟩ := ok_bds ((okB_iff ..).1 oa)
    obtain ⟨d1, d2, -⟩ := ok_bds ((okB_iff ..).1 ob)
    go_enter Tryz.func74, Tryz.ntmps74
    go_wp2_with fail
    refine (impl_AggOk _ _ _ _ _).mono ?_
    rintro e w1 ⟨rfl, hb1⟩
    obtain ⟨k1, f1⟩ := bcell hb1
    go_wp2_with fail
    refine (impl_AggOk _ _ _ _ _).mono ?_
    rintro e w2 ⟨rfl, hb2⟩
    replace hb2 := hb1.trans (hb2.mono hb1.size)
    clear k1 f1 hb1
    obtain ⟨k2, f2⟩ := bcell hb2
    have base : Below w.heap.size w w2 := ((((Below.refl _ _).alloc (Nat.le_refl _) _).alloc (by simp) _).alloc (by simp; omega) _).trans (hb2.mono (by simp; omega))
    go_wp2_with fail
    refine bodyPost_ret (v := .tuple #[.agg #[.int .i64 0, .int .i64 0, .int .i64 0, .int .i64 0], .bool false]) (by simp [results, Tryz.results74, go_sem, k2]) rfl ⟨rfl, ?_⟩
    repeat (first | exact base | refine Below.setCell ?_ (by simp; try omega) _)

/-- What AggJoin answers: the four numbers, and whether. -/
def joinV (n s mn mx n' s' mn' mx' : Int) : Q := joinQ ⟨n, s, mn, mx⟩ ⟨n', s', mn', mx'⟩
def joinT (n s mn mx n' s' mn' mx' : Int) : Bool := joinB ⟨n, s, mn, mx⟩ ⟨n', s', mn', mx'⟩

theorem joinT_cases (n s mn mx n' s' mn' mx' : Int) :
    (joinT n s mn mx n' s' mn' mx' = true ∧ joinV n s mn mx n' s' mn' mx' = withV n s mn mx n' s' mn' mx' ∧ OkP n s mn mx ∧ OkP n' s' mn' mx' ∧ n + n' ≤ 1000) ∨
    (joinT n s mn mx n' s' mn' mx' = false ∧ joinV n s mn mx n' s' mn' mx' = ⟨0, 0, 0, 0⟩ ∧ (okB n s mn mx = false ∨ (okB n s mn mx = true ∧ okB n' s' mn' mx' = false) ∨ (okB n s mn mx = true ∧ okB n' s' mn' mx' = true ∧ 1000 < n + n'))) := by
  by_cases h : JoinP ⟨n, s, mn, mx⟩ ⟨n', s', mn', mx'⟩
  · have e : joinT n s mn mx n' s' mn' mx' = true := by simp [joinT, joinB, h]
    exact .inl ⟨e, by unfold joinV joinQ; rw [if_pos (show joinB _ _ = true from e)]; rfl, h.1, h.2.1, h.2.2⟩
  · have e : joinT n s mn mx n' s' mn' mx' = false := by simp [joinT, joinB, h]
    refine .inr ⟨e, by unfold joinV joinQ; rw [if_neg (by rw [show joinB _ _ = false from e]; simp)]; rfl, ?_⟩
    by_cases ha : OkP n s mn mx
    · by_cases hb : OkP n' s' mn' mx'
      · refine .inr (.inr ⟨(okB_iff ..).2 ha, (okB_iff ..).2 hb, ?_⟩)
        apply Classical.byContradiction
        intro hn
        exact h ⟨ha, hb, by show n + n' ≤ 1000; omega⟩
      · exact .inr (.inl ⟨(okB_iff ..).2 ha, (okB_not ..).2 hb⟩)
    · exact .inl ((okB_not ..).2 ha)

theorem impl_AggJoin (n s mn mx n' s' mn' mx' : Int) (w : World) :
    Calls Tryz.prog 74 #[.agg #[.int .i64 n, .int .i64 s, .int .i64 mn, .int .i64 mx], .agg #[.int .i64 n', .int .i64 s', .int .i64 mn', .int .i64 mx']] w fun e w' => e = .returned (.tuple #[.agg #[.int .i64 (joinV n s mn mx n' s' mn' mx').n, .int .i64 (joinV n s mn mx n' s' mn' mx').s, .int .i64 (joinV n s mn mx n' s' mn' mx').mn, .int .i64 (joinV n s mn mx n' s' mn' mx').mx], .bool (joinT n s mn mx n' s' mn' mx')]) ∧ Below w.heap.size w w' := by
  rcases joinT_cases n s mn mx n' s' mn' mx' with ⟨h1, h2, h3, h4, h5⟩ | ⟨h1, h2, h3⟩
  · rw [h1, h2]; exact impl_AggJoin_yes _ _ _ _ _ _ _ _ w h3 h4 h5
  · rw [h1, h2]; exact impl_AggJoin_no _ _ _ _ _ _ _ _ w h3

set_option maxHeartbeats 400000 in
theorem spec_AggJoin_left (n s mn mx n' s' mn' mx' : Int) (w : World) (oa : okB n s mn mx = true) (ob : okB n' s' mn' mx' = true) (hle : n + n' ≤ 1000) (h : (n == 0) = true) :
    Calls Tryz.prog 66 #[.agg #[.int .i64 n, .int .i64 s, .int .i64 mn, .int .i64 mx], .agg #[.int .i64 n', .int .i64 s', .int .i64 mn', .int .i64 mx']] w fun e w' => e = .returned (.tuple #[.agg #[.int .i64 n', .int .i64 s', .int .i64 mn', .int .i64 mx'], .bool true]) ∧ Below w.heap.size w w' := by
  obtain ⟨c1, c2, c3, c4, c5, c6, c7⟩ := ok_bds ((okB_iff ..).1 oa)
  obtain ⟨d1, d2, d3, d4, d5, d6, d7⟩ := ok_bds ((okB_iff ..).1 ob)
  go_enter Tryz.func66, Tryz.ntmps66
  go_wp2_with fail
  refine (spec_AggOk _ _ _ _ _).mono ?_
  rintro e w1 ⟨rfl, hb1⟩
  obtain ⟨k1, f1⟩ := bcell hb1
  go_wp2_with fail
  refine (spec_AggOk _ _ _ _ _).mono ?_
  rintro e w2 ⟨rfl, hb2⟩
  replace hb2 := hb1.trans (hb2.mono hb1.size)
  clear k1 f1 hb1
  obtain ⟨k2, f2⟩ := bcell hb2
  have base : Below w.heap.size w w2 := ((((Below.refl _ _).alloc (Nat.le_refl _) _).alloc (by simp) _).alloc (by simp; omega) _).trans (hb2.mono (by simp; omega))
  go_wp2_with fail
  refine bodyPost_ret (v := .tuple #[.agg #[.int .i64 n', .int .i64 s', .int .i64 mn', .int .i64 mx'], .bool true]) (by simp [results, Tryz.results66, go_sem, k2]) rfl ⟨rfl, ?_⟩
  repeat (first | exact base | refine Below.setCell ?_ (by simp; try omega) _)

set_option maxHeartbeats 400000 in
theorem spec_AggJoin_right (n s mn mx n' s' mn' mx' : Int) (w : World) (oa : okB n s mn mx = true) (ob : okB n' s' mn' mx' = true) (hle : n + n' ≤ 1000) (h : (n == 0) = false) (h' : (n' == 0) = true) :
    Calls Tryz.prog 66 #[.agg #[.int .i64 n, .int .i64 s, .int .i64 mn, .int .i64 mx], .agg #[.int .i64 n', .int .i64 s', .int .i64 mn', .int .i64 mx']] w fun e w' => e = .returned (.tuple #[.agg #[.int .i64 n, .int .i64 s, .int .i64 mn, .int .i64 mx], .bool true]) ∧ Below w.heap.size w w' := by
  obtain ⟨c1, c2, c3, c4, c5, c6, c7⟩ := ok_bds ((okB_iff ..).1 oa)
  obtain ⟨d1, d2, d3, d4, d5, d6, d7⟩ := ok_bds ((okB_iff ..).1 ob)
  go_enter Tryz.func66, Tryz.ntmps66
  go_wp2_with fail
  refine (spec_AggOk _ _ _ _ _).mono ?_
  rintro e w1 ⟨rfl, hb1⟩
  obtain ⟨k1, f1⟩ := bcell hb1
  go_wp2_with fail
  refine (spec_AggOk _ _ _ _ _).mono ?_
  rintro e w2 ⟨rfl, hb2⟩
  replace hb2 := hb1.trans (hb2.mono hb1.size)
  clear k1 f1 hb1
  obtain ⟨k2, f2⟩ := bcell hb2
  have base : Below w.heap.size w w2 := ((((Below.refl _ _).alloc (Nat.le_refl _) _).alloc (by simp) _).alloc (by simp; omega) _).trans (hb2.mono (by simp; omega))
  go_wp2_with fail
  refine bodyPost_ret (v := .tuple #[.agg #[.int .i64 n, .int .i64 s, .int .i64 mn, .int .i64 mx], .bool true]) (by simp [results, Tryz.results66, go_sem, k2]) rfl ⟨rfl, ?_⟩
  repeat (first | exact base | refine Below.setCell ?_ (by simp; try omega) _)

set_option maxHeartbeats 400000 in
theorem spec_AggJoin_both (n s mn mx n' s' mn' mx' : Int) (w : World) (oa : okB n s mn mx = true) (ob : okB n' s' mn' mx' = true) (hle : n + n' ≤ 1000) (h : (n == 0) = false) (h' : (n' == 0) = false) :
    Calls Tryz.prog 66 #[.agg #[.int .i64 n, .int .i64 s, .int .i64 mn, .int .i64 mx], .agg #[.int .i64 n', .int .i64 s', .int .i64 mn', .int .i64 mx']] w fun e w' => e = .returned (.tuple #[.agg #[.int .i64 (n + n'), .int .i64 (s + s'), .int .i64 (min mn mn'), .int .i64 (max mx mx')], .bool true]) ∧ Below w.heap.size w w' := by
  obtain ⟨c1, c2, c3, c4, c5, c6, c7⟩ := ok_bds ((okB_iff ..).1 oa)
  obtain ⟨d1, d2, d3, d4, d5, d6, d7⟩ := ok_bds ((okB_iff ..).1 ob)
  go_enter Tryz.func66, Tryz.ntmps66
  go_wp2_with fail
  refine (spec_AggOk _ _ _ _ _).mono ?_
  rintro e w1 ⟨rfl, hb1⟩
  obtain ⟨k1, f1⟩ := bcell hb1
  go_wp2_with fail
  refine (spec_AggOk _ _ _ _ _).mono ?_
  rintro e w2 ⟨rfl, hb2⟩
  replace hb2 := hb1.trans (hb2.mono hb1.size)
  clear k1 f1 hb1
  obtain ⟨k2, f2⟩ := bcell hb2
  have base : Below w.heap.size w w2 := ((((Below.refl _ _).alloc (Nat.le_refl _) _).alloc (by simp) _).alloc (by simp; omega) _).trans (hb2.mono (by simp; omega))
  go_wp2_with fail
  all_goals first | rw [show min mn mn' = mn by omega] | rw [show min mn mn' = mn' by omega]
  all_goals first | rw [show max mx mx' = mx by omega] | rw [show max mx mx' = mx' by omega]
  all_goals refine bodyPost_ret (v := .tuple #[.agg #[.int .i64 (n + n'), .int .i64 (s + s'), .int .i64 _, .int .i64 _], .bool true]) (by simp [results, Tryz.results66, go_sem, k2]) rfl ⟨rfl, ?_⟩
  all_goals repeat (first | exact base | refine Below.setCell ?_ (by simp; try omega) _)

theorem spec_AggJoin_yes (n s mn mx n' s' mn' mx' : Int) (w : World) (ha : OkP n s mn mx) (hb : OkP n' s' mn' mx') (hle : n + n' ≤ 1000) :
    Calls Tryz.prog 66 #[.agg #[.int .i64 n, .int .i64 s, .int .i64 mn, .int .i64 mx], .agg #[.int .i64 n', .int .i64 s', .int .i64 mn', .int .i64 mx']] w fun e w' => e = .returned (.tuple #[.agg #[.int .i64 (withV n s mn mx n' s' mn' mx').n, .int .i64 (withV n s mn mx n' s' mn' mx').s, .int .i64 (withV n s mn mx n' s' mn' mx').mn, .int .i64 (withV n s mn mx n' s' mn' mx').mx], .bool true]) ∧ Below w.heap.size w w' := by
  have oa : okB n s mn mx = true := (okB_iff ..).2 ha
  have ob : okB n' s' mn' mx' = true := (okB_iff ..).2 hb
  by_cases h : n = 0
  · have e2 : withV n s mn mx n' s' mn' mx' = ⟨n', s', mn', mx'⟩ := by simp [withV, wth, h]
    rw [e2]
    exact spec_AggJoin_left n s mn mx n' s' mn' mx' w oa ob hle (by simp [h])
  · by_cases h' : n' = 0
    · have e2 : withV n s mn mx n' s' mn' mx' = ⟨n, s, mn, mx⟩ := by simp [withV, wth, h, h']
      rw [e2]
      exact spec_AggJoin_right n s mn mx n' s' mn' mx' w oa ob hle (by simp [h]) (by simp [h'])
    · have e2 : withV n s mn mx n' s' mn' mx' = ⟨n + n', s + s', min mn mn', max mx mx'⟩ := by simp [withV, wth, h, h']
      rw [e2]
      exact spec_AggJoin_both n s mn mx n' s' mn' mx' w oa ob hle (by simp [h]) (by simp [h'])

set_option maxHeartbeats 400000 in
theorem spec_AggJoin_no (n s mn mx n' s' mn' mx' : Int) (w : World) (hx : okB n s mn mx = false ∨ (okB n s mn mx = true ∧ okB n' s' mn' mx' = false) ∨ (okB n s mn mx = true ∧ okB n' s' mn' mx' = true ∧ 1000 < n + n')) :
    Calls Tryz.prog 66 #[.agg #[.int .i64 n, .int .i64 s, .int .i64 mn, .int .i64 mx], .agg #[.int .i64 n', .int .i64 s', .int .i64 mn', .int .i64 mx']] w fun e w' => e = .returned (.tuple #[.agg #[.int .i64 0, .int .i64 0, .int .i64 0, .int .i64 0], .bool false]) ∧ Below w.heap.size w w' := by
  rcases hx with oa | ⟨oa, ob⟩ | ⟨oa, ob, hgt⟩
  · go_enter Tryz.func66, Tryz.ntmps66
    go_wp2_with fail
    refine (spec_AggOk _ _ _ _ _).mono ?_
    rintro e w1 ⟨rfl, hb1⟩
    obtain ⟨k1, f1⟩ := bcell hb1
    have base : Below w.heap.size w w1 := ((((Below.refl _ _).alloc (Nat.le_refl _) _).alloc (by simp) _).alloc (by simp; omega) _).trans (hb1.mono (by simp; omega))
    go_wp2_with fail
    refine bodyPost_ret (v := .tuple #[.agg #[.int .i64 0, .int .i64 0, .int .i64 0, .int .i64 0], .bool false]) (by simp [results, Tryz.results66, go_sem, k1]) rfl ⟨rfl, ?_⟩
    repeat (first | exact base | refine Below.setCell ?_ (by simp; try omega) _)
  · go_enter Tryz.func66, Tryz.ntmps66
    go_wp2_with fail
    refine (spec_AggOk _ _ _ _ _).mono ?_
    rintro e w1 ⟨rfl, hb1⟩
    obtain ⟨k1, f1⟩ := bcell hb1
    go_wp2_with fail
    refine (spec_AggOk _ _ _ _ _).mono ?_
    rintro e w2 ⟨rfl, hb2⟩
    replace hb2 := hb1.trans (hb2.mono hb1.size)
    clear k1 f1 hb1
    obtain ⟨k2, f2⟩ := bcell hb2
    have base : Below w.heap.size w w2 := ((((Below.refl _ _).alloc (Nat.le_refl _) _).alloc (by simp) _).alloc (by simp; omega) _).trans (hb2.mono (by simp; omega))
    go_wp2_with fail
    refine bodyPost_ret (v := .tuple #[.agg #[.int .i64 0, .int .i64 0, .int .i64 0, .int .i64 0], .bool false]) (by simp [results, Tryz.results66, go_sem, k2]) rfl ⟨rfl, ?_⟩
    repeat (first | exact base | refine Below.setCell ?_ (by simp; try omega) _)
  · obtain ⟨c1, c2, -⟩ := ok_bds ((okB_iff ..).1 oa)
    obtain ⟨d1, d2, -⟩ := ok_bds ((okB_iff ..).1 ob)
    go_enter Tryz.func66, Tryz.ntmps66
    go_wp2_with fail
    refine (spec_AggOk _ _ _ _ _).mono ?_
    rintro e w1 ⟨rfl, hb1⟩
    obtain ⟨k1, f1⟩ := bcell hb1
    go_wp2_with fail
    refine (spec_AggOk _ _ _ _ _).mono ?_
    rintro e w2 ⟨rfl, hb2⟩
    replace hb2 := hb1.trans (hb2.mono hb1.size)
    clear k1 f1 hb1
    obtain ⟨k2, f2⟩ := bcell hb2
    have base : Below w.heap.size w w2 := ((((Below.refl _ _).alloc (Nat.le_refl _) _).alloc (by simp) _).alloc (by simp; omega) _).trans (hb2.mono (by simp; omega))
    go_wp2_with fail
    refine bodyPost_ret (v := .tuple #[.agg #[.int .i64 0, .int .i64 0, .int .i64 0, .int .i64 0], .bool false]) (by simp [results, Tryz.results66, go_sem, k2]) rfl ⟨rfl, ?_⟩
    repeat (first | exact base | refine Below.setCell ?_ (by simp; try omega) _)

theorem spec_AggJoin (n s mn mx n' s' mn' mx' : Int) (w : World) :
    Calls Tryz.prog 66 #[.agg #[.int .i64 n, .int .i64 s, .int .i64 mn, .int .i64 mx], .agg #[.int .i64 n', .int .i64 s', .int .i64 mn', .int .i64 mx']] w fun e w' => e = .returned (.tuple #[.agg #[.int .i64 (joinV n s mn mx n' s' mn' mx').n, .int .i64 (joinV n s mn mx n' s' mn' mx').s, .int .i64 (joinV n s mn mx n' s' mn' mx').mn, .int .i64 (joinV n s mn mx n' s' mn' mx').mx], .bool (joinT n s mn mx n' s' mn' mx')]) ∧ Below w.heap.size w w' := by
  rcases joinT_cases n s mn mx n' s' mn' mx' with ⟨h1, h2, h3, h4, h5⟩ | ⟨h1, h2, h3⟩
  · rw [h1, h2]; exact spec_AggJoin_yes _ _ _ _ _ _ _ _ w h3 h4 h5
  · rw [h1, h2]; exact spec_AggJoin_no _ _ _ _ _ _ _ _ w h3
end Go.Proofs.YtpcekmllmnfmmaaGreat.agg
