/-
  THE CONTRACTS OF AggOk, AggOf, toAgg AND eqAgg, of the program and of its model: what each call answers, and that nothing that was there is written.
  No condition on the arguments.
-/
import Derived.Test.YtoglclmaacjdaaaRows
import Derived.Test.YtoglclmaacjdaaaAggMath
import Derived.WalkKit
import Derived.WalkSpells
import Derived.WalkLawsBesides
import Derived.BigQuiet
import Derived.Deep.QuietTactic
import Derived.Deep.RegionWith
import Derived.Lib.Hide
namespace Go.Proofs.Ytoglclmaacjdaaa.agg
open Go.RowKit

theorem ret_bool {a b : Bool} (h : a = b) : Ending.returned (.bool a) = .returned (.bool b) := by rw [h]

set_option maxHeartbeats 400000 in
theorem spec_AggOk (n s mn mx : Int) (w : World) :
    Calls Try.prog 140 #[.agg #[.int .i64 n, .int .i64 s, .int .i64 mn, .int .i64 mx]] w fun e w' => e = .returned (.bool (okB n s mn mx)) ∧ Below w.heap.size w w' := by
  by_cases hr : 0 ≤ n ∧ n ≤ 1000 ∧ -1000000 ≤ mn ∧ mn ≤ 1000000 ∧ -1000000 ≤ mx ∧ mx ≤ 1000000
  · obtain ⟨r1, r2, r3, r4, r5, r6⟩ := hr
    by_cases h0 : n = 0
    · subst h0
      by_cases hz : s = 0 ∧ mn = 0 ∧ mx = 0
      · obtain ⟨rfl, rfl, rfl⟩ := hz
        go_enter Try.func140, Try.ntmps140
        go_wp2
        go_ret
        exact ⟨rfl, (Below.refl _ _).alloc (Nat.le_refl _) _⟩
      · go_enter Try.func140, Try.ntmps140
        go_wp2
        all_goals go_ret
        all_goals refine ⟨ret_bool ?_, (Below.refl _ _).alloc (Nat.le_refl _) _⟩
        all_goals (symm; rw [okB_not]; unfold OkP; omega)
    · have e0 : (n == 0) = false := by simp [h0]
      by_cases h1 : n = 1
      · subst h1
        go_enter Try.func140, Try.ntmps140
        go_wp2
        all_goals go_ret
        all_goals refine ⟨ret_bool ?_, (Below.refl _ _).alloc (Nat.le_refl _) _⟩
        all_goals (rw [Bool.eq_iff_iff, okB_iff]; unfold OkP; simp; try omega)
      · have e1 : (n == 1) = false := by simp [h1]
        obtain ⟨a1, a2⟩ := mul_bd (k := n - 1) (v := mn) (by omega) (by omega) r3 r4
        obtain ⟨b1, b2⟩ := mul_bd (k := n - 1) (v := mx) (by omega) (by omega) r5 r6
        go_enter Try.func140, Try.ntmps140
        go_wp2
        all_goals go_ret
        all_goals refine ⟨ret_bool ?_, (Below.refl _ _).alloc (Nat.le_refl _) _⟩
        all_goals (rw [Bool.eq_iff_iff, okB_iff]; unfold OkP; simp; try omega)
  · have hno : Hid (okB n s mn mx = false) := by
      show okB n s mn mx = false
      rw [okB_not]; intro h; have := ok_bds h; omega
    go_enter Try.func140, Try.ntmps140
    go_wp2
    all_goals first | (exfalso; omega) | skip
    all_goals go_ret
    all_goals exact ⟨ret_bool hno.out.symm, (Below.refl _ _).alloc (Nat.le_refl _) _⟩

set_option maxHeartbeats 400000 in
theorem toAgg (n s mn mx : Int) (w : World) :
    Calls Try.prog 122 #[.agg #[.int .i64 n, .int .i64 s, .int .i64 mn, .int .i64 mx]] w fun e w' => e = .returned (.agg #[.int .i64 n, .int .i64 s, .int .i64 mn, .int .i64 mx]) ∧ Below w.heap.size w w' := by
  go_enter Try.func122, Try.ntmps122
  go_wp2
  refine bodyPost_ret (v := .agg #[.int .i64 n, .int .i64 s, .int .i64 mn, .int .i64 mx]) (by simp [results, Try.results122, go_sem]) rfl ⟨rfl, ?_⟩
  exact (((Below.refl _ _).alloc (Nat.le_refl _) _).alloc (by simp) _).alloc (by simp; omega) _

set_option maxHeartbeats 400000 in
/-- toAgg, with the world written out: three new blocks. -/
theorem toAgg_x (n s mn mx : Int) (w : World) :
    Calls Try.prog 122 #[.agg #[.int .i64 n, .int .i64 s, .int .i64 mn, .int .i64 mx]] w fun e w' => e = .returned (.agg #[.int .i64 n, .int .i64 s, .int .i64 mn, .int .i64 mx]) ∧ ((w.alloc (.cells #[.int .i64 n, .int .i64 s, .int .i64 mn, .int .i64 mx] 135)).alloc (.cells #[.int .i64 n, .int .i64 s, .int .i64 mn, .int .i64 mx] 118)).alloc (.cells #[.int .i64 n, .int .i64 s, .int .i64 mn, .int .i64 mx] 118) = w' := by
  go_enter Try.func122, Try.ntmps122
  go_wp2
  exact bodyPost_ret (v := .agg #[.int .i64 n, .int .i64 s, .int .i64 mn, .int .i64 mx]) (by simp [results, Try.results122, go_sem]) rfl ⟨rfl, rfl⟩

theorem ofV_yes {v : Int} (h1 : -1000000 ≤ v) (h2 : v ≤ 1000000) : ofV v = ⟨1, v, v, v⟩ := by
  have : isVal v = true := (isVal_iff v).2 ⟨h1, h2⟩
  simp [ofV, this]
theorem ofV_no {v : Int} (h : v < -1000000 ∨ 1000000 < v) : ofV v = zero := by
  have : isVal v = false := (isVal_not v).2 h
  simp [ofV, this]

set_option maxHeartbeats 400000 in
theorem impl_AggOf_yes (v : Int) (w : World) (h1 : -1000000 ≤ v) (h2 : v ≤ 1000000) :
    Calls Try.prog 194 #[.int .i64 v] w fun e w' => e = .returned (.agg #[.int .i64 1, .int .i64 v, .int .i64 v, .int .i64 v]) ∧ w.alloc (.cells #[.int .i64 1, .int .i64 v, .int .i64 v, .int .i64 v] 118) = w' := by
  go_enter Try.func194, Try.ntmps194
  go_wp2
  exact bodyPost_ret (v := .agg #[.int .i64 1, .int .i64 v, .int .i64 v, .int .i64 v]) (by simp [results, Try.results194, go_sem]) rfl ⟨rfl, rfl⟩

set_option maxHeartbeats 400000 in
theorem impl_AggOf_no (v : Int) (w : World) (h : v < -1000000 ∨ 1000000 < v) :
    Calls Try.prog 194 #[.int .i64 v] w fun e w' => e = .returned (.agg #[.int .i64 0, .int .i64 0, .int .i64 0, .int .i64 0]) ∧ w.alloc (.cells #[.int .i64 0, .int .i64 0, .int .i64 0, .int .i64 0] 118) = w' := by
  rcases h with h | h
  · go_enter Try.func194, Try.ntmps194
    go_wp2
    exact bodyPost_ret (v := .agg #[.int .i64 0, .int .i64 0, .int .i64 0, .int .i64 0]) (by simp [results, Try.results194, go_sem]) rfl ⟨rfl, rfl⟩
  · have hd : decide (v ≤ 1000000) = false := by simp; omega
    have hl : -1000000 ≤ v := by omega
    go_enter Try.func194, Try.ntmps194
    go_wp2
    exact bodyPost_ret (v := .agg #[.int .i64 0, .int .i64 0, .int .i64 0, .int .i64 0]) (by simp [results, Try.results194, go_sem]) rfl ⟨rfl, rfl⟩

theorem impl_AggOf (v : Int) (w : World) :
    Calls Try.prog 194 #[.int .i64 v] w fun e w' => e = .returned (.agg #[.int .i64 (ofV v).n, .int .i64 (ofV v).s, .int .i64 (ofV v).mn, .int .i64 (ofV v).mx]) ∧ w.alloc (.cells #[.int .i64 (ofV v).n, .int .i64 (ofV v).s, .int .i64 (ofV v).mn, .int .i64 (ofV v).mx] 118) = w' := by
  by_cases h : -1000000 ≤ v ∧ v ≤ 1000000
  · rw [ofV_yes h.1 h.2]; exact impl_AggOf_yes v w h.1 h.2
  · have h' : v < -1000000 ∨ 1000000 < v := by omega
    rw [ofV_no h']; exact impl_AggOf_no v w h'

set_option maxHeartbeats 400000 in
theorem spec_AggOf_yes (v : Int) (w : World) (h1 : -1000000 ≤ v) (h2 : v ≤ 1000000) :
    Calls Try.prog 160 #[.int .i64 v] w fun e w' => e = .returned (.agg #[.int .i64 1, .int .i64 v, .int .i64 v, .int .i64 v]) ∧ w.alloc (.cells #[.int .i64 1, .int .i64 v, .int .i64 v, .int .i64 v] 118) = w' := by
  go_enter Try.func160, Try.ntmps160
  go_wp2
  exact bodyPost_ret (v := .agg #[.int .i64 1, .int .i64 v, .int .i64 v, .int .i64 v]) (by simp [results, Try.results160, go_sem]) rfl ⟨rfl, rfl⟩

set_option maxHeartbeats 400000 in
theorem spec_AggOf_no (v : Int) (w : World) (h : v < -1000000 ∨ 1000000 < v) :
    Calls Try.prog 160 #[.int .i64 v] w fun e w' => e = .returned (.agg #[.int .i64 0, .int .i64 0, .int .i64 0, .int .i64 0]) ∧ w.alloc (.cells #[.int .i64 0, .int .i64 0, .int .i64 0, .int .i64 0] 118) = w' := by
  rcases h with h | h
  · go_enter Try.func160, Try.ntmps160
    go_wp2
    exact bodyPost_ret (v := .agg #[.int .i64 0, .int .i64 0, .int .i64 0, .int .i64 0]) (by simp [results, Try.results160, go_sem]) rfl ⟨rfl, rfl⟩
  · have hd : decide (v ≤ 1000000) = false := by simp; omega
    have hl : -1000000 ≤ v := by omega
    go_enter Try.func160, Try.ntmps160
    go_wp2
    exact bodyPost_ret (v := .agg #[.int .i64 0, .int .i64 0, .int .i64 0, .int .i64 0]) (by simp [results, Try.results160, go_sem]) rfl ⟨rfl, rfl⟩

theorem spec_AggOf (v : Int) (w : World) :
    Calls Try.prog 160 #[.int .i64 v] w fun e w' => e = .returned (.agg #[.int .i64 (ofV v).n, .int .i64 (ofV v).s, .int .i64 (ofV v).mn, .int .i64 (ofV v).mx]) ∧ w.alloc (.cells #[.int .i64 (ofV v).n, .int .i64 (ofV v).s, .int .i64 (ofV v).mn, .int .i64 (ofV v).mx] 118) = w' := by
  by_cases h : -1000000 ≤ v ∧ v ≤ 1000000
  · rw [ofV_yes h.1 h.2]; exact spec_AggOf_yes v w h.1 h.2
  · have h' : v < -1000000 ∨ 1000000 < v := by omega
    rw [ofV_no h']; exact spec_AggOf_no v w h'

set_option maxHeartbeats 400000 in
theorem impl_AggOk_one_no (s mn mx : Int) (w : World) (h' : mn < -1000000 ∨ 1000000 < mn) :
    Calls Try.prog 170 #[.agg #[.int .i64 1, .int .i64 s, .int .i64 mn, .int .i64 mx]] w fun e w' => e = .returned (.bool (okB 1 s mn mx)) ∧ Below w.heap.size w w' := by
  have hno : Hid (okB 1 s mn mx = false) := by
    show okB 1 s mn mx = false
    rw [okB_not]; intro h; have := ok_bds h; omega
  have H := Lib.hid h'
  clear h'
  go_enter Try.func170, Try.ntmps170
  go_wp2
  go_region_with (go_at_call 194; refine (impl_AggOf_no _ _ H.out).mono ?_; rintro e w' ⟨rfl, rfl⟩)
  all_goals go_wp2
  all_goals go_ret
  all_goals exact ⟨ret_bool hno.out.symm, ((((Below.refl _ _).alloc (Nat.le_refl _) _).drew).alloc (by simp) _)⟩

set_option maxHeartbeats 400000 in
theorem impl_AggOk_one (s mn mx : Int) (w : World) :
    Calls Try.prog 170 #[.agg #[.int .i64 1, .int .i64 s, .int .i64 mn, .int .i64 mx]] w fun e w' => e = .returned (.bool (okB 1 s mn mx)) ∧ Below w.heap.size w w' := by
  by_cases hv : -1000000 ≤ mn ∧ mn ≤ 1000000
  · obtain ⟨v1, v2⟩ := hv
    by_cases hs : s = mn
    · subst hs
      by_cases hx : mx = s
      · subst hx
        go_enter Try.func170, Try.ntmps170
        go_wp2
        go_region_with (go_at_call 194; refine (impl_AggOf_yes _ _ (by omega) (by omega)).mono ?_; rintro e w' ⟨rfl, rfl⟩)
        all_goals go_wp2
        all_goals go_ret
        all_goals refine ⟨ret_bool ?_, ((((Below.refl _ _).alloc (Nat.le_refl _) _).drew).alloc (by simp) _)⟩
        all_goals (symm; rw [okB_iff]; unfold OkP; omega)
      · go_enter Try.func170, Try.ntmps170
        go_wp2
        go_region_with (go_at_call 194; refine (impl_AggOf_yes _ _ (by omega) (by omega)).mono ?_; rintro e w' ⟨rfl, rfl⟩)
        all_goals go_wp2
        all_goals go_ret
        all_goals refine ⟨ret_bool ?_, ((((Below.refl _ _).alloc (Nat.le_refl _) _).drew).alloc (by simp) _)⟩
        all_goals (symm; rw [okB_not]; unfold OkP; omega)
    · go_enter Try.func170, Try.ntmps170
      go_wp2
      go_region_with (go_at_call 194; refine (impl_AggOf_yes _ _ (by omega) (by omega)).mono ?_; rintro e w' ⟨rfl, rfl⟩)
      all_goals go_wp2
      all_goals go_ret
      all_goals refine ⟨ret_bool ?_, ((((Below.refl _ _).alloc (Nat.le_refl _) _).drew).alloc (by simp) _)⟩
      all_goals (symm; rw [okB_not]; unfold OkP; omega)
  · exact impl_AggOk_one_no s mn mx w (by omega)

set_option maxHeartbeats 400000 in
theorem impl_AggOk (n s mn mx : Int) (w : World) :
    Calls Try.prog 170 #[.agg #[.int .i64 n, .int .i64 s, .int .i64 mn, .int .i64 mx]] w fun e w' => e = .returned (.bool (okB n s mn mx)) ∧ Below w.heap.size w w' := by
  by_cases h1 : n = 1
  · subst h1; exact impl_AggOk_one s mn mx w
  · have e1 : (n == 1) = false := by simp [h1]
    by_cases h0 : n = 0
    · subst h0
      by_cases hz : s = 0 ∧ mn = 0 ∧ mx = 0
      · obtain ⟨rfl, rfl, rfl⟩ := hz
        go_enter Try.func170, Try.ntmps170
        go_wp2
        go_ret
        exact ⟨rfl, (Below.refl _ _).alloc (Nat.le_refl _) _⟩
      · go_enter Try.func170, Try.ntmps170
        go_wp2
        all_goals go_ret
        all_goals refine ⟨ret_bool ?_, (Below.refl _ _).alloc (Nat.le_refl _) _⟩
        all_goals (symm; rw [okB_not]; unfold OkP; omega)
    · have e0 : (n == 0) = false := by simp [h0]
      by_cases hr : 0 ≤ n ∧ n ≤ 1000 ∧ -1000000 ≤ mn ∧ mn ≤ 1000000 ∧ -1000000 ≤ mx ∧ mx ≤ 1000000
      · obtain ⟨r1, r2, r3, r4, r5, r6⟩ := hr
        obtain ⟨a1, a2⟩ := mul_bd (k := n - 1) (v := mn) (by omega) (by omega) r3 r4
        obtain ⟨b1, b2⟩ := mul_bd (k := n - 1) (v := mx) (by omega) (by omega) r5 r6
        go_enter Try.func170, Try.ntmps170
        go_wp2
        all_goals go_ret
        all_goals refine ⟨ret_bool ?_, by repeat (first | exact Below.refl _ _ | (refine Below.alloc ?_ (by simp; try omega) _))⟩
        all_goals (rw [Bool.eq_iff_iff, okB_iff]; unfold OkP; simp; try omega)
      · have hno : Hid (okB n s mn mx = false) := by
          show okB n s mn mx = false
          rw [okB_not]; intro h; have := ok_bds h; omega
        go_enter Try.func170, Try.ntmps170
        go_wp2
        all_goals first | (exfalso; omega) | skip
        all_goals go_ret
        all_goals exact ⟨ret_bool hno.out.symm, by repeat (first | exact Below.refl _ _ | (refine Below.alloc ?_ (by simp; try omega) _))⟩
end Go.Proofs.Ytoglclmaacjdaaa.agg
