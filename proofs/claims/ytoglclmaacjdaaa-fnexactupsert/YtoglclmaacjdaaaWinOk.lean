/-
  THE CONTRACTS OF WinOk, TimeOk, Covers, Finer AND toWin, of the program and of its model: what each call answers, and that nothing that was there is written.
  No condition on the arguments.
-/
import Derived.Test.YtoglclmaacjdaaaRows
import Derived.Test.YtoglclmaacjdaaaWinMath
import Derived.WalkKit
import Derived.WalkSpells
import Derived.WalkLawsBesides
import Derived.BigQuiet
import Derived.Deep.QuietTactic
import Derived.Deep.RegionWith
import Derived.Lib.Hide
import Derived.IntWalk
namespace Go.Proofs.Ytoglclmaacjdaaa.win
open Go.RowKit

theorem ret_bool {a b : Bool} (h : a = b) : Ending.returned (.bool a) = .returned (.bool b) := by rw [h]

set_option maxHeartbeats 400000 in
theorem spec_TimeOk (t : Int) (w : World) : Calls Try.prog 213 #[.int .i64 t] w fun e w' => e = .returned (.bool (timeB t)) ∧ w = w' := by
  by_cases h1 : -100000 ≤ t
  · by_cases h2 : t ≤ 100000
    · go_enter Try.func213, Try.ntmps213
      go_wp2
      go_ret
      exact ⟨ret_bool ((timeB_iff t).2 ⟨h1, h2⟩).symm, rfl⟩
    · have hd : decide (t ≤ 100000) = false := by simp; omega
      go_enter Try.func213, Try.ntmps213
      go_wp2
      go_ret
      exact ⟨ret_bool ((timeB_not t).2 (by omega)).symm, rfl⟩
  · go_enter Try.func213, Try.ntmps213
    go_wp2
    go_ret
    exact ⟨ret_bool ((timeB_not t).2 (by omega)).symm, rfl⟩

set_option maxHeartbeats 400000 in
theorem impl_WinOk (z l : Int) (w : World) : Calls Try.prog 185 #[.agg #[.int .i64 z, .int .i64 l]] w fun e w' => e = .returned (.bool (winB z l)) ∧ w.alloc (.cells #[.int .i64 z, .int .i64 l] 158) = w' := by
  by_cases hr : 1 ≤ z ∧ z ≤ 20000 ∧ 1 ≤ l ∧ l ≤ 20000
  · obtain ⟨r1, r2, r3, r4⟩ := hr
    go_enter Try.func185, Try.ntmps185
    go_wp2
    all_goals go_ret
    all_goals refine ⟨ret_bool ?_, rfl⟩
    all_goals (rw [Bool.eq_iff_iff, winB_iff]; unfold WinP; simp; try omega)
  · have hno : Hid (winB z l = false) := by
      show winB z l = false
      rw [winB_not]; unfold WinP; omega
    go_enter Try.func185, Try.ntmps185
    go_wp2
    all_goals first | (exfalso; omega) | skip
    all_goals go_ret
    all_goals exact ⟨ret_bool hno.out.symm, rfl⟩

set_option maxHeartbeats 400000 in
theorem spec_WinOk (z l : Int) (w : World) : Calls Try.prog 112 #[.agg #[.int .i64 z, .int .i64 l]] w fun e w' => e = .returned (.bool (winB z l)) ∧ w.alloc (.cells #[.int .i64 z, .int .i64 l] 158) = w' := by
  by_cases hr : 1 ≤ z ∧ z ≤ 20000 ∧ 1 ≤ l ∧ l ≤ 20000
  · obtain ⟨r1, r2, r3, r4⟩ := hr
    go_enter Try.func112, Try.ntmps112
    go_wp2
    all_goals go_ret
    all_goals refine ⟨ret_bool ?_, rfl⟩
    all_goals (rw [Bool.eq_iff_iff, winB_iff]; unfold WinP; simp; try omega)
  · have hno : Hid (winB z l = false) := by
      show winB z l = false
      rw [winB_not]; unfold WinP; omega
    go_enter Try.func112, Try.ntmps112
    go_wp2
    all_goals first | (exfalso; omega) | skip
    all_goals go_ret
    all_goals exact ⟨ret_bool hno.out.symm, rfl⟩

set_option maxHeartbeats 400000 in
/-- toWin, with the world written out: three new blocks. -/
theorem toWin_x (z l : Int) (w : World) : Calls Try.prog 114 #[.agg #[.int .i64 z, .int .i64 l]] w fun e w' => e = .returned (.agg #[.int .i64 z, .int .i64 l]) ∧ ((w.alloc (.cells #[.int .i64 z, .int .i64 l] 166)).alloc (.cells #[.int .i64 z, .int .i64 l] 158)).alloc (.cells #[.int .i64 z, .int .i64 l] 158) = w' := by
  go_enter Try.func114, Try.ntmps114
  go_wp2
  exact bodyPost_ret (v := .agg #[.int .i64 z, .int .i64 l]) (by simp [results, Try.results114, go_sem]) rfl ⟨rfl, rfl⟩

set_option maxHeartbeats 400000 in
theorem toWin (z l : Int) (w : World) : Calls Try.prog 114 #[.agg #[.int .i64 z, .int .i64 l]] w fun e w' => e = .returned (.agg #[.int .i64 z, .int .i64 l]) ∧ Below w.heap.size w w' := by
  go_enter Try.func114, Try.ntmps114
  go_wp2
  refine bodyPost_ret (v := .agg #[.int .i64 z, .int .i64 l]) (by simp [results, Try.results114, go_sem]) rfl ⟨rfl, ?_⟩
  exact (((Below.refl _ _).alloc (Nat.le_refl _) _).alloc (by simp) _).alloc (by simp; omega) _

theorem tmod_small (s : Int) {l : Int} (h1 : 1 ≤ l) (h2 : l ≤ 20000) : ∃ d, s.tmod l = d ∧ -20000 ≤ d ∧ d ≤ 20000 ∧ (d = 0 ↔ s % l = 0) := by
  refine ⟨_, rfl, ?_, ?_, tmod_zero s⟩
  · have := Int.lt_tmod_of_pos s (show 0 < l by omega); omega
  · have := Int.tmod_lt_of_pos s (show 0 < l by omega); omega


theorem covers_no_win {z l s t : Int} (h : winB z l = false) : coversB z l s t = false := by
  have := (winB_not z l).1 h
  simp [coversB, this]
theorem covers_no_time {z l s t : Int} (h : timeB t = false) : coversB z l s t = false := by
  have h := (timeB_not t).1 h
  unfold coversB; rw [decide_eq_false_iff_not]; omega
theorem covers_no_start {z l s t : Int} (h : decide (s % l = 0) = false) : coversB z l s t = false := by
  have h : ¬ s % l = 0 := of_decide_eq_false h
  simp [coversB, h]
theorem covers_yes {z l s t : Int} (h : winB z l = true) (ht : timeB t = true) (hs : decide (s % l = 0) = true) : coversB z l s t = decide (s ≤ t ∧ t < s + z) := by
  have h := (winB_iff z l).1 h
  have ht := (timeB_iff t).1 ht
  have hs : s % l = 0 := of_decide_eq_true hs
  simp [coversB, h, ht, hs]
theorem bool_no {b : Bool} (h : ¬ b = true) : b = false := by cases b <;> simp_all

set_option maxHeartbeats 400000 in
theorem between (n lo hi : Int) (w : World) : Calls Try.prog 56 #[.int .i64 n, .int .i64 lo, .int .i64 hi] w fun e w' => e = .returned (.bool (decide (lo ≤ n ∧ n ≤ hi))) ∧ w = w' := by
  obtain ⟨r, hr⟩ : ∃ r, decide (lo ≤ n ∧ n ≤ hi) = r := ⟨_, rfl⟩
  rw [hr]
  have HR := Lib.hid hr
  clear hr
  by_cases h1 : lo ≤ n
  · by_cases h2 : n ≤ hi
    · go_enter Try.func56, Try.ntmps56
      go_wp2
      go_ret
      exact ⟨ret_bool (by rw [← HR.out]; symm; rw [decide_eq_true_iff]; omega), rfl⟩
    · have hd : decide (n ≤ hi) = false := by simp; omega
      go_enter Try.func56, Try.ntmps56
      go_wp2
      go_ret
      exact ⟨ret_bool (by rw [← HR.out]; symm; rw [decide_eq_false_iff_not]; omega), rfl⟩
  · go_enter Try.func56, Try.ntmps56
    go_wp2
    go_ret
    exact ⟨ret_bool (by rw [← HR.out]; symm; rw [decide_eq_false_iff_not]; omega), rfl⟩

end Go.Proofs.Ytoglclmaacjdaaa.win
