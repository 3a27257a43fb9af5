/-
  THE CONTRACTS OF WinOk, TimeOk, Covers, Finer AND toWin, of the program and of its model: what each call answers, and that nothing that was there is written.
  No condition on the arguments.
-/
import Derived.Test.YtpjimeanimghdaaRows
import Derived.Test.YtpjimeanimghdaaWinMath
import Derived.WalkKit
import Derived.WalkSpells
import Derived.WalkLawsBesides
import Derived.BigQuiet
import Derived.Deep.QuietTactic
import Derived.Deep.RegionWith
import Derived.Lib.Hide
import Derived.IntWalk
namespace Go.Proofs.Ytpjimeanimghdaa.win
open Go.RowKit

theorem ret_bool {a b : Bool} (h : a = b) : Ending.returned (.bool a) = .returned (.bool b) := by rw [h]

set_option maxHeartbeats 400000 in
theorem impl_TimeOk (t : Int) (w : World) : Calls Try.prog 55 #[.int .i64 t] w fun e w' => e = .returned (.bool (timeB t)) ∧ w = w' := by
  by_cases h1 : -100000 ≤ t
  · by_cases h2 : t ≤ 100000
    · go_enter Try.func55, Try.ntmps55
      go_wp2
      go_ret
      exact ⟨ret_bool ((timeB_iff t).2 ⟨h1, h2⟩).symm, rfl⟩
    · have hd : decide (t ≤ 100000) = false := by simp; omega
      go_enter Try.func55, Try.ntmps55
      go_wp2
      go_ret
      exact ⟨ret_bool ((timeB_not t).2 (by omega)).symm, rfl⟩
  · go_enter Try.func55, Try.ntmps55
    go_wp2
    go_ret
    exact ⟨ret_bool ((timeB_not t).2 (by omega)).symm, rfl⟩

set_option maxHeartbeats 400000 in
theorem spec_TimeOk (t : Int) (w : World) : Calls Try.prog 14 #[.int .i64 t] w fun e w' => e = .returned (.bool (timeB t)) ∧ w = w' := by
  by_cases h1 : -100000 ≤ t
  · by_cases h2 : t ≤ 100000
    · go_enter Try.func14, Try.ntmps14
      go_wp2
      go_ret
      exact ⟨ret_bool ((timeB_iff t).2 ⟨h1, h2⟩).symm, rfl⟩
    · have hd : decide (t ≤ 100000) = false := by simp; omega
      go_enter Try.func14, Try.ntmps14
      go_wp2
      go_ret
      exact ⟨ret_bool ((timeB_not t).2 (by omega)).symm, rfl⟩
  · go_enter Try.func14, Try.ntmps14
    go_wp2
    go_ret
    exact ⟨ret_bool ((timeB_not t).2 (by omega)).symm, rfl⟩

set_option maxHeartbeats 400000 in
theorem impl_WinOk (z l : Int) (w : World) : Calls Try.prog 54 #[.agg #[.int .i64 z, .int .i64 l]] w fun e w' => e = .returned (.bool (winB z l)) ∧ w.alloc (.cells #[.int .i64 z, .int .i64 l] 25) = w' := by
  by_cases hr : 1 ≤ z ∧ z ≤ 20000 ∧ 1 ≤ l ∧ l ≤ 20000
  · obtain ⟨r1, r2, r3, r4⟩ := hr
    go_enter Try.func54, Try.ntmps54
    go_wp2
    all_goals go_ret
    all_goals refine ⟨ret_bool ?_, rfl⟩
    all_goals (rw [Bool.eq_iff_iff, winB_iff]; unfold WinP; simp; try omega)
  · have hno : Hid (winB z l = false) := by
      show winB z l = false
      rw [winB_not]; unfold WinP; omega
    go_enter Try.func54, Try.ntmps54
    go_wp2
    all_goals first | (exfalso; omega) | skip
    all_goals go_ret
    all_goals exact ⟨ret_bool hno.out.symm, rfl⟩

set_option maxHeartbeats 400000 in
theorem spec_WinOk (z l : Int) (w : World) : Calls Try.prog 13 #[.agg #[.int .i64 z, .int .i64 l]] w fun e w' => e = .returned (.bool (winB z l)) ∧ w.alloc (.cells #[.int .i64 z, .int .i64 l] 25) = w' := by
  by_cases hr : 1 ≤ z ∧ z ≤ 20000 ∧ 1 ≤ l ∧ l ≤ 20000
  · obtain ⟨r1, r2, r3, r4⟩ := hr
    go_enter Try.func13, Try.ntmps13
    go_wp2
    all_goals go_ret
    all_goals refine ⟨ret_bool ?_, rfl⟩
    all_goals (rw [Bool.eq_iff_iff, winB_iff]; unfold WinP; simp; try omega)
  · have hno : Hid (winB z l = false) := by
      show winB z l = false
      rw [winB_not]; unfold WinP; omega
    go_enter Try.func13, Try.ntmps13
    go_wp2
    all_goals first | (exfalso; omega) | skip
    all_goals go_ret
    all_goals exact ⟨ret_bool hno.out.symm, rfl⟩

set_option maxHeartbeats 400000 in
/-- toWin, with the world written out: three new blocks. -/
theorem toWin_x (z l : Int) (w : World) : Calls Try.prog 28 #[.agg #[.int .i64 z, .int .i64 l]] w fun e w' => e = .returned (.agg #[.int .i64 z, .int .i64 l]) ∧ ((w.alloc (.cells #[.int .i64 z, .int .i64 l] 51)).alloc (.cells #[.int .i64 z, .int .i64 l] 25)).alloc (.cells #[.int .i64 z, .int .i64 l] 25) = w' := by
  go_enter Try.func28, Try.ntmps28
  go_wp2
  exact bodyPost_ret (v := .agg #[.int .i64 z, .int .i64 l]) (by simp [results, Try.results28, go_sem]) rfl ⟨rfl, rfl⟩

set_option maxHeartbeats 400000 in
theorem toWin (z l : Int) (w : World) : Calls Try.prog 28 #[.agg #[.int .i64 z, .int .i64 l]] w fun e w' => e = .returned (.agg #[.int .i64 z, .int .i64 l]) ∧ Below w.heap.size w w' := by
  go_enter Try.func28, Try.ntmps28
  go_wp2
  refine bodyPost_ret (v := .agg #[.int .i64 z, .int .i64 l]) (by simp [results, Try.results28, go_sem]) rfl ⟨rfl, ?_⟩
  exact (((Below.refl _ _).alloc (Nat.le_refl _) _).alloc (by simp) _).alloc (by simp; omega) _

theorem tmod_small (s : Int) {l : Int} (h1 : 1 ≤ l) (h2 : l ≤ 20000) : ∃ d, s.tmod l = d ∧ -20000 ≤ d ∧ d ≤ 20000 ∧ (d = 0 ↔ s % l = 0) := by
  refine ⟨_, rfl, ?_, ?_, tmod_zero s⟩
  · have := Int.lt_tmod_of_pos s (show 0 < l by omega); omega
  · have := Int.tmod_lt_of_pos s (show 0 < l by omega); omega

set_option maxHeartbeats 400000 in
theorem isStart (z l s : Int) (w : World) (h1 : 1 ≤ l) (h2 : l ≤ 20000) : Calls Try.prog 58 #[.agg #[.int .i64 z, .int .i64 l], .int .i64 s] w fun e w' => e = .returned (.bool (decide (s % l = 0))) ∧ w.alloc (.cells #[.int .i64 z, .int .i64 l] 25) = w' := by
  obtain ⟨d, hd, d1, d2, d0⟩ := tmod_small s h1 h2
  have n1 : (l == 0) = false := by simp; omega
  have n2 : ¬ l = 0 := by omega
  go_enter Try.func58, Try.ntmps58
  go_wp2
  go_ret
  refine ⟨ret_bool ?_, rfl⟩
  rw [Bool.eq_iff_iff]; simp; exact d0

theorem covers_no_win {z l s t : Int} (h : winB z l = false) : coversB z l s t = false := by
  have := (winB_not z l).1 h
  simp [coversB, this]
theorem covers_no_time {z l s t : Int} (h : timeB t = false) : coversB z l s t = false := by
  have h := (timeB_not t).1 h
  unfold coversB; rw [decide_eq_false_iff_not]; omega
theorem covers_no_start {z l s t : Int} (h : decide (s % l = 0) = false) : coversB z l s t = false := by
  have h : ¬ s % l = 0 := of_decide_eq_false h
  simp [coversB, h]
theorem covers_yes {z l s t : Int} (h : winB z l = true) (ht : timeB t = true) (hs : decide (s % l = 0) = true) : coversB z l s t = decide (s ≤ t ∧ t < s + z) := by
  have h := (winB_iff z l).1 h
  have ht := (timeB_iff t).1 ht
  have hs : s % l = 0 := of_decide_eq_true hs
  simp [coversB, h, ht, hs]
theorem bool_no {b : Bool} (h : ¬ b = true) : b = false := by cases b <;> simp_all

set_option maxHeartbeats 1000000 in
theorem impl_Covers (z l s t : Int) (w : World) (hwf : -9223372036854775808 ≤ s) : Calls Try.prog 15 #[.agg #[.int .i64 z, .int .i64 l], .int .i64 s, .int .i64 t] w fun e w' => e = .returned (.bool (coversB z l s t)) ∧ Below w.heap.size w w' := by
  by_cases hw : winB z l = true
  · obtain ⟨r1, r2, r3, r4, r5, r6⟩ := (winB_iff z l).1 hw
    by_cases ht : timeB t = true
    · obtain ⟨t1, t2⟩ := (timeB_iff t).1 ht
      by_cases hs : decide (s % l = 0) = true
      · rw [covers_yes hw ht hs]
        by_cases hst : s ≤ t
        · have hwr : wrap64 (s + z) = s + z := IntWalk.wrap64_in _ (by omega)
          go_enter Try.func15, Try.ntmps15
          go_wp2_with (first | (go_at_call 54; refine (impl_WinOk _ _ _).mono ?_; rintro e w' ⟨rfl, rfl⟩) | (go_at_call 55; refine (impl_TimeOk _ _).mono ?_; rintro e w' ⟨rfl, rfl⟩) | (go_at_call 58; refine (isStart _ _ _ _ r3 r4).mono ?_; rintro e w' ⟨rfl, rfl⟩))
          go_ret
          refine ⟨ret_bool ?_, by repeat (first | exact Below.refl _ _ | (refine Below.alloc ?_ (by simp; try omega) _))⟩
          simp [hst]
        · have hd : decide (s ≤ t) = false := by simp; omega
          go_enter Try.func15, Try.ntmps15
          go_wp2_with (first | (go_at_call 54; refine (impl_WinOk _ _ _).mono ?_; rintro e w' ⟨rfl, rfl⟩) | (go_at_call 55; refine (impl_TimeOk _ _).mono ?_; rintro e w' ⟨rfl, rfl⟩) | (go_at_call 58; refine (isStart _ _ _ _ r3 r4).mono ?_; rintro e w' ⟨rfl, rfl⟩))
          go_ret
          refine ⟨ret_bool ?_, by repeat (first | exact Below.refl _ _ | (refine Below.alloc ?_ (by simp; try omega) _))⟩
          symm; rw [decide_eq_false_iff_not]; omega
      · have hs' := bool_no hs
        rw [covers_no_start hs']
        clear hs
        go_enter Try.func15, Try.ntmps15
        go_wp2_with (first | (go_at_call 54; refine (impl_WinOk _ _ _).mono ?_; rintro e w' ⟨rfl, rfl⟩) | (go_at_call 55; refine (impl_TimeOk _ _).mono ?_; rintro e w' ⟨rfl, rfl⟩) | (go_at_call 58; refine (isStart _ _ _ _ r3 r4).mono ?_; rintro e w' ⟨rfl, rfl⟩))
        go_ret
        exact ⟨rfl, by repeat (first | exact Below.refl _ _ | (refine Below.alloc ?_ (by simp; try omega) _))⟩
    · have ht' := bool_no ht
      rw [covers_no_time ht']
      clear ht
      go_enter Try.func15, Try.ntmps15
      go_wp2_with (first | (go_at_call 54; refine (impl_WinOk _ _ _).mono ?_; rintro e w' ⟨rfl, rfl⟩) | (go_at_call 55; refine (impl_TimeOk _ _).mono ?_; rintro e w' ⟨rfl, rfl⟩))
      go_ret
      exact ⟨rfl, by repeat (first | exact Below.refl _ _ | (refine Below.alloc ?_ (by simp; try omega) _))⟩
  · have hw' := bool_no hw
    rw [covers_no_win hw']
    clear hw
    go_enter Try.func15, Try.ntmps15
    go_wp2_with (first | (go_at_call 54; refine (impl_WinOk _ _ _).mono ?_; rintro e w' ⟨rfl, rfl⟩) | (go_at_call 55; refine (impl_TimeOk _ _).mono ?_; rintro e w' ⟨rfl, rfl⟩))
    go_ret
    exact ⟨rfl, by repeat (first | exact Below.refl _ _ | (refine Below.alloc ?_ (by simp; try omega) _))⟩

set_option maxHeartbeats 400000 in
theorem between (n lo hi : Int) (w : World) : Calls Try.prog 57 #[.int .i64 n, .int .i64 lo, .int .i64 hi] w fun e w' => e = .returned (.bool (decide (lo ≤ n ∧ n ≤ hi))) ∧ w = w' := by
  obtain ⟨r, hr⟩ : ∃ r, decide (lo ≤ n ∧ n ≤ hi) = r := ⟨_, rfl⟩
  rw [hr]
  have HR := Lib.hid hr
  clear hr
  by_cases h1 : lo ≤ n
  · by_cases h2 : n ≤ hi
    · go_enter Try.func57, Try.ntmps57
      go_wp2
      go_ret
      exact ⟨ret_bool (by rw [← HR.out]; symm; rw [decide_eq_true_iff]; omega), rfl⟩
    · have hd : decide (n ≤ hi) = false := by simp; omega
      go_enter Try.func57, Try.ntmps57
      go_wp2
      go_ret
      exact ⟨ret_bool (by rw [← HR.out]; symm; rw [decide_eq_false_iff_not]; omega), rfl⟩
  · go_enter Try.func57, Try.ntmps57
    go_wp2
    go_ret
    exact ⟨ret_bool (by rw [← HR.out]; symm; rw [decide_eq_false_iff_not]; omega), rfl⟩

end Go.Proofs.Ytpjimeanimghdaa.win
