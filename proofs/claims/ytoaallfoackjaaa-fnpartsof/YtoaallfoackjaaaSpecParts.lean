/-
  THE CONTRACT OF PartsOf, of the model: part by part; in new memory; nothing that was there is written.
  No condition on the arguments.
-/
import Derived.Test.YtoaallfoackjaaaParts
import Derived.Test.YtoaallfoackjaaaSpecStarts
import Derived.Deep.LoopGhost
namespace Go.Proofs.Ytoaallfoackjaaa.win
open Go.RowKit

set_option maxHeartbeats 1000000 in
theorem spec_Parts_yes (z l z' l' s : Int) (w : World) (hP : PartP z l z' l' s) :
    Calls Try.prog 20 #[.agg #[.int .i64 z, .int .i64 l], .agg #[.int .i64 z', .int .i64 l'], .int .i64 s] w (Given w (partsV z l z' l' s)) := by
  obtain ⟨m, hq, hzm, m1, m2, hs⟩ := part_slides hP
  have hV : Hid (partsV z l z' l' s = ap s z m) := by
    show partsV z l z' l' s = _
    unfold partsV; rw [if_pos hP, hq]; rfl
  have hf : finerB z l z' l' = true := (finerB_iff z l z' l').2 hP.1
  have hst : s.tmod l' = 0 := (tmod_zero s).2 hP.2.1
  have hsp : decide (-200000 ≤ s ∧ s ≤ 200000) = true := by simpa using hP.2.2
  obtain ⟨⟨⟨r1, r2, r3, r4, r5, r6⟩, ⟨q1, q2, q3, q4, q5, q6⟩, rfl, hd⟩, hs', s1, s2⟩ := hP
  have HZ := Lib.hid hzm
  have n1 : (l' == 0) = false := by simp; omega
  have n2 : ¬ l' = 0 := by omega
  have n3 : (l == 0) = false := by simp; omega
  have n4 : ¬ l = 0 := by omega
  clear hzm r5 r6 q5 q6 hd hs hs'
  obtain ⟨i0, hi, hz0, hz1, hz2⟩ := info_parts info_int
  go_enter Try.func20, Try.ntmps20
  go_wp2_with (first | (go_at_call 31; refine (spec_Finer _ _ _ _ _).mono ?_; rintro e wf ⟨rfl, hbF⟩; obtain ⟨kF, fF⟩ := bcell hbF) | (go_at_call 39; refine (between _ _ _ _).mono ?_; rintro e w' ⟨rfl, rfl⟩))
  go_loopg [7, 8] m (fun r out i wr => ∃ j : Nat, j + r = m ∧ i = .int .i64 j ∧ Coll ((w.alloc (.cells #[.int .i64 l, .int .i64 l] 25)).alloc (.cells #[.int .i64 z', .int .i64 l'] 25)) out (ap s l j) wr)
  case atStart =>
    refine ⟨0, by omega, rfl, ?_, ?_⟩
    · rw [ap_zero]
      have := World.ownsRow_made (base := ((w.alloc (.cells #[.int .i64 l, .int .i64 l] 25)).alloc (.cells #[.int .i64 z', .int .i64 l'] 25)).heap.size) (e := 3) (size := 1) ((w.alloc (.cells #[.int .i64 l, .int .i64 l] 25)).alloc (.cells #[.int .i64 z', .int .i64 l'] 25)) #[] 0 (Nat.le_refl _) (by simp) rfl
      have := own_below this hbF
      simpa [ints] using this
    · exact ((Below.refl _ _).alloc (Nat.le_refl _) _).trans (hbF.mono (by simp))
  case round =>
    obtain ⟨j, hj, rfl, hown, hB⟩ := hrel
    obtain ⟨b0, b1⟩ : wr.cell? ⟨w.heap.size, 0, none⟩ = some (.int .i64 l) ∧ wr.cell? ⟨w.heap.size + 1, 0, none⟩ = some (.int .i64 z') := by
      constructor
      · rw [hB.cell (p := ⟨w.heap.size, 0, none⟩) (by simp; omega)]; simp [go_sem]
      · rw [hB.cell (p := ⟨w.heap.size + 1, 0, none⟩) (by simp)]; simp [go_sem]
    have hsz := hB.size
    simp only [World.size_alloc] at hsz
    have HB := Lib.hid hB
    have HO := Lib.hid hown
    clear hB hown kF fF hbF
    by_cases hlt : j < m
    · obtain ⟨p, hp⟩ : ∃ p, (j : Int) * l = p := ⟨_, rfl⟩
      have hp' : l * (j : Int) = p := by rw [Int.mul_comm]; exact hp
      have p0 : 0 ≤ p := by rw [← hp]; exact Int.mul_nonneg (by omega) (by omega)
      have p1 : p ≤ 20000 := by
        have := mul_le r3 (show j ≤ m by omega)
        have := HZ.out
        omega
      have hjq : (j : Int) < (m : Int) := by omega
      have hown := HO.out
      have HP := Lib.hid hp'
      clear hp'
      go_wp2_with (at_builtin; refine wpList_append_own _ rfl _ _ 28 rfl ((w.alloc (.cells #[.int .i64 l, .int .i64 l] 25)).alloc (.cells #[.int .i64 z', .int .i64 l'] 25)).heap.size 3 i0 (.int .i64 0) 1 8 Try.underlying28 hi hz0 hz1 hz2 rfl (by decide) _ _ _ rfl (hown.alloc _) ⟨wr.heap.size, 0, none⟩ 1 1 [.int .i64 (s + p)] rfl rfl (cell_one_new _ _ _) (fun x hx => by simp at hx; subst hx; rfl) (by rw [ap_length]; unfold maxLen; omega) (by rw [ap_length]; omega) (by simp; omega) ?_; intro v' w3 hown' hgrow3 hnil3)
      go_roundg (m - (j + 1))
      case measure => omega
      case rel =>
        refine ⟨j + 1, by omega, by go_num, ?_, ?_⟩
        · rw [ap_succ, HP.out]
          simpa [ints] using hown'
        · exact HB.out.trans (((Below.refl _ _).alloc (by simp; omega) _).grown hgrow3 (by simp; omega) (ownBlock_ge hown))
    · have hjm : j = m := by omega
      subst hjm
      go_wp2_with fail
      go_ret
      rw [hV.out]
      exact given_of ⟨HO.out, HB.out⟩ (((Below.refl _ _).alloc (Nat.le_refl _) _).alloc (by simp) _)

set_option maxHeartbeats 1000000 in
theorem spec_Parts (z l z' l' s : Int) (w : World) : Calls Try.prog 20 #[.agg #[.int .i64 z, .int .i64 l], .agg #[.int .i64 z', .int .i64 l'], .int .i64 s] w (Given w (partsV z l z' l' s)) := by
  by_cases hP : PartP z l z' l' s
  · exact spec_Parts_yes z l z' l' s w hP
  · rw [partsV_no hP]
    have HM : Hid (∀ wf : World, Below (((w.alloc (.cells #[.int .i64 z, .int .i64 l] 25)).alloc (.cells #[.int .i64 z', .int .i64 l'] 25)).alloc (.cells #[] 3)).heap.size (((w.alloc (.cells #[.int .i64 z, .int .i64 l] 25)).alloc (.cells #[.int .i64 z', .int .i64 l'] 25)).alloc (.cells #[] 3)) wf → wf.ownsRow w.heap.size 3 1 (.slice (some ⟨w.heap.size + 1 + 1, 0, none⟩) 0 0) 0 []) := by
      intro wf hb
      have h := World.ownsRow_made (base := w.heap.size) (e := 3) (size := 1) ((w.alloc (.cells #[.int .i64 z, .int .i64 l] 25)).alloc (.cells #[.int .i64 z', .int .i64 l'] 25)) #[] 0 (by simp; omega) (by simp) rfl
      have := own_below h hb
      simpa using this
    by_cases hf : finerB z l z' l' = true
    · have hF := (finerB_iff z l z' l').1 hf
      obtain ⟨q1, q2, q3, q4, q5, q6⟩ := hF.2.1
      have n1 : (l' == 0) = false := by simp; omega
      have n2 : ¬ l' = 0 := by omega
      by_cases hsp : decide (-200000 ≤ s ∧ s ≤ 200000) = true
      · have hst : ¬ s % l' = 0 := fun h => hP ⟨hF, h, of_decide_eq_true hsp⟩
        obtain ⟨d, hd, d1, d2, d0⟩ := tmod_small s q3 q4
        have hdz : ¬ d = 0 := fun h => hst (d0.1 h)
        have hdn : (d == 0) = false := by simp [hdz]
        clear hP hF hst d0
        go_enter Try.func20, Try.ntmps20
        go_wp2_with (first | (go_at_call 31; refine (spec_Finer _ _ _ _ _).mono ?_; rintro e wf ⟨rfl, hbF⟩; obtain ⟨kF, fF⟩ := bcell hbF) | (go_at_call 39; refine (between _ _ _ _).mono ?_; rintro e w' ⟨rfl, rfl⟩))
        go_ret
        exact ⟨_, 0, 0, rfl, HM.out _ hbF, (((Below.refl _ _).alloc (Nat.le_refl _) _).alloc (by simp) _).trans (((Below.refl _ _).alloc (by simp; omega) _).trans (hbF.mono (by simp; omega)))⟩
      · have hsp' := bool_no hsp
        clear hsp hP hF
        go_enter Try.func20, Try.ntmps20
        go_wp2_with (first | (go_at_call 31; refine (spec_Finer _ _ _ _ _).mono ?_; rintro e wf ⟨rfl, hbF⟩; obtain ⟨kF, fF⟩ := bcell hbF) | (go_at_call 39; refine (between _ _ _ _).mono ?_; rintro e w' ⟨rfl, rfl⟩))
        go_ret
        exact ⟨_, 0, 0, rfl, HM.out _ hbF, (((Below.refl _ _).alloc (Nat.le_refl _) _).alloc (by simp) _).trans (((Below.refl _ _).alloc (by simp; omega) _).trans (hbF.mono (by simp; omega)))⟩
    · have hf' := bool_no hf
      clear hf hP
      go_enter Try.func20, Try.ntmps20
      go_wp2_with (first | (go_at_call 31; refine (spec_Finer _ _ _ _ _).mono ?_; rintro e wf ⟨rfl, hbF⟩; obtain ⟨kF, fF⟩ := bcell hbF) | (go_at_call 39; refine (between _ _ _ _).mono ?_; rintro e w' ⟨rfl, rfl⟩))
      go_ret
      exact ⟨_, 0, 0, rfl, HM.out _ hbF, (((Below.refl _ _).alloc (Nat.le_refl _) _).alloc (by simp) _).trans (((Below.refl _ _).alloc (by simp; omega) _).trans (hbF.mono (by simp; omega)))⟩
end Go.Proofs.Ytoaallfoackjaaa.win
