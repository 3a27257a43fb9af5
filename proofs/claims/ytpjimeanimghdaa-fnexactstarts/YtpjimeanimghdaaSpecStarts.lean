/-
  THE CONTRACT OF Starts, of the model: moment by moment, those that are multiples of the slide; in new memory; nothing that was there is written.
  No condition on the arguments.
-/
import Derived.Test.YtpjimeanimghdaaStarts
import Derived.Deep.LoopGhost
namespace Go.Proofs.Ytpjimeanimghdaa.win
open Go.RowKit

set_option maxRecDepth 100000 in
set_option maxHeartbeats 1000000 in
theorem spec_Starts_yes (z l t : Int) (w : World) (hw : winB z l = true) (ht : timeB t = true) :
    Calls Try.prog 27 #[.agg #[.int .i64 z, .int .i64 l], .int .i64 t] w (Given w (startsV z l t)) := by
  have hP := (winB_iff z l).1 hw
  obtain ⟨t1, t2⟩ := (timeB_iff t).1 ht
  obtain ⟨m, hq, hzm, m1, m2⟩ := win_slides hP
  have hV : Hid (startsV z l t = ap (up l (t - z + 1)) l m) := by
    show startsV z l t = _
    unfold startsV; rw [if_pos ⟨hP, t1, t2⟩, hq]; rfl
  obtain ⟨r1, r2, r3, r4, r5, r6⟩ := hP
  have hE : Hid (Ends (up l (t - z + 1)) l (t + 1) m) := by
    have := ends_span (fr := t - z + 1) r3 hzm
    rwa [show t - z + 1 + z = t + 1 by omega] at this
  have hU := Lib.hid (up_bd (t - z + 1) r3)
  have hUm := Lib.hid (up_mul (l := l) (t - z + 1))
  clear hq hzm r5 r6
  obtain ⟨i0, hi, hz0, hz1, hz2⟩ := info_parts info_int
  generalize up l (t - z + 1) = a at *
  go_enter Try.func27, Try.ntmps27
  go_wp2_with (first | (go_at_call 13; refine (spec_WinOk _ _ _).mono ?_; rintro e w' ⟨rfl, rfl⟩) | (go_at_call 14; refine (spec_TimeOk _ _).mono ?_; rintro e w' ⟨rfl, rfl⟩))
  go_loopg [5, 6] z.toNat (fun k out s wr => ∃ j : Nat, s = .int .i64 (t + 1 - (k : Int)) ∧ (k : Int) ≤ z ∧ Ends a l (t + 1 - (k : Int)) j ∧ a + l * (j : Int) - l < t + 1 - (k : Int) ∧ Coll (w.alloc (.cells #[.int .i64 z, .int .i64 l] 25)) out (ap a l j) wr)
  case atStart =>
    have hz : (z.toNat : Int) = z := by omega
    refine ⟨0, by rw [hz]; congr 1; omega, by omega, ⟨by have := hU.out; simp; omega, fun k hk => by omega⟩, by have := hU.out; simp; omega, ?_, ?_⟩
    · rw [ap_zero]
      have := (World.ownsRow_made (base := (w.alloc (.cells #[.int .i64 z, .int .i64 l] 25)).heap.size) (e := 3) (size := 1) (w.alloc (.cells #[.int .i64 z, .int .i64 l] 25)) #[] 0 (Nat.le_refl _) (by simp) rfl).alloc (.cells #[.int .i64 z, .int .i64 l] 25)
      simpa [ints] using this
    · exact ((Below.refl _ _).alloc (Nat.le_refl _) _).alloc (by simp) _
  case round =>
    obtain ⟨j, rfl, hk, hEj, hlow, hown, hB⟩ := hrel
    obtain ⟨b0, b1⟩ : wr.cell? ⟨w.heap.size, 0, none⟩ = some (.int .i64 z) ∧ wr.cell? ⟨w.heap.size, 1, none⟩ = some (.int .i64 l) := by
      constructor
      · rw [hB.cell (p := ⟨w.heap.size, 0, none⟩) (by simp)]; simp [go_sem]
      · rw [hB.cell (p := ⟨w.heap.size, 1, none⟩) (by simp)]; simp [go_sem]
    have hsz := hB.size
    simp only [World.size_alloc] at hsz
    have hjm := hE.out.le hEj (by omega)
    obtain ⟨c, hc⟩ : ∃ c, t + 1 - (gk : Int) = c := ⟨_, rfl⟩
    rw [hc] at hEj hlow ⊢
    have HE := Lib.hid hEj
    have HL := Lib.hid hlow
    have HB := Lib.hid hB
    have HO := Lib.hid hown
    clear hEj hlow hB hown
    by_cases h0 : gk = 0
    · subst h0
      have hct : c = t + 1 := by omega
      have hjm' : j = m := by
        have := HE.out
        rw [hct] at this
        exact hE.out.unique this
      subst hct
      go_wp2_with fail
      go_ret
      rw [hV.out, ← hjm']
      exact given_of ⟨HO.out, HB.out⟩ ((Below.refl _ _).alloc (Nat.le_refl _) _)
    · have hct : c ≤ t := by omega
      have hcl : -200000 ≤ c := by omega
      obtain ⟨d, hd, d1, d2, d0⟩ := tmod_small c r3 r4
      have n1 : (l == 0) = false := by simp; omega
      have n2 : ¬ l = 0 := by omega
      have hcs : t + 1 - ((gk - 1 : Nat) : Int) = c + 1 := by omega
      by_cases hdz : d = 0
      · subst hdz
        obtain ⟨q1, q2, q3⟩ := HE.out.hit r3 hUm.out HL.out (d0.1 rfl)
        have hown := HO.out
        have Q1 := Lib.hid q1
        have Q2 := Lib.hid q2
        have Q3 := Lib.hid q3
        clear q1 q2 q3
        go_wp2_with (at_builtin; refine wpList_append_own _ rfl _ _ 28 rfl (w.alloc (.cells #[.int .i64 z, .int .i64 l] 25)).heap.size 3 i0 (.int .i64 0) 1 8 Try.underlying28 hi hz0 hz1 hz2 rfl (by decide) _ _ _ rfl (hown.alloc _) ⟨wr.heap.size, 0, none⟩ 1 1 [.int .i64 c] rfl rfl (cell_one_new _ _ _) (fun x hx => by simp at hx; subst hx; rfl) (by rw [ap_length]; unfold maxLen; omega) (by rw [ap_length]; omega) (by simp; omega) ?_; intro v' w3 hown' hgrow3 hnil3)
        go_roundg (gk - 1)
        case measure => omega
        case rel =>
          refine ⟨j + 1, ?_, by omega, by rw [hcs]; exact Q2.out, by rw [hcs]; exact Q3.out, ?_, ?_⟩
          · rw [hcs]
          · rw [ap_succ, ← Q1.out]
            simpa [ints] using hown'
          · exact HB.out.trans (((Below.refl _ _).alloc (by simp; omega) _).grown hgrow3 (by simp; omega) (ownBlock_ge hown))
      · have hdn : (d == 0) = false := by simp [hdz]
        have Q2 := Lib.hid (HE.out.miss hUm.out (fun h => hdz (d0.2 h)))
        go_wp2_with fail
        go_roundg (gk - 1)
        case measure => omega
        case rel =>
          refine ⟨j, ?_, by omega, by rw [hcs]; exact Q2.out, by rw [hcs]; have := HL.out; omega, HO.out, HB.out⟩
          rw [hcs]

set_option maxRecDepth 100000 in
set_option maxHeartbeats 1000000 in
theorem spec_Starts (z l t : Int) (w : World) : Calls Try.prog 27 #[.agg #[.int .i64 z, .int .i64 l], .int .i64 t] w (Given w (startsV z l t)) := by
  have hmade : ∀ W0 : World, w.heap.size ≤ W0.heap.size → ((W0.alloc (.cells #[] 3)).alloc (.cells #[.int .i64 z, .int .i64 l] 25)).ownsRow w.heap.size 3 1 (.slice (some ⟨W0.heap.size, 0, none⟩) 0 0) 0 [] := fun W0 h =>
    (World.ownsRow_made (base := w.heap.size) (e := 3) (size := 1) W0 #[] 0 h (by simp) rfl).alloc _
  have HM := Lib.hid hmade
  clear hmade
  by_cases hw : winB z l = true
  · by_cases ht : timeB t = true
    · exact spec_Starts_yes z l t w hw ht
    · have ht' := bool_no ht
      rw [startsV_no (.inr ht')]
      clear ht
      go_enter Try.func27, Try.ntmps27
      go_wp2_with (first | (go_at_call 13; refine (spec_WinOk _ _ _).mono ?_; rintro e w' ⟨rfl, rfl⟩) | (go_at_call 14; refine (spec_TimeOk _ _).mono ?_; rintro e w' ⟨rfl, rfl⟩))
      go_ret
      exact ⟨_, 0, 0, rfl, by have := HM.out (w.alloc (.cells #[.int .i64 z, .int .i64 l] 25)) (by simp); simpa using this, (((Below.refl _ _).alloc (Nat.le_refl _) _).alloc (by simp) _).alloc (by simp; omega) _⟩
  · have hw' := bool_no hw
    rw [startsV_no (.inl hw')]
    clear hw
    go_enter Try.func27, Try.ntmps27
    go_wp2_with (first | (go_at_call 13; refine (spec_WinOk _ _ _).mono ?_; rintro e w' ⟨rfl, rfl⟩) | (go_at_call 14; refine (spec_TimeOk _ _).mono ?_; rintro e w' ⟨rfl, rfl⟩))
    go_ret
    exact ⟨_, 0, 0, rfl, by have := HM.out (w.alloc (.cells #[.int .i64 z, .int .i64 l] 25)) (by simp); simpa using this, (((Below.refl _ _).alloc (Nat.le_refl _) _).alloc (by simp) _).alloc (by simp; omega) _⟩
end Go.Proofs.Ytpjimeanimghdaa.win
