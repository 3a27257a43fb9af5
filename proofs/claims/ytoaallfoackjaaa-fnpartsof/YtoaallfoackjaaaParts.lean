/-
  THE CONTRACT OF PartsOf, of the program: the starts of the parts of a window, rising, in new memory; nothing that was there is written.
  No condition on the arguments.
-/
import Derived.Test.YtoaallfoackjaaaStarts
import Derived.Test.YtoaallfoackjaaaWinLaws
namespace Go.Proofs.Ytoaallfoackjaaa.win
open Go.RowKit Go.Shelf
attribute [local go_sem] Oper.semAt_some

theorem finerB_iff (z l z' l' : Int) : finerB z l z' l' = true ↔ WinP z l ∧ WinP z' l' ∧ l = z ∧ l' % l = 0 := by simp [finerB]

def spanB (s : Int) : Bool := decide (-200000 ≤ s ∧ s ≤ 200000)

set_option maxHeartbeats 400000 in
theorem startOk (s : Int) (w : World) : Calls Try.prog 41 #[.int .i64 s] w fun e w' => e = .returned (.bool (spanB s)) ∧ w = w' := by
  obtain ⟨r, hr⟩ : ∃ r, spanB s = r := ⟨_, rfl⟩
  rw [hr]
  have HR := Lib.hid hr
  clear hr
  by_cases h1 : -200000 ≤ s
  · by_cases h2 : s ≤ 200000
    · go_enter Try.func41, Try.ntmps41
      go_wp2
      go_ret
      exact ⟨ret_bool (by rw [← HR.out]; symm; unfold spanB; rw [decide_eq_true_iff]; omega), rfl⟩
    · have hd : decide (s ≤ 200000) = false := by simp; omega
      go_enter Try.func41, Try.ntmps41
      go_wp2
      go_ret
      exact ⟨ret_bool (by rw [← HR.out]; symm; unfold spanB; rw [decide_eq_false_iff_not]; omega), rfl⟩
  · go_enter Try.func41, Try.ntmps41
    go_wp2
    go_ret
    exact ⟨ret_bool (by rw [← HR.out]; symm; unfold spanB; rw [decide_eq_false_iff_not]; omega), rfl⟩

/-- Three blocks more leave what was there. -/
theorem cell_three {W : World} {b o : Nat} {v : Value} (h : W.cell? ⟨b, o, none⟩ = some v) (hb : b < W.heap.size) (o1 o2 o3 : Obj) : (((W.alloc o1).alloc o2).alloc o3).cell? ⟨b, o, none⟩ = some v := by
  rw [World.cell?_alloc_past _ _ _ (by simp; omega), World.cell?_alloc_past _ _ _ (by simp; omega), World.cell?_alloc_past _ _ _ hb, h]

set_option maxRecDepth 100000 in
set_option maxHeartbeats 2000000 in
theorem impl_Parts_yes (z l z' l' s : Int) (w : World) (hP : PartP z l z' l' s) :
    Calls Try.prog 18 #[.agg #[.int .i64 z, .int .i64 l], .agg #[.int .i64 z', .int .i64 l'], .int .i64 s] w (Given w (partsV z l z' l' s)) := by
  obtain ⟨m, hq, hzm, m1, m2, hs⟩ := part_slides hP
  have hV : Hid (partsV z l z' l' s = ap s z m) := by
    show partsV z l z' l' s = _
    unfold partsV; rw [if_pos hP, hq]; rfl
  have hf : finerB z l z' l' = true := (finerB_iff z l z' l').2 hP.1
  have hst : decide (s % l' = 0) = true := by simpa using hP.2.1
  have hsp : spanB s = true := by simpa [spanB] using hP.2.2
  obtain ⟨⟨⟨r1, r2, r3, r4, r5, r6⟩, ⟨q1, q2, q3, q4, q5, q6⟩, rfl, hd⟩, hs', s1, s2⟩ := hP
  have hE : Hid (Ends (up l s) l (s + z') m) := ends_span (fr := s) r3 hzm
  have hU : Hid (up l s = s) := up_self hs
  have hmk := run_make0 m (by omega)
  clear hzm r5 r6 q5 q6 hd hs hs'
  refine (callsIn_wide (n := 3)).1 ?_
  refine callsIn_of_wp_marks Try.func18 rfl trivial ?_ rfl
  simp only [Try.ntmps18, List.size_toArray, List.length_cons, List.length_nil, Nat.reduceAdd, Nat.reduceSub, Array.replicate_succ, Array.replicate_zero, List.push_toArray, List.append_toArray, List.nil_append, List.cons_append]
  gi_wp2_with (first | (refine ⟨trivial, ?_⟩; gi_at_call 22; refine (callsIn_wide.2 (impl_Finer _ _ _ _ _)).mono ?_; rintro e wf ⟨rfl, hbF⟩; obtain ⟨kF, fF⟩ := bcell hbF; have zF : w.heap.size + 1 < wf.heap.size := (by have := hbF.size; simp at this; omega); have yF : w.heap.size < wf.heap.size := (by omega); have d0 := cell_three (((kF w.heap.size 0 (by simp; omega))).trans (by simp [go_sem]; rfl)) yF; have d1 := cell_three (((kF w.heap.size 1 (by simp; omega))).trans (by simp [go_sem]; rfl)) yF; have d2 := cell_three (((kF (w.heap.size + 1) 0 (by simp))).trans (by simp [go_sem]; rfl)) zF) | (refine ⟨trivial, ?_⟩; gi_at_call 40; refine (callsIn_wide.2 (isStart _ _ _ _ q3 q4)).mono ?_; rintro e w' ⟨rfl, rfl⟩) | (refine ⟨trivial, ?_⟩; gi_at_call 41; refine (callsIn_wide.2 (startOk _ _)).mono ?_; rintro e w' ⟨rfl, rfl⟩) | (refine ⟨trivial, ?_⟩; gi_at_call 38; refine (callsIn_wide.2 (startsIn _ _ _ _ _)).mono ?_; rintro e w' ⟨rfl, rfl⟩))
  obtain ⟨i0, hi, hz0, hz1, hz2⟩ := info_parts info_int
  have BF : Below w.heap.size w wf := (((Below.refl _ _).alloc (Nat.le_refl _) _).alloc (by simp) _).trans (hbF.mono (by simp; omega))
  clear kF fF hbF d0 d1 d2
  -- the world where the loop begins
  obtain ⟨wm, hwm⟩ : ∃ wm, (wf.alloc (.cells #[.int .i64 z', .int .i64 l'] 25)).alloc (.cells (madeCells #[.int .i64 0] m) 3) = wm := ⟨_, rfl⟩
  have szm : wm.heap.size = wf.heap.size + 1 + 1 := by rw [← hwm]; simp
  have Bm : Below w.heap.size w wm := by rw [← hwm]; exact (BF.alloc (by omega) _).alloc (by simp; omega) _
  have ownm : wm.ownsRow w.heap.size 3 1 (.slice (some ⟨wf.heap.size + 1, 0, none⟩) 0 m) 0 [] := by
    rw [← hwm]
    have := World.ownsRow_made (base := w.heap.size) (e := 3) (size := 1) (wf.alloc (.cells #[.int .i64 z', .int .i64 l'] 25)) (madeCells #[.int .i64 0] m) m (by simp; omega) (by simp [maxLen]; omega) (by rw [size_madeCells]; simp)
    simpa using this
  rw [hwm]
  have bO := Boxed.new wm 28 (.slice (some ⟨wf.heap.size + 1, 0, none⟩) 0 m)
  rw [szm] at bO
  have rO := ownm.alloc (.cells #[.slice (some ⟨wf.heap.size + 1, 0, none⟩) 0 m] 28)
  have BO : Below w.heap.size w (wm.alloc (.cells #[.slice (some ⟨wf.heap.size + 1, 0, none⟩) 0 m] 28)) := Bm.alloc Bm.size _
  have szO : (wm.alloc (.cells #[.slice (some ⟨wf.heap.size + 1, 0, none⟩) 0 m] 28)).heap.size = wf.heap.size + 1 + 1 + 1 := by simp [szm]
  clear hmk
  generalize wm.alloc (.cells #[.slice (some ⟨wf.heap.size + 1, 0, none⟩) 0 m] 28) = wo at *
  obtain ⟨wl, hwl⟩ : ∃ wl, ((wo.alloc (.cells #[.int .i64 l, .int .i64 l] 25)).alloc (.cells #[.int .i64 s] 3)).alloc (.cells #[.int .i64 (s + z')] 3) = wl := ⟨_, rfl⟩
  have hC : Caught (wf.heap.size + 1 + 1 + 1) l l s (s + z') wl := by
    rw [← hwl, ← szO]
    refine ⟨?_, ?_, ?_, ?_⟩ <;> simp [go_sem]
  have szl : wl.heap.size = wf.heap.size + 1 + 1 + 1 + 3 := by rw [← hwl]; simp [szO]
  have bl : Boxed wl (wf.heap.size + 1 + 1) 28 (.slice (some ⟨wf.heap.size + 1, 0, none⟩) 0 m) := by rw [← hwl]; exact ((bO.alloc _).alloc _).alloc _
  have rl : wl.ownsRow w.heap.size 3 1 (.slice (some ⟨wf.heap.size + 1, 0, none⟩) 0 m) 0 [] := by rw [← hwl]; exact ((rO.alloc _).alloc _).alloc _
  have Bl : Below w.heap.size w wl := by rw [← hwl]; exact ((BO.alloc (by omega) _).alloc (by simp; omega) _).alloc (by simp; omega) _
  rw [hwl]
  clear hwl bO rO BO szO hwm szm Bm ownm BF
  refine wpIn_rangeFunc_ownG rfl (by decide) (gf := 43) (lb := #[.pointer (some ⟨wf.heap.size + 1 + 1 + 1, 0, none⟩), .pointer (some ⟨wf.heap.size + 1 + 1 + 1 + 1, 0, none⟩), .pointer (some ⟨wf.heap.size + 1 + 1 + 1 + 2, 0, none⟩)]) rfl trivial (enters_of Try.func43 (by kernel_rfl) rfl)
    (seq_stops 2 (by decide) (wf.heap.size + 1 + 1 + 1) l l s (s + z') m r3 r4 (by omega) (by omega) (by omega) (by omega) hE.out wl (by omega) hC) keptK_t (keptK_b (by omega)) (Below.refl _ _) (fun _ => rfl)
    (fun pre W => (∃ v, Boxed W (wf.heap.size + 1 + 1) 28 v ∧ W.ownsRow w.heap.size 3 1 v pre.length (pre.map (Value.int .i64)) ∧ v = .slice (some ⟨wf.heap.size + 1, 0, none⟩) pre.length m) ∧ Below w.heap.size w W ∧ wl.heap.size ≤ W.heap.size)
    (fun _ _ _ => False)
    (OwnFrom.and (Own.from (holdsRow_own w.heap.size (wf.heap.size + 1 + 1) 28 3 1 (fun pre : List Int => pre.length) (fun pre : List Int => pre.map (Value.int .i64)) (fun (pre : List Int) v => v = .slice (some ⟨wf.heap.size + 1, 0, none⟩) pre.length m)) _) (OwnFrom.and (ownFrom_below (Nat.le_refl _) (by omega)) (fun _ _ _ _ hs hg _ => Nat.le_trans hs hg.size)))
    (fun _ _ _ _ _ hs _ _ => hs)
    ⟨⟨_, bl, rl, rfl⟩, Bl, Nat.le_refl _⟩
    (fun x => { tmps := #[.agg #[.int .i64 l, .int .i64 l], .agg #[.int .i64 z', .int .i64 l'], .int .i64 s, .pointer (some ⟨w.heap.size, 0, none⟩), .pointer (some ⟨w.heap.size + 1, 0, none⟩), undef, .slice none 0 0, .pointer (some ⟨wf.heap.size + 1 + 1, 0, none⟩), .int .i64 x, .agg #[.int .i64 l, .int .i64 l], .agg #[.int .i64 z', .int .i64 l'], .bool true, .bool false, .bool false, .agg #[.int .i64 z', .int .i64 l'], .int .i64 s, .bool true, .bool false, .bool false, .bool false, .int .i64 s, .bool true, .bool false, .bool false, .pointer (some ⟨w.heap.size + 1, 0, none⟩), .int .i64 z', .pointer (some ⟨w.heap.size, 0, none⟩), .int .i64 l, .int .i64 m, .slice (some ⟨wf.heap.size + 1, 0, none⟩) 0 m, .agg #[.int .i64 l, .int .i64 l], .int .i64 s, .int .i64 s, .pointer (some ⟨w.heap.size + 1, 0, none⟩), .int .i64 z', .int .i64 (s + z'), .func (.func 43) #[] #[.pointer (some ⟨wf.heap.size + 1 + 1 + 1, 0, none⟩), .pointer (some ⟨wf.heap.size + 1 + 1 + 1 + 1, 0, none⟩), .pointer (some ⟨wf.heap.size + 1 + 1 + 1 + 2, 0, none⟩)], .int .i64 x, undef, undef, undef, undef, undef], defers := [] }) ?assign ?body ?done ?stop
  case assign =>
    intro l x W K hK
    gi_wp2
    exact hK
  case body =>
    rintro L pre x W ⟨⟨v, hv, hrow, rfl⟩, hB, hs⟩ hlt
    have hc := hv.cell
    gi_wp2_with (gi_at_builtin; refine wpListIn_append_fits _ rfl _ _ 28 rfl w.heap.size 3 i0 1 Try.underlying28 hi hz1 (wf.heap.size + 1) pre.length m _ rfl (hrow.alloc _) ⟨W.heap.size, 0, none⟩ 1 1 [.int .i64 x] rfl rfl (cell_one_new _ _ _) (by simp [Value.oneCell']) (by omega) ?_; intro w1 hown' hgrow; obtain ⟨hv1, hv2, hr2, hk2, hb2⟩ := hv.appended (by decide) hrow hB.size (by omega) hown' hgrow; have hc1 := hv1.cell; have hf1 := hv1.frozen)
    refine ⟨hk2.from _, ?_, ⟨_, hv2, by simpa using hr2, by simp⟩, hB.trans hb2, ?_⟩
    · intro k k1 k2
      rw [Below.heap_setCell _ _ _ _ (by show k ≠ wf.heap.size + 1 + 1; omega), hgrow.block k (by simp; omega) (by simp; omega)]
      exact Below.heap_alloc _ _ _ (by omega)
    · exact Nat.le_trans hs hk2.size
  case done =>
    rintro D ys W hD rfl ⟨⟨v, hv, hrow, rfl⟩, hB, hs⟩ hK
    have hc := hv.cell
    gi_wp2
    refine ⟨by simp, .inl ⟨_, _, rfl, run_takeDeferred hK, ?_⟩⟩
    exact ⟨_, results_tmp rfl _ _ _, _, _, _, rfl, by rw [hV.out, show ap s l m = ap (up l s) l m by rw [hU.out]]; exact ownsRow_putObj hrow _ hK rfl, hB.trans (belowK_b (w := w) (Nat.le_refl _) W D _ _ (by omega) hK rfl rfl)⟩
  case stop =>
    rintro D c pre W _ _ h _
    exact h.elim

theorem partsV_no {z l z' l' s : Int} (h : ¬ PartP z l z' l' s) : partsV z l z' l' s = [] := by simp [partsV, h]

set_option maxHeartbeats 1000000 in
theorem impl_Parts (z l z' l' s : Int) (w : World) : Calls Try.prog 18 #[.agg #[.int .i64 z, .int .i64 l], .agg #[.int .i64 z', .int .i64 l'], .int .i64 s] w (Given w (partsV z l z' l' s)) := by
  by_cases hP : PartP z l z' l' s
  · exact impl_Parts_yes z l z' l' s w hP
  · rw [partsV_no hP]
    by_cases hf : finerB z l z' l' = true
    · have hF := (finerB_iff z l z' l').1 hf
      obtain ⟨q1, q2, q3, q4, q5, q6⟩ := hF.2.1
      by_cases hst : decide (s % l' = 0) = true
      · have hsp : spanB s = false := by
          apply bool_no
          intro h
          exact hP ⟨hF, of_decide_eq_true hst, of_decide_eq_true h⟩
        clear hP hF
        go_enter Try.func18, Try.ntmps18
        go_wp2_with (first | (go_at_call 22; refine (impl_Finer _ _ _ _ _).mono ?_; rintro e wf ⟨rfl, hbF⟩; obtain ⟨kF, fF⟩ := bcell hbF; have zF : w.heap.size + 1 < wf.heap.size := (by have := hbF.size; simp at this; omega)) | (go_at_call 40; refine (isStart _ _ _ _ q3 q4).mono ?_; rintro e w' ⟨rfl, rfl⟩) | (go_at_call 41; refine (startOk _ _).mono ?_; rintro e w' ⟨rfl, rfl⟩))
        go_ret
        refine ⟨none, 0, 0, rfl, World.ownsRow_nil _ _ _ _, ?_⟩
        exact ((((Below.refl _ _).alloc (Nat.le_refl _) _).alloc (by simp) _).trans (hbF.mono (by simp; omega))).alloc (by omega) _
      · have hst' := bool_no hst
        clear hst hP hF
        go_enter Try.func18, Try.ntmps18
        go_wp2_with (first | (go_at_call 22; refine (impl_Finer _ _ _ _ _).mono ?_; rintro e wf ⟨rfl, hbF⟩; obtain ⟨kF, fF⟩ := bcell hbF; have zF : w.heap.size + 1 < wf.heap.size := (by have := hbF.size; simp at this; omega)) | (go_at_call 40; refine (isStart _ _ _ _ q3 q4).mono ?_; rintro e w' ⟨rfl, rfl⟩) | (go_at_call 41; refine (startOk _ _).mono ?_; rintro e w' ⟨rfl, rfl⟩))
        go_ret
        refine ⟨none, 0, 0, rfl, World.ownsRow_nil _ _ _ _, ?_⟩
        exact ((((Below.refl _ _).alloc (Nat.le_refl _) _).alloc (by simp) _).trans (hbF.mono (by simp; omega))).alloc (by omega) _
    · have hf' := bool_no hf
      clear hf hP
      go_enter Try.func18, Try.ntmps18
      go_wp2_with (go_at_call 22; refine (impl_Finer _ _ _ _ _).mono ?_; rintro e wf ⟨rfl, hbF⟩)
      go_ret
      refine ⟨none, 0, 0, rfl, World.ownsRow_nil _ _ _ _, ?_⟩
      exact (((Below.refl _ _).alloc (Nat.le_refl _) _).alloc (by simp) _).trans (hbF.mono (by simp; omega))
end Go.Proofs.Ytoaallfoackjaaa.win
