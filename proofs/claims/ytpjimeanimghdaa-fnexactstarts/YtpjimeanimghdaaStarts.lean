/-
  THE CONTRACT OF Starts, of the program: the starts of all windows that a moment is in, rising, in new memory; nothing that was there is written.
  No condition on the arguments.
-/
import Derived.Test.YtpjimeanimghdaaWinIter
import Derived.Test.YtpjimeanimghdaaOwnBase
import Derived.Deep.OwnRows
namespace Go.Proofs.Ytpjimeanimghdaa.win
open Go.RowKit Go.Shelf
attribute [local go_sem] Oper.semAt_some

set_option maxRecDepth 100000 in
set_option maxHeartbeats 2000000 in
theorem impl_Starts_yes (z l t : Int) (w : World) (hw : winB z l = true) (ht : timeB t = true) :
    Calls Try.prog 12 #[.agg #[.int .i64 z, .int .i64 l], .int .i64 t] w (Given w (startsV z l t)) := by
  have hP := (winB_iff z l).1 hw
  obtain ⟨t1, t2⟩ := (timeB_iff t).1 ht
  obtain ⟨m, hq, hzm, m1, m2⟩ := win_slides hP
  have hV : Hid (startsV z l t = ap (up l (t - z + 1)) l m) := by
    show startsV z l t = _
    unfold startsV; rw [if_pos ⟨hP, t1, t2⟩, hq]; rfl
  obtain ⟨r1, r2, r3, r4, r5, r6⟩ := hP
  have hE : Hid (Ends (up l (t - z + 1)) l (t + 1) m) := by
    have := ends_span (fr := t - z + 1) r3 hzm
    rwa [show t - z + 1 + z = t + 1 by omega] at this
  have hmk := run_make0 m (by omega)
  have HZ := Lib.hid hzm
  clear hzm r6
  refine (callsIn_wide (n := 3)).1 ?_
  refine callsIn_of_wp_marks Try.func12 rfl trivial ?_ rfl
  simp only [Try.ntmps12, List.size_toArray, List.length_cons, List.length_nil, Nat.reduceAdd, Nat.reduceSub, Array.replicate_succ, Array.replicate_zero, List.push_toArray, List.append_toArray, List.nil_append, List.cons_append]
  gi_wp2_with (first | (refine ⟨trivial, ?_⟩; gi_at_call 54; refine (callsIn_wide.2 (impl_WinOk _ _ _)).mono ?_; rintro e w' ⟨rfl, rfl⟩) | (refine ⟨trivial, ?_⟩; gi_at_call 55; refine (callsIn_wide.2 (impl_TimeOk _ _)).mono ?_; rintro e w' ⟨rfl, rfl⟩) | (refine ⟨trivial, ?_⟩; gi_at_call 56; refine (callsIn_wide.2 (startsOver _ _ _ _ r1 r2 (by omega) (by omega))).mono ?_; rintro e w' ⟨rfl, rfl⟩))
  obtain ⟨i0, hi, hz0, hz1, hz2⟩ := info_parts info_int
  -- the world where the loop begins
  obtain ⟨wm, hwm⟩ : ∃ wm, ((w.alloc (.cells #[.int .i64 z, .int .i64 l] 25)).alloc (.cells #[.int .i64 z, .int .i64 l] 25)).alloc (.cells (madeCells #[.int .i64 0] m) 3) = wm := ⟨_, rfl⟩
  have szm : wm.heap.size = w.heap.size + 1 + 1 + 1 := by rw [← hwm]; simp
  have Bm : Below w.heap.size w wm := by rw [← hwm]; exact ((((Below.refl _ _).alloc (Nat.le_refl _) _).alloc (by simp) _).alloc (by simp; omega) _)
  have ownm : wm.ownsRow w.heap.size 3 1 (.slice (some ⟨w.heap.size + 1 + 1, 0, none⟩) 0 m) 0 [] := by
    rw [← hwm]
    have := World.ownsRow_made (base := w.heap.size) (e := 3) (size := 1) ((w.alloc (.cells #[.int .i64 z, .int .i64 l] 25)).alloc (.cells #[.int .i64 z, .int .i64 l] 25)) (madeCells #[.int .i64 0] m) m (by simp; omega) (by simp [maxLen]; omega) (by rw [size_madeCells]; simp)
    simpa using this
  rw [hwm]
  have bO := Boxed.new wm 28 (.slice (some ⟨w.heap.size + 1 + 1, 0, none⟩) 0 m)
  rw [szm] at bO
  have rO := ownm.alloc (.cells #[.slice (some ⟨w.heap.size + 1 + 1, 0, none⟩) 0 m] 28)
  have BO : Below w.heap.size w (wm.alloc (.cells #[.slice (some ⟨w.heap.size + 1 + 1, 0, none⟩) 0 m] 28)) := Bm.alloc Bm.size _
  have szO : (wm.alloc (.cells #[.slice (some ⟨w.heap.size + 1 + 1, 0, none⟩) 0 m] 28)).heap.size = w.heap.size + 1 + 1 + 1 + 1 := by simp [szm]
  clear hmk
  generalize wm.alloc (.cells #[.slice (some ⟨w.heap.size + 1 + 1, 0, none⟩) 0 m] 28) = wo at *
  obtain ⟨wl, hwl⟩ : ∃ wl, (((wo.alloc (.cells #[.int .i64 z, .int .i64 l] 25)).alloc (.cells #[.int .i64 z, .int .i64 l] 25)).alloc (.cells #[.int .i64 (t - z + 1)] 3)).alloc (.cells #[.int .i64 (t + 1)] 3) = wl := ⟨_, rfl⟩
  have hC : Caught (w.heap.size + 1 + 1 + 1 + 1 + 1) z l (t - z + 1) (t + 1) wl := by
    rw [← hwl, ← szO]
    refine ⟨?_, ?_, ?_, ?_⟩ <;> simp [go_sem]
  have szl : wl.heap.size = w.heap.size + 1 + 1 + 1 + 1 + 1 + 3 := by rw [← hwl]; simp [szO]
  have bl : Boxed wl (w.heap.size + 1 + 1 + 1) 28 (.slice (some ⟨w.heap.size + 1 + 1, 0, none⟩) 0 m) := by rw [← hwl]; exact (((bO.alloc _).alloc _).alloc _).alloc _
  have rl : wl.ownsRow w.heap.size 3 1 (.slice (some ⟨w.heap.size + 1 + 1, 0, none⟩) 0 m) 0 [] := by rw [← hwl]; exact (((rO.alloc _).alloc _).alloc _).alloc _
  have Bl : Below w.heap.size w wl := by rw [← hwl]; exact (((BO.alloc (by omega) _).alloc (by simp; omega) _).alloc (by simp; omega) _).alloc (by simp; omega) _
  rw [hwl]
  clear hwl bO rO BO szO hwm szm Bm ownm
  refine wpIn_rangeFunc_ownG rfl (by decide) (gf := 116) (lb := #[.pointer (some ⟨w.heap.size + 1 + 1 + 1 + 1 + 1, 0, none⟩), .pointer (some ⟨w.heap.size + 1 + 1 + 1 + 1 + 1 + 1, 0, none⟩), .pointer (some ⟨w.heap.size + 1 + 1 + 1 + 1 + 1 + 2, 0, none⟩)]) rfl trivial (enters_of Try.func116 (by kernel_rfl) rfl)
    (seq_stops 2 (by decide) (w.heap.size + 1 + 1 + 1 + 1 + 1) z l (t - z + 1) (t + 1) m r3 r4 (by omega) (by omega) (by omega) (by omega) hE.out wl (by omega) hC) keptK_t (keptK_b (by omega)) (Below.refl _ _) (fun _ => rfl)
    (fun pre W => (∃ v, Boxed W (w.heap.size + 1 + 1 + 1) 28 v ∧ W.ownsRow w.heap.size 3 1 v pre.length (pre.map (Value.int .i64)) ∧ v = .slice (some ⟨w.heap.size + 1 + 1, 0, none⟩) pre.length m) ∧ Below w.heap.size w W ∧ wl.heap.size ≤ W.heap.size)
    (fun _ _ _ => False)
    (OwnFrom.and (Own.from (holdsRow_own w.heap.size (w.heap.size + 1 + 1 + 1) 28 3 1 (fun pre : List Int => pre.length) (fun pre : List Int => pre.map (Value.int .i64)) (fun (pre : List Int) v => v = .slice (some ⟨w.heap.size + 1 + 1, 0, none⟩) pre.length m)) _) (OwnFrom.and (ownFrom_below (Nat.le_refl _) (by omega)) (fun _ _ _ _ hs hg _ => Nat.le_trans hs hg.size)))
    (fun _ _ _ _ _ hs _ _ => hs)
    ⟨⟨_, bl, rl, rfl⟩, Bl, Nat.le_refl _⟩
    (fun x => { tmps := #[.agg #[.int .i64 z, .int .i64 l], .int .i64 t, .pointer (some ⟨w.heap.size, 0, none⟩), undef, .slice none 0 0, .pointer (some ⟨w.heap.size + 1 + 1 + 1, 0, none⟩), .int .i64 x, .agg #[.int .i64 z, .int .i64 l], .bool true, .bool false, .bool false, .int .i64 t, .bool true, .bool false, .bool false, .pointer (some ⟨w.heap.size, 0, none⟩), .int .i64 z, .pointer (some ⟨w.heap.size, 1, none⟩), .int .i64 l, .int .i64 m, .slice (some ⟨w.heap.size + 1 + 1, 0, none⟩) 0 m, .agg #[.int .i64 z, .int .i64 l], .int .i64 t, .func (.func 116) #[] #[.pointer (some ⟨w.heap.size + 1 + 1 + 1 + 1 + 1, 0, none⟩), .pointer (some ⟨w.heap.size + 1 + 1 + 1 + 1 + 1 + 1, 0, none⟩), .pointer (some ⟨w.heap.size + 1 + 1 + 1 + 1 + 1 + 2, 0, none⟩)], .int .i64 x, undef, undef, undef, undef, undef], defers := [] }) ?assign ?body ?done ?stop
  case assign =>
    intro l x W K hK
    gi_wp2
    exact hK
  case body =>
    rintro L pre x W ⟨⟨v, hv, hrow, rfl⟩, hB, hs⟩ hlt
    have hc := hv.cell
    gi_wp2_with (gi_at_builtin; refine wpListIn_append_fits _ rfl _ _ 28 rfl w.heap.size 3 i0 1 Try.underlying28 hi hz1 (w.heap.size + 1 + 1) pre.length m _ rfl (hrow.alloc _) ⟨W.heap.size, 0, none⟩ 1 1 [.int .i64 x] rfl rfl (cell_one_new _ _ _) (by simp [Value.oneCell']) (by omega) ?_; intro w1 hown' hgrow; obtain ⟨hv1, hv2, hr2, hk2, hb2⟩ := hv.appended (by decide) hrow hB.size (by omega) hown' hgrow; have hc1 := hv1.cell; have hf1 := hv1.frozen)
    refine ⟨hk2.from _, ?_, ⟨_, hv2, by simpa using hr2, by simp⟩, hB.trans hb2, ?_⟩
    · intro k k1 k2
      rw [Below.heap_setCell _ _ _ _ (by show k ≠ w.heap.size + 1 + 1 + 1; omega), hgrow.block k (by simp; omega) (by simp; omega)]
      exact Below.heap_alloc _ _ _ (by omega)
    · exact Nat.le_trans hs hk2.size
  case done =>
    rintro D ys W hD rfl ⟨⟨v, hv, hrow, rfl⟩, hB, hs⟩ hK
    have hc := hv.cell
    gi_wp2
    refine ⟨by simp, .inl ⟨_, _, rfl, run_takeDeferred hK, ?_⟩⟩
    exact ⟨_, results_tmp rfl _ _ _, _, _, _, rfl, by rw [hV.out]; exact ownsRow_putObj hrow _ hK rfl, hB.trans (belowK_b (w := w) (Nat.le_refl _) W D _ _ (by omega) hK rfl rfl)⟩
  case stop =>
    rintro D c pre W _ _ h _
    exact h.elim

theorem startsV_no {z l t : Int} (h : winB z l = false ∨ timeB t = false) : startsV z l t = [] := by
  unfold startsV
  rw [if_neg]
  rintro ⟨h1, h2⟩
  rcases h with h | h
  · exact (winB_not z l).1 h h1
  · have := (timeB_not t).1 h; omega

set_option maxHeartbeats 1000000 in
theorem impl_Starts (z l t : Int) (w : World) : Calls Try.prog 12 #[.agg #[.int .i64 z, .int .i64 l], .int .i64 t] w (Given w (startsV z l t)) := by
  by_cases hw : winB z l = true
  · by_cases ht : timeB t = true
    · exact impl_Starts_yes z l t w hw ht
    · have ht' := bool_no ht
      rw [startsV_no (.inr ht')]
      clear ht
      go_enter Try.func12, Try.ntmps12
      go_wp2_with (first | (go_at_call 54; refine (impl_WinOk _ _ _).mono ?_; rintro e w' ⟨rfl, rfl⟩) | (go_at_call 55; refine (impl_TimeOk _ _).mono ?_; rintro e w' ⟨rfl, rfl⟩))
      go_ret
      exact ⟨none, 0, 0, rfl, World.ownsRow_nil _ _ _ _, ((Below.refl _ _).alloc (Nat.le_refl _) _).alloc (by simp) _⟩
  · have hw' := bool_no hw
    rw [startsV_no (.inl hw')]
    clear hw
    go_enter Try.func12, Try.ntmps12
    go_wp2_with (first | (go_at_call 54; refine (impl_WinOk _ _ _).mono ?_; rintro e w' ⟨rfl, rfl⟩) | (go_at_call 55; refine (impl_TimeOk _ _).mono ?_; rintro e w' ⟨rfl, rfl⟩))
    go_ret
    exact ⟨none, 0, 0, rfl, World.ownsRow_nil _ _ _ _, ((Below.refl _ _).alloc (Nat.le_refl _) _).alloc (by simp) _⟩
end Go.Proofs.Ytpjimeanimghdaa.win
