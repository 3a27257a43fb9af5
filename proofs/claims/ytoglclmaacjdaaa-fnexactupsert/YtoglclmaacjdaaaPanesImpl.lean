/-
  THE CONTRACTS OF PanesOk of the program, and of what it calls: places, starts, keys, and the order of panes; nothing that was there is written.
  Condition: panes of at most 2,000,000 numbers.
-/
import Derived.Test.YtoglclmaacjdaaaPaneCmp
import Derived.Test.YtoglclmaacjdaaaMix
import Derived.Test.YtoglclmaacjdaaaKeyOf
import Derived.Test.YtoglclmaacjdaaaAggOk
namespace Go.Proofs.Ytoglclmaacjdaaa.dat
open Go.RowKit Go.Proofs.Ytoglclmaacjdaaa.win

set_option maxHeartbeats 400000 in
theorem isStartP (z l s : Int) (w : World) (h1 : 1 ≤ l) (h2 : l ≤ 20000) : Calls Try.prog 190 #[.agg #[.int .i64 z, .int .i64 l], .int .i64 s] w fun e w' => e = .returned (.bool (decide (s % l = 0))) ∧ w.alloc (.cells #[.int .i64 z, .int .i64 l] 158) = w' := by
  obtain ⟨d, hd, d1, d2, d0⟩ := tmod_small s h1 h2
  have n1 : (l == 0) = false := by simp; omega
  have n2 : ¬ l = 0 := by omega
  go_enter Try.func190, Try.ntmps190
  go_wp2
  go_ret
  refine ⟨ret_bool ?_, rfl⟩
  rw [Bool.eq_iff_iff]; simp; exact d0

/-- How many bits of a mask below 8 are set. -/
def ones (m : Int) : Int := (if bitB m 0 then 1 else 0) + (if bitB m 1 then 1 else 0) + (if bitB m 2 then 1 else 0)
def spanB (s : Int) : Bool := decide (-200000 ≤ s ∧ s ≤ 200000)
def placeB (n : Nat) (k : Int) : Bool := decide (0 ≤ k ∧ k < (n : Int))

set_option maxRecDepth 100000 in
set_option maxHeartbeats 4000000 in
theorem onesCount64 {m : Int} (h0 : 0 ≤ m) (h8 : m < 8) (w : World) : Calls Try.prog 211 #[.int .u64 m] w fun e w' => e = .returned (.int .i64 (ones m)) ∧ w = w' := by
  have h1 : m = 0 ∨ m = 1 ∨ m = 2 ∨ m = 3 ∨ m = 4 ∨ m = 5 ∨ m = 6 ∨ m = 7 := by omega
  clear h0 h8
  rcases h1 with rfl | rfl | rfl | rfl | rfl | rfl | rfl | rfl
  all_goals (
    go_enter Try.func211, Try.ntmps211
    go_wp2_with fail
    go_ret
    exact ⟨by kernel_rfl, rfl⟩)
set_option maxRecDepth 100000 in
set_option maxHeartbeats 4000000 in
theorem onesCount {m : Int} (h0 : 0 ≤ m) (h8 : m < 8) (w : World) : Calls Try.prog 192 #[.int .u64 m] w fun e w' => e = .returned (.int .i64 (ones m)) ∧ w = w' := by
  have hc := Lib.hid (onesCount64 h0 h8 w)
  clear h0 h8
  go_enter Try.func192, Try.ntmps192
  go_wp2_with fail
  refine hc.out.mono ?_
  rintro e w' ⟨rfl, rfl⟩
  go_wp2_with fail
  go_ret
  exact ⟨rfl, rfl⟩

set_option maxHeartbeats 1000000 in
theorem placeWin (a : Option Addr) (n cap : Nat) (k : Int) (w : World) : Calls Try.prog 167 #[.slice a n cap, .int .i64 k] w fun e w' => e = .returned (.bool (placeB n k)) ∧ w = w' := by
  unfold placeB
  by_cases h0 : 0 ≤ k
  · by_cases h1 : k < (n : Int)
    · rw [decide_eq_true (show 0 ≤ k ∧ k < (n : Int) from ⟨h0, h1⟩)]
      go_enter Try.func167, Try.ntmps167
      go_wp2_with fail
      go_ret
      exact ⟨rfl, rfl⟩
    · rw [decide_eq_false (show ¬ (0 ≤ k ∧ k < (n : Int)) by omega)]
      go_enter Try.func167, Try.ntmps167
      go_wp2_with fail
      go_ret
      exact ⟨rfl, rfl⟩
  · rw [decide_eq_false (show ¬ (0 ≤ k ∧ k < (n : Int)) by omega)]
    go_enter Try.func167, Try.ntmps167
    go_wp2_with fail
    go_ret
    exact ⟨rfl, rfl⟩
set_option maxHeartbeats 1000000 in
theorem placeInt (a : Option Addr) (n cap : Nat) (k : Int) (w : World) : Calls Try.prog 59 #[.slice a n cap, .int .i64 k] w fun e w' => e = .returned (.bool (placeB n k)) ∧ w = w' := by
  unfold placeB
  by_cases h0 : 0 ≤ k
  · by_cases h1 : k < (n : Int)
    · rw [decide_eq_true (show 0 ≤ k ∧ k < (n : Int) from ⟨h0, h1⟩)]
      go_enter Try.func59, Try.ntmps59
      go_wp2_with fail
      go_ret
      exact ⟨rfl, rfl⟩
    · rw [decide_eq_false (show ¬ (0 ≤ k ∧ k < (n : Int)) by omega)]
      go_enter Try.func59, Try.ntmps59
      go_wp2_with fail
      go_ret
      exact ⟨rfl, rfl⟩
  · rw [decide_eq_false (show ¬ (0 ≤ k ∧ k < (n : Int)) by omega)]
    go_enter Try.func59, Try.ntmps59
    go_wp2_with fail
    go_ret
    exact ⟨rfl, rfl⟩
set_option maxHeartbeats 1000000 in
theorem startOk' (s : Int) (w : World) : Calls Try.prog 191 #[.int .i64 s] w fun e w' => e = .returned (.bool (spanB s)) ∧ w = w' := by
  unfold spanB
  by_cases h0 : -200000 ≤ s
  · by_cases h1 : s ≤ 200000
    · rw [decide_eq_true (show -200000 ≤ s ∧ s ≤ 200000 from ⟨h0, h1⟩)]
      go_enter Try.func191, Try.ntmps191
      go_wp2_with fail
      go_ret
      exact ⟨rfl, rfl⟩
    · rw [decide_eq_false (show ¬ (-200000 ≤ s ∧ s ≤ 200000) by omega)]
      go_enter Try.func191, Try.ntmps191
      go_wp2_with fail
      go_ret
      exact ⟨rfl, rfl⟩
  · rw [decide_eq_false (show ¬ (-200000 ≤ s ∧ s ≤ 200000) by omega)]
    go_enter Try.func191, Try.ntmps191
    go_wp2_with fail
    go_ret
    exact ⟨rfl, rfl⟩

set_option maxRecDepth 100000 in
set_option maxHeartbeats 4000000 in
theorem startFits (c : ConfD) (ch : ConfigH) (cf : List Nat) (i : Nat) (mask start : Int) (key : List Int) (A : AggD) (h : PaneH) (w : World) (hc : Config.Is w c ch cf) (hi : i < ch.wsl) {u : Int × Int} (hu : c.ws[i]? = some u) (h1 : 1 ≤ u.2) (h2 : u.2 ≤ 20000) :
    Calls Try.prog 168 #[.agg (Config.list c ch).toArray, .agg (Pane.list ⟨i, mask, start, key, A⟩ h).toArray] w fun e w' => e = .returned (.bool (decide (start % u.2 = 0) && spanB start)) ∧ Below w.heap.size w w' := by
  obtain ⟨f0, f1, rfl, r0, u0, v0, r1, u1, v1⟩ := hc
  obtain ⟨b, off, x, f, cs, ha, hbl, hx, hcl, hR, hcell⟩ := r0.at hi
  obtain rfl : x = u := by rw [hu] at hx; exact (Option.some.inj hx).symm
  obtain ⟨rfl, rfl⟩ := hR
  have e0 := hcell 0 (by omega)
  have e1 := hcell 1 (by omega)
  simp [Win.list] at e0 e1
  have E0 := Lib.hid e0
  have E1 := Lib.hid e1
  have hi2 : (i : Int) < (ch.wsl : Int) := by omega
  have hi0 : (0 : Int) ≤ (i : Int) := by omega
  have HA := Lib.hid ha
  clear r0 u0 v0 r1 u1 v1 hcell hu hx hcl e0 e1 ha
  simp only [Config.list, Pane.list]
  go_enter Try.func168, Try.ntmps168
  go_wp2_with fail
  refine wp_gen (fun W => Below w.heap.size w W ∧ Blk W w.heap.size 63 (Config.list c ch) ∧ Blk W (w.heap.size + 1) 144 (Pane.list ⟨i, mask, start, key, A⟩ h)) ⟨by repeat (first | exact Below.refl _ _ | refine Below.setCell ?_ (by first | omega | (simp; done) | (simp; omega)) _ | refine Below.alloc ?_ (by first | omega | (simp; done) | (simp; omega)) _ | apply Below.drew), by unfold Config.list; with_reducible (repeat (first | (refine blk_new_at _ _ _ _ ?_; first | rfl | (simp; done)) | refine Blk.alloc ?_ _ | apply Blk.drew | refine Blk.setOther ?_ (by first | (simp; done) | (simp; omega)) _)), by unfold Pane.list; with_reducible (repeat (first | (refine blk_new_at _ _ _ _ ?_; first | rfl | (simp; done)) | refine Blk.alloc ?_ _ | apply Blk.drew | refine Blk.setOther ?_ (by first | (simp; done) | (simp; omega)) _))⟩ ?_
  rintro W1 ⟨b1, k1, m1⟩
  have B1 := Lib.hid b1
  have M1 := Lib.hid m1
  have c1 := k1.cell 1
  have d0 := m1.cell 0
  have d2 := m1.cell 2
  simp [Config.list, Pane.list] at c1 d0 d2
  rw [HA.out] at c1
  have g0 : W1.cell? ⟨b, off + i * 2, none⟩ = some (.int .i64 x.1) := (b1.cell (p := ⟨b, off + i * 2, none⟩) hbl).trans E0.out
  have g1 : W1.cell? ⟨b, off + i * 2 + 1, none⟩ = some (.int .i64 x.2) := (b1.cell (p := ⟨b, off + i * 2 + 1, none⟩) hbl).trans E1.out
  have H12 := Lib.hid (And.intro h1 h2)
  clear k1 m1 b1 h1 h2
  refine mix.wp_region_mix [8] (by kernel_rfl) (by kernel_rfl) ?_
  refine mix.mix_seg 8 rfl ?_; simp only [List.take_succ_cons, List.take_zero, List.drop_succ_cons, List.drop_zero]; (repeat still_step)
  (try refine wpStill_nil ?_); refine mix.at_cons (fun K hK => ?_); go_simp
  refine (isStartP _ _ _ _ H12.out.1 H12.out.2).mono ?_
  rintro e W2 ⟨rfl, e2⟩
  have b2 : Below W1.heap.size W1 W2 := by rw [← e2]; exact (Below.refl _ _).drew.alloc (Nat.le_refl _) _
  have D2 := (M1.out.below b2 M1.out.lt).cell 2
  have B2 := Lib.hid (B1.out.trans (b2.mono B1.out.size))
  simp [Pane.list] at D2
  clear e2 b2 c1 d0 d2 g0 g1
  refine hK _ _ ?_; clear hK K
  cases hp : decide (start % x.2 = 0) with
  | false =>
    refine mix.mix_end ?_; (repeat still_step)
    refine wpStill_nil ?_
    go_wp2_with fail
    go_ret
    exact ⟨ret_bool (by rw [hp]; rfl), B2.out⟩
  | true =>
    refine mix.mix_end ?_; (repeat still_step)
    still_call (flip_call (startOk' _ _))
    repeat still_step
    refine wpStill_nil ?_
    go_wp2_with fail
    go_ret
    exact ⟨ret_bool (by rw [hp]; rfl), B2.out⟩

set_option maxRecDepth 100000 in
set_option maxHeartbeats 4000000 in
theorem keyFits (c : ConfD) (ch : ConfigH) (cf : List Nat) (win : Int) (i : Nat) (start : Int) (key : List Int) (A : AggD) (h : PaneH) (f : List Nat) (w : World) (hc : Config.Is w c ch cf) (hp : Pane.Is w ⟨win, i, start, key, A⟩ h f) (hi : i < ch.msl) {m : Int} (hu : c.ms[i]? = some m) (h1 : 0 ≤ m) (h2 : m < 8) (hk : key.length ≤ 2000000) :
    Calls Try.prog 169 #[.agg (Config.list c ch).toArray, .agg (Pane.list ⟨win, i, start, key, A⟩ h).toArray] w fun e w' => e = .returned (.bool (((key.length : Int) == ones m) && key.all dimB)) ∧ Below w.heap.size w w' := by
  obtain ⟨f0, f1, rfl, r0, u0, v0, r1, u1, v1⟩ := hc
  obtain ⟨g0, rfl, q0, x0, y0⟩ := hp
  obtain ⟨b, off, x, f, cs, ha, hbl, hx, hcl, hR, hcell⟩ := r1.at hi
  obtain rfl : x = m := by rw [hu] at hx; exact (Option.some.inj hx).symm
  obtain ⟨rfl, rfl⟩ := hR
  have hlen : key.length = h.keyl := q0.1
  rw [hlen]
  rw [hlen] at hk
  have HK := Lib.hid hk
  have HQ := Lib.hid q0
  have e0 := hcell 0 (by omega)
  simp at e0
  have E0 := Lib.hid e0
  have hi2 : (i : Int) < (ch.msl : Int) := by omega
  have hi0 : (0 : Int) ≤ (i : Int) := by omega
  have HA := Lib.hid ha
  clear r0 u0 v0 r1 u1 v1 hcell hu hx hcl e0 ha q0 x0 y0 hlen hk
  have hwrap : IntKind.u64.wrap x = x := by unfold IntKind.wrap; simp [IntKind.signed, IntKind.bits]; omega
  have hO := Lib.hid (fun w => onesCount h1 h2 w)
  clear h1 h2
  simp only [Config.list, Pane.list]
  go_enter Try.func169, Try.ntmps169
  go_wp2_with fail
  refine wp_gen (fun W => Below w.heap.size w W ∧ Blk W w.heap.size 63 (Config.list c ch) ∧ Blk W (w.heap.size + 1) 144 (Pane.list ⟨win, i, start, key, A⟩ h)) ⟨by repeat (first | exact Below.refl _ _ | refine Below.setCell ?_ (by first | omega | (simp; done) | (simp; omega)) _ | refine Below.alloc ?_ (by first | omega | (simp; done) | (simp; omega)) _ | apply Below.drew), by unfold Config.list; with_reducible (repeat (first | (refine blk_new_at _ _ _ _ ?_; first | rfl | (simp; done)) | refine Blk.alloc ?_ _ | apply Blk.drew | refine Blk.setOther ?_ (by first | (simp; done) | (simp; omega)) _)), by unfold Pane.list; with_reducible (repeat (first | (refine blk_new_at _ _ _ _ ?_; first | rfl | (simp; done)) | refine Blk.alloc ?_ _ | apply Blk.drew | refine Blk.setOther ?_ (by first | (simp; done) | (simp; omega)) _))⟩ ?_
  rintro W1 ⟨b1, k1, m1⟩
  have B1 := Lib.hid b1
  have c2 := k1.cell 2
  have d1 := m1.cell 1
  have d3 := m1.cell 3
  simp [Config.list, Pane.list] at c2 d1 d3
  rw [HA.out] at c2
  have g0 : W1.cell? ⟨b, off + i, none⟩ = some (.int .i64 x) := (b1.cell (p := ⟨b, off + i, none⟩) hbl).trans E0.out
  clear k1 m1 b1
  refine mix.wp_region_mix [15] (by kernel_rfl) (by kernel_rfl) ?_
  refine mix.mix_seg 15 rfl ?_; simp only [List.take_succ_cons, List.take_zero, List.drop_succ_cons, List.drop_zero]; (repeat still_step)
  still_call (flip_call (hO.out _))
  cases hp : ((h.keyl : Int) == ones x) with
  | false =>
    repeat still_step
    (try refine wpStill_nil ?_); refine mix.at_cons (fun K hK => ?_); go_simp
    refine hK _ _ ?_; clear hK K
    refine mix.mix_end ?_; (repeat still_step)
    refine wpStill_nil ?_
    go_wp2_with fail
    go_ret
    exact ⟨ret_bool (by rw [hp]; rfl), B1.out.drew⟩
  | true =>
    repeat still_step
    (try refine wpStill_nil ?_); refine mix.at_cons (fun K hK => ?_); go_simp
    refine (allDims _ _ _ key _ HK.out (row_of (HQ.out.below local_int B1.out.drew))).mono ?_
    rintro e W2 ⟨rfl, b2⟩
    have B2 := Lib.hid (B1.out.drew.trans (b2.mono B1.out.size))
    clear b2
    refine hK _ _ ?_; clear hK K
    refine mix.mix_end ?_; (repeat still_step)
    refine wpStill_nil ?_
    go_wp2_with fail
    go_ret
    exact ⟨ret_bool (by rw [hp]; rfl), B2.out⟩
end Go.Proofs.Ytoglclmaacjdaaa.dat
