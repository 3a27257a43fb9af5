/-
  THE CONTRACTS OF FrameOk of the program and of the model: what each answers; nothing that was there is written.
  Condition: a Config and rows of at most 2,000,000 numbers.
-/
import Derived.Test.YtoglclmaacjdaaaStateOk
import Derived.Test.YtoglclmaacjdaaaDataFrames
namespace Go.Proofs.Ytoglclmaacjdaaa.dat
open Go.RowKit Go.Proofs.Ytoglclmaacjdaaa.win

/-- FrameOk. -/
def frameB (c : ConfD) (x : FrameD) : Bool := decide (1 ≤ x.epoch ∧ x.epoch ≤ 1000) && upB x.count 72 && rowsB c x.rows
theorem frameB_conf {c : ConfD} {x : FrameD} (h : confD c = false) : frameB c x = false := by
  unfold frameB rowsB panesB
  rw [h]
  simp

theorem btwF {n lo hi : Int} {r : Bool} (h : decide (lo ≤ n ∧ n ≤ hi) = r) (w : World) : Calls Try.prog 56 #[.int .i64 n, .int .i64 lo, .int .i64 hi] w fun e w' => e = .returned (.bool r) ∧ w = w' := (between_is h w).mono fun _ _ ⟨a, b⟩ => ⟨a, b.symm⟩
set_option maxRecDepth 100000 in
set_option maxHeartbeats 4000000 in
theorem impl_FrameOk (c : ConfD) (ch : ConfigH) (cf : List Nat) (x : FrameD) (h : FrameH) (f : List Nat) (w : World) (hc : Config.Is w c ch cf) (hi : Frame.Is w x h f) (hzc : Config.sz c ≤ 2000000) (hz : Frame.sz x ≤ 2000000) :
    Calls Try.prog 33 #[.agg (Config.list c ch).toArray, .agg (Frame.list x h).toArray] w fun e w' => e = .returned (.bool (frameB c x)) ∧ Below w.heap.size w w' := by
  obtain ⟨r, hr⟩ : ∃ r, frameB c x = r := ⟨_, rfl⟩
  rw [hr]
  unfold frameB at hr
  obtain ⟨f0, rfl, r0, u0, v0⟩ := hi
  have HR := Lib.hid hr
  have HC := Lib.hid hc
  have R0 := Lib.hid r0
  have U0 := Lib.hid (And.intro u0 v0)
  have HZ := Lib.hid (show szL Row.sz x.rows ≤ 2000000 from hz)
  have HZC := Lib.hid hzc
  clear hr hc r0 u0 v0 hz hzc
  simp only [Config.list, Frame.list] at *
  by_cases p1 : 1 ≤ x.epoch
  case neg =>
    have hd : decide (1 ≤ x.epoch) = false := by simp; omega
    go_enter Try.func33, Try.ntmps33
    go_wp2_with fail
    go_ret
    exact ⟨ret_bool (by rw [← HR.out]; simp; omega), by repeat (first | exact Below.refl _ _ | refine Below.setCell ?_ (by first | omega | (simp; done) | (simp; omega)) _ | refine Below.alloc ?_ (by first | omega | (simp; done) | (simp; omega)) _ | apply Below.drew)⟩
  by_cases p2 : x.epoch ≤ 1000
  case neg =>
    have hd : decide (x.epoch ≤ 1000) = false := by simp; omega
    go_enter Try.func33, Try.ntmps33
    go_wp2_with fail
    go_ret
    exact ⟨ret_bool (by rw [← HR.out]; simp; omega), by repeat (first | exact Below.refl _ _ | refine Below.setCell ?_ (by first | omega | (simp; done) | (simp; omega)) _ | refine Below.alloc ?_ (by first | omega | (simp; done) | (simp; omega)) _ | apply Below.drew)⟩
  have P := Lib.hid (show decide (1 ≤ x.epoch ∧ x.epoch ≤ 1000) = true by simp; exact ⟨p1, p2⟩)
  cases p3 : upB x.count 72 with
  | false =>
    have P3 := Lib.hid p3
    go_enter Try.func33, Try.ntmps33
    go_wp2_with (go_at_call 79; refine (isUpTo _ _ _).mono ?_; rintro e w' ⟨rfl, rfl⟩)
    go_ret
    exact ⟨ret_bool (by rw [← HR.out, P3.out]; simp), by repeat (first | exact Below.refl _ _ | refine Below.setCell ?_ (by first | omega | (simp; done) | (simp; omega)) _ | refine Below.alloc ?_ (by first | omega | (simp; done) | (simp; omega)) _ | apply Below.drew)⟩
  | true =>
  have P3 := Lib.hid p3
  go_enter Try.func33, Try.ntmps33
  go_wp2_with (go_at_call 79; refine (isUpTo _ _ _).mono ?_; rintro e w' ⟨rfl, rfl⟩)
  clear p1 p2 p3
  refine calls_gen (fun W => Below w.heap.size w W) (by repeat (first | exact Below.refl _ _ | refine Below.setCell ?_ (by first | omega | (simp; done) | (simp; omega)) _ | refine Below.alloc ?_ (by first | omega | (simp; done) | (simp; omega)) _ | apply Below.drew)) ?_
  intro W1 b1
  refine (rowsOk c ch cf _ _ _ x.rows f W1 (HC.out.below b1) (R0.out.below local_Row b1) U0.out.1 U0.out.2 HZC.out HZ.out).mono ?_
  rintro e W2 ⟨rfl, b2⟩
  have B2 := Lib.hid (b1.trans (b2.mono b1.size))
  clear b1 b2
  go_wp2_with fail
  go_ret
  exact ⟨ret_bool (by rw [← HR.out, P.out, P3.out]; simp), B2.out⟩

set_option maxRecDepth 100000 in
set_option maxHeartbeats 4000000 in
theorem spec_FrameOk (c : ConfD) (ch : ConfigH) (cf : List Nat) (x : FrameD) (h : FrameH) (f : List Nat) (w : World) (hc : Config.Is w c ch cf) (hi : Frame.Is w x h f) (hzc : Config.sz c ≤ 2000000) (hz : Frame.sz x ≤ 2000000) :
    Calls Try.prog 30 #[.agg (Config.list c ch).toArray, .agg (Frame.list x h).toArray] w fun e w' => e = .returned (.bool (frameB c x)) ∧ Below w.heap.size w w' := by
  obtain ⟨r, hr⟩ : ∃ r, frameB c x = r := ⟨_, rfl⟩
  rw [hr]
  obtain ⟨f0, rfl, r0, u0, v0⟩ := hi
  have HR := Lib.hid hr
  have HC := Lib.hid hc
  have HCO := Lib.hid (fun w h => spec_Conf c ch cf w h)
  have R0 := Lib.hid r0
  have HZ := Lib.hid (show szL Row.sz x.rows ≤ 2000000 from hz)
  have HZC := Lib.hid hzc
  clear hr hc r0 u0 v0 hz hzc
  simp only [Config.list, Frame.list] at *
  go_enter Try.func30, Try.ntmps30
  go_wp2_with fail
  refine calls_gen (fun W => Below w.heap.size w W ∧ Blk W w.heap.size 63 (Config.list c ch) ∧ Blk W (w.heap.size + 1) 51 (Frame.list x h)) ⟨by repeat (first | exact Below.refl _ _ | refine Below.setCell ?_ (by first | omega | (simp; done) | (simp; omega)) _ | refine Below.alloc ?_ (by first | omega | (simp; done) | (simp; omega)) _ | apply Below.drew), by unfold Config.list; with_reducible (repeat (first | (refine blk_new_at _ _ _ _ ?_; first | rfl | (simp; done)) | refine Blk.alloc ?_ _ | apply Blk.drew | refine Blk.setOther ?_ (by first | (simp; done) | (simp; omega)) _)), by unfold Frame.list; with_reducible (repeat (first | (refine blk_new_at _ _ _ _ ?_; first | rfl | (simp; done)) | refine Blk.alloc ?_ _ | apply Blk.drew | refine Blk.setOther ?_ (by first | (simp; done) | (simp; omega)) _))⟩ ?_
  rintro W1 ⟨b1, k1, m1⟩
  refine (HCO.out W1 (HC.out.below b1)).mono ?_
  rintro e W2 ⟨rfl, b2⟩
  have B2 := Lib.hid (b1.trans (b2.mono b1.size))
  have K2 := Lib.hid (k1.below b2 k1.lt)
  have M2 := Lib.hid (m1.below b2 m1.lt)
  clear b1 k1 m1 b2
  cases p1 : confD c with
  | false =>
    have P1 := Lib.hid (frameB_conf (x := x) p1)
    clear p1
    go_wp2_with fail
    go_ret
    exact ⟨ret_bool (by rw [← HR.out, P1.out]), B2.out⟩
  | true =>
  clear p1
  have d0 := M2.out.cell 0
  have d1 := M2.out.cell 1
  have d2 := M2.out.cell 2
  have c0 := K2.out.cell 0
  have c1 := K2.out.cell 1
  have c2 := K2.out.cell 2
  have c3 := K2.out.cell 3
  have c4 := K2.out.cell 4
  simp [Config.list, Frame.list] at c0 c1 c2 c3 c4 d0 d1 d2
  have hq := HR.out
  unfold frameB at hq
  have HQ := Lib.hid hq
  clear hq
  cases p2 : decide (1 ≤ x.epoch ∧ x.epoch ≤ 1000) with
  | false =>
    have P2 := Lib.hid p2
    go_wp2_with (go_at_call 56; refine (btwF p2 _).mono ?_; rintro e w' ⟨rfl, rfl⟩)
    go_ret
    exact ⟨ret_bool (by rw [← HQ.out, P2.out]; simp), B2.out⟩
  | true =>
  have P2 := Lib.hid p2
  cases p3 : decide (0 ≤ x.count ∧ x.count ≤ 72) with
  | false =>
    have P3 := Lib.hid (show upB x.count 72 = false from p3)
    go_wp2_with (go_at_call 56; first | ((with_reducible refine (btwF p2 _).mono ?_); rintro e w' ⟨rfl, rfl⟩) | ((with_reducible refine (btwF p3 _).mono ?_); rintro e w' ⟨rfl, rfl⟩))
    go_ret
    exact ⟨ret_bool (by rw [← HQ.out, P3.out]; simp), B2.out⟩
  | true =>
  have P3 := Lib.hid (show upB x.count 72 = true from p3)
  go_wp2_with (go_at_call 56; first | ((with_reducible refine (btwF p2 _).mono ?_); rintro e w' ⟨rfl, rfl⟩) | ((with_reducible refine (btwF p3 _).mono ?_); rintro e w' ⟨rfl, rfl⟩))
  clear p2 p3
  refine (l06Rows c ch cf _ _ _ x.rows f W2 (HC.out.below B2.out) (R0.out.below local_Row B2.out) HZC.out HZ.out).mono ?_
  rintro e W3 ⟨rfl, b3⟩
  have B3 := Lib.hid (B2.out.trans (b3.mono B2.out.size))
  clear b3 c0 c1 c2 c3 c4 d0 d1 d2
  go_wp2_with fail
  go_ret
  exact ⟨ret_bool (by rw [← HQ.out, P2.out, P3.out]; simp), B3.out⟩
end Go.Proofs.Ytoglclmaacjdaaa.dat
