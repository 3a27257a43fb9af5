/-
  THE CONTRACT OF StateOk of the model: what it answers; nothing that was there is written.
  Condition: panes and rows of at most 2,000,000 numbers.
-/
import Derived.Test.YtdipkbgfkbmfnaaStateOk
namespace Go.Proofs.Ytdipkbgfkbmfnaa.dat
open Go.RowKit Go.Proofs.Ytdipkbgfkbmfnaa.win

theorem btw_is {n lo hi : Int} {r : Bool} (h : decide (lo ≤ n ∧ n ≤ hi) = r) (w : World) : Calls Try.prog 22 #[.int .i64 n, .int .i64 lo, .int .i64 hi] w fun e w' => e = .returned (.bool r) ∧ w = w' := (between_is h w).mono fun _ _ ⟨a, b⟩ => ⟨a, b.symm⟩
theorem state_cells {W : World} {p : Nat} {t : TypeId} {v0 v1 v2 v3 v4 v5 : Value} (k : Blk W p t [v0, v1, v2, v3, v4, v5]) :
    W.cell? ⟨p, 0, none⟩ = some v0 ∧ W.cell? ⟨p, 1, none⟩ = some v1 ∧ W.cell? ⟨p, 2, none⟩ = some v2 ∧ W.cell? ⟨p, 3, none⟩ = some v3 ∧ W.cell? ⟨p, 4, none⟩ = some v4 ∧ W.cell? ⟨p, 5, none⟩ = some v5 :=
  ⟨by simpa using k.cell 0, by simpa using k.cell 1, by simpa using k.cell 2, by simpa using k.cell 3, by simpa using k.cell 4, by simpa using k.cell 5⟩

set_option maxRecDepth 100000 in
set_option maxHeartbeats 4000000 in
theorem spec_StateOk (c : ConfD) (ch : ConfigH) (cf : List Nat) (x : StateD) (h : StateH) (f : List Nat) (w : World) (hc : Config.Is w c ch cf) (hi : State.Is w x h f) (hzc : Config.sz c ≤ 2000000) (hz : State.sz x ≤ 2000000) :
    Calls Try.prog 14 #[.agg (Config.list c ch).toArray, .agg (State.list x h).toArray] w fun e w' => e = .returned (.bool (stateB c x)) ∧ Below w.heap.size w w' := by
  obtain ⟨r, hr⟩ : ∃ r, stateB c x = r := ⟨_, rfl⟩
  rw [hr]
  obtain ⟨f0, f1, f2, f3, rfl, r0, u0, v0, r1, u1, v1, r2, u2, v2, r3, u3, v3⟩ := hi
  unfold stateB partsB panesB at hr
  rw [r0.1, r1.1] at hr
  have HR := Lib.hid hr
  have HC := Lib.hid hc
  have HCO := Lib.hid (fun w h => spec_Conf c ch cf w h)
  have HZC := Lib.hid hzc
  have ZP := Lib.hid (show szL Pane.sz x.panes ≤ 2000000 by unfold State.sz at hz; omega)
  have ZR := Lib.hid (show szL Row.sz x.rows ≤ 2000000 by unfold State.sz at hz; omega)
  have R0 := Lib.hid r0
  have R1 := Lib.hid r1
  have R2 := Lib.hid r2
  have R3 := Lib.hid r3
  have L0 := Lib.hid r0.1
  have L1 := Lib.hid r1.1
  have U2 := Lib.hid (And.intro u2 v2)
  clear hr hc hz hzc r0 r1 r2 r3 u0 v0 u1 v1 u2 v2 u3 v3
  simp only [Config.list, State.list] at *
  go_enter Try.func14, Try.ntmps14
  go_wp2_with fail
  refine calls_gen (fun W => Below w.heap.size w W ∧ Blk W w.heap.size 32 (Config.list c ch) ∧ Blk W (w.heap.size + 1) 48 (State.list x h)) ⟨by repeat (first | exact Below.refl _ _ | refine Below.setCell ?_ (by first | omega | (simp; done) | (simp; omega)) _ | refine Below.alloc ?_ (by first | omega | (simp; done) | (simp; omega)) _ | apply Below.drew), by unfold Config.list; with_reducible (repeat (first | (refine blk_new_at _ _ _ _ ?_; first | rfl | (simp; done)) | refine Blk.alloc ?_ _ | apply Blk.drew | refine Blk.setOther ?_ (by first | (simp; done) | (simp; omega)) _)), by unfold State.list; with_reducible (repeat (first | (refine blk_new_at _ _ _ _ ?_; first | rfl | (simp; done)) | refine Blk.alloc ?_ _ | apply Blk.drew | refine Blk.setOther ?_ (by first | (simp; done) | (simp; omega)) _))⟩ ?_
  rintro W1 ⟨b1, k1, m1⟩
  refine (HCO.out W1 (HC.out.below b1)).mono ?_
  rintro e W2 ⟨rfl, b2⟩
  have B2 := Lib.hid (b1.trans (b2.mono b1.size))
  have K2 := Lib.hid (k1.below b2 k1.lt)
  have M2 := Lib.hid (m1.below b2 m1.lt)
  clear b1 k1 m1 b2
  cases p1 : confD c with
  | false =>
    have P1 := Lib.hid p1
    clear p1
    go_wp2_with fail
    go_ret
    exact ⟨ret_bool (by rw [← HR.out, P1.out]; simp), B2.out⟩
  | true =>
  have P1 := Lib.hid p1
  clear p1
  obtain ⟨d0, d1, d2, d3, d4, d5⟩ := state_cells M2.out
  cases p2 : decide (1 ≤ (h.offsl : Int) ∧ (h.offsl : Int) ≤ 3) with
  | false =>
    have P2 := Lib.hid p2
    go_wp2_with (go_at_call 22; refine (btw_is p2 _).mono ?_; rintro e w' ⟨rfl, rfl⟩)
    go_ret
    exact ⟨ret_bool (by rw [← HR.out, P2.out]; simp), B2.out⟩
  | true =>
  have P2 := Lib.hid p2
  cases p3 : ((h.marksl : Int) == (h.offsl : Int)) with
  | false =>
    have P3 := Lib.hid p3
    have p3' : ((h.marksl : Int) != (h.offsl : Int)) = true := by simp [bne, p3]
    go_wp2_with (go_at_call 22; refine (btw_is p2 _).mono ?_; rintro e w' ⟨rfl, rfl⟩)
    go_ret
    exact ⟨ret_bool (by rw [← HR.out, P3.out]; simp), B2.out⟩
  | true =>
  have P3 := Lib.hid p3
  have p3' : ((h.marksl : Int) != (h.offsl : Int)) = false := by simp [bne, p3]
  have hml : h.marksl = h.offsl := by have : (h.marksl : Int) = (h.offsl : Int) := by simpa using p3
                                      omega
  have HML := Lib.hid hml
  clear hml
  cases p4 : decide (0 ≤ x.drops ∧ x.drops ≤ 100000) with
  | false =>
    have P4 := Lib.hid (show upB x.drops 100000 = false from p4)
    go_wp2_with (go_at_call 22; first | ((with_reducible refine (btw_is p2 _).mono ?_); rintro e w' ⟨rfl, rfl⟩) | ((with_reducible refine (btw_is p4 _).mono ?_); rintro e w' ⟨rfl, rfl⟩))
    go_ret
    exact ⟨ret_bool (by rw [← HR.out, P4.out]; simp), B2.out⟩
  | true =>
  have P4 := Lib.hid (show upB x.drops 100000 = true from p4)
  cases p5 : decide (0 ≤ x.bad ∧ x.bad ≤ 100000) with
  | false =>
    have P5 := Lib.hid (show upB x.bad 100000 = false from p5)
    go_wp2_with (go_at_call 22; first | ((with_reducible refine (btw_is p2 _).mono ?_); rintro e w' ⟨rfl, rfl⟩) | ((with_reducible refine (btw_is p4 _).mono ?_); rintro e w' ⟨rfl, rfl⟩) | ((with_reducible refine (btw_is p5 _).mono ?_); rintro e w' ⟨rfl, rfl⟩))
    go_ret
    exact ⟨ret_bool (by rw [← HR.out, P5.out]; simp), B2.out⟩
  | true =>
  have P5 := Lib.hid (show upB x.bad 100000 = true from p5)
  go_wp2_with (go_at_call 22; first | ((with_reducible refine (btw_is p2 _).mono ?_); rintro e w' ⟨rfl, rfl⟩) | ((with_reducible refine (btw_is p4 _).mono ?_); rintro e w' ⟨rfl, rfl⟩) | ((with_reducible refine (btw_is p5 _).mono ?_); rintro e w' ⟨rfl, rfl⟩))
  have hle3 : h.offsl ≤ 3 := by have := (of_decide_eq_true p2).2; omega
  clear p2 p3 p3' p4 p5 d0 d1 d2 d3 d4 d5
  go_loopg [5] h.offsl (fun k n wr => ∃ j : Nat, j + k = h.offsl ∧ n = .int .i64 j ∧ wr = W2 ∧ (x.offs.take j).all offB = true ∧ (x.marks.take j).all tideB = true)
  case atStart => exact ⟨0, by omega, rfl, rfl, by simp, by simp⟩
  case round =>
    obtain ⟨j, hj, rfl, hw, hn0, hn1⟩ := hrel
    subst hw
    have N0 := Lib.hid hn0
    have N1 := Lib.hid hn1
    clear hn0 hn1
    obtain ⟨d0, d1, d2, d3, d4, d5⟩ := state_cells M2.out
    by_cases hlt : j < h.offsl
    case neg =>
      obtain rfl : j = h.offsl := by omega
      have A0 := Lib.hid (all_take_all N0.out (by rw [L0.out]; omega))
      have A1 := Lib.hid (all_take_all N1.out (by rw [L1.out, HML.out]; omega))
      have hk5 : Blk wr w.heap.size 32 [.int .i64 c.d, .slice ch.wsa ch.wsl ch.wsc, .slice ch.msa ch.msl ch.msc, .int .i64 c.dl, .int .i64 c.lt] := K2.out
      obtain ⟨c0, c1, c2, c3, c4⟩ := conf_keep hk5 (Below.refl _ _)
      clear hk5
      go_wp2_with fail
      refine (spec_PanesOk c ch cf _ _ _ x.panes f2 wr (HC.out.below B2.out) (R2.out.below local_Pane B2.out) U2.out.1 U2.out.2 HZC.out ZP.out).mono ?_
      rintro e W3 ⟨rfl, b3⟩
      have B3 := Lib.hid (B2.out.trans (b3.mono B2.out.size))
      have K3 := Lib.hid (K2.out.below b3 K2.out.lt)
      have M3 := Lib.hid (M2.out.below b3 M2.out.lt)
      clear b3 c0 c1 c2 c3 c4 d0 d1 d2 d3 d4 d5
      cases p6 : panesB c x.panes with
      | false =>
        have P6 := Lib.hid p6
        have hq : (confD c && x.panes.all (paneB c) && riseB x.panes) = false := p6
        have HQ := Lib.hid hq
        clear p6 hq
        go_wp2_with fail
        go_ret
        exact ⟨ret_bool (by rw [← HR.out, HQ.out]; simp), B3.out⟩
      | true =>
      have hq : (confD c && x.panes.all (paneB c) && riseB x.panes) = true := p6
      have HQ := Lib.hid hq
      clear p6 hq
      have hk5 : Blk W3 w.heap.size 32 [.int .i64 c.d, .slice ch.wsa ch.wsl ch.wsc, .slice ch.msa ch.msl ch.msc, .int .i64 c.dl, .int .i64 c.lt] := K3.out
      obtain ⟨c0, c1, c2, c3, c4⟩ := conf_keep hk5 (Below.refl _ _)
      obtain ⟨d0, d1, d2, d3, d4, d5⟩ := state_cells M3.out
      clear hk5
      go_wp2_with fail
      refine (l06Rows c ch cf _ _ _ x.rows f3 W3 (HC.out.below B3.out) (R3.out.below local_Row B3.out) HZC.out ZR.out).mono ?_
      rintro e W4 ⟨rfl, b4⟩
      have B4 := Lib.hid (B3.out.trans (b4.mono B3.out.size))
      clear b4 c0 c1 c2 c3 c4 d0 d1 d2 d3 d4 d5
      go_wp2_with fail
      go_ret
      exact ⟨ret_bool (by rw [← HR.out, P2.out, P3.out, A0.out, A1.out, HQ.out, P4.out, P5.out]; simp), B4.out⟩
    obtain ⟨b, off, y, g, cs, ha, hbl, hx, hcl, hRx, hcs⟩ := R0.out.at hlt
    obtain ⟨rfl, rfl⟩ := hRx
    obtain ⟨b', off', z, g', cs', ha', hbl', hx', hcl', hRx', hcs'⟩ := R1.out.at (show j < h.marksl by rw [HML.out]; exact hlt)
    obtain ⟨rfl, rfl⟩ := hRx'
    have hc0 : wr.cell? ⟨b, off + j, none⟩ = some (.int .i64 y) := by have := (B2.out.cell (p := ⟨b, off + j * 1 + 0, none⟩) hbl).trans (hcs 0 (by omega)); simpa using this
    have hc1 : wr.cell? ⟨b', off' + j, none⟩ = some (.int .i64 z) := by have := (B2.out.cell (p := ⟨b', off' + j * 1 + 0, none⟩) hbl').trans (hcs' 0 (by omega)); simpa using this
    rw [ha] at d0
    rw [ha'] at d1
    have hlt2 : (j : Int) < (h.offsl : Int) := by omega
    have hlt3 : (j : Int) < (h.marksl : Int) := by have := HML.out; omega
    have h02 : (0 : Int) ≤ (j : Int) := by omega
    have X0 := Lib.hid hx
    have X1 := Lib.hid hx'
    clear hcs hcs' hx hx' hcl hcl' ha ha' hbl hbl'
    cases q1 : decide (0 ≤ y ∧ y ≤ 24) with
    | false =>
      have Q1 := Lib.hid (all_false_at X0.out (show offB y = false from q1))
      go_wp2_with (go_at_call 22; refine (btw_is q1 _).mono ?_; rintro e w' ⟨rfl, rfl⟩)
      go_ret
      exact ⟨ret_bool (by rw [← HR.out, Q1.out]; simp), B2.out⟩
    | true =>
    have Q1 := Lib.hid (all_take_at N0.out X0.out (show offB y = true from q1))
    cases q2 : (z != -200000) with
    | false =>
      have ht : tideB z = true := by unfold tideB; simp [bne] at q2; simp [q2]
      have Q2 := Lib.hid (all_take_at N1.out X1.out ht)
      clear ht
      go_wp2_with (go_at_call 22; refine (btw_is q1 _).mono ?_; rintro e w' ⟨rfl, rfl⟩)
      go_roundg (h.offsl - (j + 1))
      case measure => omega
      case rel => exact ⟨j + 1, by omega, by go_num, rfl, Q1.out, Q2.out⟩
    | true =>
    have hz2 : (z == -200000) = false := by simpa [bne] using q2
    cases q3 : decide (-101000 ≤ z ∧ z ≤ 100000) with
    | false =>
      have Q3 := Lib.hid (all_false_at X1.out (show tideB z = false by unfold tideB; rw [hz2, q3]; rfl))
      clear hz2
      go_wp2_with (go_at_call 22; first | ((with_reducible refine (btw_is q1 _).mono ?_); rintro e w' ⟨rfl, rfl⟩) | ((with_reducible refine (btw_is q3 _).mono ?_); rintro e w' ⟨rfl, rfl⟩))
      go_ret
      exact ⟨ret_bool (by rw [← HR.out, Q3.out]; simp), B2.out⟩
    | true =>
    have Q3 := Lib.hid (all_take_at N1.out X1.out (show tideB z = true by unfold tideB; rw [q3]; simp))
    clear hz2
    go_wp2_with (go_at_call 22; first | ((with_reducible refine (btw_is q1 _).mono ?_); rintro e w' ⟨rfl, rfl⟩) | ((with_reducible refine (btw_is q3 _).mono ?_); rintro e w' ⟨rfl, rfl⟩))
    go_roundg (h.offsl - (j + 1))
    case measure => omega
    case rel => exact ⟨j + 1, by omega, by go_num, rfl, Q1.out, Q3.out⟩
end Go.Proofs.Ytdipkbgfkbmfnaa.dat
