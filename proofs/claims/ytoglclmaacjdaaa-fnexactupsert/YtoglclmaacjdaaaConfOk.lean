/-
  THE CONTRACT OF ConfigOk of the program: what the call answers; nothing that was there is written.
  Condition: the Config's slices hold the given windows and masks.
-/
import Derived.Test.YtoglclmaacjdaaaImplConf
namespace Go.Proofs.Ytoglclmaacjdaaa.win
open Go.RowKit

set_option maxHeartbeats 1000000 in
theorem impl_ConfigOk (c : Cf) (ws : List (Int × Int)) (ms : List Int) (w : World) (hcw : c.wl ≤ c.wc) (hcm : c.ml ≤ c.mc) (hin : c.In w ws ms) :
    Calls Try.prog 141 #[.agg c.cells] w fun e w' => e = .returned (.bool (confB c ws ms)) ∧ Below w.heap.size w w' := by
  have HW := Lib.hid (fun w h => winsOk c ws ms w hcw h)
  have HM := Lib.hid (fun w h0 h3 h => masksOk c ws ms w h0 h3 hcm h)
  have HI := Lib.hid hin
  obtain ⟨r, hr⟩ : ∃ r, confB c ws ms = r := ⟨_, rfl⟩
  rw [hr]
  have HR := Lib.hid hr
  clear hr hin
  obtain ⟨d, wa, wl, wc, ma, ml, mc, dl, lt⟩ := c
  simp only [confB, Cf.cells] at *
  cases p1 : upB d 3 with
  | false =>
    have P1 := Lib.hid p1
    go_enter Try.func141, Try.ntmps141
    go_wp2_with (go_at_call 79; refine (isUpTo _ _ _).mono ?_; rintro e w' ⟨rfl, rfl⟩)
    go_ret
    exact ⟨ret_bool (by rw [← HR.out, P1.out]; simp), by repeat (first | exact Below.refl _ _ | refine Below.setCell ?_ (by first | omega | (simp; done) | (simp; omega)) _ | refine Below.alloc ?_ (by first | omega | (simp; done) | (simp; omega)) _ | apply Below.drew)⟩
  | true =>
    have P1 := Lib.hid p1
    have hd : 0 ≤ d ∧ d ≤ 3 := by simpa [upB] using p1
    obtain ⟨hd0, hd3⟩ := hd
    go_enter Try.func141, Try.ntmps141
    go_wp2_with (go_at_call 79; refine (isUpTo _ _ _).mono ?_; rintro e w' ⟨rfl, rfl⟩)
    refine calls_gen (fun W => Below w.heap.size w W ∧ Blk W w.heap.size 63 [.int .i64 d, .slice wa wl wc, .slice ma ml mc, .int .i64 dl, .int .i64 lt]) ⟨by repeat (first | exact Below.refl _ _ | refine Below.setCell ?_ (by first | omega | (simp; done) | (simp; omega)) _ | refine Below.alloc ?_ (by first | omega | (simp; done) | (simp; omega)) _ | apply Below.drew), by with_reducible (repeat (first | (refine blk_new_at _ _ _ _ ?_; first | rfl | (simp; done)) | refine Blk.alloc ?_ _ | apply Blk.drew | refine Blk.setOther ?_ (by first | (simp; done) | (simp; omega)) _))⟩ ?_
    rintro W1 ⟨b1, k1⟩
    refine (HW.out _ (HI.out.below b1)).mono ?_
    rintro e W2 ⟨rfl, b2⟩
    have B2 := Lib.hid (b1.trans (b2.mono b1.size))
    have K2 := Lib.hid (k1.below b2 k1.lt)
    have c0 := K2.out.cell 0
    have c1 := K2.out.cell 1
    have c2 := K2.out.cell 2
    have c3 := K2.out.cell 3
    have c4 := K2.out.cell 4
    simp at c0 c1 c2 c3 c4
    clear b1 b2 k1 p1
    cases p2 : winsB ws with
    | false =>
      have P2 := Lib.hid p2
      clear p2
      go_wp2_with fail
      go_ret
      exact ⟨ret_bool (by rw [← HR.out, P2.out]; simp), B2.out⟩
    | true =>
      have P2 := Lib.hid p2
      clear p2
      go_wp2_with fail
      refine (HM.out W2 hd0 hd3 (HI.out.below B2.out)).mono ?_
      rintro e W3 ⟨rfl, b3⟩
      have B3 := Lib.hid (B2.out.trans (b3.mono B2.out.size))
      have K3 := Lib.hid (K2.out.below b3 K2.out.lt)
      have d3 := K3.out.cell 3
      have d4 := K3.out.cell 4
      simp at d3 d4
      clear b3 c0 c1 c2 c3 c4
      cases p3 : masksB d ms with
      | false =>
        have P3 := Lib.hid p3
        clear p3
        go_wp2_with fail
        go_ret
        exact ⟨ret_bool (by rw [← HR.out, P3.out]; simp), B3.out⟩
      | true =>
        have P3 := Lib.hid p3
        clear p3
        cases p4 : upB dl 1000 with
        | false =>
          have P4 := Lib.hid p4
          go_wp2_with (go_at_call 79; refine (isUpTo _ _ _).mono ?_; rintro e w' ⟨rfl, rfl⟩)
          go_ret
          exact ⟨ret_bool (by rw [← HR.out, P4.out]; simp), B3.out⟩
        | true =>
          have P4 := Lib.hid p4
          go_wp2_with (go_at_call 79; refine (isUpTo _ _ _).mono ?_; rintro e w' ⟨rfl, rfl⟩)
          go_ret
          exact ⟨ret_bool (by rw [← HR.out, P1.out, P2.out, P3.out, P4.out]; simp), B3.out⟩
end Go.Proofs.Ytoglclmaacjdaaa.win
