/-
  THE CONTRACTS OF EventOk of the program and of the model: what each call answers; nothing that was there is written.
-/
import Derived.Test.YtpcekmllmnfmmaaDoorBridge
namespace Go.Proofs.YtpcekmllmnfmmaaDoor.dat
open Go.RowKit Go.Proofs.YtpcekmllmnfmmaaDoor.win

/-- EventOk. -/
def eventB (c : ConfD) (e : EventD) : Bool := confD c && timeB e.t && ((e.ds.length : Int) == c.d) && e.ds.all dimB && valB e.v

set_option maxRecDepth 100000 in
set_option maxHeartbeats 2000000 in
theorem spec_EventOk (c : ConfD) (ch : ConfigH) (cf : List Nat) (e : EventD) (eh : EventH) (ef : List Nat) (w : World) (hc : Config.Is w c ch cf) (he : Event.Is w e eh ef) :
    Calls Tryd.prog 44 #[.agg (Config.list c ch).toArray, .agg (Event.list e eh).toArray] w fun r w' => r = .returned (.bool (eventB c e)) ∧ Below w.heap.size w w' := by
  obtain ⟨r, hr⟩ : ∃ r, eventB c e = r := ⟨_, rfl⟩
  rw [hr]
  unfold eventB at hr
  have HR := Lib.hid hr
  have HC := Lib.hid (fun w h => spec_Conf c ch cf w h)
  have HI := Lib.hid hc
  have HE := Lib.hid he
  obtain ⟨f0, rfl, r0, u0, v0⟩ := he
  have HL := Lib.hid r0.1
  have HG := Lib.hid r0
  clear hr hc r0
  simp only [Config.list, Event.list] at *
  go_enter Tryd.func44, Tryd.ntmps44
  go_wp2_with fail
  refine calls_gen (fun W => Below w.heap.size w W ∧ Blk W w.heap.size 52 (Config.list c ch) ∧ Blk W (w.heap.size + 1) 56 (Event.list e eh)) ⟨by repeat (first | exact Below.refl _ _ | refine Below.setCell ?_ (by first | omega | (simp; done) | (simp; omega)) _ | refine Below.alloc ?_ (by first | omega | (simp; done) | (simp; omega)) _ | apply Below.drew), by unfold Config.list; with_reducible (repeat (first | (refine blk_new_at _ _ _ _ ?_; first | rfl | (simp; done)) | refine Blk.alloc ?_ _ | apply Blk.drew | refine Blk.setOther ?_ (by first | (simp; done) | (simp; omega)) _)), by unfold Event.list; with_reducible (repeat (first | (refine blk_new_at _ _ _ _ ?_; first | rfl | (simp; done)) | refine Blk.alloc ?_ _ | apply Blk.drew | refine Blk.setOther ?_ (by first | (simp; done) | (simp; omega)) _))⟩ ?_
  rintro W1 ⟨b1, k1, m1⟩
  refine (HC.out _ (HI.out.below b1)).mono ?_
  rintro e' W2 ⟨rfl, b2⟩
  have B2 := Lib.hid (b1.trans (b2.mono b1.size))
  have K2 := Lib.hid (k1.below b2 k1.lt)
  have M2 := Lib.hid (m1.below b2 m1.lt)
  clear b1 k1 m1 b2
  have a0 := K2.out.cell 0
  have d0 := M2.out.cell 0
  have d1 := M2.out.cell 1
  have d2 := M2.out.cell 2
  simp [Config.list, Event.list] at a0 d0 d1 d2
  cases p1 : confD c with
  | false =>
    have P1 := Lib.hid p1
    clear p1
    go_wp2_with fail
    go_ret
    exact ⟨ret_bool (by rw [← HR.out, P1.out]; simp), B2.out⟩
  | true =>
  have P1 := Lib.hid p1
  clear p1
  cases p2 : timeB e.t with
  | false =>
    have P2 := Lib.hid p2
    go_wp2_with (go_at_call 60; refine (spec_TimeOk _ _).mono ?_; rintro e w' ⟨rfl, rfl⟩)
    go_ret
    exact ⟨ret_bool (by rw [← HR.out, P2.out]; simp), B2.out⟩
  | true =>
  have P2 := Lib.hid p2
  cases p3 : ((eh.dsl : Int) == c.d) with
  | false =>
    have P3 := Lib.hid p3
    have p3' : ((eh.dsl : Int) != c.d) = true := by simp [bne, p3]
    go_wp2_with (go_at_call 60; refine (spec_TimeOk _ _).mono ?_; rintro e w' ⟨rfl, rfl⟩)
    go_ret
    exact ⟨ret_bool (by rw [← HR.out, HL.out, P3.out]; simp), B2.out⟩
  | true =>
  have P3 := Lib.hid p3
  have p3' : ((eh.dsl : Int) != c.d) = false := by simp [bne, p3]
  have hle : eh.dsl ≤ 2000000 := by
    have h1 : (eh.dsl : Int) = c.d := by simpa using p3
    have h2 : upB c.d 3 = true := by
      have := P1.out
      unfold confD at this
      simp only [Bool.and_eq_true] at this
      exact this.1.1.1.1
    unfold upB at h2
    simp at h2
    omega
  cases p5 : valB e.v with
  | false =>
    have P5 := Lib.hid p5
    go_wp2_with (first | (go_at_call 60; refine (spec_TimeOk _ _).mono ?_; rintro e w' ⟨rfl, rfl⟩) | (go_at_call 49; refine (l01Value _ _).mono ?_; rintro e w' ⟨rfl, rfl⟩))
    go_ret
    exact ⟨ret_bool (by rw [← HR.out, P5.out]; simp), B2.out⟩
  | true =>
  have P5 := Lib.hid p5
  go_wp2_with (first | (go_at_call 60; refine (spec_TimeOk _ _).mono ?_; rintro e w' ⟨rfl, rfl⟩) | (go_at_call 49; refine (l01Value _ _).mono ?_; rintro e w' ⟨rfl, rfl⟩))
  clear p2 p3 p3' p5 a0 d0 d1 d2
  have HE' := Lib.hid (show e.ds.all dimB = r by rw [← HR.out, P1.out, P2.out, HL.out, P3.out, P5.out]; simp)
  go_loopg [5] eh.dsl (fun k i wr => ∃ j : Nat, j + k = eh.dsl ∧ i = .int .i64 j ∧ Below W2.heap.size W2 wr ∧ (e.ds.take j).all dimB = true)
  case atStart => exact ⟨0, by omega, rfl, Below.refl _ _, by simp⟩
  case round =>
    obtain ⟨j, hj, rfl, hb, hno⟩ := hrel
    have HB := Lib.hid hb
    have HN := Lib.hid hno
    have d1 := (M2.out.below hb M2.out.lt).cell 1
    simp [Event.list] at d1
    clear hno
    by_cases hlt : j < eh.dsl
    · obtain ⟨b, off, x, f, cs, hab, hbl, hx, hcl, hR, hcc⟩ := HG.out.at hlt
      obtain ⟨rfl, rfl⟩ := hR
      rw [hab] at d1
      have hcell : wr.cell? ⟨b, off + j, none⟩ = some (.int .i64 x) := by
        have := ((B2.out.trans (hb.mono B2.out.size)).cell (p := ⟨b, off + j * 1 + 0, none⟩) hbl).trans (hcc 0 (by omega))
        simpa using this
      have hlt2 : (j : Int) < (eh.dsl : Int) := by omega
      have h02 : (0 : Int) ≤ (j : Int) := by omega
      have hg : e.ds.getD j 0 = x := by rw [List.getD_eq_getElem?_getD, hx]; rfl
      have HX := Lib.hid hg
      clear hb hx hcc hg hab
      cases hp : dimB x with
      | false =>
        have HP := Lib.hid (all_no (p := dimB) (d := 0) (show j < e.ds.length by rw [HL.out]; omega) (by rw [HX.out]; exact hp))
        have hp' : decide (0 ≤ x ∧ x ≤ 99) = false := hp
        go_wp2_with (go_at_call 48; refine (between_is hp' _).mono ?_; rintro e w' ⟨rfl, rfl⟩)
        go_ret
        exact ⟨ret_bool (by rw [← HE'.out, HP.out]), B2.out.trans (HB.out.mono B2.out.size)⟩
      | true =>
        have HP := Lib.hid (all_take_succ (p := dimB) (d := 0) (show j < e.ds.length by rw [HL.out]; omega) HN.out (by rw [HX.out]; exact hp))
        have hp' : decide (0 ≤ x ∧ x ≤ 99) = true := hp
        go_wp2_with (go_at_call 48; refine (between_is hp' _).mono ?_; rintro e w' ⟨rfl, rfl⟩)
        go_roundg (eh.dsl - (j + 1))
        case measure => omega
        case rel => exact ⟨j + 1, by omega, by go_num, HB.out, HP.out⟩
    · clear hb
      have hj' : j = eh.dsl := by omega
      go_wp2_with fail
      go_ret
      have := HN.out
      rw [List.take_of_length_le (by rw [HL.out]; omega)] at this
      exact ⟨ret_bool (by rw [← HE'.out, this]), B2.out.trans (HB.out.mono B2.out.size)⟩
end Go.Proofs.YtpcekmllmnfmmaaDoor.dat
