/-
  THE CONTRACT OF ConfigOk of the model: what the call answers; nothing that was there is written.
  Condition: the Config's slices hold the given windows and masks.
-/
import Derived.Test.YtoglclmaacjdaaaImplConf
namespace Go.Proofs.Ytoglclmaacjdaaa.win
open Go.RowKit

theorem conf_no (c : Cf) (ws : List (Int × Int)) (ms : List Int) (h : ¬ (0 ≤ c.d ∧ c.d ≤ 3 ∧ ws.length ≤ 3 ∧ ms.length ≤ 4 ∧ 0 ≤ c.dl ∧ c.dl ≤ 1000 ∧ 0 ≤ c.lt ∧ c.lt ≤ 1000)) : confB c ws ms = false := by
  cases hb : confB c ws ms with
  | false => rfl
  | true =>
    exfalso; apply h
    simp only [confB, winsB, masksB, upB, Bool.and_eq_true, decide_eq_true_eq] at hb
    omega
theorem conf_rest (c : Cf) (ws : List (Int × Int)) (ms : List Int) (h : 0 ≤ c.d ∧ c.d ≤ 3 ∧ ws.length ≤ 3 ∧ ms.length ≤ 4 ∧ 0 ≤ c.dl ∧ c.dl ≤ 1000 ∧ 0 ≤ c.lt ∧ c.lt ≤ 1000) :
    confB c ws ms = ((ws.all fun x => winB x.1 x.2) && decide ws.Nodup && (ms.all (inB c.d) && decide ms.Nodup)) := by
  obtain ⟨h1, h2, h3, h4, h5, h6, h7, h8⟩ := h
  simp [confB, winsB, masksB, upB, h1, h2, h3, h4, h5, h6, h7, h8]

/-- l01Between with its answer a letter. -/
theorem between_is {n lo hi : Int} {r : Bool} (h : decide (lo ≤ n ∧ n ≤ hi) = r) (w : World) : Calls Try.prog 56 #[.int .i64 n, .int .i64 lo, .int .i64 hi] w fun e w' => e = .returned (.bool r) ∧ w' = w :=
  (between n lo hi w).mono fun _ _ ⟨a, b⟩ => ⟨by rw [a, h], b.symm⟩

/-- What stands at a round's head: the box, and all below as before. -/
def AtBox (w : World) (t : TypeId) (vs : List Value) (wr : World) : Prop := Below w.heap.size w wr ∧ Blk wr w.heap.size t vs

set_option maxRecDepth 100000 in
set_option maxHeartbeats 4000000 in
theorem spec_ConfigOk (c : Cf) (ws : List (Int × Int)) (ms : List Int) (w : World) (hm1 : c.wl ≤ 9223372036854775807) (hm2 : c.ml ≤ 9223372036854775807) (hin : c.In w ws ms) :
    Calls Try.prog 75 #[.agg c.cells] w fun e w' => e = .returned (.bool (confB c ws ms)) ∧ Below w.heap.size w w' := by
  have HI := Lib.hid hin
  have HNO := Lib.hid (conf_no c ws ms)
  have HREST := Lib.hid (conf_rest c ws ms)
  have hl1 := hin.1.1
  have hl2 := hin.2.1
  obtain ⟨r, hr⟩ : ∃ r, confB c ws ms = r := ⟨_, rfl⟩
  rw [hr]
  have HR := Lib.hid hr
  clear hr hin
  obtain ⟨d, wa, wl, wc, ma, ml, mc, dl, lt⟩ := c
  simp only [Cf.cells] at *
  have HL1 := Lib.hid hl1
  have HL2 := Lib.hid hl2
  clear hl1 hl2
  by_cases p1 : 0 ≤ d ∧ d ≤ 3
  case neg =>
    have q1 : decide (0 ≤ d ∧ d ≤ 3) = false := by simp only [decide_eq_false_iff_not]; exact p1
    go_enter Try.func75, Try.ntmps75
    go_wp2_with (go_at_call 56; refine (between _ _ _ _).mono ?_; rintro e w' ⟨rfl, rfl⟩)
    go_ret
    exact ⟨ret_bool (by rw [← HR.out, HNO.out (fun h => p1 ⟨h.1, h.2.1⟩)]), by repeat (first | exact Below.refl _ _ | refine Below.setCell ?_ (by first | omega | (simp; done) | (simp; omega)) _ | refine Below.alloc ?_ (by first | omega | (simp; done) | (simp; omega)) _ | apply Below.drew)⟩
  have q1 : decide (0 ≤ d ∧ d ≤ 3) = true := by simp only [decide_eq_true_eq]; exact p1
  by_cases p2 : wl ≤ 3
  case neg =>
    have q2 : (3 : Int) < (wl : Int) := by omega
    go_enter Try.func75, Try.ntmps75
    go_wp2_with (go_at_call 56; refine (between _ _ _ _).mono ?_; rintro e w' ⟨rfl, rfl⟩)
    go_ret
    exact ⟨ret_bool (by rw [← HR.out, HNO.out (fun h => p2 (by have := HL1.out; omega))]), by repeat (first | exact Below.refl _ _ | refine Below.setCell ?_ (by first | omega | (simp; done) | (simp; omega)) _ | refine Below.alloc ?_ (by first | omega | (simp; done) | (simp; omega)) _ | apply Below.drew)⟩
  have q2 : ¬ (3 : Int) < (wl : Int) := by omega
  by_cases p3 : ml ≤ 4
  case neg =>
    have q3 : (4 : Int) < (ml : Int) := by omega
    go_enter Try.func75, Try.ntmps75
    go_wp2_with (go_at_call 56; refine (between _ _ _ _).mono ?_; rintro e w' ⟨rfl, rfl⟩)
    go_ret
    exact ⟨ret_bool (by rw [← HR.out, HNO.out (fun h => p3 (by have := HL2.out; omega))]), by repeat (first | exact Below.refl _ _ | refine Below.setCell ?_ (by first | omega | (simp; done) | (simp; omega)) _ | refine Below.alloc ?_ (by first | omega | (simp; done) | (simp; omega)) _ | apply Below.drew)⟩
  have q3 : ¬ (4 : Int) < (ml : Int) := by omega
  by_cases p4 : 0 ≤ dl ∧ dl ≤ 1000
  case neg =>
    have q4 : decide (0 ≤ dl ∧ dl ≤ 1000) = false := by simp only [decide_eq_false_iff_not]; exact p4
    go_enter Try.func75, Try.ntmps75
    go_wp2_with (go_at_call 56; refine (between _ _ _ _).mono ?_; rintro e w' ⟨rfl, rfl⟩)
    go_ret
    exact ⟨ret_bool (by rw [← HR.out, HNO.out (fun h => p4 ⟨h.2.2.2.2.1, h.2.2.2.2.2.1⟩)]), by repeat (first | exact Below.refl _ _ | refine Below.setCell ?_ (by first | omega | (simp; done) | (simp; omega)) _ | refine Below.alloc ?_ (by first | omega | (simp; done) | (simp; omega)) _ | apply Below.drew)⟩
  have q4 : decide (0 ≤ dl ∧ dl ≤ 1000) = true := by simp only [decide_eq_true_eq]; exact p4
  by_cases p5 : 0 ≤ lt ∧ lt ≤ 1000
  case neg =>
    have q5 : decide (0 ≤ lt ∧ lt ≤ 1000) = false := by simp only [decide_eq_false_iff_not]; exact p5
    go_enter Try.func75, Try.ntmps75
    go_wp2_with (go_at_call 56; refine (between _ _ _ _).mono ?_; rintro e w' ⟨rfl, rfl⟩)
    go_ret
    exact ⟨ret_bool (by rw [← HR.out, HNO.out (fun h => p5 h.2.2.2.2.2.2)]), by repeat (first | exact Below.refl _ _ | refine Below.setCell ?_ (by first | omega | (simp; done) | (simp; omega)) _ | refine Below.alloc ?_ (by first | omega | (simp; done) | (simp; omega)) _ | apply Below.drew)⟩
  have q5 : decide (0 ≤ lt ∧ lt ≤ 1000) = true := by simp only [decide_eq_true_eq]; exact p5
  have hrest := HREST.out ⟨p1.1, p1.2, by rw [HL1.out]; exact p2, by rw [HL2.out]; exact p3, p4.1, p4.2, p5.1, p5.2⟩
  rw [HR.out] at hrest
  have HE := Lib.hid hrest
  clear hrest HNO HREST HR p4 p5 q2 q3
  go_enter Try.func75, Try.ntmps75
  go_wp2_with (go_at_call 56; refine (between _ _ _ _).mono ?_; rintro e w' ⟨rfl, rfl⟩)
  go_loopg [3] wl (fun k i wr => ∃ j : Nat, j + k = wl ∧ i = .int .i64 j ∧ AtBox w 63 [.int .i64 d, .slice wa wl wc, .slice ma ml mc, .int .i64 dl, .int .i64 lt] wr ∧ (ws.take j).all (fun x => winB x.1 x.2) = true ∧ (ws.take j).Nodup)
  case atStart => exact ⟨0, by omega, rfl, ⟨by repeat (first | exact Below.refl _ _ | refine Below.setCell ?_ (by first | omega | (simp; done) | (simp; omega)) _ | refine Below.alloc ?_ (by first | omega | (simp; done) | (simp; omega)) _ | apply Below.drew), by with_reducible (repeat (first | (refine blk_new_at _ _ _ _ ?_; first | rfl | (simp; done)) | refine Blk.alloc ?_ _ | apply Blk.drew | refine Blk.setOther ?_ (by first | (simp; done) | (simp; omega)) _))⟩, by simp, by simp⟩
  case round =>
    obtain ⟨j, hj, rfl, hbox, hall, hnd⟩ := hrel
    have HB := Lib.hid hbox
    have HN := Lib.hid hnd
    have HA := Lib.hid hall
    have c1 := hbox.2.cell 1
    have c2 := hbox.2.cell 2
    simp at c1 c2
    clear hnd hall
    by_cases hlt : j < wl
    · obtain ⟨b, off, rfl, hbl, hc⟩ := HI.out.1.2 (by simp only; omega)
      simp only at hc
      have h02 : (0 : Int) ≤ (j : Int) := by omega
      have hlt2 : (j : Int) < (wl : Int) := by omega
      obtain ⟨x, hx⟩ : ∃ x, ws.getD j (0, 0) = x := ⟨_, rfl⟩
      obtain ⟨z, s⟩ := x
      have hc0 := hc j hlt
      rw [hx] at hc0
      have hcell : wr.cell? ⟨b, off + j * 2, none⟩ = some (.int .i64 z) := (hbox.1.cell (p := ⟨b, off + j * 2, none⟩) hbl).trans hc0.1
      have hcell1 : wr.cell? ⟨b, off + j * 2 + 1, none⟩ = some (.int .i64 s) := (hbox.1.cell (p := ⟨b, off + j * 2 + 1, none⟩) hbl).trans hc0.2
      have HX := Lib.hid hx
      clear hx hc0 hbox
      cases hp : winB z s with
      | false =>
        have HP := Lib.hid (all_no (p := fun x => winB x.1 x.2) (d := (0, 0)) (show j < ws.length by rw [HL1.out]; omega) (by rw [HX.out]; exact hp))
        go_wp2_with (go_at_call 112; refine (spec_WinOk _ _ _).mono ?_; rintro e w' ⟨rfl, rfl⟩)
        go_ret
        exact ⟨ret_bool (by rw [HE.out, HP.out]; simp), HB.out.1.alloc HB.out.1.size _⟩
      | true =>
        have HP := Lib.hid (all_take_succ (p := fun x => winB x.1 x.2) (d := (0, 0)) (show j < ws.length by rw [HL1.out]; omega) HA.out (by rw [HX.out]; exact hp))
        go_wp2_with (go_at_call 112; refine (spec_WinOk _ _ _).mono ?_; rintro e w' ⟨rfl, rfl⟩)
        have HB1 : Hid (AtBox w 63 [.int .i64 d, .slice (some ⟨b, off, none⟩) wl wc, .slice ma ml mc, .int .i64 dl, .int .i64 lt] (wr.alloc (.cells #[.int .i64 z, .int .i64 s] 158))) := Lib.hid ⟨HB.out.1.alloc HB.out.1.size _, HB.out.2.alloc _⟩
        clear c1 c2 hcell hcell1 HA HB hp
        refine wp_gen (fun W => AtBox w 63 [.int .i64 d, .slice (some ⟨b, off, none⟩) wl wc, .slice ma ml mc, .int .i64 dl, .int .i64 lt] W) HB1.out ?_
        clear HB1
        intro W1 hb1
        go_loopg [4] j (fun k i wr => ∃ m : Nat, m + k = j ∧ i = .int .i64 m ∧ AtBox w 63 [.int .i64 d, .slice (some ⟨b, off, none⟩) wl wc, .slice ma ml mc, .int .i64 dl, .int .i64 lt] wr ∧ (z, s) ∉ ws.take m)
        case atStart => exact ⟨0, by omega, rfl, hb1, by simp⟩
        case round =>
          obtain ⟨m, hmk, rfl, hbox, hno⟩ := hrel
          have HB := Lib.hid hbox
          have HNO := Lib.hid hno
          have c1 := hbox.2.cell 1
          simp at c1
          clear hno hb1
          by_cases hm : m < j
          · obtain ⟨y, hy⟩ : ∃ y, ws.getD m (0, 0) = y := ⟨_, rfl⟩
            obtain ⟨z', s'⟩ := y
            have hc1 := hc m (by omega)
            have hc0 := hc j hlt
            rw [hy] at hc1
            rw [HX.out] at hc0
            have e0 : wr.cell? ⟨b, off + j * 2, none⟩ = some (.int .i64 z) := (hbox.1.cell (p := ⟨b, off + j * 2, none⟩) hbl).trans hc0.1
            have e1 : wr.cell? ⟨b, off + j * 2 + 1, none⟩ = some (.int .i64 s) := (hbox.1.cell (p := ⟨b, off + j * 2 + 1, none⟩) hbl).trans hc0.2
            have e2 : wr.cell? ⟨b, off + m * 2, none⟩ = some (.int .i64 z') := (hbox.1.cell (p := ⟨b, off + m * 2, none⟩) hbl).trans hc1.1
            have e3 : wr.cell? ⟨b, off + m * 2 + 1, none⟩ = some (.int .i64 s') := (hbox.1.cell (p := ⟨b, off + m * 2 + 1, none⟩) hbl).trans hc1.2
            have hm2 : (m : Int) < (wl : Int) := by omega
            have hm0 : (0 : Int) ≤ (m : Int) := by omega
            have HC := Lib.hid hc
            have HY := Lib.hid hy
            clear hc0 hc1 hbox hc hy
            by_cases hv : z = z' ∧ s = s'
            · obtain ⟨rfl, rfl⟩ := hv
              have hn : ¬ ws.Nodup := by
                refine nodup_of_take (j := j + 1) ?_
                rw [nodup_take_succ (d := (0, 0)) (by rw [HL1.out]; omega), HX.out]
                intro h
                refine h.2 ?_
                have : (z, s) ∈ ws.take (m + 1) := by
                  rw [mem_take_succ (d := (0, 0)) (by rw [HL1.out]; omega)]
                  exact .inr HY.out
                exact (List.take_subset_take_left ws (by omega)) this
              have HM := Lib.hid hn
              clear hn
              go_wp2_with fail
              go_quiet (fail)
              go_wp2_with fail
              go_ret
              exact ⟨ret_bool (by rw [HE.out]; simp [HM.out]), below_drewN HB.out.1 _⟩
            · have HV := Lib.hid hv
              clear hv
              have hrel : (z, s) ∉ ws.take (m + 1) := by
                rw [mem_take_succ (d := (0, 0)) (by rw [HL1.out]; omega)]
                rintro (h | h)
                · exact HNO.out h
                · rw [HY.out] at h
                  cases h
                  exact HV.out ⟨rfl, rfl⟩
              have HREL := Lib.hid hrel
              clear hrel
              by_cases e : z = z'
              · subst e
                have hv' : (s == s') = false := by simp; exact fun e' => HV.out ⟨rfl, e'⟩
                go_wp2_with fail
                go_quiet (fail)
                go_wp2_with fail
                go_roundg (j - (m + 1))
                case measure => omega
                case rel => exact ⟨m + 1, by omega, by go_num, ⟨below_drewN HB.out.1 _, HB.out.2⟩, HREL.out⟩
              · have hv' : (z == z') = false := by simp [e]
                clear e
                go_wp2_with fail
                go_quiet (fail)
                go_wp2_with fail
                go_roundg (j - (m + 1))
                case measure => omega
                case rel => exact ⟨m + 1, by omega, by go_num, ⟨below_drewN HB.out.1 _, HB.out.2⟩, HREL.out⟩
          · obtain rfl : m = j := by omega
            have hnd' : (ws.take (m + 1)).Nodup := by
              rw [nodup_take_succ (d := (0, 0)) (by rw [HL1.out]; omega), HX.out]
              exact ⟨HN.out, HNO.out⟩
            have HND := Lib.hid hnd'
            clear hnd' hbox
            go_wp2_with fail
            go_roundg (wl - (m + 1))
            case measure => omega
            case rel => exact ⟨m + 1, by omega, by go_num, HB.out, HP.out, HND.out⟩
    · obtain rfl : j = wl := by omega
      clear hbox
      have hall := HA.out
      have hnd := HN.out
      rw [List.take_of_length_le (by rw [HL1.out]; omega)] at hall hnd
      have hE := HE.out
      rw [hall, decide_eq_true hnd] at hE
      simp only [Bool.true_and] at hE
      have HE2 := Lib.hid hE
      clear hE hall hnd HA HN HE
      go_wp2_with fail
      go_loopg [5] ml (fun k i wr => ∃ n : Nat, n + k = ml ∧ i = .int .i64 n ∧ AtBox w 63 [.int .i64 d, .slice wa j wc, .slice ma ml mc, .int .i64 dl, .int .i64 lt] wr ∧ (ms.take n).all (inB d) = true ∧ (ms.take n).Nodup)
      case atStart => exact ⟨0, by omega, rfl, HB.out, by simp, by simp⟩
      case round =>
        clear HB c1 c2 hj hlt
        obtain ⟨n, hn, rfl, hbox, hall, hnd⟩ := hrel
        have HB := Lib.hid hbox
        have HN := Lib.hid hnd
        have HA := Lib.hid hall
        have c0 := hbox.2.cell 0
        have c2 := hbox.2.cell 2
        simp at c0 c2
        clear hnd hall
        by_cases hlt : n < ml
        · obtain ⟨b, off, rfl, hbl, hc⟩ := HI.out.2.2 (by simp only; omega)
          simp only at hc
          have h02 : (0 : Int) ≤ (n : Int) := by omega
          have hlt2 : (n : Int) < (ml : Int) := by omega
          obtain ⟨x, hx⟩ : ∃ x, ms.getD n 0 = x := ⟨_, rfl⟩
          have hc0 := hc n hlt
          rw [hx] at hc0
          have hcell : wr.cell? ⟨b, off + n, none⟩ = some (.int .i64 x) := (hbox.1.cell (p := ⟨b, off + n, none⟩) hbl).trans hc0
          have HX := Lib.hid hx
          clear hx hc0 hbox
          have hin : decide (0 ≤ x ∧ x ≤ pw d - 1) = inB d x := by
            unfold inB
            congr 1
            simp only [eq_iff_iff]
            omega
          have HC := Lib.hid hc
          clear hc
          have hd : d = 0 ∨ d = 1 ∨ d = 2 ∨ d = 3 := by omega
          cases hp : inB d x with
          | false =>
            rw [hp] at hin
            have HP := Lib.hid (all_no (p := inB d) (d := 0) (show n < ms.length by rw [HL2.out]; omega) (by rw [HX.out]; exact hp))
            clear hp
            clear p1 q1
            rcases hd with rfl | rfl | rfl | rfl
            all_goals (
              simp only [pw, ↓reduceIte] at hin
              go_wp2_with fail
              go_quiet (first | (go_at_call 56; exact Calls.quiet_of_same (between_is (r := false) hin _)))
              go_wp2_with fail
              go_ret
              exact ⟨ret_bool (by rw [HE2.out, HP.out]; simp), below_drewN HB.out.1 _⟩)
          | true =>
            rw [hp] at hin
            have HP := Lib.hid (all_take_succ (p := inB d) (d := 0) (show n < ms.length by rw [HL2.out]; omega) HA.out (by rw [HX.out]; exact hp))
            clear hp HA hcell
            refine wp_gen (fun W => AtBox w 63 [.int .i64 d, .slice wa j wc, .slice (some ⟨b, off, none⟩) ml mc, .int .i64 dl, .int .i64 lt] W) HB.out ?_
            clear HB c0 c2
            intro wr hb1
            have c0 := hb1.2.cell 0
            have c2 := hb1.2.cell 2
            simp at c0 c2
            have hcell : wr.cell? ⟨b, off + n, none⟩ = some (.int .i64 x) := (hb1.1.cell (p := ⟨b, off + n, none⟩) hbl).trans (HX.out ▸ HC.out n hlt)
            have HB := Lib.hid hb1
            clear hb1 p1 q1
            rcases hd with rfl | rfl | rfl | rfl
            all_goals (
              simp only [pw, ↓reduceIte] at hin
              go_wp2_with fail
              go_quiet (first | (go_at_call 56; exact Calls.quiet_of_same (between_is (r := true) hin _)))
              go_wp2_with fail
              clear hcell c0 c2 hin
              have HB2 := Lib.hid (show AtBox w 63 _ _ from ⟨below_drewN HB.out.1 nq, HB.out.2⟩)
              generalize wr.drewN nq = wd at *
              clear HB
              go_loopg [6] n (fun k i wr => ∃ m : Nat, m + k = n ∧ i = .int .i64 m ∧ AtBox w 63 [.int .i64 _, .slice wa j wc, .slice (some ⟨b, off, none⟩) ml mc, .int .i64 dl, .int .i64 lt] wr ∧ x ∉ ms.take m)
              case atStart => exact ⟨0, by omega, rfl, HB2.out, by simp⟩
              case round =>
                obtain ⟨m, hmk, rfl, hbox, hno⟩ := hrel
                have HB := Lib.hid hbox
                have HNO := Lib.hid hno
                have c2 := hbox.2.cell 2
                simp at c2
                clear hno HB2
                by_cases hm : m < n
                · obtain ⟨y, hy⟩ : ∃ y, ms.getD m 0 = y := ⟨_, rfl⟩
                  have hc1 := HC.out m (by omega)
                  have hc0 := HC.out n hlt
                  rw [hy] at hc1
                  rw [HX.out] at hc0
                  have e0 : wr.cell? ⟨b, off + n, none⟩ = some (.int .i64 x) := (hbox.1.cell (p := ⟨b, off + n, none⟩) hbl).trans hc0
                  have e2 : wr.cell? ⟨b, off + m, none⟩ = some (.int .i64 y) := (hbox.1.cell (p := ⟨b, off + m, none⟩) hbl).trans hc1
                  have hm2 : (m : Int) < (ml : Int) := by omega
                  have hm0 : (0 : Int) ≤ (m : Int) := by omega
                  have HY := Lib.hid hy
                  clear hc0 hc1 hbox hy
                  by_cases hv : x = y
                  · have hv' : (x == y) = true := by simp [hv]
                    have hn : ¬ ms.Nodup := by
                      refine nodup_of_take (j := n + 1) ?_
                      rw [nodup_take_succ (d := 0) (by rw [HL2.out]; omega), HX.out]
                      intro h
                      refine h.2 ?_
                      have : x ∈ ms.take (m + 1) := by
                        rw [mem_take_succ (d := 0) (by rw [HL2.out]; omega)]
                        exact .inr (HY.out.trans hv.symm)
                      exact (List.take_subset_take_left ms (by omega)) this
                    have HM := Lib.hid hn
                    clear hn hv
                    go_wp2_with fail
                    go_quiet (fail)
                    go_wp2_with fail
                    go_ret
                    exact ⟨ret_bool (by rw [HE2.out]; simp [HM.out]), below_drewN HB.out.1 _⟩
                  · have hv' : (x == y) = false := by simp [hv]
                    have HV := Lib.hid hv
                    clear hv
                    have hrel : x ∉ ms.take (m + 1) := by
                      rw [mem_take_succ (d := 0) (by rw [HL2.out]; omega)]
                      rintro (h | h)
                      · exact HNO.out h
                      · exact HV.out (h.symm.trans HY.out)
                    have HREL := Lib.hid hrel
                    clear hrel
                    go_wp2_with fail
                    go_quiet (fail)
                    go_wp2_with fail
                    go_roundg (n - (m + 1))
                    case measure => omega
                    case rel => exact ⟨m + 1, by omega, by go_num, ⟨below_drewN HB.out.1 _, HB.out.2⟩, HREL.out⟩
                · obtain rfl : m = n := by omega
                  have hnd' : (ms.take (m + 1)).Nodup := by
                    rw [nodup_take_succ (d := 0) (by rw [HL2.out]; omega), HX.out]
                    exact ⟨HN.out, HNO.out⟩
                  have HND := Lib.hid hnd'
                  clear hnd' hbox
                  go_wp2_with fail
                  go_roundg (ml - (m + 1))
                  case measure => omega
                  case rel => exact ⟨m + 1, by omega, by go_num, HB.out, HP.out, HND.out⟩)
        · obtain rfl : n = ml := by omega
          have hall := HA.out
          have hnd := HN.out
          rw [List.take_of_length_le (by rw [HL2.out]; omega)] at hall hnd
          have hE := HE2.out
          rw [hall, decide_eq_true hnd] at hE
          simp only [Bool.true_and] at hE
          have HE3 := Lib.hid hE
          clear hE hall hnd HA HN HE2 hbox
          go_wp2_with fail
          go_ret
          exact ⟨ret_bool HE3.out.symm, HB.out.1⟩
end Go.Proofs.Ytoglclmaacjdaaa.win
