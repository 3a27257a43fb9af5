/-
  THE CONTRACTS OF partsOk, rowsOk, StateOk of the program and of l06Rows, StateOk of the model: what each call answers; nothing that was there is written.
  Condition: panes and rows of at most 2,000,000 numbers.
-/
import Derived.Test.YtoglclmaacjdaaaPanesSpecOk
import Derived.Test.YtoglclmaacjdaaaLogsOk
import Derived.Test.YtoglclmaacjdaaaDataStates
import Derived.Test.YtoglclmaacjdaaaLent
namespace Go.Proofs.Ytoglclmaacjdaaa.dat
open Go.RowKit Go.Proofs.Ytoglclmaacjdaaa.win

def offB (n : Int) : Bool := upB n 24
def tideB (n : Int) : Bool := n == -200000 || decide (-101000 ≤ n ∧ n ≤ 100000)
def timesB (r : RowD) : Bool := decide (1 ≤ r.times ∧ r.times ≤ 1000)
def RowD.pane (r : RowD) : PaneD := ⟨r.win, r.mask, r.start, r.key, r.a⟩
def rowsB (c : ConfD) (l : List RowD) : Bool := l.all timesB && panesB c (l.map RowD.pane)
def partsB (s : StateD) : Bool := decide (1 ≤ (s.offs.length : Int) ∧ (s.offs.length : Int) ≤ 3) && ((s.marks.length : Int) == (s.offs.length : Int)) && s.offs.all offB && s.marks.all tideB
/-- StateOk. -/
def stateB (c : ConfD) (s : StateD) : Bool := partsB s && panesB c s.panes && rowsB c s.rows && upB s.drops 100000 && upB s.bad 100000

set_option maxHeartbeats 400000 in
theorem timesOk (x : RowD) (h : RowH) (w : World) : Calls Try.prog 116 #[.agg (Row.list x h).toArray] w fun e w' => e = .returned (.bool (timesB x)) ∧ Below w.heap.size w w' := by
  unfold timesB
  simp only [Row.list]
  by_cases h2 : 1 ≤ x.times
  case neg =>
    have hd : decide (1 ≤ x.times) = false := by simp; omega
    go_enter Try.func116, Try.ntmps116
    go_wp2_with fail
    go_ret
    exact ⟨ret_bool (by symm; simp <;> omega), by repeat (first | exact Below.refl _ _ | refine Below.setCell ?_ (by first | omega | (simp; done) | (simp; omega)) _ | refine Below.alloc ?_ (by first | omega | (simp; done) | (simp; omega)) _ | apply Below.drew)⟩
  by_cases h3 : x.times ≤ 1000
  case neg =>
    have hd : decide (x.times ≤ 1000) = false := by simp; omega
    go_enter Try.func116, Try.ntmps116
    go_wp2_with fail
    go_ret
    exact ⟨ret_bool (by symm; simp <;> omega), by repeat (first | exact Below.refl _ _ | refine Below.setCell ?_ (by first | omega | (simp; done) | (simp; omega)) _ | refine Below.alloc ?_ (by first | omega | (simp; done) | (simp; omega)) _ | apply Below.drew)⟩
  go_enter Try.func116, Try.ntmps116
  go_wp2_with fail
  go_ret
  exact ⟨ret_bool (by symm; simp <;> omega), by repeat (first | exact Below.refl _ _ | refine Below.setCell ?_ (by first | omega | (simp; done) | (simp; omega)) _ | refine Below.alloc ?_ (by first | omega | (simp; done) | (simp; omega)) _ | apply Below.drew)⟩

set_option maxRecDepth 100000 in
set_option maxHeartbeats 1000000 in
theorem allTimes (a : Option Addr) (len cap : Nat) (l : List RowD) (fp : List Nat) (w : World) (hmax : len ≤ 2000000) (hrow : GRow 9 RRow w a len l fp) :
    Calls Try.prog 115 #[.slice a len cap, .func (.func 116) #[] #[]] w fun e w' => e = .returned (.bool (l.all timesB)) ∧ Below w.heap.size w w' := by
  have HR := Lib.hid hrow
  have HL := Lib.hid hrow.1
  clear hrow
  go_enter Try.func115, Try.ntmps115
  go_wp2_with fail
  go_loopg [9] len (fun k i wr => ∃ j : Nat, j + k = len ∧ i = .int .i64 j ∧ Below w.heap.size w wr ∧ (l.take j).all timesB = true)
  case atStart => exact ⟨0, by omega, rfl, Below.refl _ _, by simp⟩
  case round =>
    obtain ⟨j, hj, rfl, hb, hno⟩ := hrel
    have HB := Lib.hid hb
    have HN := Lib.hid hno
    clear hno
    by_cases hlt : j < len
    · obtain ⟨b, off, x, f, cs, rfl, hbl, hx, hcl, hR, hc⟩ := HR.out.at hlt
      obtain ⟨h, rfl, hi⟩ := hR
      have hcell : ∀ i, i < 9 → wr.cell? ⟨b, off + j * 9 + i, none⟩ = (Row.list x h)[i]? := fun i hi => (hb.cell (p := ⟨b, off + j * 9 + i, none⟩) hbl).trans (hc i hi)
      have q0 := hcell 0 (by omega)
      have q1 := hcell 1 (by omega)
      have q2 := hcell 2 (by omega)
      have q3 := hcell 3 (by omega)
      have q4 := hcell 4 (by omega)
      have q5 := hcell 5 (by omega)
      have q6 := hcell 6 (by omega)
      have q7 := hcell 7 (by omega)
      have q8 := hcell 8 (by omega)
      simp [Row.list] at q0 q1 q2 q3 q4 q5 q6 q7 q8
      have hlt2 : (j : Int) < (len : Int) := by omega
      have h02 : (0 : Int) ≤ (j : Int) := by omega
      have HX := Lib.hid hx
      clear hb hx hc hi hcell
      go_wp2_with fail
      refine calls_gen (fun W => Below w.heap.size w W) (HB.out.alloc HB.out.size _) ?_
      intro W1 b1
      refine (timesOk x h _).mono ?_
      rintro e w3 ⟨rfl, b3⟩
      have HB3 := Lib.hid (b1.trans (b3.mono b1.size))
      clear b1 b3
      cases hp : timesB x with
      | false =>
        have HP := Lib.hid (all_false_at HX.out hp)
        clear hp
        go_wp2_with fail
        go_ret
        exact ⟨ret_bool HP.out.symm, HB3.out⟩
      | true =>
        have HP := Lib.hid (all_take_at HN.out HX.out hp)
        clear hp
        go_wp2_with fail
        go_roundg (len - (j + 1))
        case measure => omega
        case rel => exact ⟨j + 1, by omega, by go_num, HB3.out, HP.out⟩
    · clear hb
      go_wp2_with fail
      go_ret
      exact ⟨ret_bool (all_take_all HN.out (by rw [HL.out]; omega)).symm, HB.out⟩

theorem Row.Is.pane {w : World} {x : RowD} {h : RowH} {f : List Nat} (hi : Row.Is w x h f) : Pane.Is w x.pane ⟨h.keya, h.keyl, h.keyc⟩ f := hi

set_option maxHeartbeats 400000 in
theorem rowPane (x : RowD) (h : RowH) (w : World) : Calls Try.prog 109 #[.agg (Row.list x h).toArray] w fun e w' => e = .returned (.agg (Pane.list x.pane ⟨h.keya, h.keyl, h.keyc⟩).toArray) ∧ Below w.heap.size w w' := by
  simp only [Row.list, Pane.list, RowD.pane]
  go_enter Try.func109, Try.ntmps109
  go_wp2
  refine bodyPost_ret (v := .agg #[.int .i64 x.win, .int .i64 x.mask, .int .i64 x.start, .slice h.keya h.keyl h.keyc, .int .i64 x.a.n, .int .i64 x.a.sm, .int .i64 x.a.mn, .int .i64 x.a.mx]) (by simp [results, Try.results109, go_sem]) rfl ⟨rfl, ?_⟩
  repeat (first | exact Below.refl _ _ | refine Below.setCell ?_ (by first | omega | (simp; done) | (simp; omega)) _ | refine Below.alloc ?_ (by first | omega | (simp; done) | (simp; omega)) _ | apply Below.drew)
end Go.Proofs.Ytoglclmaacjdaaa.dat
