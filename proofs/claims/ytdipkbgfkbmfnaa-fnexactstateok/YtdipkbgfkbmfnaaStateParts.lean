/-
  THE CONTRACTS OF partsOk, rowsOk, StateOk of the program and of l06Rows, StateOk of the model: what each call answers; nothing that was there is written.
  Condition: panes and rows of at most 2,000,000 numbers.
-/
import Derived.Test.YtdipkbgfkbmfnaaPanesSpecOk
import Derived.Test.YtdipkbgfkbmfnaaLogsOk
import Derived.Test.YtdipkbgfkbmfnaaDataStates
import Derived.Test.YtdipkbgfkbmfnaaGrow2
namespace Go.Proofs.Ytdipkbgfkbmfnaa.dat
open Go.RowKit Go.Proofs.Ytdipkbgfkbmfnaa.win

def offB (n : Int) : Bool := upB n 24
def tideB (n : Int) : Bool := n == -200000 || decide (-101000 ≤ n ∧ n ≤ 100000)
def timesB (r : RowD) : Bool := decide (1 ≤ r.times ∧ r.times ≤ 1000)
def RowD.pane (r : RowD) : PaneD := ⟨r.win, r.mask, r.start, r.key, r.a⟩
def rowsB (c : ConfD) (l : List RowD) : Bool := l.all timesB && panesB c (l.map RowD.pane)
def partsB (s : StateD) : Bool := decide (1 ≤ (s.offs.length : Int) ∧ (s.offs.length : Int) ≤ 3) && ((s.marks.length : Int) == (s.offs.length : Int)) && s.offs.all offB && s.marks.all tideB
/-- StateOk. -/
def stateB (c : ConfD) (s : StateD) : Bool := partsB s && panesB c s.panes && rowsB c s.rows && upB s.drops 100000 && upB s.bad 100000

set_option maxHeartbeats 400000 in
theorem offOk (n : Int) (w : World) : Calls Try.prog 64 #[.int .i64 n] w fun e w' => e = .returned (.bool (offB n)) ∧ w = w' := by
  go_enter Try.func64, Try.ntmps64
  go_wp2_with (go_at_call 42; refine (isUpTo _ _ _).mono ?_; rintro e w' ⟨rfl, rfl⟩)
  go_ret
  exact ⟨rfl, rfl⟩
set_option maxHeartbeats 400000 in
theorem tideOk (n : Int) (w : World) : Calls Try.prog 65 #[.int .i64 n] w fun e w' => e = .returned (.bool (tideB n)) ∧ w = w' := by
  unfold tideB
  cases h1 : (n == -200000)
  case true =>
    go_enter Try.func65, Try.ntmps65
    go_wp2_with fail
    go_ret
    exact ⟨rfl, rfl⟩
  by_cases h2 : -101000 ≤ n
  case neg =>
    have hd : decide (-101000 ≤ n) = false := by simp; omega
    go_enter Try.func65, Try.ntmps65
    go_wp2_with fail
    go_ret
    exact ⟨ret_bool (by symm; simp <;> omega), rfl⟩
  by_cases h3 : n ≤ 100000
  case neg =>
    have hd : decide (n ≤ 100000) = false := by simp; omega
    go_enter Try.func65, Try.ntmps65
    go_wp2_with fail
    go_ret
    exact ⟨ret_bool (by symm; simp <;> omega), rfl⟩
  go_enter Try.func65, Try.ntmps65
  go_wp2_with fail
  go_ret
  exact ⟨ret_bool (by symm; simp <;> omega), rfl⟩
set_option maxHeartbeats 400000 in
theorem timesOk (x : RowD) (h : RowH) (w : World) : Calls Try.prog 71 #[.agg (Row.list x h).toArray] w fun e w' => e = .returned (.bool (timesB x)) ∧ Below w.heap.size w w' := by
  unfold timesB
  simp only [Row.list]
  by_cases h2 : 1 ≤ x.times
  case neg =>
    have hd : decide (1 ≤ x.times) = false := by simp; omega
    go_enter Try.func71, Try.ntmps71
    go_wp2_with fail
    go_ret
    exact ⟨ret_bool (by symm; simp <;> omega), by repeat (first | exact Below.refl _ _ | refine Below.setCell ?_ (by first | omega | (simp; done) | (simp; omega)) _ | refine Below.alloc ?_ (by first | omega | (simp; done) | (simp; omega)) _ | apply Below.drew)⟩
  by_cases h3 : x.times ≤ 1000
  case neg =>
    have hd : decide (x.times ≤ 1000) = false := by simp; omega
    go_enter Try.func71, Try.ntmps71
    go_wp2_with fail
    go_ret
    exact ⟨ret_bool (by symm; simp <;> omega), by repeat (first | exact Below.refl _ _ | refine Below.setCell ?_ (by first | omega | (simp; done) | (simp; omega)) _ | refine Below.alloc ?_ (by first | omega | (simp; done) | (simp; omega)) _ | apply Below.drew)⟩
  go_enter Try.func71, Try.ntmps71
  go_wp2_with fail
  go_ret
  exact ⟨ret_bool (by symm; simp <;> omega), by repeat (first | exact Below.refl _ _ | refine Below.setCell ?_ (by first | omega | (simp; done) | (simp; omega)) _ | refine Below.alloc ?_ (by first | omega | (simp; done) | (simp; omega)) _ | apply Below.drew)⟩

set_option maxHeartbeats 400000 in
theorem allOffs (a : Option Addr) (len cap : Nat) (l : List Int) (fp : List Nat) (w : World) (hmax : len ≤ 2000000) (hrow : GRow 1 RInt w a len l fp) :
    Calls Try.prog 63 #[.slice a len cap, .func (.func 64) #[] #[]] w fun e w' => e = .returned (.bool (l.all offB)) ∧ Below w.heap.size w w' := by
  have HR := Lib.hid hrow
  have HL := Lib.hid hrow.1
  clear hrow
  go_enter Try.func63, Try.ntmps63
  go_wp2_with fail
  go_loopg [9] len (fun k i wr => ∃ j : Nat, j + k = len ∧ i = .int .i64 j ∧ Below w.heap.size w wr ∧ (l.take j).all offB = true)
  case atStart => exact ⟨0, by omega, rfl, Below.refl _ _, by simp⟩
  case round =>
    obtain ⟨j, hj, rfl, hb, hno⟩ := hrel
    have HB := Lib.hid hb
    have HN := Lib.hid hno
    clear hno
    by_cases hlt : j < len
    · obtain ⟨b, off, x, f, cs, rfl, hbl, hx, hcl, hR, hc⟩ := HR.out.at hlt
      obtain ⟨rfl, rfl⟩ := hR
      have hcell : wr.cell? ⟨b, off + j, none⟩ = some (.int .i64 x) := by
        have := (hb.cell (p := ⟨b, off + j * 1 + 0, none⟩) hbl).trans (hc 0 (by omega))
        simpa using this
      have hlt2 : (j : Int) < (len : Int) := by omega
      have h02 : (0 : Int) ≤ (j : Int) := by omega
      have HX := Lib.hid hx
      clear hb hx hc
      go_wp2_with fail
      refine (offOk _ _).mono ?_
      rintro e w3 ⟨rfl, rfl⟩
      cases hp : offB x with
      | false =>
        have HP := Lib.hid (all_false_at HX.out hp)
        clear hp
        go_wp2_with fail
        go_ret
        exact ⟨ret_bool HP.out.symm, HB.out⟩
      | true =>
        have HP := Lib.hid (all_take_at HN.out HX.out hp)
        clear hp
        go_wp2_with fail
        go_roundg (len - (j + 1))
        case measure => omega
        case rel => exact ⟨j + 1, by omega, by go_num, HB.out, HP.out⟩
    · clear hb
      go_wp2_with fail
      go_ret
      exact ⟨ret_bool (all_take_all HN.out (by rw [HL.out]; omega)).symm, HB.out⟩

set_option maxHeartbeats 400000 in
theorem allTides (a : Option Addr) (len cap : Nat) (l : List Int) (fp : List Nat) (w : World) (hmax : len ≤ 2000000) (hrow : GRow 1 RInt w a len l fp) :
    Calls Try.prog 63 #[.slice a len cap, .func (.func 65) #[] #[]] w fun e w' => e = .returned (.bool (l.all tideB)) ∧ Below w.heap.size w w' := by
  have HR := Lib.hid hrow
  have HL := Lib.hid hrow.1
  clear hrow
  go_enter Try.func63, Try.ntmps63
  go_wp2_with fail
  go_loopg [9] len (fun k i wr => ∃ j : Nat, j + k = len ∧ i = .int .i64 j ∧ Below w.heap.size w wr ∧ (l.take j).all tideB = true)
  case atStart => exact ⟨0, by omega, rfl, Below.refl _ _, by simp⟩
  case round =>
    obtain ⟨j, hj, rfl, hb, hno⟩ := hrel
    have HB := Lib.hid hb
    have HN := Lib.hid hno
    clear hno
    by_cases hlt : j < len
    · obtain ⟨b, off, x, f, cs, rfl, hbl, hx, hcl, hR, hc⟩ := HR.out.at hlt
      obtain ⟨rfl, rfl⟩ := hR
      have hcell : wr.cell? ⟨b, off + j, none⟩ = some (.int .i64 x) := by
        have := (hb.cell (p := ⟨b, off + j * 1 + 0, none⟩) hbl).trans (hc 0 (by omega))
        simpa using this
      have hlt2 : (j : Int) < (len : Int) := by omega
      have h02 : (0 : Int) ≤ (j : Int) := by omega
      have HX := Lib.hid hx
      clear hb hx hc
      go_wp2_with fail
      refine (tideOk _ _).mono ?_
      rintro e w3 ⟨rfl, rfl⟩
      cases hp : tideB x with
      | false =>
        have HP := Lib.hid (all_false_at HX.out hp)
        clear hp
        go_wp2_with fail
        go_ret
        exact ⟨ret_bool HP.out.symm, HB.out⟩
      | true =>
        have HP := Lib.hid (all_take_at HN.out HX.out hp)
        clear hp
        go_wp2_with fail
        go_roundg (len - (j + 1))
        case measure => omega
        case rel => exact ⟨j + 1, by omega, by go_num, HB.out, HP.out⟩
    · clear hb
      go_wp2_with fail
      go_ret
      exact ⟨ret_bool (all_take_all HN.out (by rw [HL.out]; omega)).symm, HB.out⟩

set_option maxRecDepth 100000 in
set_option maxHeartbeats 1000000 in
theorem allTimes (a : Option Addr) (len cap : Nat) (l : List RowD) (fp : List Nat) (w : World) (hmax : len ≤ 2000000) (hrow : GRow 9 RRow w a len l fp) :
    Calls Try.prog 70 #[.slice a len cap, .func (.func 71) #[] #[]] w fun e w' => e = .returned (.bool (l.all timesB)) ∧ Below w.heap.size w w' := by
  have HR := Lib.hid hrow
  have HL := Lib.hid hrow.1
  clear hrow
  go_enter Try.func70, Try.ntmps70
  go_wp2_with fail
  go_loopg [9] len (fun k i wr => ∃ j : Nat, j + k = len ∧ i = .int .i64 j ∧ Below w.heap.size w wr ∧ (l.take j).all timesB = true)
  case atStart => exact ⟨0, by omega, rfl, Below.refl _ _, by simp⟩
  case round =>
    obtain ⟨j, hj, rfl, hb, hno⟩ := hrel
    have HB := Lib.hid hb
    have HN := Lib.hid hno
    clear hno
    by_cases hlt : j < len
    · obtain ⟨b, off, x, f, cs, rfl, hbl, hx, hcl, hR, hc⟩ := HR.out.at hlt
      obtain ⟨h, rfl, hi⟩ := hR
      have hcell : ∀ i, i < 9 → wr.cell? ⟨b, off + j * 9 + i, none⟩ = (Row.list x h)[i]? := fun i hi => (hb.cell (p := ⟨b, off + j * 9 + i, none⟩) hbl).trans (hc i hi)
      have q0 := hcell 0 (by omega)
      have q1 := hcell 1 (by omega)
      have q2 := hcell 2 (by omega)
      have q3 := hcell 3 (by omega)
      have q4 := hcell 4 (by omega)
      have q5 := hcell 5 (by omega)
      have q6 := hcell 6 (by omega)
      have q7 := hcell 7 (by omega)
      have q8 := hcell 8 (by omega)
      simp [Row.list] at q0 q1 q2 q3 q4 q5 q6 q7 q8
      have hlt2 : (j : Int) < (len : Int) := by omega
      have h02 : (0 : Int) ≤ (j : Int) := by omega
      have HX := Lib.hid hx
      clear hb hx hc hi hcell
      go_wp2_with fail
      refine calls_gen (fun W => Below w.heap.size w W) (HB.out.alloc HB.out.size _) ?_
      intro W1 b1
      refine (timesOk x h _).mono ?_
      rintro e w3 ⟨rfl, b3⟩
      have HB3 := Lib.hid (b1.trans (b3.mono b1.size))
      clear b1 b3
      cases hp : timesB x with
      | false =>
        have HP := Lib.hid (all_false_at HX.out hp)
        clear hp
        go_wp2_with fail
        go_ret
        exact ⟨ret_bool HP.out.symm, HB3.out⟩
      | true =>
        have HP := Lib.hid (all_take_at HN.out HX.out hp)
        clear hp
        go_wp2_with fail
        go_roundg (len - (j + 1))
        case measure => omega
        case rel => exact ⟨j + 1, by omega, by go_num, HB3.out, HP.out⟩
    · clear hb
      go_wp2_with fail
      go_ret
      exact ⟨ret_bool (all_take_all HN.out (by rw [HL.out]; omega)).symm, HB.out⟩

/-! ### rows as panes that share the rows' keys -/
/-- Elements whose blocks are another's, as they lie in W0. -/
def RLent (W0 : World) : Rel PaneD := fun _ cs x f => ∃ h g, cs = Pane.list x h ∧ Pane.Is W0 x h g ∧ f = []
theorem local_lent (W0 : World) : Local (RLent W0) := ⟨fun h _ => h, fun ⟨_, _, _, _, e⟩ b hb => by rw [e] at hb; simp at hb⟩
theorem GRow.conv {α : Type} {k : Nat} {R R' : Rel α} {w : World} {a : Option Addr} {len : Nat} {l : List α} {fp : List Nat} (h : GRow k R w a len l fp) (hc : ∀ cs x f, R w cs x f → ∃ f', R' w cs x f') : ∃ fp', GRow k R' w a len l fp' := by
  obtain ⟨hl, ⟨h0, rfl⟩ | ⟨b, off, F, ha, hb, rfl, hF, hx⟩⟩ := h
  · exact ⟨[], hl, .inl ⟨h0, rfl⟩⟩
  have : ∀ i : Fin l.length, ∃ f', El k R' w b (off + i * k) l[i] f' := by
    intro i
    have hi := i.2
    obtain ⟨cs, h1, h2, h3⟩ := hx i l[i] (F[i.val]'(by omega)) (List.getElem?_eq_getElem hi) (List.getElem?_eq_getElem (by omega))
    obtain ⟨f', h4⟩ := hc _ _ _ h2
    exact ⟨f', cs, h1, h4, h3⟩
  obtain ⟨g, hg⟩ : ∃ g : Fin l.length → List Nat, ∀ i : Fin l.length, El k R' w b (off + i * k) l[i] (g i) := ⟨fun i => Classical.choose (this i), fun i => Classical.choose_spec (this i)⟩
  refine ⟨b :: (List.ofFn g).flatten, hl, .inr ⟨b, off, List.ofFn g, ha, hb, rfl, by simp [hl], fun i x f hxi hfi => ?_⟩⟩
  obtain ⟨h1, rfl⟩ := List.getElem?_eq_some_iff.1 hxi
  rw [List.getElem?_ofFn, dif_pos h1] at hfi
  cases hfi
  exact hg ⟨i, h1⟩
theorem lent_row {W0 w : World} {a : Option Addr} {len : Nat} {l : List PaneD} {fp : List Nat} (h : GRow 8 (RLent W0) w a len l fp) (hb : Below W0.heap.size W0 w) : ∃ fp', GRow 8 RPane w a len l fp' :=
  h.conv fun _ _ _ ⟨h, g, e, hi, _⟩ => ⟨g, h, e, hi.below hb⟩
theorem Row.Is.pane {w : World} {x : RowD} {h : RowH} {f : List Nat} (hi : Row.Is w x h f) : Pane.Is w x.pane ⟨h.keya, h.keyl, h.keyc⟩ f := hi

set_option maxHeartbeats 400000 in
theorem rowPane (x : RowD) (h : RowH) (w : World) : Calls Try.prog 69 #[.agg (Row.list x h).toArray] w fun e w' => e = .returned (.agg (Pane.list x.pane ⟨h.keya, h.keyl, h.keyc⟩).toArray) ∧ Below w.heap.size w w' := by
  simp only [Row.list, Pane.list, RowD.pane]
  go_enter Try.func69, Try.ntmps69
  go_wp2
  refine bodyPost_ret (v := .agg #[.int .i64 x.win, .int .i64 x.mask, .int .i64 x.start, .slice h.keya h.keyl h.keyc, .int .i64 x.a.n, .int .i64 x.a.sm, .int .i64 x.a.mn, .int .i64 x.a.mx]) (by simp [results, Try.results69, go_sem]) rfl ⟨rfl, ?_⟩
  repeat (first | exact Below.refl _ _ | refine Below.setCell ?_ (by first | omega | (simp; done) | (simp; omega)) _ | refine Below.alloc ?_ (by first | omega | (simp; done) | (simp; omega)) _ | apply Below.drew)
end Go.Proofs.Ytdipkbgfkbmfnaa.dat
