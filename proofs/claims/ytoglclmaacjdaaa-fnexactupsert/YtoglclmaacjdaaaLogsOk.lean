/-
  THE CONTRACTS OF recOk, partOk, LogsOk of the program and of LogsOk of the model: what each call answers; nothing that was there is written.
-/
import Derived.Test.YtoglclmaacjdaaaBridge
namespace Go.Proofs.Ytoglclmaacjdaaa.dat
open Go.RowKit Go.Proofs.Ytoglclmaacjdaaa.win

theorem all_false_at {α : Type} {l : List α} {p : α → Bool} {j : Nat} {x : α} (hx : l[j]? = some x) (e : p x = false) : l.all p = false := by
  rw [List.all_eq_false]
  exact ⟨x, List.mem_of_getElem? hx, by rw [e]; simp⟩
theorem all_take_at {α : Type} {l : List α} {p : α → Bool} {j : Nat} {x : α} (ha : (l.take j).all p = true) (hx : l[j]? = some x) (e : p x = true) : (l.take (j + 1)).all p = true := by
  rw [List.take_add_one, hx, List.all_append, ha]
  simpa using e
theorem all_take_all {α : Type} {l : List α} {p : α → Bool} {j : Nat} (ha : (l.take j).all p = true) (h : l.length ≤ j) : l.all p = true := by
  rwa [List.take_of_length_le h] at ha

def recB (s : ByteArray) : Bool := decide ((s.size : Int) ≤ 60)
def partB (q : PartD) : Bool := decide ((q.recs.length : Int) ≤ 24) && q.recs.all recB
/-- LogsOk. -/
def logsB (c : ConfD) (l : List PartD) : Bool := confD c && decide (1 ≤ (l.length : Int) ∧ (l.length : Int) ≤ 3) && l.all partB

set_option maxRecDepth 100000 in
set_option maxHeartbeats 2000000 in
theorem spec_LogsOk (c : ConfD) (ch : ConfigH) (cf : List Nat) (a : Option Addr) (len cap : Nat) (l : List PartD) (fp : List Nat) (w : World) (hc : Config.Is w c ch cf) (hrow : GRow 1 RPart w a len l fp) (_ : len ≤ cap) (_ : cap ≤ 9223372036854775807) :
    Calls Try.prog 180 #[.agg (Config.list c ch).toArray, .slice a len cap] w fun r w' => r = .returned (.bool (logsB c l)) ∧ Below w.heap.size w w' := by
  obtain ⟨r, hr⟩ : ∃ r, logsB c l = r := ⟨_, rfl⟩
  rw [hr]
  unfold logsB at hr
  rw [hrow.1] at hr
  have HR := Lib.hid hr
  have HC := Lib.hid (fun w h => spec_Conf c ch cf w h)
  have HI := Lib.hid hc
  have HG := Lib.hid hrow
  have HL := Lib.hid hrow.1
  clear hr hc hrow
  simp only [Config.list] at *
  go_enter Try.func180, Try.ntmps180
  go_wp2_with fail
  refine calls_gen (fun W => Below w.heap.size w W) (by repeat (first | exact Below.refl _ _ | refine Below.setCell ?_ (by first | omega | (simp; done) | (simp; omega)) _ | refine Below.alloc ?_ (by first | omega | (simp; done) | (simp; omega)) _ | apply Below.drew)) ?_
  intro W1 b1
  refine (HC.out _ (HI.out.below b1)).mono ?_
  rintro e' W2 ⟨rfl, b2⟩
  have B2 := Lib.hid (b1.trans (b2.mono b1.size))
  clear b1 b2
  cases p1 : confD c with
  | false =>
    have P1 := Lib.hid p1
    clear p1
    go_wp2_with fail
    go_ret
    exact ⟨ret_bool (by rw [← HR.out, P1.out]; simp), B2.out⟩
  | true =>
  have P1 := Lib.hid p1
  clear p1
  cases p2 : decide (1 ≤ (len : Int) ∧ (len : Int) ≤ 3) with
  | false =>
    have P2 := Lib.hid p2
    go_wp2_with (go_at_call 56; refine (between_is p2 _).mono ?_; rintro e w' ⟨rfl, rfl⟩)
    go_ret
    exact ⟨ret_bool (by rw [← HR.out, P2.out]; simp), B2.out⟩
  | true =>
  have P2 := Lib.hid p2
  have hle : (len : Int) ≤ 3 := (of_decide_eq_true p2).2
  go_wp2_with (go_at_call 56; refine (between_is p2 _).mono ?_; rintro e w' ⟨rfl, rfl⟩)
  have HE := Lib.hid (show l.all partB = r by rw [← HR.out, P1.out, P2.out]; simp)
  clear p2 HR HC HI
  go_loopg [5] len (fun k i wr => ∃ j : Nat, j + k = len ∧ i = .int .i64 j ∧ Below w.heap.size w wr ∧ (l.take j).all partB = true)
  case atStart => exact ⟨0, by omega, rfl, B2.out, by simp⟩
  case round =>
    obtain ⟨j, hj, rfl, hb, hno⟩ := hrel
    have HB := Lib.hid hb
    have HN := Lib.hid hno
    clear hno
    by_cases hlt : j < len
    case neg =>
      clear hb
      go_wp2_with fail
      go_ret
      exact ⟨ret_bool (by rw [← HE.out]; exact (all_take_all HN.out (by rw [HL.out]; omega)).symm), HB.out⟩
    obtain ⟨b, off, x, f, cs, rfl, hbl, hx, hcl, hR, hcc⟩ := HG.out.at hlt
    obtain ⟨h, rfl, hi⟩ := hR
    have hcell : w.cell? ⟨b, off + j, none⟩ = some (.slice h.recsa h.recsl h.recsc) := by
      have := hcc 0 (by omega)
      simpa [Part.list] using this
    have HCELL := Lib.hid hcell
    have hcell1 : wr.cell? ⟨b, off + j, none⟩ = some (.slice h.recsa h.recsl h.recsc) := (hb.cell (p := ⟨b, off + j, none⟩) hbl).trans hcell
    have hlt2 : (j : Int) < (len : Int) := by omega
    have h02 : (0 : Int) ≤ (j : Int) := by omega
    have HX := Lib.hid hx
    obtain ⟨g0, rfl, r0, u0, v0⟩ := hi
    have HS := Lib.hid r0
    have HSL := Lib.hid r0.1
    clear hb hx hcc r0 hcell
    by_cases h24 : (h.recsl : Int) ≤ 24
    case neg =>
      have hp : partB x = false := by unfold partB; rw [HSL.out, decide_eq_false h24]; simp
      have HP := Lib.hid (all_false_at HX.out hp)
      clear hp
      go_wp2_with fail
      go_ret
      exact ⟨ret_bool (by rw [← HE.out, HP.out]), HB.out⟩
    go_wp2_with fail
    clear hcell1
    go_loopg [6] h.recsl (fun k i wr => ∃ m : Nat, m + k = h.recsl ∧ i = .int .i64 m ∧ Below w.heap.size w wr ∧ (x.recs.take m).all recB = true)
    case atStart => exact ⟨0, by omega, rfl, HB.out, by simp⟩
    case round =>
      obtain ⟨m, hm, rfl, hb, hno⟩ := hrel
      clear HB
      have HB := Lib.hid hb
      have HM := Lib.hid hno
      have hcell1 : wr.cell? ⟨b, off + j, none⟩ = some (.slice h.recsa h.recsl h.recsc) := (hb.cell (p := ⟨b, off + j, none⟩) hbl).trans HCELL.out
      clear hno
      by_cases hml : m < h.recsl
      · obtain ⟨b', off', s, f', cs', hab, hbl', hx', hcl', hR', hcc'⟩ := HS.out.at hml
        obtain ⟨rfl, hs, rfl⟩ := hR'
        rw [hab] at hcell1
        have hcell2 : wr.cell? ⟨b', off' + m, none⟩ = some (.string s) := by
          have := (hb.cell (p := ⟨b', off' + m * 1 + 0, none⟩) hbl').trans (hcc' 0 (by omega))
          simpa using this
        have hml2 : (m : Int) < (h.recsl : Int) := by omega
        have hm0 : (0 : Int) ≤ (m : Int) := by omega
        have HX' := Lib.hid hx'
        clear hb hx' hcc' hab
        by_cases h60 : (s.size : Int) ≤ 60
        · have HP := Lib.hid (all_take_at HM.out HX'.out (show recB s = true from decide_eq_true h60))
          go_wp2_with fail
          go_roundg (h.recsl - (m + 1))
          case measure => omega
          case rel => exact ⟨m + 1, by omega, by go_num, HB.out, HP.out⟩
        · have hp : partB x = false := by
            unfold partB
            rw [all_false_at HX'.out (show recB s = false from decide_eq_false h60)]; simp
          have HP := Lib.hid (all_false_at HX.out hp)
          clear hp
          go_wp2_with fail
          go_ret
          exact ⟨ret_bool (by rw [← HE.out, HP.out]), HB.out⟩
      · have hp : partB x = true := by
          unfold partB
          rw [HSL.out, decide_eq_true h24, all_take_all HM.out (by rw [HSL.out]; omega)]; rfl
        have HP := Lib.hid (all_take_at HN.out HX.out hp)
        clear hp hb
        go_wp2_with fail
        go_roundg (len - (j + 1))
        case measure => omega
        case rel => exact ⟨j + 1, by omega, by go_num, HB.out, HP.out⟩
end Go.Proofs.Ytoglclmaacjdaaa.dat
