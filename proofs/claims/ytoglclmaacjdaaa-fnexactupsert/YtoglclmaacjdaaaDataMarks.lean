/-
  DATA: []int, Win, []Win, Config, Event: the notions; THE CONTRACTS OF the laws' own functions (copies, sizes, equality) over them. Written by tools/gendata.py.
-/
import Derived.Test.YtoglclmaacjdaaaDataEvents
import Derived.Test.YtoglclmaacjdaaaDataMark
namespace Go.Proofs.Ytoglclmaacjdaaa.dat
open Go.RowKit Go.Proofs.Ytoglclmaacjdaaa.win
set_option linter.unusedVariables false

set_option maxRecDepth 100000 in
set_option maxHeartbeats 1000000 in
theorem mark_IntS (a : Option Addr) (len cap : Nat) (l : List Int) (fp : List Nat) (m : Int) (lo : Nat) (w : World) (hmax : len ≤ 2000000) (hm0 : 0 ≤ m) (hm1 : m + (cntL cnInt l : Nat) ≤ 1099511627776) (hrow : GRow 1 RInt w a len l fp) (hown : Own lo w fp) :
    Calls Try.prog 91 #[.slice a len cap, .int .i64 m] w (Marked 1 RInt mkInt cnInt lo w a len l fp m) := by
  have HL := Lib.hid hrow.1
  have HR := Lib.hid hrow
  have HO := Lib.hid hown
  have HM := Lib.hid hm1
  clear hrow hown hm1
  go_enter Try.func91, Try.ntmps91
  go_wp2_with fail
  go_loopg [1, 5] len (fun r sk i wr => ∃ j : Nat, j + r = len ∧ sk = .int .i64 (m + (cntL cnInt (l.take j) : Nat)) ∧ i = .int .i64 j ∧ GRow 1 RInt wr a len (markH mkInt cnInt m l j) fp ∧ Own lo wr fp ∧ Apart fp w wr)
  case atStart => exact ⟨0, by omega, by simp [cntL], rfl, by rw [markH_zero]; exact HR.out, HO.out, Apart.refl _ _⟩
  case round =>
    obtain ⟨j, hj, rfl, rfl, hG, hown, hap⟩ := hrel
    clear HR HO
    obtain ⟨q, hq⟩ : ∃ q : Int, m + (cntL cnInt (l.take j) : Nat) = q := ⟨_, rfl⟩
    have hq0 : 0 ≤ q := by omega
    have HQ := Lib.hid hq
    rw [hq]
    by_cases hlt : j < len
    · have hlt2 : (j : Int) < (len : Int) := by omega
      have h02 : (0 : Int) ≤ (j : Int) := by omega
      obtain ⟨b, off, f, x, rfl, hx, hb, hbf, hf, hfn, ⟨cs, hcl, hR, hc⟩, hup⟩ := hG.update local_int hown.1 hlt
      rw [markH_at _ _ _ _ (by rw [HL.out]; omega)] at hx
      obtain ⟨rfl, rfl⟩ := hR
      have c0 : wr.cell? ⟨b, off + j, none⟩ = some (.int .i64 x) := by have := hc 0 (by omega); simpa using this
      have g0 : wr.frozen? ⟨b, off + j, none⟩ = false := ((hown.2 b hbf).2).frozen _
      have hq1 : q + 1 ≤ 1099511627776 := by have h1 := cntL_take_succ cnInt l hx; have h2 := cntL_take_le cnInt l (j + 1); have h3 := HM.out; have h4 : cnInt x = 1 := rfl; omega
      have HX := Lib.hid hx
      have HU := Lib.hid hup
      have HO := Lib.hid hown
      have HA := Lib.hid hap
      have HB := Lib.hid hb
      have HF := Lib.hid hbf
      have C0 := Lib.hid c0
      clear hx hup hown hap hG hc hq hb hbf hf hfn hcl
      go_wp2_with fail
      go_roundg (len - (j + 1))
      case measure => omega
      case rel =>
        refine ⟨j + 1, by omega, ?_, by go_num, ?_, ?_, ?_⟩
        · rw [cntL_take_succ cnInt l HX.out, ← HQ.out, show cnInt x = 1 from rfl]
          apply congrArg (Value.int IntKind.i64)
          omega
        · rw [← markH_succ mkInt cnInt m l HX.out, HQ.out]
          refine HU.out _ _ ?_ ?_ ?_ ?_
          · intro c _ hcb _
            rw [Below.heap_setCell _ _ _ c (by simpa using hcb)]
          · intro o ho
            rw [cell_setCell_other _ _ _ _ _ (by omega)]
          · have := HB.out
            simpa using this
          · refine ⟨[.int .i64 q], rfl, ⟨rfl, rfl⟩, ?_⟩
            intro i hi
            have : i = 0 := by omega
            rcases this with rfl
            · simp [go_sem, C0.out]
        · with_reducible (repeat (first | exact HO.out | refine Own.set ?_ _ _ _))
        · repeat (first | (with_reducible exact HA.out) | refine Apart.setCell ?_ HF.out _ _)
    · obtain rfl : j = len := by omega
      rw [markH_all _ _ _ _ (by rw [HL.out]; omega)] at hG
      have HE := Lib.hid (And.intro hG (And.intro hown hap))
      clear hG hown hap hq
      go_wp2_with fail
      go_ret
      exact ⟨ret_int (by rw [← HQ.out, cntL_all _ _ (by rw [HL.out]; omega)]), HE.out.1, HE.out.2.1, HE.out.2.2⟩

set_option maxRecDepth 100000 in
set_option maxHeartbeats 1000000 in
theorem held_IntS (a : Option Addr) (len cap : Nat) (l : List Int) (fp : List Nat) (m : Int) (w : World) (hmax : len ≤ 2000000) (hm0 : 0 ≤ m) (hm1 : m + (cntL cnInt l : Nat) ≤ 1099511627776) (hrow : GRow 1 RInt w a len (markL mkInt cnInt m l) fp) :
    Calls Try.prog 92 #[.slice a len cap, .int .i64 m] w fun e w' => e = .returned (.int .i64 (m + (cntL cnInt l : Nat))) ∧ Below w.heap.size w w' := by
  have HL := Lib.hid (show l.length = len by have := hrow.1; rwa [markL_length] at this)
  have HR := Lib.hid hrow
  have HM := Lib.hid hm1
  clear hrow hm1
  go_enter Try.func92, Try.ntmps92
  go_wp2_with fail
  go_loopg [1, 5] len (fun r sk i wr => ∃ j : Nat, j + r = len ∧ sk = .int .i64 (m + (cntL cnInt (l.take j) : Nat)) ∧ i = .int .i64 j ∧ Below w.heap.size w wr)
  case atStart => exact ⟨0, by omega, by simp [cntL], rfl, Below.refl _ _⟩
  case round =>
    obtain ⟨j, hj, rfl, rfl, hb⟩ := hrel
    have HB := Lib.hid hb
    obtain ⟨q, hq⟩ : ∃ q : Int, m + (cntL cnInt (l.take j) : Nat) = q := ⟨_, rfl⟩
    have hq0 : 0 ≤ q := by omega
    have HQ := Lib.hid hq
    rw [hq]
    by_cases hlt : j < len
    · have hlt2 : (j : Int) < (len : Int) := by omega
      have h02 : (0 : Int) ≤ (j : Int) := by omega
      obtain ⟨b, off, x', f, cs, rfl, hbl, hx', hcl, hR, hc⟩ := HR.out.at hlt
      obtain ⟨x, hx⟩ : ∃ x, l[j]? = some x := ⟨_, List.getElem?_eq_getElem (by rw [HL.out]; exact hlt)⟩
      rw [markL_at mkInt cnInt l m hx, HQ.out] at hx'
      obtain rfl : mkInt q x = x' := Option.some.inj hx'
      obtain ⟨rfl, rfl⟩ := hR
      have c0 : wr.cell? ⟨b, off + j, none⟩ = some (.int .i64 q) := by have := (hb.cell (p := ⟨b, off + j * 1 + 0, none⟩) hbl).trans (hc 0 (by omega)); simpa [mkInt] using this
      have hq1 : q + 1 ≤ 1099511627776 := by have h1 := cntL_take_succ cnInt l hx; have h2 := cntL_take_le cnInt l (j + 1); have h3 := HM.out; have h4 : cnInt x = 1 := rfl; omega
      have HX := Lib.hid hx
      clear hx hx' hb hc hq hcl
      go_wp2_with fail
      go_roundg (len - (j + 1))
      case measure => omega
      case rel =>
        refine ⟨j + 1, by omega, ?_, by go_num, HB.out⟩
        rw [cntL_take_succ cnInt l HX.out, ← HQ.out, show cnInt x = 1 from rfl]
        apply congrArg (Value.int IntKind.i64)
        omega
    · obtain rfl : j = len := by omega
      clear hb hq
      go_wp2_with fail
      go_ret
      exact ⟨ret_int (by rw [← HQ.out, cntL_all _ _ (by rw [HL.out]; omega)]), HB.out⟩

def mkWin (k : Int) (_ : Int × Int) : Int × Int := (k, (k + 1))
def cnWin (_ : Int × Int) : Nat := 2
theorem cn_le_Win (x : Int × Int) : cnWin x ≤ 8 := by unfold cnWin; omega

def Config.markV (k : Int) (x : ConfD) : ConfD := { x with ws := markL mkWin cnWin (k) x.ws, ms := markL mkInt cnInt (k + (cntL cnWin x.ws : Nat)) x.ms }
def Config.cntV (x : ConfD) : Nat := cntL cnWin x.ws + cntL cnInt x.ms
theorem Config.cntV_le (x : ConfD) : Config.cntV x ≤ 8 * Config.sz x := by
  have h0 := cntL_le' cn_le_Win x.ws
  have h1 := cntL_le' cn_le_int x.ms
  unfold Config.cntV Config.sz
  omega

def MarkedConfig (lo : Nat) (w : World) (x : ConfD) (h : ConfigH) (fp : List Nat) (m : Int) (e : Ending) (w' : World) : Prop := e = .returned (.int .i64 (m + (Config.cntV x : Nat))) ∧ Config.Is w' (Config.markV m x) h fp ∧ Own lo w' fp ∧ Apart fp w w'
def Event.markV (k : Int) (x : EventD) : EventD := { x with ds := markL mkInt cnInt (k) x.ds }
def Event.cntV (x : EventD) : Nat := cntL cnInt x.ds
theorem Event.cntV_le (x : EventD) : Event.cntV x ≤ 8 * Event.sz x := by
  have h0 := cntL_le' cn_le_int x.ds
  unfold Event.cntV Event.sz
  omega

def MarkedEvent (lo : Nat) (w : World) (x : EventD) (h : EventH) (fp : List Nat) (m : Int) (e : Ending) (w' : World) : Prop := e = .returned (.int .i64 (m + (Event.cntV x : Nat))) ∧ Event.Is w' (Event.markV m x) h fp ∧ Own lo w' fp ∧ Apart fp w w'
end Go.Proofs.Ytoglclmaacjdaaa.dat
