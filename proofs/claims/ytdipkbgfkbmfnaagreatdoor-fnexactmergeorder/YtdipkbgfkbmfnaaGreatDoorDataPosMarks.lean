/-
  DATA: Pos, []Pos: the notions; THE CONTRACTS OF the laws' own functions (copies, sizes, equality) over them. Written by tools/gendata.py.
-/
import Derived.Test.YtdipkbgfkbmfnaaGreatDoorDataPos
import Derived.Test.YtdipkbgfkbmfnaaGreatDoorDataMark
namespace Go.Proofs.YtdipkbgfkbmfnaaGreatDoor.dat
open Go.RowKit Go.Proofs.YtdipkbgfkbmfnaaGreatDoor.win
set_option linter.unusedVariables false

def mkPos (k : Int) (_ : Int × Int) : Int × Int := (k, (k + 1))
def cnPos (_ : Int × Int) : Nat := 2
theorem cn_le_Pos (x : Int × Int) : cnPos x ≤ 8 := by unfold cnPos; omega

set_option maxRecDepth 100000 in
set_option maxHeartbeats 1000000 in
theorem mark_PosS (a : Option Addr) (len cap : Nat) (l : List (Int × Int)) (fp : List Nat) (m : Int) (lo : Nat) (w : World) (hmax : len ≤ 2000000) (hm0 : 0 ≤ m) (hm1 : m + (cntL cnPos l : Nat) ≤ 1099511627776) (hrow : GRow 2 RPos w a len l fp) (hown : Own lo w fp) :
    Calls Tryz.prog 18 #[.slice a len cap, .int .i64 m] w (Marked 2 RPos mkPos cnPos lo w a len l fp m) := by
  have HL := Lib.hid hrow.1
  have HR := Lib.hid hrow
  have HO := Lib.hid hown
  have HM := Lib.hid hm1
  clear hrow hown hm1
  go_enter Tryz.func18, Tryz.ntmps18
  go_wp2_with fail
  go_loopg [1, 5] len (fun r sk i wr => ∃ j : Nat, j + r = len ∧ sk = .int .i64 (m + (cntL cnPos (l.take j) : Nat)) ∧ i = .int .i64 j ∧ GRow 2 RPos wr a len (markH mkPos cnPos m l j) fp ∧ Own lo wr fp ∧ Apart fp w wr)
  case atStart => exact ⟨0, by omega, by simp [cntL], rfl, by rw [markH_zero]; exact HR.out, HO.out, Apart.refl _ _⟩
  case round =>
    obtain ⟨j, hj, rfl, rfl, hG, hown, hap⟩ := hrel
    clear HR HO
    obtain ⟨q, hq⟩ : ∃ q : Int, m + (cntL cnPos (l.take j) : Nat) = q := ⟨_, rfl⟩
    have hq0 : 0 ≤ q := by omega
    have HQ := Lib.hid hq
    rw [hq]
    by_cases hlt : j < len
    · have hlt2 : (j : Int) < (len : Int) := by omega
      have h02 : (0 : Int) ≤ (j : Int) := by omega
      obtain ⟨b, off, f, x, rfl, hx, hb, hbf, hf, hfn, ⟨cs, hcl, hR, hc⟩, hup⟩ := hG.update local_Pos hown.1 hlt
      rw [markH_at _ _ _ _ (by rw [HL.out]; omega)] at hx
      obtain ⟨rfl, rfl⟩ := hR
      have c0 : wr.cell? ⟨b, off + j * 2, none⟩ = some (.int .i64 x.1) := by have := hc 0 (by omega); simpa [Pos.list] using this
      have g0 : wr.frozen? ⟨b, off + j * 2, none⟩ = false := ((hown.2 b hbf).2).frozen _
      have c1 : wr.cell? ⟨b, off + j * 2 + 1, none⟩ = some (.int .i64 x.2) := by have := hc 1 (by omega); simpa [Pos.list] using this
      have g1 : wr.frozen? ⟨b, off + j * 2 + 1, none⟩ = false := ((hown.2 b hbf).2).frozen _
      have hq1 : q + 2 ≤ 1099511627776 := by have h1 := cntL_take_succ cnPos l hx; have h2 := cntL_take_le cnPos l (j + 1); have h3 := HM.out; have h4 : cnPos x = 2 := rfl; omega
      have HX := Lib.hid hx
      have HU := Lib.hid hup
      have HO := Lib.hid hown
      have HA := Lib.hid hap
      have HB := Lib.hid hb
      have HF := Lib.hid hbf
      have C0 := Lib.hid c0
      have C1 := Lib.hid c1
      clear hx hup hown hap hG hc hq hb hbf hf hfn hcl
      go_wp2_with fail
      go_roundg (len - (j + 1))
      case measure => omega
      case rel =>
        refine ⟨j + 1, by omega, ?_, by go_num, ?_, ?_, ?_⟩
        · rw [cntL_take_succ cnPos l HX.out, ← HQ.out, show cnPos x = 2 from rfl]
          apply congrArg (Value.int IntKind.i64)
          omega
        · rw [← markH_succ mkPos cnPos m l HX.out, HQ.out]
          refine HU.out _ _ ?_ ?_ ?_ ?_
          · intro c _ hcb _
            rw [Below.heap_setCell _ _ _ c (by simpa using hcb)]; rw [Below.heap_setCell _ _ _ c (by simpa using hcb)]
          · intro o ho
            rw [cell_setCell_other _ _ _ _ _ (by omega)]; rw [cell_setCell_other _ _ _ _ _ (by omega)]
          · have := HB.out
            simpa using this
          · refine ⟨[.int .i64 q, .int .i64 (q + 1)], rfl, ⟨rfl, rfl⟩, ?_⟩
            intro i hi
            have : i = 0 ∨ i = 1 := by omega
            rcases this with rfl | rfl
            · simp [go_sem, C0.out]
            · simp [go_sem, C1.out]
        · with_reducible (repeat (first | exact HO.out | refine Own.set ?_ _ _ _))
        · repeat (first | (with_reducible exact HA.out) | refine Apart.setCell ?_ HF.out _ _)
    · obtain rfl : j = len := by omega
      rw [markH_all _ _ _ _ (by rw [HL.out]; omega)] at hG
      have HE := Lib.hid (And.intro hG (And.intro hown hap))
      clear hG hown hap hq
      go_wp2_with fail
      go_ret
      exact ⟨ret_int (by rw [← HQ.out, cntL_all _ _ (by rw [HL.out]; omega)]), HE.out.1, HE.out.2.1, HE.out.2.2⟩

set_option maxRecDepth 100000 in
set_option maxHeartbeats 1000000 in
theorem held_PosS (a : Option Addr) (len cap : Nat) (l : List (Int × Int)) (fp : List Nat) (m : Int) (w : World) (hmax : len ≤ 2000000) (hm0 : 0 ≤ m) (hm1 : m + (cntL cnPos l : Nat) ≤ 1099511627776) (hrow : GRow 2 RPos w a len (markL mkPos cnPos m l) fp) :
    Calls Tryz.prog 19 #[.slice a len cap, .int .i64 m] w fun e w' => e = .returned (.int .i64 (m + (cntL cnPos l : Nat))) ∧ Below w.heap.size w w' := by
  have HL := Lib.hid (show l.length = len by have := hrow.1; rwa [markL_length] at this)
  have HR := Lib.hid hrow
  have HM := Lib.hid hm1
  clear hrow hm1
  go_enter Tryz.func19, Tryz.ntmps19
  go_wp2_with fail
  go_loopg [1, 5] len (fun r sk i wr => ∃ j : Nat, j + r = len ∧ sk = .int .i64 (m + (cntL cnPos (l.take j) : Nat)) ∧ i = .int .i64 j ∧ Below w.heap.size w wr)
  case atStart => exact ⟨0, by omega, by simp [cntL], rfl, Below.refl _ _⟩
  case round =>
    obtain ⟨j, hj, rfl, rfl, hb⟩ := hrel
    have HB := Lib.hid hb
    obtain ⟨q, hq⟩ : ∃ q : Int, m + (cntL cnPos (l.take j) : Nat) = q := ⟨_, rfl⟩
    have hq0 : 0 ≤ q := by omega
    have HQ := Lib.hid hq
    rw [hq]
    by_cases hlt : j < len
    · have hlt2 : (j : Int) < (len : Int) := by omega
      have h02 : (0 : Int) ≤ (j : Int) := by omega
      obtain ⟨b, off, x', f, cs, rfl, hbl, hx', hcl, hR, hc⟩ := HR.out.at hlt
      obtain ⟨x, hx⟩ : ∃ x, l[j]? = some x := ⟨_, List.getElem?_eq_getElem (by rw [HL.out]; exact hlt)⟩
      rw [markL_at mkPos cnPos l m hx, HQ.out] at hx'
      obtain rfl : mkPos q x = x' := Option.some.inj hx'
      obtain ⟨rfl, rfl⟩ := hR
      have c0 : wr.cell? ⟨b, off + j * 2, none⟩ = some (.int .i64 q) := by have := (hb.cell (p := ⟨b, off + j * 2 + 0, none⟩) hbl).trans (hc 0 (by omega)); simpa [mkPos, Pos.list] using this
      have c1 : wr.cell? ⟨b, off + j * 2 + 1, none⟩ = some (.int .i64 (q + 1)) := by have := (hb.cell (p := ⟨b, off + j * 2 + 1, none⟩) hbl).trans (hc 1 (by omega)); simpa [mkPos, Pos.list] using this
      have hq1 : q + 2 ≤ 1099511627776 := by have h1 := cntL_take_succ cnPos l hx; have h2 := cntL_take_le cnPos l (j + 1); have h3 := HM.out; have h4 : cnPos x = 2 := rfl; omega
      have HX := Lib.hid hx
      clear hx hx' hb hc hq hcl
      go_wp2_with fail
      go_roundg (len - (j + 1))
      case measure => omega
      case rel =>
        refine ⟨j + 1, by omega, ?_, by go_num, HB.out⟩
        rw [cntL_take_succ cnPos l HX.out, ← HQ.out, show cnPos x = 2 from rfl]
        apply congrArg (Value.int IntKind.i64)
        omega
    · obtain rfl : j = len := by omega
      clear hb hq
      go_wp2_with fail
      go_ret
      exact ⟨ret_int (by rw [← HQ.out, cntL_all _ _ (by rw [HL.out]; omega)]), HB.out⟩

end Go.Proofs.YtdipkbgfkbmfnaaGreatDoor.dat
