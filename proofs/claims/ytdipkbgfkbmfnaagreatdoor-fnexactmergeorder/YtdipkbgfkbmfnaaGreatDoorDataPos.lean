/-
  DATA: Pos, []Pos: the notions; THE CONTRACTS OF the laws' own functions (copies, sizes, equality) over them. Written by tools/gendata.py.
-/
import Derived.Test.YtdipkbgfkbmfnaaGreatDoorDataEvents
namespace Go.Proofs.YtdipkbgfkbmfnaaGreatDoor.dat
open Go.RowKit Go.Proofs.YtdipkbgfkbmfnaaGreatDoor.win
set_option linter.unusedVariables false

def Pos.list (x : Int × Int) : List Value := [.int .i64 x.1, .int .i64 x.2]
def RPos : Rel (Int × Int) := fun _ cs x fp => cs = Pos.list x ∧ fp = []
theorem local_Pos : Local RPos := ⟨fun h _ => h, fun h b hb => by rw [h.2] at hb; simp at hb⟩

set_option maxRecDepth 100000 in
set_option maxHeartbeats 2000000 in
theorem eq_Pos (x : Int × Int) (w : World) : Calls Tryz.prog 41 #[.agg (Pos.list x).toArray, .agg (Pos.list x).toArray] w fun e w' => e = .returned (.bool true) ∧ Below w.heap.size w w' := by
  simp only [Pos.list]
  go_enter Tryz.func41, Tryz.ntmps41
  go_wp2_with fail
  go_ret
  exact ⟨rfl, by repeat (first | exact Below.refl _ _ | (refine Below.alloc ?_ (by simp; try omega) _))⟩

set_option maxRecDepth 100000 in
set_option maxHeartbeats 1000000 in
theorem eq_PosS (a a' : Option Addr) (len cap cap' : Nat) (l : List (Int × Int)) (fp fp' : List Nat) (w : World) (hmax : l.length ≤ 2000000) (hrow : GRow 2 RPos w a len l fp) (hrow' : GRow 2 RPos w a' len l fp') :
    Calls Tryz.prog 13 #[.slice a len cap, .slice a' len cap'] w fun e w' => e = .returned (.bool true) ∧ Below w.heap.size w w' := by
  have hsz := hmax
  have hlm : len ≤ 2000000 := by rw [← hrow.1]; exact hsz
  have HC := Lib.hid hrow
  have HC' := Lib.hid hrow'
  have HM := Lib.hid hmax
  clear hrow hrow' hmax hsz
  go_enter Tryz.func13, Tryz.ntmps13
  go_wp2_with fail
  go_loopg [5] len (fun k i wr => ∃ j : Nat, j + k = len ∧ i = .int .i64 j ∧ Below w.heap.size w wr)
  case atStart => exact ⟨0, by omega, rfl, Below.refl _ _⟩
  case round =>
    obtain ⟨j, hj, rfl, hb⟩ := hrel
    have HB := Lib.hid hb
    by_cases hlt : j < len
    · have hlt2 : (j : Int) < (len : Int) := by omega
      have h02 : (0 : Int) ≤ (j : Int) := by omega
      obtain ⟨b, off, x, f, cs, rfl, hbl, hx, hcl, hR, hc⟩ := HC.out.at hlt
      obtain ⟨b', off', x', f', cs', rfl, hbl', hx', hcl', hR', hc'⟩ := HC'.out.at hlt
      obtain rfl : x = x' := by rw [hx] at hx'; exact Option.some.inj hx'
      obtain ⟨rfl, rfl⟩ := hR
      obtain ⟨rfl, rfl⟩ := hR'
      have c0 : wr.cell? ⟨b, off + j * 2, none⟩ = some (.int .i64 x.1) := by have := (hb.cell (p := ⟨b, off + j * 2 + 0, none⟩) hbl).trans (hc 0 (by omega)); simpa [Pos.list] using this
      have c1 : wr.cell? ⟨b, off + j * 2 + 1, none⟩ = some (.int .i64 x.2) := by have := (hb.cell (p := ⟨b, off + j * 2 + 1, none⟩) hbl).trans (hc 1 (by omega)); simpa [Pos.list] using this
      have c0' : wr.cell? ⟨b', off' + j * 2, none⟩ = some (.int .i64 x.1) := by have := (hb.cell (p := ⟨b', off' + j * 2 + 0, none⟩) hbl').trans (hc' 0 (by omega)); simpa [Pos.list] using this
      have c1' : wr.cell? ⟨b', off' + j * 2 + 1, none⟩ = some (.int .i64 x.2) := by have := (hb.cell (p := ⟨b', off' + j * 2 + 1, none⟩) hbl').trans (hc' 1 (by omega)); simpa [Pos.list] using this
      clear hb hc hc' hx hx'
      go_wp2_with fail
      go_still_tail 8, (by kernel_rfl)
      change wpList _ _ _ _ _ wr.drew
      have HB2 := Lib.hid (HB.out.drew)
      generalize wr.drew = wd at *
      go_wp2_with fail
      refine (eq_Pos x _).mono ?_
      rintro e w3 ⟨rfl, hb3⟩
      have HB3 := Lib.hid (HB2.out.trans (hb3.mono HB2.out.size))
      clear hb3
      go_wp2_with fail
      go_roundg (len - (j + 1))
      case measure => omega
      case rel => exact ⟨j + 1, by omega, by go_num, HB3.out⟩
    · clear hb
      go_wp2_with fail
      go_ret
      exact ⟨rfl, HB.out⟩

end Go.Proofs.YtdipkbgfkbmfnaaGreatDoor.dat
