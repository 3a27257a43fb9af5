/-
  THE CONTRACT OF PaneAt of the model, at any numbers.
-/
import Derived.Test.YtoglclmaacjdaaaPaneAt
namespace Go.Proofs.Ytoglclmaacjdaaa.dat
open Go.RowKit Go.Proofs.Ytoglclmaacjdaaa.win

set_option maxRecDepth 100000 in
set_option maxHeartbeats 4000000 in
theorem spec_PaneAtF (a : Option Addr) (len cap : Nat) (l : List PaneD) (fp : List Nat) (win mask start : Int) (a' : Option Addr) (n c : Nat) (key : List Int) (fk : List Nat) (w : World) (hrow : GRow 8 RPane w a len l fp) (_ : len ≤ cap) (_ : cap ≤ 9223372036854775807)
    (hkey : GRow 1 RInt w a' n key fk) (_ : n ≤ c) (_ : c ≤ 9223372036854775807) (zl : szL Pane.sz l ≤ 2000000) (zk : key.length ≤ 2000000) :
    Calls Try.prog 85 #[.slice a len cap, .int .i64 win, .int .i64 mask, .int .i64 start, .slice a' n c] w fun e w' => e = .returned (.int .i64 (placeOf (fourB win mask start key) l)) ∧ Below w.heap.size w w' := by
  have hsz : l.length ≤ 2000000 := by unfold szL at zl; omega
  have hlm : len ≤ 2000000 := by rw [← hrow.1]; exact hsz
  have hnm : Hid (n ≤ 2000000) := by show n ≤ 2000000; rw [← hkey.1]; exact zk
  have HC := Lib.hid hrow
  have HK := Lib.hid hkey
  have HM := Lib.hid zl
  clear hrow hkey zl zk hsz
  go_enter Try.func85, Try.ntmps85
  go_wp2_with fail
  go_loopg [11] len (fun r i wr => ∃ j : Nat, j + r = len ∧ i = .int .i64 j ∧ Below w.heap.size w wr ∧ ∀ i y', i < j → l[i]? = some y' → fourB win mask start key y' = false)
  case atStart => exact ⟨0, by omega, rfl, Below.refl _ _, fun i _ hi => by omega⟩
  case round =>
    obtain ⟨j, hj, rfl, hb, hno⟩ := hrel
    have HB := Lib.hid hb
    have HN := Lib.hid hno
    clear hno
    by_cases hlt : j < len
    case neg =>
      clear hb
      obtain rfl : j = len := by omega
      go_wp2_with fail
      go_ret
      exact ⟨ret_int (place_none HN.out HC.out.1).symm, HB.out⟩
    have hlt2 : (j : Int) < (len : Int) := by omega
    have h02 : (0 : Int) ≤ (j : Int) := by omega
    obtain ⟨b, off, x, f, cs, rfl, hbl, hx, hcl, hR, hc⟩ := HC.out.at hlt
    obtain ⟨h, rfl, hi⟩ := hR
    have c0 := (hb.cell (p := ⟨b, off + j * 8 + 0, none⟩) hbl).trans (hc 0 (by omega))
    have c1 := (hb.cell (p := ⟨b, off + j * 8 + 1, none⟩) hbl).trans (hc 1 (by omega))
    have c2 := (hb.cell (p := ⟨b, off + j * 8 + 2, none⟩) hbl).trans (hc 2 (by omega))
    have c3 := (hb.cell (p := ⟨b, off + j * 8 + 3, none⟩) hbl).trans (hc 3 (by omega))
    simp [Pane.list] at c0 c1 c2 c3
    have HI := Lib.hid (hi.below hb)
    have HX := Lib.hid hx
    have HZ := Lib.hid (show Pane.sz x ≤ 2000000 by have := sz_elem_le Pane.sz l HX.out; have := HM.out; unfold szL at this; omega)
    clear hb hc hx hi
    cases p1 : (x.win == win) with
    | false =>
      have HP := Lib.hid (no_succ (m := fourB win mask start key) HN.out HX.out (by unfold fourB; rw [p1]; rfl))
      go_wp2_with fail
      go_roundg (len - (j + 1))
      case measure => omega
      case rel => exact ⟨j + 1, by omega, by go_num, HB.out, HP.out⟩
    | true =>
    have P1 := Lib.hid p1
    cases p2 : (x.mask == mask) with
    | false =>
      have HP := Lib.hid (no_succ (m := fourB win mask start key) HN.out HX.out (by unfold fourB; rw [p2]; simp))
      go_wp2_with fail
      go_roundg (len - (j + 1))
      case measure => omega
      case rel => exact ⟨j + 1, by omega, by go_num, HB.out, HP.out⟩
    | true =>
    have P2 := Lib.hid p2
    cases p3 : (x.start == start) with
    | false =>
      have HP := Lib.hid (no_succ (m := fourB win mask start key) HN.out HX.out (by unfold fourB; rw [p3]; simp))
      go_wp2_with fail
      go_roundg (len - (j + 1))
      case measure => omega
      case rel => exact ⟨j + 1, by omega, by go_num, HB.out, HP.out⟩
    | true =>
    have P3 := Lib.hid p3
    go_wp2_with fail
    obtain ⟨f0, hf0, r0, u0, v0⟩ := HI.out
    have zx : h.keyl ≤ 2000000 := by rw [← r0.1]; exact HZ.out
    refine (l01Same _ _ _ _ _ _ _ _ _ _ _ zx hnm.out r0 (HK.out.below local_int HB.out)).mono ?_
    rintro e w3 ⟨rfl, hb3⟩
    have HB3 := Lib.hid (show Below w.heap.size w w3 from HB.out.trans (hb3.mono HB.out.size))
    clear hb3 c0 c1 c2 c3 p1 p2 p3 r0 u0 v0 hf0 zx
    cases hp : decide (x.key = key) with
    | false =>
      have HP := Lib.hid (no_succ (m := fourB win mask start key) HN.out HX.out (by unfold fourB; rw [hp]; simp))
      clear hp
      go_wp2_with fail
      go_roundg (len - (j + 1))
      case measure => omega
      case rel => exact ⟨j + 1, by omega, by go_num, HB3.out, HP.out⟩
    | true =>
      have HP := Lib.hid (place_found (m := fourB win mask start key) HN.out HX.out (by unfold fourB; rw [P1.out, P2.out, P3.out, hp]; rfl))
      clear hp
      go_wp2_with fail
      go_ret
      exact ⟨ret_int HP.out.symm, HB3.out⟩
end Go.Proofs.Ytoglclmaacjdaaa.dat
