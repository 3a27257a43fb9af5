/-
  JOINED BY tools/join.py: CurBase, LawsPick, CurTime, CurWin, CurConf, CurAny, CurLogs, CurMerge, MergedMath, EnvLaid, MergedLaw.
-/
import Derived.Test.YtdipkbgfkbmfnaaGreatDoorCur2
import Derived.Test.YtdipkbgfkbmfnaaGreatDoorIntRows
import Derived.Deep.DeepCutAuto
import Derived.Deep.RegionWith
import Derived.Deep.RegionHeld3
import Derived.Test.YtdipkbgfkbmfnaaGreatDoorDataEvents
import Derived.Test.YtdipkbgfkbmfnaaGreatDoorGrow
import Derived.Test.YtdipkbgfkbmfnaaGreatDoorGrow2
import Derived.Test.YtdipkbgfkbmfnaaGreatDoorFree
import Derived.Test.YtdipkbgfkbmfnaaGreatDoorMixTail
import Derived.Test.YtdipkbgfkbmfnaaGreatDoorFreeTail
import Derived.Test.YtdipkbgfkbmfnaaGreatDoorEventText
import Derived.Test.YtdipkbgfkbmfnaaGreatDoorMixOrd
import Derived.Test.YtdipkbgfkbmfnaaGreatDoorMarkAtAll
import Derived.Test.YtdipkbgfkbmfnaaGreatDoorNumRead
import Derived.Stop.LaidErr
import Derived.LaidLaws
import Derived.Test.YtdipkbgfkbmfnaaGreatDoorLogsOk

/-
  THE DRAWS' GROUND: a code as an argument, big, l01Open; two cells of the call's own.
  Condition: the code is a slice of bytes, at most 2,000,000 of them.
-/
namespace Go.Proofs.YtdipkbgfkbmfnaaGreatDoor.cur
open Go.RowKit

/-- As Curs.below, over any bound above the cursor's block. -/
theorem Curs.belowB {g B : Nat} {a : Option Addr} {len cap m : Nat} {w w' : World} (h : Curs g a len cap m w) (hb : Below B w w') (hg : g < B) : Curs g a len cap m w' := by
  obtain ⟨pos, seed, h1, h2, h3, h4, h5, h6, c0, c1, c2, hf, hB⟩ := h
  refine ⟨pos, seed, h1, h2, h3, h4, Nat.lt_of_lt_of_le h5 hb.size, h6, (hb.cell (p := ⟨g, 0, none⟩) hg).trans c0, (hb.cell (p := ⟨g, 1, none⟩) hg).trans c1, (hb.cell (p := ⟨g, 2, none⟩) hg).trans c2, fun j => (hb.frozen (p := ⟨g, j, none⟩) hg).trans (hf j), fun h0 => ?_⟩
  obtain ⟨b, off, e, k1, k2, k3⟩ := hB h0
  refine ⟨b, off, e, k1, Nat.lt_of_lt_of_le k2 hb.size, fun i hi => ?_⟩
  obtain ⟨v, v0, v1, hc⟩ := k3 i hi
  exact ⟨v, v0, v1, (hb.cell (p := ⟨b, off + i, none⟩) (by show b < B; omega)).trans hc⟩

theorem Curs.lt {g : Nat} {a : Option Addr} {len cap m : Nat} {w : World} (h : Curs g a len cap m w) : g < w.heap.size := by
  obtain ⟨pos, seed, h1, h2, h3, h4, h5, -⟩ := h; exact h5

theorem Only.then_below {g B : Nat} {a b c : World} (h : Only g a b) (hb : Below B b c) (hB : a.heap.size ≤ B) : Only g a c :=
  ⟨hb.os.trans h.os, hb.tape.trans h.tape, hb.output.trans h.output, Nat.le_trans h.size hb.size, fun k hk hn => (hb.block k (by omega)).trans (h.block k hk hn)⟩

theorem cell_lt {w : World} {b o : Nat} {v : Value} (h : w.cell? ⟨b, o, none⟩ = some v) : b < w.heap.size := by
  apply Classical.byContradiction
  intro hn
  have : w.heap[b]? = none := by simp; omega
  simp [World.cell?, this] at h

/-- A slice of numbers as a row's reading finds it: nil, or a row of 'cap' cells of which the first 'len' are its elements. -/
def IsRow (k : IntKind) (w : World) (a : Option Addr) (len cap : Nat) (zs : List Int) : Prop :=
  (a = none ∧ len = 0 ∧ cap = 0 ∧ zs = []) ∨
  ∃ x, a = some x ∧ len ≤ cap ∧ cap ≤ maxLen ∧ zs.length = cap ∧ (∀ i, i < zs.length → w.cell? (x.add i) = some (.int k (zs.getD i 0))) ∧ ∀ n ∈ zs, (Lit.int k n).wf = true

/-- A code as an argument: a slice value whose elements are bytes. -/
def Code (w : World) (a : Option Addr) (len : Nat) : Prop :=
  0 < len → ∃ b off, a = some ⟨b, off, none⟩ ∧ b < w.heap.size ∧ ∀ i, i < len → ∃ v : Int, 0 ≤ v ∧ v ≤ 255 ∧ w.cell? ⟨b, off + i, none⟩ = some (.int .u8 v)

theorem Code.below {w w' : World} {a : Option Addr} {len : Nat} (h : Code w a len) (hb : Below w.heap.size w w') : Code w' a len := fun h0 => by
  obtain ⟨b, off, e, h1, h2⟩ := h h0
  refine ⟨b, off, e, Nat.lt_of_lt_of_le h1 hb.size, fun i hi => ?_⟩
  obtain ⟨v, v0, v1, hc⟩ := h2 i hi
  exact ⟨v, v0, v1, (hb.cell (p := ⟨b, off + i, none⟩) h1).trans hc⟩

theorem code_of_row {w : World} {a : Option Addr} {len cap : Nat} {zs : List Int} (h : IsRow .u8 w a len cap zs) : Code w a len := by
  rcases h with ⟨rfl, rfl, rfl, rfl⟩ | ⟨x, rfl, hl, hm, hz, hc, hw⟩
  · exact fun h0 => absurd h0 (by omega)
  · intro h0
    obtain ⟨b, off, spot⟩ := x
    have h1 := hc 0 (by omega)
    have hspot : spot = none := by simpa [Addr.add] using World.cell?_spot h1
    subst hspot
    have hb : b < w.heap.size := by
      have h2 : w.cell? ⟨b, off, none⟩ = some (.int .u8 (zs.getD 0 0)) := by simpa [Addr.add] using h1
      exact cell_lt h2
    refine ⟨b, off, rfl, hb, fun i hi => ?_⟩
    have h2 := hc i (by omega)
    have e : (⟨b, off, none⟩ : Addr).add i = ⟨b, off + i, none⟩ := by
      by_cases h0 : i = 0
      · subst h0; rfl
      · simp [Addr.add, h0]
    rw [e] at h2
    have hwf := hw (zs.getD i 0) (by rw [List.getD_eq_getElem?_getD, List.getElem?_eq_getElem (by omega)]; simp)
    have hbd : 0 ≤ zs.getD i 0 ∧ zs.getD i 0 ≤ 255 := by simpa [Lit.wf, IntKind.min, IntKind.max, IntKind.signed, IntKind.bits] using hwf
    exact ⟨_, hbd.1, hbd.2, h2⟩

set_option maxRecDepth 100000 in
set_option maxHeartbeats 400000 in
theorem big_yes (a : Option Addr) (len cap : Nat) (w : World) (h : 1048576 < len) : Calls Tryz.prog 27 #[.slice a len cap] w fun e w' => e = .returned (.bool true) ∧ w = w' := by
  have hd : decide ((1048576 : Int) < (len : Int)) = true := by simp; omega
  go_enter Tryz.func27, Tryz.ntmps27
  go_wp2
  go_ret
  exact ⟨rfl, rfl⟩

set_option maxRecDepth 100000 in
set_option maxHeartbeats 400000 in
theorem big_no (a : Option Addr) (len cap : Nat) (w : World) (h : ¬ 1048576 < len) : Calls Tryz.prog 27 #[.slice a len cap] w fun e w' => e = .returned (.bool false) ∧ w = w' := by
  have hd : decide ((1048576 : Int) < (len : Int)) = false := by simp; omega
  go_enter Tryz.func27, Tryz.ntmps27
  go_wp2
  go_ret
  exact ⟨rfl, rfl⟩

set_option maxRecDepth 100000 in
set_option maxHeartbeats 400000 in
theorem l01Open_any (a : Option Addr) (len cap : Nat) (w : World) (hle : len ≤ 2000000) :
    Calls Tryz.prog 50 #[.slice a len cap] w fun e w' => e = .returned (.pointer (some ⟨w.heap.size, 0, none⟩)) ∧ w.alloc (.cells #[.slice a len cap, .int .i64 0, .int .i64 (71 + (len : Int) % 1000)] 107) = w' := by
  go_enter Tryz.func50, Tryz.ntmps50
  go_wp2
  go_ret
  exact ⟨rfl, rfl⟩

theorem curs_open {a : Option Addr} {len cap : Nat} {w : World} (hle : len ≤ 2000000) (hc : Code w a len) :
    Curs w.heap.size a len cap 0 (w.alloc (.cells #[.slice a len cap, .int .i64 0, .int .i64 (71 + (len : Int) % 1000)] 107)) := by
  refine ⟨0, 71 + (len : Int) % 1000, by omega, by omega, by omega, by omega, by simp, hle, by simp [go_sem], by simp [go_sem], by simp [go_sem], fun j => by simp [go_sem], fun h0 => ?_⟩
  obtain ⟨b, off, e, h1, h2⟩ := hc h0
  refine ⟨b, off, e, h1, by simp; omega, fun i hi => ?_⟩
  obtain ⟨v, v0, v1, hv⟩ := h2 i hi
  exact ⟨v, v0, v1, by rw [World.cell?_alloc_past _ _ _ h1]; exact hv⟩

/-- l01Open: a cursor that has been asked nothing, in new memory. -/
theorem l01Open_cur (a : Option Addr) (len cap : Nat) (w : World) (hle : len ≤ 2000000) (hc : Code w a len) :
    Calls Tryz.prog 50 #[.slice a len cap] w fun e w' => e = .returned (.pointer (some ⟨w.heap.size, 0, none⟩)) ∧ Curs w.heap.size a len cap 0 w' ∧ Below w.heap.size w w' :=
  (l01Open_any a len cap w hle).mono (by rintro e w' ⟨rfl, rfl⟩; exact ⟨rfl, curs_open hle hc, (Below.refl _ _).alloc (Nat.le_refl _) _⟩)

/-- A block's first two cells hold two numbers and may be written. -/
def Own2 (w : World) (g : Nat) (z l : Int) : Prop := (w.cell? ⟨g, 0, none⟩ = some (.int .i64 z) ∧ w.cell? ⟨g, 1, none⟩ = some (.int .i64 l)) ∧ ∀ j, w.frozen? ⟨g, j, none⟩ = false
theorem Own2.below {B : Nat} {w w' : World} {g : Nat} {z l : Int} (h : Own2 w g z l) (hb : Below B w w') (hg : g < B) : Own2 w' g z l :=
  ⟨⟨(hb.cell (p := ⟨g, 0, none⟩) hg).trans h.1.1, (hb.cell (p := ⟨g, 1, none⟩) hg).trans h.1.2⟩, fun j => (hb.frozen (p := ⟨g, j, none⟩) hg).trans (h.2 j)⟩
theorem Own2.only {g k : Nat} {w w' : World} {z l : Int} (h : Own2 w k z l) (ho : Only g w w') (hk : k < w.heap.size) (hn : k ≠ g) : Own2 w' k z l :=
  ⟨⟨(ho.cell hk hn).trans h.1.1, (ho.cell hk hn).trans h.1.2⟩, fun j => (ho.frozen hk hn).trans (h.2 j)⟩
theorem own2_alloc (w : World) (z l : Int) (t : TypeId) : Own2 (w.alloc (.cells #[.int .i64 z, .int .i64 l] t)) w.heap.size z l :=
  ⟨⟨by simp [go_sem], by simp [go_sem]⟩, fun j => by simp [go_sem]⟩
theorem own2_set0 {w : World} {x : Nat} {z l : Int} (e : Int) (h : Own2 w x z l) : Own2 (w.setCell ⟨x, 0, none⟩ (.int .i64 e)) x e l := by
  obtain ⟨⟨h0, h1⟩, hf⟩ := h
  exact ⟨⟨by simp [go_sem, h0], by simp [go_sem, h1]⟩, fun j => by rw [World.frozen?_setCell]; exact hf j⟩
theorem own2_set1 {w : World} {x : Nat} {z l : Int} (e : Int) (h : Own2 w x z l) : Own2 (w.setCell ⟨x, 1, none⟩ (.int .i64 e)) x z e := by
  obtain ⟨⟨h0, h1⟩, hf⟩ := h
  exact ⟨⟨by simp [go_sem, h0], by simp [go_sem, h1]⟩, fun j => by rw [World.frozen?_setCell]; exact hf j⟩
theorem below_set {w : World} {x o : Nat} (v : Value) : Below x w (w.setCell ⟨x, o, none⟩ v) := Below.setCell (p := ⟨x, o, none⟩) (Below.refl x w) (Nat.le_refl x) v
end Go.Proofs.YtdipkbgfkbmfnaaGreatDoor.cur

/-
  THE CONTRACTS OF pick AND same OF THE LAWS: a number within its range; two slices of the same numbers are the same.
  Condition: the code is a slice of bytes, at most 2,000,000 of them; the slices' elements are the numbers of a list, at most 2,000,000.
-/
namespace Go.Proofs.YtdipkbgfkbmfnaaGreatDoor.win
open Go.RowKit


theorem big_any (a : Option Addr) (len cap : Nat) (t : Bool) (w : World) (ht : decide (1048576 < len) = t) : Calls Tryz.prog 27 #[.slice a len cap] w fun e w' => e = .returned (.bool t) ∧ w = w' := by
  by_cases h : 1048576 < len
  · have : t = true := by rw [← ht]; simp [h]
    subst this; exact cur.big_yes a len cap w h
  · have : t = false := by rw [← ht]; simp; omega
    subst this; exact cur.big_no a len cap w h

set_option maxRecDepth 100000 in
set_option maxHeartbeats 400000 in
theorem same_same (a a' : Option Addr) (len cap cap' : Nat) (l : List Int) (w : World) (hmax : len ≤ 2000000) (hrow : Row w a len l) (hrow' : Row w a' len l) :
    Calls Tryz.prog 30 #[.slice a len cap, .slice a' len cap'] w fun e w' => e = .returned (.bool true) ∧ Below w.heap.size w w' := by
  have HC := Lib.hid hrow.2
  have HC' := Lib.hid hrow'.2
  clear hrow hrow'
  go_enter Tryz.func30, Tryz.ntmps30
  go_wp2_with fail
  go_loopg [5] len (fun k i wr => ∃ j : Nat, j + k = len ∧ i = .int .i64 j ∧ Below w.heap.size w wr)
  case atStart => exact ⟨0, by omega, rfl, Below.refl _ _⟩
  case round =>
    obtain ⟨j, hj, rfl, hb⟩ := hrel
    by_cases hlt : j < len
    · obtain ⟨b, off, rfl, hbl, hc⟩ := HC.out (by omega)
      obtain ⟨b', off', rfl, hbl', hc'⟩ := HC'.out (by omega)
      obtain ⟨v, hveq⟩ : ∃ v, l.getD j 0 = v := ⟨_, rfl⟩
      have hcell : wr.cell? ⟨b, off + j, none⟩ = some (.int .i64 v) := by
        rw [hb.cell (p := ⟨b, off + j, none⟩) hbl, ← hveq]
        exact hc j hlt
      have hcell' : wr.cell? ⟨b', off' + j, none⟩ = some (.int .i64 v) := by
        rw [hb.cell (p := ⟨b', off' + j, none⟩) hbl', ← hveq]
        exact hc' j hlt
      have hlt2 : (j : Int) < (len : Int) := by omega
      have h02 : (0 : Int) ≤ (j : Int) := by omega
      have HB := Lib.hid hb
      clear hb hveq hc hc' HC HC'
      go_wp2_with fail
      go_quiet (fail)
      go_wp2_with fail
      go_roundg (len - (j + 1))
      case measure => omega
      case rel => exact ⟨j + 1, by omega, by go_num, below_drewN HB.out _⟩
    · have HB := Lib.hid hb
      clear hb
      go_wp2_with fail
      go_ret
      exact ⟨rfl, HB.out⟩

end Go.Proofs.YtdipkbgfkbmfnaaGreatDoor.win

/-
  THE DRAWS: the contract of time: it answers a number, and writes nothing but the cursor and new memory.
  Condition: the cursor is one, and has been asked fewer than 2^38 times.
-/
namespace Go.Proofs.YtdipkbgfkbmfnaaGreatDoor.cur
open Go.RowKit

theorem lt16 {r : Int} (h0 : 0 ≤ r) (h1 : r < 16 ∨ r = 0) : r = 0 ∨ r = 1 ∨ r = 2 ∨ r = 3 ∨ r = 4 ∨ r = 5 ∨ r = 6 ∨ r = 7 ∨ r = 8 ∨ r = 9 ∨ r = 10 ∨ r = 11 ∨ r = 12 ∨ r = 13 ∨ r = 14 ∨ r = 15 := by omega

/-- One of sixteen moments, by its place. -/
def selT (r : Int) : Int := if r = 0 then 0 else if r = 1 then 1 else if r = 2 then 9 else if r = 3 then 10 else if r = 4 then 11 else if r = 5 then 19 else if r = 6 then 20 else if r = 7 then 35 else if r = 8 then 60 else if r = 9 then 61 else if r = 10 then 119 else if r = 11 then (-1) else if r = 12 then (-10) else if r = 13 then (-11) else if r = 14 then 100 else 7

theorem selT_arr (r : Int) (h0 : 0 ≤ r) (h1 : r < 16) : (#[.int .i64 0, .int .i64 1, .int .i64 9, .int .i64 10, .int .i64 11, .int .i64 19, .int .i64 20, .int .i64 35, .int .i64 60, .int .i64 61, .int .i64 119, .int .i64 (-1), .int .i64 (-10), .int .i64 (-11), .int .i64 100, .int .i64 7] : Array Value)[r.toNat]? = some (.int .i64 (selT r)) := by
  rcases lt16 h0 (.inl h1) with rfl | rfl | rfl | rfl | rfl | rfl | rfl | rfl | rfl | rfl | rfl | rfl | rfl | rfl | rfl | rfl <;> simp [selT]
theorem selT_cell (w : World) (t : TypeId) (r : Int) (h0 : 0 ≤ r) (h1 : r < 16) : (w.alloc (.cells #[.int .i64 0, .int .i64 1, .int .i64 9, .int .i64 10, .int .i64 11, .int .i64 19, .int .i64 20, .int .i64 35, .int .i64 60, .int .i64 61, .int .i64 119, .int .i64 (-1), .int .i64 (-10), .int .i64 (-11), .int .i64 100, .int .i64 7] t)).cell? ⟨w.heap.size, r.toNat, none⟩ = some (.int .i64 (selT r)) := by
  rcases lt16 h0 (.inl h1) with rfl | rfl | rfl | rfl | rfl | rfl | rfl | rfl | rfl | rfl | rfl | rfl | rfl | rfl | rfl | rfl <;> simp [go_sem, selT]
theorem selT_bd (r : Int) : -11 ≤ selT r ∧ selT r ≤ 119 := by
  unfold selT; repeat' split
  all_goals omega

end Go.Proofs.YtdipkbgfkbmfnaaGreatDoor.cur

/-
  THE DRAWS: the contract of win: it answers some two numbers, and writes nothing but the cursor and new memory.
  Condition: the cursor is one, and has been asked fewer than 2^38 times.
-/
namespace Go.Proofs.YtdipkbgfkbmfnaaGreatDoor.cur
open Go.RowKit

/-- What the drawing of a kind of windows leaves on its way: the two numbers in block x. -/
def WinAt (w : World) (g : Nat) (a : Option Addr) (len cap m x : Nat) (wx : World) : Prop :=
  ∃ z l : Int, Own2 wx x z l ∧ Own2 wx w.heap.size 0 0 ∧ Curs g a len cap m wx ∧ Only g w wx

theorem WinAt.only {w wx wy : World} {g : Nat} {a : Option Addr} {len cap m m' x : Nat} (h : WinAt w g a len cap m x wx) (ho : Only g wx wy) (hc : Curs g a len cap m' wy) (hx : x ≠ g) (hw : w.heap.size ≠ g) : WinAt w g a len cap m' x wy := by
  obtain ⟨z, l, h1, h2, h3, h4⟩ := h
  exact ⟨z, l, h1.only ho (cell_lt h1.1.1) hx, h2.only ho (cell_lt h2.1.1) hw, hc, h4.trans ho⟩

set_option maxRecDepth 100000 in
set_option maxHeartbeats 1000000 in
theorem win_any (g : Nat) (a : Option Addr) (len cap m : Nat) (w : World) (hm : m ≤ 274877906944) (hc : Curs g a len cap m w) :
    Calls Tryz.prog 75 #[.pointer (some ⟨g, 0, none⟩)] w (fun e w' => ∃ z l : Int, e = .returned (.agg #[.int .i64 z, .int .i64 l]) ∧ Curs g a len cap (m + 8) w' ∧ Only g w w') := by
  have hg := hc.lt
  have H := Lib.hid hc
  clear hc
  go_enter Tryz.func75, Tryz.ntmps75
  go_wp2_with fail
  have H0 := Lib.hid (H.out.belowB (B := w.heap.size) (w' := ((w.alloc (.cells #[.int .i64 0, .int .i64 0] 88)).alloc (.cells #[.int .i64 10, .int .i64 10, .int .i64 60, .int .i64 60, .int .i64 20, .int .i64 10, .int .i64 60, .int .i64 20, .int .i64 5, .int .i64 5, .int .i64 120, .int .i64 10, .int .i64 1, .int .i64 1, .int .i64 3600, .int .i64 3600] 88))) (by repeat (first | exact Below.refl _ _ | refine Below.setCell ?_ (by first | omega | (simp; done) | (simp; omega)) _ | refine Below.alloc ?_ (by first | omega | (simp; done) | (simp; omega)) _ | apply Below.drew)) hg)
  refine (pick_any g a len cap m _ _ (by omega) H0.out).mono ?_
  rintro e w1 ⟨r, rfl, r0, r1, hc1, ho1⟩
  have H1 := Lib.hid hc1
  have HO1 := Lib.hid (Only.trans (b := ((w.alloc (.cells #[.int .i64 0, .int .i64 0] 88)).alloc (.cells #[.int .i64 10, .int .i64 10, .int .i64 60, .int .i64 60, .int .i64 20, .int .i64 10, .int .i64 60, .int .i64 20, .int .i64 5, .int .i64 5, .int .i64 120, .int .i64 10, .int .i64 1, .int .i64 1, .int .i64 3600, .int .i64 3600] 88))) (((Only.refl g w).alloc _).alloc _) ho1)
  have hz0 : Own2 w1 w.heap.size 0 0 := ((own2_alloc w 0 0 88).below ((Below.refl (w.heap.size + 1) _).alloc (by simp) _) (by omega)).only ho1 (by simp; omega) (by omega)
  have hcell : ∃ z l : Int, w1.cell? ⟨w.heap.size + 1, r.toNat * 2, none⟩ = some (.int .i64 z) ∧ w1.cell? ⟨w.heap.size + 1, r.toNat * 2 + 1, none⟩ = some (.int .i64 l) := by
    rw [ho1.cell (b := w.heap.size + 1) (by simp) (by omega), ho1.cell (b := w.heap.size + 1) (by simp) (by omega)]
    rcases lt8 r0 r1 with rfl | rfl | rfl | rfl | rfl | rfl | rfl | rfl <;> exact ⟨_, _, by simp [go_sem]; rfl, by simp [go_sem]; rfl⟩
  obtain ⟨z, l, hz, hl⟩ := hcell
  have z1 : w.heap.size + 1 < w1.heap.size := Nat.lt_of_lt_of_le (by simp) ho1.size
  have r8 : r < 8 := by omega
  have HZ0 := Lib.hid hz0
  clear hc1 ho1 H0 r1 hz0 H
  go_wp2_with fail
  have hA : WinAt w g a len cap (m + 1) w1.heap.size (w1.alloc (.cells #[.int .i64 z, .int .i64 l] 88)) := by
    have hb : Below w1.heap.size w1 (w1.alloc (.cells #[.int .i64 z, .int .i64 l] 88)) := (Below.refl _ _).alloc (Nat.le_refl _) _
    exact ⟨z, l, own2_alloc w1 z l _, HZ0.out.below hb (by omega), H1.out.below hb, HO1.out.alloc _⟩
  have hC := hA
  obtain ⟨_, _, _, _, hC, _⟩ := hC
  refine (once_any g a len cap (m + 1) 16 _ (by omega) hC).mono ?_
  rintro e w2 ⟨t, rfl, hc2, ho2⟩
  have hx1 : w.heap.size + 1 < w1.heap.size := z1
  have hA2 := hA.only ho2 hc2 (by omega) (by omega)
  have HA2 := Lib.hid hA2
  clear hA hA2 hC hc2 ho2 H1 HO1 HZ0 hz hl z1
  generalize w1.heap.size = x at *
  go_upto_if 18 with fail
  go_cut [] (fun wx => WinAt w g a len cap (m + 1 + 1 + 2 + 1) x wx)
  case first =>
    cases t
    · go_wp2_with fail
      go_meet
      obtain ⟨z, l, h1, h2, h3, h4⟩ := HA2.out
      exact ⟨z, l, h1, h2, h3.more (by omega), h4⟩
    · go_wp2_with fail
      have hC2 : Curs g a len cap (m + 1 + 1) w2 := by obtain ⟨_, _, _, _, h, _⟩ := HA2.out; exact h
      refine (raw_any g a len cap (m + 1 + 1) _ (by omega) hC2).mono ?_
      rintro e w3 ⟨v, rfl, -, hc3, ho3⟩
      have HA3 := Lib.hid (HA2.out.only ho3 hc3 (by omega) (by omega))
      clear hC2 hc3 ho3 HA2
      go_wp2_with fail
      have hA3b : WinAt w g a len cap (m + 1 + 1 + 2) x (w3.alloc (.cells #[.int .i64 v, .int .i64 20000, .int .i64 20001] 3)) := by
        have hC3 : Curs g a len cap (m + 1 + 1 + 2) w3 := by obtain ⟨_, _, _, _, h, _⟩ := HA3.out; exact h
        exact HA3.out.only ((Only.refl g w3).alloc _) (hC3.below ((Below.refl _ _).alloc (Nat.le_refl _) _)) (by omega) (by omega)
      have hC3b : Curs g a len cap (m + 1 + 1 + 2) (w3.alloc (.cells #[.int .i64 v, .int .i64 20000, .int .i64 20001] 3)) := by obtain ⟨_, _, _, _, h, _⟩ := hA3b; exact h
      have hg3 : g < w3.heap.size := by
        obtain ⟨_, _, _, _, h, _⟩ := HA3.out; exact h.lt
      refine (pick_any g a len cap (m + 1 + 1 + 2) 3 _ (by omega) hC3b).mono ?_
      rintro e w4 ⟨k, rfl, k0, k1, hc4, ho4⟩
      have HA4 := Lib.hid (hA3b.only ho4 hc4 (by omega) (by omega))
      have hsel : ∃ u : Int, w4.cell? ⟨w3.heap.size, k.toNat, none⟩ = some (.int .i64 u) := by
        rw [ho4.cell (b := w3.heap.size) (by simp) (by omega)]
        have : k = 0 ∨ k = 1 ∨ k = 2 := by omega
        rcases this with rfl | rfl | rfl <;> exact ⟨_, by simp [go_sem]; rfl⟩
      obtain ⟨u, hu⟩ := hsel
      have k3 : k < 3 := by omega
      obtain ⟨z4, l4, ⟨⟨e0, e1⟩, ef⟩, hw4, hc4', ho4'⟩ := HA4.out
      have f0 := ef 0
      have HF := Lib.hid ef
      have HW := Lib.hid hw4
      have HC := Lib.hid hc4'
      have HO := Lib.hid ho4'
      clear hA3b hC3b hc4 ho4 HA3 HA4 ef hw4 hc4' ho4' k1
      go_wp2_with fail
      go_meet
      have hb : Below x w4 (w4.setCell ⟨x, 0, none⟩ (.int .i64 u)) := below_set _
      exact ⟨u, l4, own2_set0 u ⟨⟨e0, e1⟩, HF.out⟩, HW.out.below hb (by omega), HC.out.belowB hb (by omega), HO.out.then_below hb (by omega)⟩
  case rest =>
    generalize wc = w5 at *
    clear wc
    have HA5 := Lib.hid hcut
    have hC5 : Curs g a len cap (m + 1 + 1 + 2 + 1) w5 := by obtain ⟨_, _, _, _, h, _⟩ := hcut; exact h
    clear hcut HA2
    go_wp2_with fail
    refine (once_any g a len cap _ 16 _ (by omega) hC5).mono ?_
    rintro e w6 ⟨t', rfl, hc6, ho6⟩
    have HA6 := Lib.hid (HA5.out.only ho6 hc6 (by omega) (by omega))
    clear hc6 ho6 HA5 hC5
    go_upto_if 28 with fail
    go_cut [] (fun wx => WinAt w g a len cap (m + 8) x wx)
    case first =>
      cases t'
      · go_wp2_with fail
        go_meet
        obtain ⟨z, l, h1, h2, h3, h4⟩ := HA6.out
        exact ⟨z, l, h1, h2, h3.more (by omega), h4⟩
      · have hC6 : Curs g a len cap (m + 1 + 1 + 2 + 1 + 1) w6 := by obtain ⟨_, _, _, _, h, _⟩ := HA6.out; exact h
        go_wp2_with fail
        refine (raw_any g a len cap _ _ (by omega) hC6).mono ?_
        rintro e w7 ⟨v, rfl, -, hc7, ho7⟩
        have hA7 := HA6.out.only ho7 hc7 (by omega) (by omega)
        obtain ⟨z7, l7, ⟨⟨e0, e1⟩, ef⟩, hw7, hc7', ho7'⟩ := hA7
        have f1 := ef 1
        have HF := Lib.hid ef
        have HW := Lib.hid hw7
        have HC := Lib.hid hc7'
        have HO := Lib.hid ho7'
        clear hC6 hc7 ho7 HA6 ef hw7 hc7' ho7'
        go_wp2_with fail
        go_meet
        have hb : Below x w7 (w7.setCell ⟨x, 1, none⟩ (.int .i64 v)) := below_set _
        exact ⟨z7, v, own2_set1 v ⟨⟨e0, e1⟩, HF.out⟩, HW.out.below hb (by omega), HC.out.belowB hb (by omega), HO.out.then_below hb (by omega)⟩
    case rest =>
      generalize wc = w8 at *
      clear wc
      obtain ⟨z8, l8, ⟨⟨e0, e1⟩, ef⟩, ⟨⟨d0, d1⟩, df⟩, hc8, ho8⟩ := hcut
      have q0 := df 0
      have q1 := df 1
      have HC := Lib.hid hc8
      have HO := Lib.hid ho8
      clear ef df hc8 ho8 HA6
      go_wp2_with fail
      refine bodyPost_ret (v := .agg #[.int .i64 z8, .int .i64 l8]) (by simp [results, Tryz.results75, go_sem, d0, d1]) rfl ⟨z8, l8, rfl, ?_, ?_⟩
      · exact HC.out.belowB (B := w.heap.size) (by repeat (first | exact Below.refl _ _ | refine Below.setCell ?_ (by first | omega | (simp; done) | (simp; omega)) _ | refine Below.alloc ?_ (by first | omega | (simp; done) | (simp; omega)) _ | apply Below.drew)) hg
      · exact HO.out.then_below (B := w.heap.size) (by repeat (first | exact Below.refl _ _ | refine Below.setCell ?_ (by first | omega | (simp; done) | (simp; omega)) _ | refine Below.alloc ?_ (by first | omega | (simp; done) | (simp; omega)) _ | apply Below.drew)) (Nat.le_refl _)
end Go.Proofs.YtdipkbgfkbmfnaaGreatDoor.cur

/-
  THE DRAWS: the contract of config: it answers some Config, in memory of its own, and writes nothing but the cursor and new memory.
  Condition: the cursor is one, and has been asked fewer than 2^36 times.
-/
namespace Go.Proofs.YtdipkbgfkbmfnaaGreatDoor.cur
open Go.RowKit Go.Proofs.YtdipkbgfkbmfnaaGreatDoor.win Go.Proofs.YtdipkbgfkbmfnaaGreatDoor.dat

theorem _root_.Go.Proofs.YtdipkbgfkbmfnaaGreatDoor.win.Blk.belowB {B : Nat} {w w' : World} {b : Nat} {t : TypeId} {vs : List Value} (h : Blk w b t vs) (hb : Below B w w') (hB : b < B) : Blk w' b t vs := (hb.block b hB).trans h

/-- A block of four small numbers. -/
def Four (base : Nat) (w : World) (b : Nat) : Prop := base ≤ b ∧ ∃ p q r s : Int, Blk w b 3 [.int .i64 p, .int .i64 q, .int .i64 r, .int .i64 s]
/-- A Config's block without rows. -/
def Bare (base : Nat) (w : World) (x : Nat) : Prop := base ≤ x ∧ ∃ d dl lt : Int, 0 ≤ d ∧ d ≤ 2 ∧ Blk w x 33 [.int .i64 d, .slice none 0 0, .slice none 0 0, .int .i64 dl, .int .i64 lt]
def VC (g base : Nat) (i : Nat) (w : World) (v : Value) : Prop := match i with
  | 0 => v = .pointer (some ⟨g, 0, none⟩)
  | 1 => ∃ r : Int, v = .int .i64 r ∧ 0 ≤ r ∧ r ≤ 2
  | 2 => ∃ b, v = .slice (some ⟨b, 0, none⟩) 4 4 ∧ Four base w b
  | 3 => v = .pointer (some ⟨g, 0, none⟩)
  | 4 => ∃ r : Nat, v = .int .i64 (r : Int) ∧ r < 4
  | 5 => ∃ b r : Nat, v = .pointer (some ⟨b, r, none⟩) ∧ r < 4 ∧ Four base w b
  | 6 => ∃ r : Int, v = .int .i64 r
  | 7 => ∃ b, v = .slice (some ⟨b, 0, none⟩) 4 4 ∧ Four base w b
  | 8 => v = .pointer (some ⟨g, 0, none⟩)
  | 9 => ∃ r : Nat, v = .int .i64 (r : Int) ∧ r < 4
  | 10 => ∃ b r : Nat, v = .pointer (some ⟨b, r, none⟩) ∧ r < 4 ∧ Four base w b
  | 11 => ∃ r : Int, v = .int .i64 r
  | 12 => ∃ d dl lt : Int, v = .agg #[.int .i64 d, .slice none 0 0, .slice none 0 0, .int .i64 dl, .int .i64 lt] ∧ 0 ≤ d ∧ d ≤ 2
  | 13 => ∃ x, v = .pointer (some ⟨x, 0, none⟩) ∧ Bare base w x
  | _ => True
theorem VC.keep2 {g base : Nat} {w w' : World} (h4 : ∀ b, Four base w b → Four base w' b) (h5 : ∀ b, Bare base w b → Bare base w' b) (j : Nat) (u : Value) (hv : VC g base j w u) : VC g base j w' u := by
  unfold VC at *
  split at hv <;> first | exact hv | (obtain ⟨b, e, hf⟩ := hv; exact ⟨b, e, h4 _ hf⟩) | (obtain ⟨b, r, e, hr, hf⟩ := hv; exact ⟨b, r, e, hr, h4 _ hf⟩) | (obtain ⟨b, e, hf⟩ := hv; exact ⟨b, e, h5 _ hf⟩)
/-- What keeps the blocks from base on keeps all that. -/
theorem VC.keep {g base : Nat} {w w' : World} (h : ∀ b t vs, base ≤ b → Blk w b t vs → Blk w' b t vs) (j : Nat) (u : Value) (hv : VC g base j w u) : VC g base j w' u :=
  VC.keep2 (fun _ ⟨h0, p, q, r, s, hb⟩ => ⟨h0, p, q, r, s, h _ _ _ h0 hb⟩) (fun _ ⟨h0, p, q, r, s1, s2, hb⟩ => ⟨h0, p, q, r, s1, s2, h _ _ _ h0 hb⟩) j u hv
theorem four_cell {base : Nat} {w : World} {b r : Nat} (h : Four base w b) (hr : r < 4) : ∃ z : Int, w.cell? ⟨b, r, none⟩ = some (.int .i64 z) := by
  obtain ⟨_, p, q, x, y, hb⟩ := h
  have : r = 0 ∨ r = 1 ∨ r = 2 ∨ r = 3 := by omega
  rcases this with rfl | rfl | rfl | rfl
  · exact ⟨p, hb.cell 0⟩
  · exact ⟨q, hb.cell 1⟩
  · exact ⟨x, hb.cell 2⟩
  · exact ⟨y, hb.cell 3⟩
theorem keep_only {g base : Nat} {w w' : World} (hg : g < base) (ho : Only g w w') : ∀ b t vs, base ≤ b → Blk w b t vs → Blk w' b t vs := fun b t vs hb h => by
  show w'.heap[b]? = _
  rw [ho.block b h.lt (by omega)]
  exact h

theorem eight_cell {w : World} {y j : Nat} (h : Blk w y 88 [.int .i64 10, .int .i64 10, .int .i64 60, .int .i64 60, .int .i64 20, .int .i64 10, .int .i64 60, .int .i64 20]) (hj : j < 4) : ∃ z l : Int, w.cell? ⟨y, j * 2, none⟩ = some (.int .i64 z) ∧ w.cell? ⟨y, j * 2 + 1, none⟩ = some (.int .i64 l) := by
  have : j = 0 ∨ j = 1 ∨ j = 2 ∨ j = 3 := by omega
  rcases this with rfl | rfl | rfl | rfl
  · exact ⟨_, _, h.cell 0, h.cell 1⟩
  · exact ⟨_, _, h.cell 2, h.cell 3⟩
  · exact ⟨_, _, h.cell 4, h.cell 5⟩
  · exact ⟨_, _, h.cell 6, h.cell 7⟩
/-- A Config in memory of its own, its rows apart. -/
def ConfAt (lo : Nat) (x : ConfD) (wv mv : Value) (W : World) : Prop := Grows 2 RWin 88 lo W wv x.ws ∧ Grows 1 RInt 3 lo W mv x.ms ∧ ∀ b, wv.ownBlock = some b → mv.ownBlock ≠ some b
/-- What the loop over Masks leaves. -/
def MasksAt (g : Nat) (a : Option Addr) (len cap m : Nat) (w : World) (lo x : Nat) (d dl lt : Int) (ws : List (Int × Int)) (ms : List Int) (W : World) : Prop :=
  ∃ wv mv, Blk W x 33 [.int .i64 d, wv, mv, .int .i64 dl, .int .i64 lt] ∧ ConfAt lo ⟨d, ws, ms, dl, lt⟩ wv mv W ∧ Blk W w.heap.size 33 [.int .i64 0, .slice none 0 0, .slice none 0 0, .int .i64 0, .int .i64 0] ∧ Curs g a len cap m W ∧ Only g w W ∧ lo ≤ W.heap.size
/-- The answer's box. -/
def five (R : Nat) (p q r s t : Value) (W : World) : World := ((((W.setCell ⟨R, 0, none⟩ p).setCell ⟨R, 1, none⟩ q).setCell ⟨R, 2, none⟩ r).setCell ⟨R, 3, none⟩ s).setCell ⟨R, 4, none⟩ t
theorem five_blk {R : Nat} {p q r s t p' q' r' s' t' : Value} {ty : TypeId} {W : World} (h : Blk W R ty [p', q', r', s', t']) : Blk (five R p q r s t W) R ty [p, q, r, s, t] := by
  unfold five; (apply Blk.of_eq; (repeat (first | (with_reducible exact h) | (with_reducible apply Blk.set) | ((with_reducible apply Blk.other); · first | (simp; done) | (simp; omega)) | (with_reducible apply Blk.drew))); rfl)
theorem five_other {R : Nat} {p q r s t : Value} {W : World} (b : Nat) (hb : b ≠ R) : (five R p q r s t W).heap[b]? = W.heap[b]? := by
  unfold five
  rw [Below.heap_setCell _ _ _ b hb, Below.heap_setCell _ _ _ b hb, Below.heap_setCell _ _ _ b hb, Below.heap_setCell _ _ _ b hb, Below.heap_setCell _ _ _ b hb]
theorem five_below {R : Nat} {p q r s t : Value} {W : World} : Below R W (five R p q r s t W) := by unfold five; repeat (first | exact Below.refl _ _ | refine Below.setCell ?_ (by first | omega | (simp; done) | (simp; omega)) _ | refine Below.alloc ?_ (by first | omega | (simp; done) | (simp; omega)) _ | apply Below.drew)
theorem ConfAt.lower {lo lo' : Nat} {x : ConfD} {wv mv : Value} {W : World} (h : ConfAt lo x wv mv W) (hl : lo' ≤ lo) : ConfAt lo' x wv mv W := ⟨h.1.lower hl, h.2.1.lower hl, h.2.2⟩
theorem ConfAt.stay {lo : Nat} {x : ConfD} {wv mv : Value} {W W' : World} (h : ConfAt lo x wv mv W) (hk : ∀ b, lo ≤ b → b < W.heap.size → W'.heap[b]? = W.heap[b]?) : ConfAt lo x wv mv W' := ⟨h.1.keep local_Win hk, h.2.1.keep local_int hk, h.2.2⟩
/-- What the loop over Wins leaves. -/
def WinsAt (g : Nat) (a : Option Addr) (len cap m : Nat) (w : World) (lo x y : Nat) (d dl lt : Int) (ws : List (Int × Int)) (W : World) : Prop :=
  ∃ wv, Blk W x 33 [.int .i64 d, wv, .slice none 0 0, .int .i64 dl, .int .i64 lt] ∧ Grows 2 RWin 88 lo W wv ws ∧ Blk W y 88 [.int .i64 10, .int .i64 10, .int .i64 60, .int .i64 60, .int .i64 20, .int .i64 10, .int .i64 60, .int .i64 20] ∧ Blk W w.heap.size 33 [.int .i64 0, .slice none 0 0, .slice none 0 0, .int .i64 0, .int .i64 0] ∧ Curs g a len cap m W ∧ Only g w W ∧ lo ≤ W.heap.size

set_option maxRecDepth 100000 in
set_option maxHeartbeats 16000000 in
theorem config_any (g : Nat) (a : Option Addr) (len cap m : Nat) (w : World) (hm : m ≤ 68719476736) (hc : Curs g a len cap m w) :
    Calls Tryz.prog 71 #[.pointer (some ⟨g, 0, none⟩)] w (fun e w' => ∃ (x : ConfD) (wv mv : Value), e = .returned (.agg #[.int .i64 x.d, wv, mv, .int .i64 x.dl, .int .i64 x.lt]) ∧ ConfAt w.heap.size x wv mv w' ∧ x.ws.length ≤ 2 ∧ x.ms.length ≤ 4 ∧ 1 ≤ x.ws.length ∧ Curs g a len cap (m + 40) w' ∧ Only g w w') := by
  have hg := hc.lt
  have H := Lib.hid hc
  clear hc
  go_enter Tryz.func71, Tryz.ntmps71
  go_wp2_with fail
  refine wp_gen (fun W => Below w.heap.size w W ∧ Blk W w.heap.size 33 [.int .i64 0, .slice none 0 0, .slice none 0 0, .int .i64 0, .int .i64 0]) ⟨by repeat (first | exact Below.refl _ _ | refine Below.setCell ?_ (by first | omega | (simp; done) | (simp; omega)) _ | refine Below.alloc ?_ (by first | omega | (simp; done) | (simp; omega)) _ | apply Below.drew), by with_reducible (repeat (first | (refine blk_new_at _ _ _ _ ?_; first | rfl | (simp; done)) | refine Blk.alloc ?_ _ | apply Blk.drew | refine Blk.setOther ?_ (by first | (simp; done) | (simp; omega)) _))⟩ ?_
  rintro W1 ⟨b1, k1⟩
  have B1 := Lib.hid b1
  have K1 := Lib.hid k1
  have C1 := Lib.hid (H.out.below b1)
  have Z1 := Lib.hid (show w.heap.size < W1.heap.size from k1.lt)
  clear b1 k1
  have hgb : g < W1.heap.size := C1.out.lt
  go_cut [3] (fun v wx => ∃ x, v = .pointer (some ⟨x, 0, none⟩) ∧ Bare W1.heap.size wx x ∧ Curs g a len cap (m + 15) wx ∧ Only g W1 wx)
  case first =>
    refine mix.wp_region_free (VC g W1.heap.size) (fun n wx => Curs g a len cap (m + n) wx ∧ Only g W1 wx) 76 [8, 9, 10, 11, 12, 13, 14, 15, 16, 17, 18, 19, 20, 3] rfl (by kernel_rfl) (by kernel_rfl) (by kernel_rfl) ⟨C1.out.below (Below.refl _ _).drew, (Only.refl g W1).drew⟩ ?_ ?_
    · refine ⟨?_, ?_, ?_, ?_, ?_, ?_, ?_, ?_, ?_, ?_, ?_, ?_, ?_, ?_, ?_, trivial⟩
      · intro n A W hn hG hL hP K hK
        have e0 : A.tmps.getD 0 undef = .pointer (some ⟨g, 0, none⟩) := hL.same 0 (by decide)
        go_simp
        exact hK _ _ rfl ⟨hG.1.more (by omega), hG.2⟩ (fun _ _ h => h)
      · intro n A W hn hG hL hP K hK
        have hn15 : n < 15 := hn
        have e0 : A.tmps.getD 8 undef = .pointer (some ⟨g, 0, none⟩) := hP 0 (by kernel_rfl) _ _ rfl rfl
        go_simp
        refine (pick_any g a len cap (m + n) 3 W (by omega) hG.1).mono ?_
        rintro e w' ⟨r, rfl, r0, r1, hc, ho⟩
        exact hK _ _ ⟨r, rfl, r0, by omega⟩ ⟨hc, hG.2.trans ho⟩ (VC.keep (keep_only hgb ho))
      · intro n A W hn hG hL hP K hK
        go_simp
        exact hK _ _ ⟨W.heap.size, rfl, hG.2.size, _, _, _, _, blk_new W _ _⟩ ⟨(hG.1.below ((Below.refl _ _).alloc (Nat.le_refl _) _)).more (by omega), hG.2.alloc _⟩ (VC.keep (fun b t vs _ h => h.alloc _))
      · intro n A W hn hG hL hP K hK
        have e0 : A.tmps.getD 0 undef = .pointer (some ⟨g, 0, none⟩) := hL.same 0 (by decide)
        go_simp
        exact hK _ _ rfl ⟨hG.1.more (by omega), hG.2⟩ (fun _ _ h => h)
      · intro n A W hn hG hL hP K hK
        have hn15 : n < 15 := hn
        have e0 : A.tmps.getD 11 undef = .pointer (some ⟨g, 0, none⟩) := hP 3 (by kernel_rfl) _ _ rfl rfl
        go_simp
        refine (pick_any g a len cap (m + n) 4 W (by omega) hG.1).mono ?_
        rintro e w' ⟨r, rfl, r0, r1, hc, ho⟩
        exact hK _ _ ⟨r.toNat, by rw [Int.toNat_of_nonneg r0], by omega⟩ ⟨hc, hG.2.trans ho⟩ (VC.keep (keep_only hgb ho))
      · intro n A W hn hG hL hP K hK
        obtain ⟨b, e1, hb⟩ : ∃ b, A.tmps.getD 10 undef = .slice (some ⟨b, 0, none⟩) 4 4 ∧ Four W1.heap.size W b := hP 2 (by kernel_rfl) _ _ rfl rfl
        obtain ⟨r, e2, hr⟩ : ∃ r : Nat, A.tmps.getD 12 undef = .int .i64 (r : Int) ∧ r < 4 := hP 4 (by kernel_rfl) _ _ rfl rfl
        have hr2 : (r : Int) < 4 := by omega
        have hr0 : (0 : Int) ≤ (r : Int) := by omega
        go_simp
        exact hK _ _ ⟨b, r, rfl, hr, hb⟩ ⟨hG.1.more (by omega), hG.2⟩ (fun _ _ h => h)
      · intro n A W hn hG hL hP K hK
        obtain ⟨b, r, e1, hr, hb⟩ : ∃ b r : Nat, A.tmps.getD 13 undef = .pointer (some ⟨b, r, none⟩) ∧ r < 4 ∧ Four W1.heap.size W b := hP 5 (by kernel_rfl) _ _ rfl rfl
        obtain ⟨z, hz⟩ := four_cell hb hr
        go_simp
        exact hK _ _ ⟨z, rfl⟩ ⟨hG.1.more (by omega), hG.2⟩ (fun _ _ h => h)
      · intro n A W hn hG hL hP K hK
        go_simp
        exact hK _ _ ⟨W.heap.size, rfl, hG.2.size, _, _, _, _, blk_new W _ _⟩ ⟨(hG.1.below ((Below.refl _ _).alloc (Nat.le_refl _) _)).more (by omega), hG.2.alloc _⟩ (VC.keep (fun b t vs _ h => h.alloc _))
      · intro n A W hn hG hL hP K hK
        have e0 : A.tmps.getD 0 undef = .pointer (some ⟨g, 0, none⟩) := hL.same 0 (by decide)
        go_simp
        exact hK _ _ rfl ⟨hG.1.more (by omega), hG.2⟩ (fun _ _ h => h)
      · intro n A W hn hG hL hP K hK
        have hn15 : n < 15 := hn
        have e0 : A.tmps.getD 16 undef = .pointer (some ⟨g, 0, none⟩) := hP 8 (by kernel_rfl) _ _ rfl rfl
        go_simp
        refine (pick_any g a len cap (m + n) 4 W (by omega) hG.1).mono ?_
        rintro e w' ⟨r, rfl, r0, r1, hc, ho⟩
        exact hK _ _ ⟨r.toNat, by rw [Int.toNat_of_nonneg r0], by omega⟩ ⟨hc, hG.2.trans ho⟩ (VC.keep (keep_only hgb ho))
      · intro n A W hn hG hL hP K hK
        obtain ⟨b, e1, hb⟩ : ∃ b, A.tmps.getD 15 undef = .slice (some ⟨b, 0, none⟩) 4 4 ∧ Four W1.heap.size W b := hP 7 (by kernel_rfl) _ _ rfl rfl
        obtain ⟨r, e2, hr⟩ : ∃ r : Nat, A.tmps.getD 17 undef = .int .i64 (r : Int) ∧ r < 4 := hP 9 (by kernel_rfl) _ _ rfl rfl
        have hr2 : (r : Int) < 4 := by omega
        have hr0 : (0 : Int) ≤ (r : Int) := by omega
        go_simp
        exact hK _ _ ⟨b, r, rfl, hr, hb⟩ ⟨hG.1.more (by omega), hG.2⟩ (fun _ _ h => h)
      · intro n A W hn hG hL hP K hK
        obtain ⟨b, r, e1, hr, hb⟩ : ∃ b r : Nat, A.tmps.getD 18 undef = .pointer (some ⟨b, r, none⟩) ∧ r < 4 ∧ Four W1.heap.size W b := hP 10 (by kernel_rfl) _ _ rfl rfl
        obtain ⟨z, hz⟩ := four_cell hb hr
        go_simp
        exact hK _ _ ⟨z, rfl⟩ ⟨hG.1.more (by omega), hG.2⟩ (fun _ _ h => h)
      · intro n A W hn hG hL hP K hK
        obtain ⟨d, e1, d0, d2⟩ : ∃ r : Int, A.tmps.getD 9 undef = .int .i64 r ∧ 0 ≤ r ∧ r ≤ 2 := hP 1 (by kernel_rfl) _ _ rfl rfl
        obtain ⟨p, e2⟩ : ∃ r : Int, A.tmps.getD 14 undef = .int .i64 r := hP 6 (by kernel_rfl) _ _ rfl rfl
        obtain ⟨q, e3⟩ : ∃ r : Int, A.tmps.getD 19 undef = .int .i64 r := hP 11 (by kernel_rfl) _ _ rfl rfl
        have e1' : A.tmps[9]?.getD undef = .int .i64 d := by simpa using e1
        have e2' : A.tmps[14]?.getD undef = .int .i64 p := by simpa using e2
        have e3' : A.tmps[19]?.getD undef = .int .i64 q := by simpa using e3
        go_simp
        exact hK _ _ ⟨d, p, q, rfl, d0, d2⟩ ⟨hG.1.more (by omega), hG.2⟩ (fun _ _ h => h)
      · intro n A W hn hG hL hP K hK
        go_simp
        exact hK _ _ ⟨W.heap.size, rfl, hG.2.size, 0, 0, 0, by omega, by omega, blk_new W _ _⟩ ⟨(hG.1.below ((Below.refl _ _).alloc (Nat.le_refl _) _)).more (by omega), hG.2.alloc _⟩ (VC.keep (fun b t vs _ h => h.alloc _))
      · intro n A W hn hG hL hP K hK
        obtain ⟨d, p, q, e1, d0, d2⟩ : ∃ d dl lt : Int, A.tmps.getD 20 undef = .agg #[.int .i64 d, .slice none 0 0, .slice none 0 0, .int .i64 dl, .int .i64 lt] ∧ 0 ≤ d ∧ d ≤ 2 := hP 12 (by kernel_rfl) _ _ rfl rfl
        obtain ⟨x, e2, hx⟩ : ∃ x, A.tmps.getD 3 undef = .pointer (some ⟨x, 0, none⟩) ∧ Bare W1.heap.size W x := hP 13 (by kernel_rfl) _ _ rfl rfl
        obtain ⟨hx0, d', p', q', _, _, hb⟩ := hx
        have hf := hb.frozen
        have c0 := hb.cell 0
        have c1 := hb.cell 1
        have c2 := hb.cell 2
        have c3 := hb.cell 3
        have c4 := hb.cell 4
        simp at c0 c1 c2 c3 c4
        go_simp
        have hW : Blk (((((W.setCell ⟨x, 0, none⟩ (.int .i64 d)).setCell ⟨x, 1, none⟩ (.slice none 0 0)).setCell ⟨x, 2, none⟩ (.slice none 0 0)).setCell ⟨x, 3, none⟩ (.int .i64 p)).setCell ⟨x, 4, none⟩ (.int .i64 q)) x 33 [.int .i64 d, .slice none 0 0, .slice none 0 0, .int .i64 p, .int .i64 q] := by (apply Blk.of_eq; (repeat (first | (with_reducible exact hb) | (with_reducible apply Blk.set) | ((with_reducible apply Blk.other); · first | (simp; done) | (simp; omega)) | (with_reducible apply Blk.drew))); rfl)
        have hO : ∀ b, b ≠ x → (((((W.setCell ⟨x, 0, none⟩ (.int .i64 d)).setCell ⟨x, 1, none⟩ (.slice none 0 0)).setCell ⟨x, 2, none⟩ (.slice none 0 0)).setCell ⟨x, 3, none⟩ (.int .i64 p)).setCell ⟨x, 4, none⟩ (.int .i64 q)).heap[b]? = W.heap[b]? := by
          intro b hb'
          rw [Below.heap_setCell _ _ _ b hb', Below.heap_setCell _ _ _ b hb', Below.heap_setCell _ _ _ b hb', Below.heap_setCell _ _ _ b hb', Below.heap_setCell _ _ _ b hb']
        have hBl : Below W1.heap.size W (((((W.setCell ⟨x, 0, none⟩ (.int .i64 d)).setCell ⟨x, 1, none⟩ (.slice none 0 0)).setCell ⟨x, 2, none⟩ (.slice none 0 0)).setCell ⟨x, 3, none⟩ (.int .i64 p)).setCell ⟨x, 4, none⟩ (.int .i64 q)) := by repeat (first | exact Below.refl _ _ | refine Below.setCell ?_ (by first | omega | (simp; done) | (simp; omega)) _ | refine Below.alloc ?_ (by first | omega | (simp; done) | (simp; omega)) _ | apply Below.drew)
        generalize ((((W.setCell ⟨x, 0, none⟩ (.int .i64 d)).setCell ⟨x, 1, none⟩ (.slice none 0 0)).setCell ⟨x, 2, none⟩ (.slice none 0 0)).setCell ⟨x, 3, none⟩ (.int .i64 p)).setCell ⟨x, 4, none⟩ (.int .i64 q) = W' at *
        refine hK undef W' trivial ⟨(hG.1.belowB hBl hgb).more (by omega), hG.2.then_below hBl (Nat.le_refl _)⟩ (VC.keep2 ?_ ?_)
        · rintro b ⟨h0, z1, z2, z3, z4, hz⟩
          refine ⟨h0, z1, z2, z3, z4, ?_⟩
          have : b ≠ x := by
            rintro rfl
            have := hz.symm.trans hb
            simp at this
          exact (hO b this).trans hz
        · rintro b ⟨h0, z1, z2, z3, y1, y2, hz⟩
          by_cases hbx : b = x
          · subst hbx
            exact ⟨h0, d, p, q, d0, d2, hW⟩
          · exact ⟨h0, z1, z2, z3, y1, y2, (hO b hbx).trans hz⟩
    · intro n wx f hn hG hV
      have hn15 : n ≤ 15 := hn
      obtain ⟨x, e3, hx⟩ : ∃ x, f 3 = .pointer (some ⟨x, 0, none⟩) ∧ Bare W1.heap.size wx x := hV 13 _ 3 rfl rfl
      simp [mix.lit]
      go_wp2_with fail
      go_meet
      exact ⟨x, e3, hx, hG.1.more (by omega), hG.2⟩
  case rest =>
  obtain ⟨x, rfl, ⟨hx0, d, dl, lt, hd0, hd2, hxb⟩, hc2, ho2⟩ := hcut
  generalize wc = W2 at *
  have K2 := Lib.hid (show Blk W2 w.heap.size 33 [.int .i64 0, .slice none 0 0, .slice none 0 0, .int .i64 0, .int .i64 0] by
    show W2.heap[w.heap.size]? = _
    rw [ho2.block w.heap.size Z1.out (by omega)]
    exact K1.out)
  have X2 := Lib.hid hxb
  have C2 := Lib.hid hc2
  have O2 := Lib.hid ((Only.of_below B1.out).trans ho2)
  have XG := Lib.hid (show x ≠ g ∧ x ≠ w.heap.size ∧ w.heap.size < x by have := Z1.out; omega)
  clear hxb hc2 ho2 B1 K1 C1 Z1 hgb hx0 H
  go_wp2_with fail
  refine calls_gen (fun W => Below W2.heap.size W2 W ∧ Blk W W2.heap.size 88 [.int .i64 10, .int .i64 10, .int .i64 60, .int .i64 60, .int .i64 20, .int .i64 10, .int .i64 60, .int .i64 20]) ⟨by repeat (first | exact Below.refl _ _ | refine Below.setCell ?_ (by first | omega | (simp; done) | (simp; omega)) _ | refine Below.alloc ?_ (by first | omega | (simp; done) | (simp; omega)) _ | apply Below.drew), by with_reducible (repeat (first | (refine blk_new_at _ _ _ _ ?_; first | rfl | (simp; done)) | refine Blk.alloc ?_ _ | apply Blk.drew | refine Blk.setOther ?_ (by first | (simp; done) | (simp; omega)) _))⟩ ?_
  rintro W3 ⟨b3, k3⟩
  have hx2 := X2.out.lt
  have hg2 := C2.out.lt
  refine (pick_any g a len cap (m + 15) 4 W3 (by omega) (C2.out.below b3)).mono ?_
  rintro e W4 ⟨r, rfl, r0, r1, hc4, ho4⟩
  have hk3 := k3.lt
  have Y4 := Lib.hid (show Blk W4 W2.heap.size 88 [.int .i64 10, .int .i64 10, .int .i64 60, .int .i64 60, .int .i64 20, .int .i64 10, .int .i64 60, .int .i64 20] from (ho4.block _ hk3 (by omega)).trans k3)
  have X4 := Lib.hid (show Blk W4 x 33 [.int .i64 d, .slice none 0 0, .slice none 0 0, .int .i64 dl, .int .i64 lt] from (ho4.block _ (Nat.lt_of_lt_of_le hx2 b3.size) XG.out.1).trans (X2.out.below b3 hx2))
  have K4 := Lib.hid (show Blk W4 w.heap.size 33 [.int .i64 0, .slice none 0 0, .slice none 0 0, .int .i64 0, .int .i64 0] from (ho4.block _ (Nat.lt_of_lt_of_le K2.out.lt b3.size) (by omega)).trans (K2.out.below b3 K2.out.lt))
  have C4 := Lib.hid hc4
  have O4 := Lib.hid ((O2.out.trans (Only.of_below b3)).trans ho4)
  have hy4 : W2.heap.size ≠ g ∧ W2.heap.size ≠ x := by omega
  clear b3 k3 hc4 ho4 X2 K2 C2 O2 hk3 hx2 hg2
  go_wp2_with fail
  refine (pick_any g a len cap (m + 15 + 1) 2 W4 (by omega) C4.out).mono ?_
  rintro e W5 ⟨q, rfl, q0, q1, hc5, ho5⟩
  have Y5 := Lib.hid (show Blk W5 W2.heap.size 88 [.int .i64 10, .int .i64 10, .int .i64 60, .int .i64 60, .int .i64 20, .int .i64 10, .int .i64 60, .int .i64 20] from (ho5.block _ Y4.out.lt hy4.1).trans Y4.out)
  have X5 := Lib.hid (show Blk W5 x 33 [.int .i64 d, .slice none 0 0, .slice none 0 0, .int .i64 dl, .int .i64 lt] from (ho5.block _ X4.out.lt XG.out.1).trans X4.out)
  have K5 := Lib.hid (show Blk W5 w.heap.size 33 [.int .i64 0, .slice none 0 0, .slice none 0 0, .int .i64 0, .int .i64 0] from (ho5.block _ K4.out.lt (by omega)).trans K4.out)
  have C5 := Lib.hid hc5
  have O5 := Lib.hid (O4.out.trans ho5)
  clear hc5 ho5 Y4 X4 K4 C4 O4
  obtain ⟨r', rfl⟩ : ∃ r' : Nat, r = (r' : Int) := ⟨r.toNat, by omega⟩
  obtain ⟨q', rfl⟩ : ∃ q' : Nat, q = (q' : Int) := ⟨q.toNat, by omega⟩
  have hr4 : r' < 4 := by omega
  have hq2 : q' < 2 := by omega
  generalize W2.heap.size = y at *
  clear r0 r1 q0 q1
  have hA5 : WinsAt g a len cap (m + 15 + 1 + 1) w W5.heap.size x y d dl lt [] W5 := ⟨_, X5.out, Grows.nil, Y5.out, K5.out, C5.out, O5.out, Nat.le_refl _⟩
  have HLO := Lib.hid (show x < W5.heap.size ∧ y < W5.heap.size ∧ w.heap.size < W5.heap.size from ⟨X5.out.lt, Y5.out.lt, K5.out.lt⟩)
  have HX := Lib.hid XG.out.2.2
  have HA5 := Lib.hid hA5
  clear hA5 X5 Y5 K5 C5 O5
  generalize W5.heap.size = lo at *
  go_wp2_with fail
  go_loopg [5, 6] (q' + 1) (fun k at' kk wr => ∃ (c j : Nat) (ws : List (Int × Int)), c = k ∧ at' = .int .i64 (j : Int) ∧ j < 4 ∧ kk = .int .i64 (c : Int) ∧ ws.length + c = q' + 1 ∧ WinsAt g a len cap (m + 15 + 1 + 1) w lo x y d dl lt ws wr)
  case atStart => exact ⟨q' + 1, r', [], rfl, rfl, hr4, by go_num, by simp, HA5.out⟩
  case round =>
    obtain ⟨c, j, ws, hcn, rfl, hj, rfl, hws, hA⟩ := hrel
    clear HA5
    have HA := Lib.hid hA
    have HCN := Lib.hid hcn
    clear hA hcn
    by_cases hk : c = 0
    case pos =>
      subst hk
      have hn0 : ¬ (0 : Int) < ((0 : Nat) : Int) := by omega
      obtain ⟨wv, hX, hG, -, hK, hC, hO, hlo⟩ := HA.out
      have hM : MasksAt g a len cap (m + 15 + 1 + 1) w lo x d dl lt ws [] wr := ⟨wv, .slice none 0 0, hX, ⟨hG, Grows.nil, fun b _ => by simp [Value.ownBlock]⟩, hK, hC, hO, hlo⟩
      have HM := Lib.hid hM
      have c0 := hX.cell 0
      simp at c0
      clear HA hX hG hK hC hO hlo hM
      have hws2 := Lib.hid (show ws.length = q' + 1 by omega)
      clear hws HCN hj
      have hd3 : d = 0 ∨ d = 1 ∨ d = 2 := by omega
      obtain ⟨pd, hpd⟩ : ∃ pd : Nat, pd = if d = 0 then 1 else if d = 1 then 2 else 4 := ⟨_, rfl⟩
      have hpd4 : pd ≤ 4 := by rw [hpd]; split <;> (try split) <;> omega
      have hshl : wrap64 (2 ^ d.toNat) = (pd : Int) := by rw [hpd]; rcases hd3 with rfl | rfl | rfl <;> first | rfl | kernel_rfl
      clear hpd c0 hd3
      go_wp2_with fail
      go_loopg [7] pd (fun k mm wr => ∃ (i : Nat) (ms : List Int), i + k = pd ∧ mm = .int .i64 (i : Int) ∧ ms.length ≤ 4 ∧ MasksAt g a len cap (m + 15 + 1 + 1 + i) w lo x d dl lt ws ms wr)
      case atStart => exact ⟨0, [], by omega, rfl, by simp, HM.out⟩
      case round =>
        obtain ⟨i, ms, hik, rfl, hms, hM⟩ := hrel
        clear HM
        have HM := Lib.hid hM
        obtain ⟨wv, mv, hX, hA, hK, hC, hO, hlo⟩ := hM
        have c0 := hX.cell 0
        have c2 := hX.cell 2
        simp at c0 c2
        obtain ⟨aw, cw, hwv⟩ := hA.1.slice
        obtain ⟨am, cm, hmv⟩ := hA.2.1.slice
        simp only at hmv hwv
        have HX6 := Lib.hid hX
        have HA6 := Lib.hid hA
        have HK6 := Lib.hid hK
        have HC6 := Lib.hid hC
        have HO6 := Lib.hid hO
        have HL6 := Lib.hid hlo
        have HMV := Lib.hid hmv
        have HWV := Lib.hid hwv
        rw [hmv] at c2
        clear hX hA hK hC hO hlo hmv hwv
        by_cases hlt : i < pd
        case neg =>
          obtain rfl : i = pd := by omega
          have hlt2 : ¬ (i : Int) < (i : Int) := by omega
          have k0 := HK6.out.cell 0
          have k1 := HK6.out.cell 1
          have k2 := HK6.out.cell 2
          have k3 := HK6.out.cell 3
          have k4 := HK6.out.cell 4
          have kf := HK6.out.frozen
          have e1 := HX6.out.cell 1
          have e3 := HX6.out.cell 3
          have e4 := HX6.out.cell 4
          have xf := HX6.out.frozen
          have hkl := HK6.out.lt
          have hxl := HX6.out.lt
          have hxn := XG.out.2.2
          have hxn2 : ¬ w.heap.size = x := by omega
          have hxn3 : ¬ x = w.heap.size := by omega
          simp at k0 k1 k2 k3 k4 e1 e3 e4
          rw [HWV.out] at e1
          have hlox := HLO.out
          by_cases hme : ms.length = 0
          · have hme' : ((ms.length : Int) == 0) = true := by rw [beq_iff_eq]; omega
            go_wp2_with fail
            have hl6 := HL6.out
            have hsz : (five w.heap.size (.int .i64 d) (.slice aw ws.length cw) (.slice (some ⟨wr.heap.size, 0, none⟩) 1 1) (.int .i64 dl) (.int .i64 lt) (wr.setCell ⟨x, 2, none⟩ (.slice (some ⟨wr.heap.size, 0, none⟩) 1 1))).heap.size = wr.heap.size := by simp [five, World.setCell]
            have hBB : Below w.heap.size wr ((five w.heap.size (.int .i64 d) (.slice aw ws.length cw) (.slice (some ⟨wr.heap.size, 0, none⟩) 1 1) (.int .i64 dl) (.int .i64 lt) (wr.setCell ⟨x, 2, none⟩ (.slice (some ⟨wr.heap.size, 0, none⟩) 1 1))).alloc (.cells #[.int .i64 0] 3)) := ((Below.setCell (p := ⟨x, 2, none⟩) (Below.refl w.heap.size wr) (by show w.heap.size ≤ x; omega) _).trans five_below).alloc (by omega) _
            have hneq : ∀ b, b ≠ x → b ≠ w.heap.size → b < wr.heap.size → (((five w.heap.size (.int .i64 d) (.slice aw ws.length cw) (.slice (some ⟨wr.heap.size, 0, none⟩) 1 1) (.int .i64 dl) (.int .i64 lt) (wr.setCell ⟨x, 2, none⟩ (.slice (some ⟨wr.heap.size, 0, none⟩) 1 1))).alloc (.cells #[.int .i64 0] 3))).heap[b]? = wr.heap[b]? := fun b hb hb1 hb2 => (Below.heap_alloc _ _ _ (by omega)).trans ((five_other b hb1).trans (Below.heap_setCell _ _ _ b hb))
            have hKb : Blk ((five w.heap.size (.int .i64 d) (.slice aw ws.length cw) (.slice (some ⟨wr.heap.size, 0, none⟩) 1 1) (.int .i64 dl) (.int .i64 lt) (wr.setCell ⟨x, 2, none⟩ (.slice (some ⟨wr.heap.size, 0, none⟩) 1 1))).alloc (.cells #[.int .i64 0] 3)) w.heap.size 33 [.int .i64 d, .slice aw ws.length cw, (.slice (some ⟨wr.heap.size, 0, none⟩) 1 1), .int .i64 dl, .int .i64 lt] := (five_blk (show Blk (wr.setCell ⟨x, 2, none⟩ (.slice (some ⟨wr.heap.size, 0, none⟩) 1 1)) w.heap.size 33 [.int .i64 0, .slice none 0 0, .slice none 0 0, .int .i64 0, .int .i64 0] from (Below.heap_setCell _ _ _ _ (by show w.heap.size ≠ x; omega)).trans HK6.out)).alloc _
            have hGw : Grows 2 RWin 88 lo ((five w.heap.size (.int .i64 d) (.slice aw ws.length cw) (.slice (some ⟨wr.heap.size, 0, none⟩) 1 1) (.int .i64 dl) (.int .i64 lt) (wr.setCell ⟨x, 2, none⟩ (.slice (some ⟨wr.heap.size, 0, none⟩) 1 1))).alloc (.cells #[.int .i64 0] 3)) (.slice aw ws.length cw) ws := by
              have h := HA6.out.1
              rw [HWV.out] at h
              exact h.keep local_Win (fun b hb hb2 => hneq b (by omega) (by omega) hb2)
            have hGm : Grows 1 RInt 3 lo ((five w.heap.size (.int .i64 d) (.slice aw ws.length cw) (.slice (some ⟨wr.heap.size, 0, none⟩) 1 1) (.int .i64 dl) (.int .i64 lt) (wr.setCell ⟨x, 2, none⟩ (.slice (some ⟨wr.heap.size, 0, none⟩) 1 1))).alloc (.cells #[.int .i64 0] 3)) (.slice (some ⟨wr.heap.size, 0, none⟩) 1 1) [0] := by
              have hb : Blk ((five w.heap.size (.int .i64 d) (.slice aw ws.length cw) (.slice (some ⟨wr.heap.size, 0, none⟩) 1 1) (.int .i64 dl) (.int .i64 lt) (wr.setCell ⟨x, 2, none⟩ (.slice (some ⟨wr.heap.size, 0, none⟩) 1 1))).alloc (.cells #[.int .i64 0] 3)) wr.heap.size 3 [.int .i64 0] := by
                have := blk_new (five w.heap.size (.int .i64 d) (.slice aw ws.length cw) (.slice (some ⟨wr.heap.size, 0, none⟩) 1 1) (.int .i64 dl) (.int .i64 lt) (wr.setCell ⟨x, 2, none⟩ (.slice (some ⟨wr.heap.size, 0, none⟩) 1 1))) 3 [.int .i64 0]
                rw [hsz] at this
                exact this
              exact Grows.built (R := RInt) wr.heap.size [0] [.int .i64 0] rfl (fun k z c hz hc => by
                have : k = 0 := by have := (List.getElem?_eq_some_iff.1 hz).1; simp at this; omega
                subst this
                simp at hz hc
                subst hz hc
                exact ⟨rfl, rfl⟩) hl6 hb (by simp [maxLen])
            have hAA : ConfAt lo ⟨d, ws, [0], dl, lt⟩ (.slice aw ws.length cw) (.slice (some ⟨wr.heap.size, 0, none⟩) 1 1) ((five w.heap.size (.int .i64 d) (.slice aw ws.length cw) (.slice (some ⟨wr.heap.size, 0, none⟩) 1 1) (.int .i64 dl) (.int .i64 lt) (wr.setCell ⟨x, 2, none⟩ (.slice (some ⟨wr.heap.size, 0, none⟩) 1 1))).alloc (.cells #[.int .i64 0] 3)) := ⟨hGw, hGm, fun b hb => by
              have := HA6.out.1.lt b (by rw [HWV.out]; exact hb)
              simp [Value.ownBlock]; omega⟩
            have hCC : Curs g a len cap (m + 40) ((five w.heap.size (.int .i64 d) (.slice aw ws.length cw) (.slice (some ⟨wr.heap.size, 0, none⟩) 1 1) (.int .i64 dl) (.int .i64 lt) (wr.setCell ⟨x, 2, none⟩ (.slice (some ⟨wr.heap.size, 0, none⟩) 1 1))).alloc (.cells #[.int .i64 0] 3)) := (HC6.out.belowB hBB hg).more (by omega)
            have hOO : Only g w ((five w.heap.size (.int .i64 d) (.slice aw ws.length cw) (.slice (some ⟨wr.heap.size, 0, none⟩) 1 1) (.int .i64 dl) (.int .i64 lt) (wr.setCell ⟨x, 2, none⟩ (.slice (some ⟨wr.heap.size, 0, none⟩) 1 1))).alloc (.cells #[.int .i64 0] 3)) := HO6.out.then_below hBB (Nat.le_refl _)
            have HALL := Lib.hid (And.intro hKb (And.intro hAA (And.intro hCC hOO)))
            clear hKb hAA hCC hOO hGw hGm hneq hBB hsz
            unfold five at HALL
            refine body_gen (fun W9 => Blk W9 w.heap.size 33 [.int .i64 d, .slice aw ws.length cw, (.slice (some ⟨wr.heap.size, 0, none⟩) 1 1), .int .i64 dl, .int .i64 lt] ∧ ConfAt lo ⟨d, ws, [0], dl, lt⟩ (.slice aw ws.length cw) (.slice (some ⟨wr.heap.size, 0, none⟩) 1 1) W9 ∧ Curs g a len cap (m + 40) W9 ∧ Only g w W9) HALL.out ?_
            rintro W9 ⟨q9, a9, c9, o9⟩
            have z0 := q9.cell 0
            have z1 := q9.cell 1
            have z2 := q9.cell 2
            have z3 := q9.cell 3
            have z4 := q9.cell 4
            simp at z0 z1 z2 z3 z4
            refine bodyPost_ret (v := .agg #[.int .i64 d, .slice aw ws.length cw, (.slice (some ⟨wr.heap.size, 0, none⟩) 1 1), .int .i64 dl, .int .i64 lt]) (by simp [results, Tryz.results71, go_sem, z0, z1, z2, z3, z4]) rfl ⟨⟨d, ws, [0], dl, lt⟩, _, _, rfl, a9.lower (by omega), by have := hws2.out; simp only; omega, by simp, by have := hws2.out; simp only; omega, c9, o9⟩
          · have hme' : ((ms.length : Int) == 0) = false := by rw [beq_eq_false_iff_ne]; omega
            go_wp2_with fail
            refine body_gen (fun W9 => Blk W9 w.heap.size 33 [.int .i64 d, .slice aw ws.length cw, .slice am ms.length cm, .int .i64 dl, .int .i64 lt] ∧ ConfAt lo ⟨d, ws, ms, dl, lt⟩ (.slice aw ws.length cw) (.slice am ms.length cm) W9 ∧ Curs g a len cap (m + 40) W9 ∧ Only g w W9) ?_ ?_
            · refine ⟨five_blk HK6.out, ?_, (HC6.out.belowB five_below hg).more (by omega), HO6.out.then_below five_below (Nat.le_refl _)⟩
              have h := HA6.out
              rw [HWV.out, HMV.out] at h
              exact h.stay (fun b hb _ => five_other b (by omega))
            rintro W9 ⟨q9, a9, c9, o9⟩
            have z0 := q9.cell 0
            have z1 := q9.cell 1
            have z2 := q9.cell 2
            have z3 := q9.cell 3
            have z4 := q9.cell 4
            simp at z0 z1 z2 z3 z4
            refine bodyPost_ret (v := .agg #[.int .i64 d, .slice aw ws.length cw, .slice am ms.length cm, .int .i64 dl, .int .i64 lt]) (by simp [results, Tryz.results71, go_sem, z0, z1, z2, z3, z4]) rfl ⟨⟨d, ws, ms, dl, lt⟩, _, _, rfl, a9.lower (by omega), by have := hws2.out; simp only; omega, by exact hms, by have := hws2.out; simp only; omega, c9, o9⟩
        have hlt2 : (i : Int) < (pd : Int) := by omega
        go_wp2_with fail
        refine (pick_any g a len cap (m + 15 + 1 + 1 + i) 2 wr (by omega) HC6.out).mono ?_
        rintro e W7 ⟨r, rfl, r0, r1, hc7, ho7⟩
        have hlox := HLO.out
        have X7 := Lib.hid (show Blk W7 x 33 [.int .i64 d, wv, mv, .int .i64 dl, .int .i64 lt] from (ho7.block x HX6.out.lt XG.out.1).trans HX6.out)
        have A7 := Lib.hid (show ConfAt lo ⟨d, ws, ms, dl, lt⟩ wv mv W7 from ⟨HA6.out.1.keep local_Win (fun b hb hb2 => ho7.block b hb2 (by omega)), HA6.out.2.1.keep local_int (fun b hb hb2 => ho7.block b hb2 (by omega)), HA6.out.2.2⟩)
        have K7 := Lib.hid (show Blk W7 w.heap.size 33 [.int .i64 0, .slice none 0 0, .slice none 0 0, .int .i64 0, .int .i64 0] from (ho7.block _ HK6.out.lt (by omega)).trans HK6.out)
        have C7 := Lib.hid hc7
        have O7 := Lib.hid (HO6.out.trans ho7)
        have L7 := Lib.hid (Nat.le_trans HL6.out ho7.size)
        have e2 := X7.out.cell 2
        have f7 := X7.out.frozen
        simp at e2
        rw [HMV.out] at e2
        clear c0 c2 hc7 ho7 HX6 HA6 HK6 HC6 HO6 HL6 HM
        cases hr : (r == 0) with
        | false =>
          go_wp2_with fail
          go_roundg (pd - (i + 1))
          case measure => omega
          case rel => exact ⟨i + 1, ms, by omega, by go_num, hms, wv, mv, X7.out, A7.out, K7.out, C7.out, O7.out, L7.out⟩
        | true =>
        by_cases hm4 : ms.length < 4
        case neg =>
          have hm4' : ¬ (ms.length : Int) < 4 := by omega
          go_wp2_with fail
          go_roundg (pd - (i + 1))
          case measure => omega
          case rel => exact ⟨i + 1, ms, by omega, by go_num, hms, wv, mv, X7.out, A7.out, K7.out, C7.out, O7.out, L7.out⟩
        have hm4' : (ms.length : Int) < 4 := by omega
        obtain ⟨i0, hi, hi2⟩ := Option.map_eq_some_iff.1 win.info_int
        simp only [Prod.mk.injEq] at hi2
        obtain ⟨hz0, hz1, hz2⟩ := hi2
        have HGM := Lib.hid (show Grows 1 RInt 3 lo W7 (.slice am ms.length cm) ms by have := A7.out.2.1; rw [HMV.out] at this; exact this)
        go_wp2_with (at_builtin; refine push2 (v := .slice am ms.length cm) local_int rfl _ _ 23 rfl i0 (.int .i64 0) 8 Tryz.underlying23 hi hz0 hz1 hz2 rfl (by decide) rfl HGM.out ((Below.refl _ _).alloc (Nat.le_refl _) _) W7.heap.size 1 rfl [.int .i64 (i : Int)] rfl (fun u hu => by simp at hu; subst hu; rfl) (fun j u hj => by have := cell_one_new W7 (.int .i64 (i : Int)) 3 j u hj; rwa [Go.WideShapes.add_plain, Nat.zero_add] at this) (i : Int) [] ⟨rfl, rfl⟩ Own.nil (by omega) (by unfold maxLen; omega) L7.out ?_; intro v' W8 hG8 hb8 hk8 hw8; obtain ⟨a8, cap8, hv8⟩ := hG8.slice; subst hv8; have hb9 : Below lo W7 W8 := ((Below.refl _ _).alloc L7.out _).trans hb8; have X8 := X7.out.belowB hb9 hlox.1; have e8 := X8.cell 2; have f8 := X8.frozen; simp at e8)
        have hne : ∀ b, b ≠ x → (W8.setCell ⟨x, 2, none⟩ (.slice a8 (ms ++ [(i : Int)]).length cap8)).heap[b]? = W8.heap[b]? := fun b hb => Below.heap_setCell _ _ _ b hb
        have hB9 : Below x W8 (W8.setCell ⟨x, 2, none⟩ (.slice a8 (ms ++ [(i : Int)]).length cap8)) := below_set _
        have hwold : ∀ b, wv.ownBlock = some b → lo ≤ b ∧ b < W7.heap.size := A7.out.1.lt
        have A9 : MasksAt g a len cap (m + 15 + 1 + 1 + (i + 1)) w lo x d dl lt ws (ms ++ [(i : Int)]) (W8.setCell ⟨x, 2, none⟩ (.slice a8 (ms ++ [(i : Int)]).length cap8)) := by
          refine ⟨wv, _, (X8.set 2 _).of_eq (by simp), ⟨A7.out.1.stay local_Win plain_win (fun b hb => ?_), hG8.keep local_int (fun b hb _ => hne b (by omega)), fun b hb => ?_⟩, (hne _ (by have := HX.out; omega)).trans (K7.out.belowB hb9 hlox.2.2), (C7.out.belowB hb9 (by omega)).belowB hB9 (by have := HX.out; omega), (O7.out.then_below hb9 (by omega)).then_below hB9 (by have := HX.out; omega), ?_⟩
          · have h1 := hwold b hb
            have h2 : (Value.slice am ms.length cm).ownBlock ≠ some b := by rw [← HMV.out]; exact A7.out.2.2 b hb
            rw [hne b (by omega), hk8 b (by simp; omega) h2]
            exact Below.heap_alloc _ _ _ h1.2
          · have h1 := hwold b hb
            rcases hw8 with e | e
            · rw [e, ← HMV.out]; exact A7.out.2.2 b hb
            · rw [e]; intro h; simp at h; omega
          · have := hb9.size; have := L7.out; simp [World.setCell]; omega
        have A9' := Lib.hid A9
        clear A9 hwold hne hB9 hk8 hw8 hb8 hG8 X8 e8 f8 hb9
        simp only [List.length_append, List.length_cons, List.length_nil, Nat.zero_add] at A9'
        generalize W8.setCell ⟨x, 2, none⟩ (.slice a8 (ms.length + 1) cap8) = W9 at *
        go_roundg (pd - (i + 1))
        case measure => omega
        case rel => exact ⟨i + 1, ms ++ [(i : Int)], by omega, by go_num, by simp; omega, A9'.out⟩
    obtain ⟨k, rfl⟩ : ∃ k, c = k + 1 := ⟨c - 1, by omega⟩
    have hk0 : (0 : Int) < ((k + 1 : Nat) : Int) := by omega
    have hk0' : (0 : Int) < (k : Int) + 1 := by omega
    obtain ⟨wv, hX, hG, hY, hK, hC, hO, hlo⟩ := HA.out
    have c1 := hX.cell 1
    have f1 := hX.frozen
    simp at c1
    obtain ⟨z, l, hz, hl⟩ := eight_cell hY hj
    have hj4 : (j : Int) < 4 := by omega
    have hj0 : (0 : Int) ≤ (j : Int) := by omega
    have HX6 := Lib.hid hX
    have HG6 := Lib.hid hG
    have HY6 := Lib.hid hY
    have HK6 := Lib.hid hK
    have HC6 := Lib.hid hC
    have HO6 := Lib.hid hO
    have HL6 := Lib.hid hlo
    clear hX hG hY hK hC hO hlo HA
    obtain ⟨i0, hi, hi2⟩ := Option.map_eq_some_iff.1 info_Win
    simp only [Prod.mk.injEq] at hi2
    obtain ⟨hz0, hz1, hz2⟩ := hi2
    go_wp2_with fail
    refine mix.wp_region_tail (fun w' => w'.cell? ⟨x, 1, none⟩ = some wv ∧ w'.cell? ⟨y, j * 2, none⟩ = some (.int .i64 z) ∧ w'.cell? ⟨y, j * 2 + 1, none⟩ = some (.int .i64 l)) [6,7] [0,1,2,3,4,5,6,7,8] (by kernel_rfl) (by kernel_rfl) (fun _ _ d _ _ h => by cases d <;> exact h) ⟨c1, hz, hl⟩ ?_
    simp only [List.filterMap_cons, List.filterMap_nil, List.getElem?_cons_zero, List.getElem?_cons_succ, Option.map_some]
    (repeat (apply mix.ordt_take; (· rfl); (· rfl); (· (intro w' hSw; (try dsimp only at hSw); go_simp; try with_reducible rfl)); (try simp only [Act.put, List.setIfInBounds_toArray, List.set_cons_zero, List.set_cons_succ])))
    refine mix.ordt_hard rfl (fun K hK => ?_); go_simp
    have hlx := HX6.out.lt
    have hly := HY6.out.lt
    refine hK.out _ _ (by refine ⟨?_, ?_, ?_⟩ <;> (rw [show ∀ p, (wr.alloc (Obj.cells #[Value.int IntKind.i64 z, Value.int IntKind.i64 l] 88)).drew.cell? p = (wr.alloc (Obj.cells #[Value.int IntKind.i64 z, Value.int IntKind.i64 l] 88)).cell? p from fun _ => rfl]) <;> first | exact ((Below.refl wr.heap.size wr).alloc (Nat.le_refl _) _).cell (p := ⟨x, 1, none⟩) hlx |>.trans c1 | exact ((Below.refl wr.heap.size wr).alloc (Nat.le_refl _) _).cell (p := ⟨y, j * 2, none⟩) hly |>.trans hz | exact ((Below.refl wr.heap.size wr).alloc (Nat.le_refl _) _).cell (p := ⟨y, j * 2 + 1, none⟩) hly |>.trans hl) (fun hSw => ?_); clear hK K hSw; (try simp only [Act.put, List.setIfInBounds_toArray, List.set_cons_zero, List.set_cons_succ])
    refine mix.ordt_hardb rfl rfl (fun K hK => ?_)
    refine push_wp (v := wv) local_Win _ _ 31 rfl i0 (.agg #[.int .i64 0, .int .i64 0]) 16 Tryz.underlying31 hi hz0 hz1 hz2 rfl (by decide) rfl HG6.out (((Below.refl _ _).alloc (Nat.le_refl _) _).drew) wr.heap.size 1 rfl [.int .i64 z, .int .i64 l] rfl (fun u hu => by simp at hu; rcases hu with rfl | rfl <;> rfl) (fun j u hj => ?_) (z, l) [] ⟨rfl, rfl⟩ Own.nil (by omega) (by unfold maxLen; omega) HL6.out ?_
    · have := (blk_new wr 88 [.int .i64 z, .int .i64 l]).cell j
      exact this.trans hj
    intro v' W7 hG7 hb7 hk7 hw7
    obtain ⟨a', cap', hv'⟩ := hG7.slice
    subst hv'
    generalize (ws ++ [(z, l)]).length = n' at hG7 ⊢
    have hBw : Below lo wr W7 := (((Below.refl _ _).alloc HL6.out _).drew).trans hb7
    have l1 := HLO.out
    have X7 := Lib.hid (HX6.out.belowB hBw l1.1)
    have A7 := Lib.hid (show WinsAt g a len cap (m + 15 + 1 + 1) w lo x y d dl lt (ws ++ [(z, l)]) (W7.setCell ⟨x, 1, none⟩ (.slice a' n' cap')) by
      have hB8 : Below x W7 (W7.setCell ⟨x, 1, none⟩ (.slice a' n' cap')) := below_set _
      have hne : ∀ b, b ≠ x → (W7.setCell ⟨x, 1, none⟩ (.slice a' n' cap')).heap[b]? = W7.heap[b]? := fun b hb => Below.heap_setCell _ _ _ b hb
      refine ⟨(.slice a' n' cap'), ?_, hG7.keep local_Win (fun b hb _ => hne b (by omega)), (hne y (by omega)).trans (HY6.out.belowB hBw l1.2.1), (hne _ (by have := HX.out; omega)).trans (HK6.out.belowB hBw l1.2.2), ?_, ?_, ?_⟩
      · have := X7.out.set 1 (.slice a' n' cap')
        exact this.of_eq (by simp)
      · exact (HC6.out.belowB hBw (by omega)).belowB hB8 (by have := HX.out; omega)
      · exact (HO6.out.then_below hBw (by omega)).then_below hB8 (by have := HX.out; omega)
      · have := hBw.size; have := HL6.out; simp [World.setCell]; omega)
    have c7 := X7.out.cell 1
    have f7 := X7.out.frozen
    have y0 := (HY6.out.belowB hBw l1.2.1)
    have e1 : W7.cell? ⟨y, j * 2, none⟩ = some (.int .i64 z) := (hBw.cell (p := ⟨y, j * 2, none⟩) l1.2.1).trans hz
    have e2 : W7.cell? ⟨y, j * 2 + 1, none⟩ = some (.int .i64 l) := (hBw.cell (p := ⟨y, j * 2 + 1, none⟩) l1.2.1).trans hl
    simp at c7
    clear hk7 hw7 hb7 hG7 c1 f1 hz hl y0 l1 hBw hlx hly hz0 hz1 hz2 hi
    refine hK.out _ _ (by exact ⟨c7, e1, e2⟩) (fun hSw => ?_); clear hK K hSw; (try simp only [Act.put, List.setIfInBounds_toArray, List.set_cons_zero, List.set_cons_succ])
    (repeat (apply mix.ordt_take; (· rfl); (· rfl); (· (intro w' hSw; (try dsimp only at hSw); go_simp; try with_reducible rfl)); (try simp only [Act.put, List.setIfInBounds_toArray, List.set_cons_zero, List.set_cons_succ])))
    refine mix.ordt_end ?_; refine mix.last_step (fun K hK => ?_); go_simp
    refine hK _ _ ?_
    clear hK K c7 f7 e1 e2 X7
    have W8e : ∃ W8, W7.setCell ⟨x, 1, none⟩ (.slice a' n' cap') = W8 := ⟨_, rfl⟩
    obtain ⟨W8, hW8⟩ := W8e
    rw [hW8] at A7 ⊢
    clear hW8
    go_wp2_with fail
    go_roundg k
    case measure => have := HCN.out; omega
    case rel => exact ⟨k, (j + 1) % 4, ws ++ [(z, l)], rfl, congrArg (Value.int .i64) (by omega), by omega, congrArg (Value.int .i64) (by omega), by simp; omega, A7.out⟩
end Go.Proofs.YtdipkbgfkbmfnaaGreatDoor.cur

/-
  THE DRAWS: the contract of anyConfig: it answers some Config, in memory of its own, and writes nothing but the cursor and new memory.
  Condition: the cursor is one, and has been asked fewer than 2^35 times.
-/
namespace Go.Proofs.YtdipkbgfkbmfnaaGreatDoor.cur
open Go.RowKit Go.Proofs.YtdipkbgfkbmfnaaGreatDoor.win Go.Proofs.YtdipkbgfkbmfnaaGreatDoor.dat

/-- What anyConfig has on its way: a Config in block x; the answer's box at R. -/
def AnyAt (g : Nat) (a : Option Addr) (len cap m : Nat) (w : World) (lo x p q : Nat) (W : World) : Prop :=
  ∃ (c : ConfD) (wv mv : Value), Blk W x 33 [.int .i64 c.d, wv, mv, .int .i64 c.dl, .int .i64 c.lt] ∧ ConfAt lo c wv mv W ∧ (wv.ownBlock ≠ some x ∧ mv.ownBlock ≠ some x) ∧ (c.ws.length ≤ p ∧ c.ms.length ≤ q ∧ 1 ≤ c.ws.length) ∧ Blk W w.heap.size 33 [.int .i64 0, .slice none 0 0, .slice none 0 0, .int .i64 0, .int .i64 0] ∧ Curs g a len cap m W ∧ Only g w W ∧ lo ≤ W.heap.size
/-- A store into x. -/
theorem any_store {g : Nat} {a : Option Addr} {len cap m : Nat} {w : World} {lo x p q : Nat} {W : World} {L : List Value} (c : ConfD) (wv mv : Value) (hX : Blk W x 33 L) (hA : ConfAt lo c wv mv W) (hx : wv.ownBlock ≠ some x ∧ mv.ownBlock ≠ some x) (hb : c.ws.length ≤ p ∧ c.ms.length ≤ q ∧ 1 ≤ c.ws.length)
    (hK : Blk W w.heap.size 33 [.int .i64 0, .slice none 0 0, .slice none 0 0, .int .i64 0, .int .i64 0]) (hC : Curs g a len cap m W) (hO : Only g w W) (hlo : lo ≤ W.heap.size) (hxw : w.heap.size < x) (hg : g < w.heap.size) (i : Nat) (v : Value) (hL : L.set i v = [.int .i64 c.d, wv, mv, .int .i64 c.dl, .int .i64 c.lt]) : AnyAt g a len cap m w lo x p q (W.setCell ⟨x, i, none⟩ v) := by
  have hne : ∀ b, b ≠ x → (W.setCell ⟨x, i, none⟩ v).heap[b]? = W.heap[b]? := fun b hb => Below.heap_setCell _ _ _ b hb
  have hB : Below x W (W.setCell ⟨x, i, none⟩ v) := below_set _
  refine ⟨c, wv, mv, (hX.set i v).of_eq hL, ⟨hA.1.stay local_Win plain_win (fun b h => hne b (fun e => hx.1 (by rw [h, e]))), hA.2.1.stay local_int plain_int (fun b h => hne b (fun e => hx.2 (by rw [h, e]))), hA.2.2⟩, hx, hb, (hne _ (by omega)).trans hK, hC.belowB hB (by omega), hO.then_below hB (by omega), ?_⟩
  simp [World.setCell]; exact hlo
theorem AnyAt.only {g : Nat} {a : Option Addr} {len cap m m' : Nat} {w : World} {lo x p q : Nat} {W W' : World} (h : AnyAt g a len cap m w lo x p q W) (ho : Only g W W') (hc : Curs g a len cap m' W') (hg : g < w.heap.size) (hlo : g < lo) (hxg : x ≠ g) : AnyAt g a len cap m' w lo x p q W' := by
  obtain ⟨c, wv, mv, hX, hA, hx, hb, hK, hC, hO, hl⟩ := h
  exact ⟨c, wv, mv, (ho.block x hX.lt hxg).trans hX, ⟨hA.1.keep local_Win (fun b h1 h2 => ho.block b h2 (by omega)), hA.2.1.keep local_int (fun b h1 h2 => ho.block b h2 (by omega)), hA.2.2⟩, hx, hb, (ho.block _ hK.lt (by omega)).trans hK, hc, hO.trans ho, Nat.le_trans hl ho.size⟩

set_option maxRecDepth 100000 in
set_option maxHeartbeats 16000000 in
theorem anyConfig_any (g : Nat) (a : Option Addr) (len cap m : Nat) (w : World) (hm : m ≤ 34359738368) (hc : Curs g a len cap m w) :
    Calls Tryz.prog 51 #[.pointer (some ⟨g, 0, none⟩)] w (fun e w' => ∃ (x : ConfD) (wv mv : Value), e = .returned (.agg #[.int .i64 x.d, wv, mv, .int .i64 x.dl, .int .i64 x.lt]) ∧ ConfAt w.heap.size x wv mv w' ∧ x.ws.length ≤ 4 ∧ x.ms.length ≤ 5 ∧ Curs g a len cap (m + 60) w' ∧ Only g w w') := by
  have hg := hc.lt
  have H := Lib.hid hc
  clear hc
  go_enter Tryz.func51, Tryz.ntmps51
  go_wp2_with fail
  refine calls_gen (fun W => Below w.heap.size w W ∧ Blk W w.heap.size 33 [.int .i64 0, .slice none 0 0, .slice none 0 0, .int .i64 0, .int .i64 0]) ⟨by repeat (first | exact Below.refl _ _ | refine Below.setCell ?_ (by first | omega | (simp; done) | (simp; omega)) _ | refine Below.alloc ?_ (by first | omega | (simp; done) | (simp; omega)) _ | apply Below.drew), by with_reducible (repeat (first | (refine blk_new_at _ _ _ _ ?_; first | rfl | (simp; done)) | refine Blk.alloc ?_ _ | apply Blk.drew | refine Blk.setOther ?_ (by first | (simp; done) | (simp; omega)) _))⟩ ?_
  rintro W1 ⟨b1, k1⟩
  have hlt1 := k1.lt
  refine (config_any g a len cap m W1 (by omega) (H.out.below b1)).mono ?_
  rintro e W2 ⟨c, wv, mv, rfl, hA, hw2, hm4, hw1, hc2, ho2⟩
  obtain ⟨aw, cw, hwv⟩ := hA.1.slice
  obtain ⟨am, cm, hmv⟩ := hA.2.1.slice
  subst hwv hmv
  have K2 := Lib.hid (show Blk W2 w.heap.size 33 [.int .i64 0, .slice none 0 0, .slice none 0 0, .int .i64 0, .int .i64 0] from (ho2.block _ hlt1 (by omega)).trans k1)
  have A2 := Lib.hid hA
  have C2 := Lib.hid hc2
  have O2 := Lib.hid ((Only.of_below b1).trans ho2)
  have Z2 := Lib.hid (show w.heap.size < W1.heap.size ∧ W1.heap.size ≤ W2.heap.size from ⟨hlt1, ho2.size⟩)
  have BD := Lib.hid (show c.ws.length ≤ 2 ∧ c.ms.length ≤ 4 ∧ 1 ≤ c.ws.length from ⟨hw2, hm4, hw1⟩)
  clear b1 k1 hA hc2 ho2 H hlt1 hw2 hm4 hw1
  go_wp2_with fail
  have hx2 : (Value.slice aw c.ws.length cw).ownBlock ≠ some W2.heap.size ∧ (Value.slice am c.ms.length cm).ownBlock ≠ some W2.heap.size := ⟨fun h => by have := A2.out.1.lt _ h; omega, fun h => by have := A2.out.2.1.lt _ h; omega⟩
  have hbx : Below W2.heap.size W2 (W2.alloc (.cells #[.int .i64 c.d, .slice aw c.ws.length cw, .slice am c.ms.length cm, .int .i64 c.dl, .int .i64 c.lt] 33)) := (Below.refl _ _).alloc (Nat.le_refl _) _
  have A3 : AnyAt g a len cap (m + 40) w W1.heap.size W2.heap.size 2 4 (W2.alloc (.cells #[.int .i64 c.d, .slice aw c.ws.length cw, .slice am c.ms.length cm, .int .i64 c.dl, .int .i64 c.lt] 33)) :=
    ⟨c, _, _, blk_new W2 33 _, ⟨A2.out.1.below local_Win hbx, A2.out.2.1.below local_int hbx, A2.out.2.2⟩, hx2, BD.out, K2.out.alloc _, C2.out.below hbx, O2.out.alloc _, by have := Z2.out.2; simp; omega⟩
  have hC3 : Curs g a len cap (m + 40) (W2.alloc (.cells #[.int .i64 c.d, .slice aw c.ws.length cw, .slice am c.ms.length cm, .int .i64 c.dl, .int .i64 c.lt] 33)) := C2.out.below hbx
  refine (once_any g a len cap (m + 40) 8 _ (by omega) hC3).mono ?_
  rintro e W4 ⟨t, rfl, hc4, ho4⟩
  have hg2 := C2.out.lt
  have hglo : g < W1.heap.size := by have := Z2.out.1; omega
  have hwlo : w.heap.size < W1.heap.size := Z2.out.1
  have hxg : W2.heap.size ≠ g := by omega
  have hxw : w.heap.size < W2.heap.size := by have := Z2.out; omega
  have A4 := Lib.hid (A3.only ho4 hc4 hg hglo hxg)
  clear A3 hC3 hc4 ho4 hbx hx2 A2 C2 O2 K2 BD Z2 hg2
  generalize W2.heap.size = x at *
  generalize W1.heap.size = lo at *
  go_upto_if 7 with fail
  go_cut [] (fun wx => AnyAt g a len cap (m + 60) w lo x 4 5 wx)
  case first =>
    cases t
    · go_wp2_with fail
      go_meet
      obtain ⟨c, wv, mv, hX, hA, hx, hb, hK, hC, hO, hl⟩ := A4.out
      exact ⟨c, wv, mv, hX, hA, hx, ⟨by omega, by omega, by omega⟩, hK, hC.more (by omega), hO, hl⟩
    · go_wp2_with fail
      have hC4 : Curs g a len cap (m + 40 + 1) W4 := by obtain ⟨_, _, _, _, _, _, _, _, h, _⟩ := A4.out; exact h
      refine (pick_any g a len cap (m + 40 + 1) 6 W4 (by omega) hC4).mono ?_
      rintro e W5 ⟨r, rfl, r0, r1, hc5, ho5⟩
      have A5 := Lib.hid (A4.out.only ho5 hc5 hg hglo hxg)
      have hr6 : r = 0 ∨ r = 1 ∨ r = 2 ∨ r = 3 ∨ r = 4 ∨ r = 5 := by omega
      clear hC4 hc5 ho5 A4 r0 r1
      rcases hr6 with rfl | rfl | rfl | rfl | rfl | rfl
      · go_wp2_with fail
        have hC5 : Curs g a len cap (m + 40 + 1 + 1) W5 := by obtain ⟨_, _, _, _, _, _, _, _, h, _⟩ := A5.out; exact h
        refine (raw_any g a len cap (m + 40 + 1 + 1) W5 (by omega) hC5).mono ?_
        rintro e W6 ⟨v, rfl, -, hc6, ho6⟩
        have A6 := Lib.hid (A5.out.only ho6 hc6 hg hglo hxg)
        clear hC5 hc6 ho6 A5
        obtain ⟨c, wv, mv, hX, hA, hx, hb, hK, hC, hO, hl⟩ := A6.out
        obtain ⟨aw, cw, hwv⟩ := hA.1.slice
        obtain ⟨am, cm, hmv⟩ := hA.2.1.slice
        subst hwv hmv
        have c0 := hX.cell 0
        have c1 := hX.cell 1
        have c2 := hX.cell 2
        have c3 := hX.cell 3
        have c4 := hX.cell 4
        have xf := hX.frozen
        simp at c0 c1 c2 c3 c4
        have HX := Lib.hid hX
        have HA := Lib.hid hA
        have HXO := Lib.hid hx
        have HB := Lib.hid hb
        have HK := Lib.hid hK
        have HC := Lib.hid hC
        have HO := Lib.hid hO
        have HL := Lib.hid hl
        clear hX hA hx hb hK hC hO hl
        go_wp2_with fail
        go_meet
        exact (any_store ⟨v, c.ws, c.ms, c.dl, c.lt⟩ _ _ HX.out HA.out HXO.out (by have := HB.out; exact ⟨by simp only; omega, by simp only; omega, by simp only; omega⟩) HK.out (HC.out.more (by omega)) HO.out HL.out hxw hg 0 (.int .i64 v) (by simp))
      · have HC5 : True := trivial
        obtain ⟨c, wv, mv, hX, hA, hx, hb, hK, hC, hO, hl⟩ := A5.out
        obtain ⟨aw, cw, hwv⟩ := hA.1.slice
        obtain ⟨am, cm, hmv⟩ := hA.2.1.slice
        subst hwv hmv
        have c0 := hX.cell 0
        have c1 := hX.cell 1
        have c2 := hX.cell 2
        have c3 := hX.cell 3
        have c4 := hX.cell 4
        have xf := hX.frozen
        simp at c0 c1 c2 c3 c4
        have HX := Lib.hid hX
        have HA := Lib.hid hA
        have HXO := Lib.hid hx
        have HB := Lib.hid hb
        have HK := Lib.hid hK
        have HC := Lib.hid hC
        have HO := Lib.hid hO
        have HL := Lib.hid hl
        clear hX hA hx hb hK hC hO hl
        go_wp2_with fail
        refine mix.wp_region_tail (fun w' => w'.cell? ⟨x, 1, none⟩ = some (.slice aw c.ws.length cw)) [3,4,5] [0,1,2,3,4,5,6] (by kernel_rfl) (by kernel_rfl) (fun _ _ d _ _ h => by cases d <;> exact h) c1 ?_
        simp only [List.filterMap_cons, List.filterMap_nil, List.getElem?_cons_zero, List.getElem?_cons_succ, Option.map_some]
        (repeat (apply mix.ordt_take; (· rfl); (· rfl); (· (intro w' hSw; (try dsimp only at hSw); go_simp; try with_reducible rfl)); (try simp only [Act.put, List.setIfInBounds_toArray, List.set_cons_zero, List.set_cons_succ])))
        refine mix.ordt_hard rfl (fun K hK => ?_); go_simp
        refine (win_any g a len cap (m + 40 + 1 + 1) W5.drew (by omega) (HC.out.below (Below.refl _ _).drew)).mono ?_
        rintro e W6 ⟨z, l, rfl, hc6, ho6⟩
        have X6 := Lib.hid (show Blk W6 x 33 [.int .i64 c.d, .slice aw c.ws.length cw, .slice am c.ms.length cm, .int .i64 c.dl, .int .i64 c.lt] from (ho6.block x HX.out.lt hxg).trans HX.out)
        have HA6 := Lib.hid (show ConfAt lo c (.slice aw c.ws.length cw) (.slice am c.ms.length cm) W6 from HA.out.stay (fun b h1 h2 => ho6.block b h2 (by omega)))
        have K6 := Lib.hid (show Blk W6 w.heap.size 33 [.int .i64 0, .slice none 0 0, .slice none 0 0, .int .i64 0, .int .i64 0] from (ho6.block _ HK.out.lt (by omega)).trans HK.out)
        have C6 := Lib.hid hc6
        have O6 := Lib.hid ((HO.out.drew).trans ho6)
        have L6 := Lib.hid (Nat.le_trans HL.out ho6.size)
        have x6 := X6.out.lt
        have d1 := X6.out.cell 1
        simp at d1
        clear hc6 ho6 c0 c1 c2 c3 c4 xf HX HA HK HC HO HL
        refine hK.out _ _ (by exact d1) (fun hSw => ?_); clear hK K hSw; (try simp only [Act.put, List.setIfInBounds_toArray, List.set_cons_zero, List.set_cons_succ])
        refine mix.ordt_hard rfl (fun K hK => ?_); go_simp
        have hb7 : Below W6.heap.size W6 (W6.alloc (.cells #[.int .i64 z, .int .i64 l] 88)) := (Below.refl _ _).alloc (Nat.le_refl _) _
        have d2 : (W6.alloc (.cells #[.int .i64 z, .int .i64 l] 88)).cell? ⟨x, 1, none⟩ = some (.slice aw c.ws.length cw) := (hb7.cell (p := ⟨x, 1, none⟩) x6).trans d1
        refine hK.out _ _ (by exact d2) (fun hSw => ?_); clear hK K hSw; (try simp only [Act.put, List.setIfInBounds_toArray, List.set_cons_zero, List.set_cons_succ])
        obtain ⟨i0, hi, hi2⟩ := Option.map_eq_some_iff.1 info_Win
        simp only [Prod.mk.injEq] at hi2
        obtain ⟨hz0, hz1, hz2⟩ := hi2
        have hBd := HB.out
        refine mix.ordt_hardb rfl rfl (fun K hK => ?_)
        refine push_wp (v := .slice aw c.ws.length cw) local_Win _ _ 31 rfl i0 (.agg #[.int .i64 0, .int .i64 0]) 16 Tryz.underlying31 hi hz0 hz1 hz2 rfl (by decide) rfl HA6.out.1 hb7 W6.heap.size 1 rfl [.int .i64 z, .int .i64 l] rfl (fun u hu => by simp at hu; rcases hu with rfl | rfl <;> rfl) (fun j u hj => ?_) (z, l) [] ⟨rfl, rfl⟩ Own.nil (by omega) (by unfold maxLen; omega) L6.out ?_
        · exact ((blk_new W6 88 [.int .i64 z, .int .i64 l]).cell j).trans hj
        intro v8 W8 hG8 hb8 hk8 hw8
        obtain ⟨a8, cap8, hv8⟩ := hG8.slice
        subst hv8
        generalize hn8 : (c.ws ++ [(z, l)]).length = n8 at *
        have hsz : (W6.alloc (.cells #[.int .i64 z, .int .i64 l] 88)).heap.size = W6.heap.size + 1 := by simp
        have hkk : ∀ b, b < W6.heap.size → (Value.slice aw c.ws.length cw).ownBlock ≠ some b → W8.heap[b]? = W6.heap[b]? := fun b h1 h2 => (hk8 b (by omega) h2).trans (Below.heap_alloc _ _ _ h1)
        have X8 := Lib.hid (show Blk W8 x 33 [.int .i64 c.d, .slice aw c.ws.length cw, .slice am c.ms.length cm, .int .i64 c.dl, .int .i64 c.lt] from (hkk x x6 HXO.out.1).trans X6.out)
        have hBl : Below lo W6 W8 := ((Below.refl _ _).alloc L6.out _).trans hb8
        have hOth : Grows 1 RInt 3 lo W8 (.slice am c.ms.length cm) c.ms := HA6.out.2.1.stay local_int plain_int (fun b hb => hkk b (HA6.out.2.1.lt b hb).2 (fun h => HA6.out.2.2 b h hb))
        have hNew : ConfAt lo ⟨c.d, c.ws ++ [(z, l)], c.ms, c.dl, c.lt⟩ (.slice a8 n8 cap8) (.slice am c.ms.length cm) W8 := by
          refine ⟨hG8, hOth, fun b hb => ?_⟩
          rcases hw8 with e | e
          · exact HA6.out.2.2 b (e ▸ hb)
          · intro h
            have h1 := HA6.out.2.1.lt b h
            rw [e] at hb
            simp at hb
            omega
        have hXn : (Value.slice a8 n8 cap8).ownBlock ≠ some x ∧ (Value.slice am c.ms.length cm).ownBlock ≠ some x := by
          refine ⟨?_, HXO.out.2⟩
          rcases hw8 with e | e
          · rw [e]; exact HXO.out.1
          · rw [e]; intro h; simp at h; omega
        have hfin := any_store (g := g) (a := a) (len := len) (cap := cap) (m := m + 60) (w := w) (p := 4) (q := 5) ⟨c.d, c.ws ++ [(z, l)], c.ms, c.dl, c.lt⟩ _ _ X8.out hNew hXn (by refine ⟨?_, ?_, ?_⟩ <;> simp <;> omega) (K6.out.belowB hBl (by omega)) ((C6.out.belowB hBl hglo).more (by omega)) (O6.out.then_below hBl (by omega)) (Nat.le_trans L6.out (by have := hb8.size; omega)) hxw hg 1 (.slice a8 n8 cap8) (by simp)
        have HF := Lib.hid hfin
        have d8 := X8.out.cell 1
        have f8 := X8.out.frozen
        simp at d8
        clear hfin hNew hXn hOth hkk hk8 hw8 hb8 hG8 hBl hsz d1 d2 hb7 hi hz0 hz1 hz2
        refine hK.out _ _ (by exact d8) (fun hSw => ?_); clear hK K hSw; (try simp only [Act.put, List.setIfInBounds_toArray, List.set_cons_zero, List.set_cons_succ])
        (repeat (apply mix.ordt_take; (· rfl); (· rfl); (· (intro w' hSw; (try dsimp only at hSw); go_simp; try with_reducible rfl)); (try simp only [Act.put, List.setIfInBounds_toArray, List.set_cons_zero, List.set_cons_succ])))
        refine mix.ordt_end ?_; refine mix.last_step (fun K hK => ?_); go_simp
        refine hK _ _ ?_
        clear hK K
        go_wp2_with fail
        go_meet
        exact HF.out
      · have HC5 : True := trivial
        obtain ⟨c, wv, mv, hX, hA, hx, hb, hK, hC, hO, hl⟩ := A5.out
        obtain ⟨aw, cw, hwv⟩ := hA.1.slice
        obtain ⟨am, cm, hmv⟩ := hA.2.1.slice
        subst hwv hmv
        have c0 := hX.cell 0
        have c1 := hX.cell 1
        have c2 := hX.cell 2
        have c3 := hX.cell 3
        have c4 := hX.cell 4
        have xf := hX.frozen
        simp at c0 c1 c2 c3 c4
        have HX := Lib.hid hX
        have HA := Lib.hid hA
        have HXO := Lib.hid hx
        have HB := Lib.hid hb
        have HK := Lib.hid hK
        have HC := Lib.hid hC
        have HO := Lib.hid hO
        have HL := Lib.hid hl
        clear hX hA hx hb hK hC hO hl
        go_wp2_with fail
        refine mix.wp_region_tail (fun w' => w'.cell? ⟨x, 2, none⟩ = some (.slice am c.ms.length cm)) [3,4,5] [0,1,2,3,4,5,6] (by kernel_rfl) (by kernel_rfl) (fun _ _ d _ _ h => by cases d <;> exact h) c2 ?_
        simp only [List.filterMap_cons, List.filterMap_nil, List.getElem?_cons_zero, List.getElem?_cons_succ, Option.map_some]
        (repeat (apply mix.ordt_take; (· rfl); (· rfl); (· (intro w' hSw; (try dsimp only at hSw); go_simp; try with_reducible rfl)); (try simp only [Act.put, List.setIfInBounds_toArray, List.set_cons_zero, List.set_cons_succ])))
        refine mix.ordt_hard rfl (fun K hK => ?_); go_simp
        refine (raw_any g a len cap (m + 40 + 1 + 1) W5.drew (by omega) (HC.out.below (Below.refl _ _).drew)).mono ?_
        rintro e W6 ⟨z, rfl, -, hc6, ho6⟩
        have X6 := Lib.hid (show Blk W6 x 33 [.int .i64 c.d, .slice aw c.ws.length cw, .slice am c.ms.length cm, .int .i64 c.dl, .int .i64 c.lt] from (ho6.block x HX.out.lt hxg).trans HX.out)
        have HA6 := Lib.hid (show ConfAt lo c (.slice aw c.ws.length cw) (.slice am c.ms.length cm) W6 from HA.out.stay (fun b h1 h2 => ho6.block b h2 (by omega)))
        have K6 := Lib.hid (show Blk W6 w.heap.size 33 [.int .i64 0, .slice none 0 0, .slice none 0 0, .int .i64 0, .int .i64 0] from (ho6.block _ HK.out.lt (by omega)).trans HK.out)
        have C6 := Lib.hid hc6
        have O6 := Lib.hid ((HO.out.drew).trans ho6)
        have L6 := Lib.hid (Nat.le_trans HL.out ho6.size)
        have x6 := X6.out.lt
        have d1 := X6.out.cell 2
        simp at d1
        clear hc6 ho6 c0 c1 c2 c3 c4 xf HX HA HK HC HO HL
        refine hK.out _ _ (by exact d1) (fun hSw => ?_); clear hK K hSw; (try simp only [Act.put, List.setIfInBounds_toArray, List.set_cons_zero, List.set_cons_succ])
        refine mix.ordt_hard rfl (fun K hK => ?_); go_simp
        have hb7 : Below W6.heap.size W6 (W6.alloc (.cells #[.int .i64 z] 3)) := (Below.refl _ _).alloc (Nat.le_refl _) _
        have d2 : (W6.alloc (.cells #[.int .i64 z] 3)).cell? ⟨x, 2, none⟩ = some (.slice am c.ms.length cm) := (hb7.cell (p := ⟨x, 2, none⟩) x6).trans d1
        refine hK.out _ _ (by exact d2) (fun hSw => ?_); clear hK K hSw; (try simp only [Act.put, List.setIfInBounds_toArray, List.set_cons_zero, List.set_cons_succ])
        obtain ⟨i0, hi, hi2⟩ := Option.map_eq_some_iff.1 win.info_int
        simp only [Prod.mk.injEq] at hi2
        obtain ⟨hz0, hz1, hz2⟩ := hi2
        have hBd := HB.out
        refine mix.ordt_hardb rfl rfl (fun K hK => ?_)
        refine push_wp (v := .slice am c.ms.length cm) local_int _ _ 23 rfl i0 (.int .i64 0) 8 Tryz.underlying23 hi hz0 hz1 hz2 rfl (by decide) rfl HA6.out.2.1 hb7 W6.heap.size 1 rfl [.int .i64 z] rfl (fun u hu => by simp at hu; subst hu; rfl) (fun j u hj => ?_) z [] ⟨rfl, rfl⟩ Own.nil (by omega) (by unfold maxLen; omega) L6.out ?_
        · exact ((blk_new W6 3 [.int .i64 z]).cell j).trans hj
        intro v8 W8 hG8 hb8 hk8 hw8
        obtain ⟨a8, cap8, hv8⟩ := hG8.slice
        subst hv8
        generalize hn8 : (c.ms ++ [z]).length = n8 at *
        have hsz : (W6.alloc (.cells #[.int .i64 z] 3)).heap.size = W6.heap.size + 1 := by simp
        have hkk : ∀ b, b < W6.heap.size → (Value.slice am c.ms.length cm).ownBlock ≠ some b → W8.heap[b]? = W6.heap[b]? := fun b h1 h2 => (hk8 b (by omega) h2).trans (Below.heap_alloc _ _ _ h1)
        have X8 := Lib.hid (show Blk W8 x 33 [.int .i64 c.d, .slice aw c.ws.length cw, .slice am c.ms.length cm, .int .i64 c.dl, .int .i64 c.lt] from (hkk x x6 HXO.out.2).trans X6.out)
        have hBl : Below lo W6 W8 := ((Below.refl _ _).alloc L6.out _).trans hb8
        have hOth : Grows 2 RWin 88 lo W8 (.slice aw c.ws.length cw) c.ws := HA6.out.1.stay local_Win plain_win (fun b hb => hkk b (HA6.out.1.lt b hb).2 (HA6.out.2.2 b hb))
        have hNew : ConfAt lo ⟨c.d, c.ws, c.ms ++ [z], c.dl, c.lt⟩ (.slice aw c.ws.length cw) (.slice a8 n8 cap8) W8 := by
          refine ⟨hOth, hG8, fun b hb => ?_⟩
          rcases hw8 with e | e
          · rw [e]; exact HA6.out.2.2 b hb
          · intro h
            have h1 := HA6.out.1.lt b hb
            rw [e] at h
            simp at h
            omega
        have hXn : (Value.slice aw c.ws.length cw).ownBlock ≠ some x ∧ (Value.slice a8 n8 cap8).ownBlock ≠ some x := by
          refine ⟨HXO.out.1, ?_⟩
          rcases hw8 with e | e
          · rw [e]; exact HXO.out.2
          · rw [e]; intro h; simp at h; omega
        have hfin := any_store (g := g) (a := a) (len := len) (cap := cap) (m := m + 60) (w := w) (p := 4) (q := 5) ⟨c.d, c.ws, c.ms ++ [z], c.dl, c.lt⟩ _ _ X8.out hNew hXn (by refine ⟨?_, ?_, ?_⟩ <;> simp <;> omega) (K6.out.belowB hBl (by omega)) ((C6.out.belowB hBl hglo).more (by omega)) (O6.out.then_below hBl (by omega)) (Nat.le_trans L6.out (by have := hb8.size; omega)) hxw hg 2 (.slice a8 n8 cap8) (by simp)
        have HF := Lib.hid hfin
        have d8 := X8.out.cell 2
        have f8 := X8.out.frozen
        simp at d8
        clear hfin hNew hXn hOth hkk hk8 hw8 hb8 hG8 hBl hsz d1 d2 hb7 hi hz0 hz1 hz2
        refine hK.out _ _ (by exact d8) (fun hSw => ?_); clear hK K hSw; (try simp only [Act.put, List.setIfInBounds_toArray, List.set_cons_zero, List.set_cons_succ])
        (repeat (apply mix.ordt_take; (· rfl); (· rfl); (· (intro w' hSw; (try dsimp only at hSw); go_simp; try with_reducible rfl)); (try simp only [Act.put, List.setIfInBounds_toArray, List.set_cons_zero, List.set_cons_succ])))
        refine mix.ordt_end ?_; refine mix.last_step (fun K hK => ?_); go_simp
        refine hK _ _ ?_
        clear hK K
        go_wp2_with fail
        go_meet
        exact HF.out
      · go_wp2_with fail
        have hC5 : Curs g a len cap (m + 40 + 1 + 1) W5 := by obtain ⟨_, _, _, _, _, _, _, _, h, _⟩ := A5.out; exact h
        refine (raw_any g a len cap (m + 40 + 1 + 1) W5 (by omega) hC5).mono ?_
        rintro e W6 ⟨v, rfl, -, hc6, ho6⟩
        have A6 := Lib.hid (A5.out.only ho6 hc6 hg hglo hxg)
        clear hC5 hc6 ho6 A5
        obtain ⟨c, wv, mv, hX, hA, hx, hb, hK, hC, hO, hl⟩ := A6.out
        obtain ⟨aw, cw, hwv⟩ := hA.1.slice
        obtain ⟨am, cm, hmv⟩ := hA.2.1.slice
        subst hwv hmv
        have c0 := hX.cell 0
        have c1 := hX.cell 1
        have c2 := hX.cell 2
        have c3 := hX.cell 3
        have c4 := hX.cell 4
        have xf := hX.frozen
        simp at c0 c1 c2 c3 c4
        have HX := Lib.hid hX
        have HA := Lib.hid hA
        have HXO := Lib.hid hx
        have HB := Lib.hid hb
        have HK := Lib.hid hK
        have HC := Lib.hid hC
        have HO := Lib.hid hO
        have HL := Lib.hid hl
        clear hX hA hx hb hK hC hO hl
        go_wp2_with fail
        go_meet
        exact (any_store ⟨c.d, c.ws, c.ms, v, c.lt⟩ _ _ HX.out HA.out HXO.out (by have := HB.out; exact ⟨by simp only; omega, by simp only; omega, by simp only; omega⟩) HK.out (HC.out.more (by omega)) HO.out HL.out hxw hg 3 (.int .i64 v) (by simp))
      · go_wp2_with fail
        have hC5 : Curs g a len cap (m + 40 + 1 + 1) W5 := by obtain ⟨_, _, _, _, _, _, _, _, h, _⟩ := A5.out; exact h
        have hg5 := hC5.lt
        have hCt : Curs g a len cap (m + 40 + 1 + 1) (W5.alloc (.cells #[.int .i64 1000, .int .i64 1001, .int .i64 (-1)] 3)) := hC5.below ((Below.refl _ _).alloc (Nat.le_refl _) _)
        have At := A5.out.only ((Only.refl g W5).alloc (.cells #[.int .i64 1000, .int .i64 1001, .int .i64 (-1)] 3)) hCt hg hglo hxg
        refine (pick_any g a len cap (m + 40 + 1 + 1) 3 _ (by omega) hCt).mono ?_
        rintro e W6 ⟨k, rfl, k0, k1, hc6, ho6⟩
        have A6 := Lib.hid (At.only ho6 hc6 hg hglo hxg)
        have hsel : ∃ u : Int, W6.cell? ⟨W5.heap.size, k.toNat, none⟩ = some (.int .i64 u) := by
          rw [ho6.cell (b := W5.heap.size) (by simp) (by omega)]
          have : k = 0 ∨ k = 1 ∨ k = 2 := by omega
          rcases this with rfl | rfl | rfl <;> exact ⟨_, by simp [go_sem]; rfl⟩
        obtain ⟨v, hu⟩ := hsel
        have k3 : k < 3 := by omega
        clear hC5 hCt At hc6 ho6 A5 k1
        obtain ⟨c, wv, mv, hX, hA, hx, hb, hK, hC, hO, hl⟩ := A6.out
        obtain ⟨aw, cw, hwv⟩ := hA.1.slice
        obtain ⟨am, cm, hmv⟩ := hA.2.1.slice
        subst hwv hmv
        have c0 := hX.cell 0
        have c1 := hX.cell 1
        have c2 := hX.cell 2
        have c3 := hX.cell 3
        have c4 := hX.cell 4
        have xf := hX.frozen
        simp at c0 c1 c2 c3 c4
        have HX := Lib.hid hX
        have HA := Lib.hid hA
        have HXO := Lib.hid hx
        have HB := Lib.hid hb
        have HK := Lib.hid hK
        have HC := Lib.hid hC
        have HO := Lib.hid hO
        have HL := Lib.hid hl
        clear hX hA hx hb hK hC hO hl
        go_wp2_with fail
        go_meet
        exact (any_store ⟨c.d, c.ws, c.ms, c.dl, v⟩ _ _ HX.out HA.out HXO.out (by have := HB.out; exact ⟨by simp only; omega, by simp only; omega, by simp only; omega⟩) HK.out (HC.out.more (by omega)) HO.out HL.out hxw hg 4 (.int .i64 v) (by simp))
      · have HC5 : True := trivial
        obtain ⟨c, wv, mv, hX, hA, hx, hb, hK, hC, hO, hl⟩ := A5.out
        obtain ⟨aw, cw, hwv⟩ := hA.1.slice
        obtain ⟨am, cm, hmv⟩ := hA.2.1.slice
        subst hwv hmv
        have c0 := hX.cell 0
        have c1 := hX.cell 1
        have c2 := hX.cell 2
        have c3 := hX.cell 3
        have c4 := hX.cell 4
        have xf := hX.frozen
        simp at c0 c1 c2 c3 c4
        have HX := Lib.hid hX
        have HA := Lib.hid hA
        have HXO := Lib.hid hx
        have HB := Lib.hid hb
        have HK := Lib.hid hK
        have HC := Lib.hid hC
        have HO := Lib.hid hO
        have HL := Lib.hid hl
        clear hX hA hx hb hK hC hO hl
        obtain ⟨i0, hi, hi2⟩ := Option.map_eq_some_iff.1 info_Win
        simp only [Prod.mk.injEq] at hi2
        obtain ⟨hz0, hz1, hz2⟩ := hi2
        have hBd := HB.out
        have x6 := HX.out.lt
        go_wp2_with (at_builtin; refine push_self (v := .slice aw c.ws.length cw) local_Win plain_win rfl _ _ 31 rfl i0 (.agg #[.int .i64 0, .int .i64 0]) 16 Tryz.underlying31 hi hz0 hz1 hz2 rfl (by decide) rfl rfl HA.out.1 (by omega) one_win (by omega) (by unfold maxLen; omega) HL.out ?_; intro v8 W8 hG8 hb8 hk8 hw8; obtain ⟨a8, cap8, hv8⟩ := hG8.slice; subst hv8; have X8 : Blk W8 x 33 [.int .i64 c.d, .slice aw c.ws.length cw, .slice am c.ms.length cm, .int .i64 c.dl, .int .i64 c.lt] := (hk8 x x6 HXO.out.1).trans HX.out; have d8 := X8.cell 1; have f8 := X8.frozen; simp at d8)
        go_meet
        have hOth : Grows 1 RInt 3 lo W8 (.slice am c.ms.length cm) c.ms := HA.out.2.1.stay local_int plain_int (fun b hb => hk8 b (HA.out.2.1.lt b hb).2 (fun h => HA.out.2.2 b h hb))
        have hNew : ConfAt lo ⟨c.d, c.ws ++ c.ws, c.ms, c.dl, c.lt⟩ (.slice a8 (c.ws ++ c.ws).length cap8) (.slice am c.ms.length cm) W8 := by
          refine ⟨hG8, hOth, fun b hb => ?_⟩
          rcases hw8 with e | e
          · exact HA.out.2.2 b (e ▸ hb)
          · intro h
            have h1 := HA.out.2.1.lt b h
            rw [e] at hb
            simp at hb
            omega
        have hXn : (Value.slice a8 (c.ws ++ c.ws).length cap8).ownBlock ≠ some x ∧ (Value.slice am c.ms.length cm).ownBlock ≠ some x := by
          refine ⟨?_, HXO.out.2⟩
          rcases hw8 with e | e
          · rw [e]; exact HXO.out.1
          · rw [e]; intro h; simp at h; omega
        have hfin := any_store (g := g) (a := a) (len := len) (cap := cap) (m := m + 60) (w := w) (p := 4) (q := 5) ⟨c.d, c.ws ++ c.ws, c.ms, c.dl, c.lt⟩ _ _ X8 hNew hXn (by refine ⟨?_, ?_, ?_⟩ <;> simp <;> omega) (HK.out.belowB hb8 (by omega)) ((HC.out.belowB hb8 hglo).more (by omega)) (HO.out.then_below hb8 (by omega)) (Nat.le_trans HL.out hb8.size) hxw hg 1 (.slice a8 (c.ws ++ c.ws).length cap8) (by simp)
        simp only [List.length_append] at hfin
        exact hfin
  case rest =>
    generalize wc = W7 at *
    clear wc
    obtain ⟨c, wv, mv, hX, hA, hx, hb, hK, hC, hO, hl⟩ := hcut
    obtain ⟨aw, cw, hwv⟩ := hA.1.slice
    obtain ⟨am, cm, hmv⟩ := hA.2.1.slice
    subst hwv hmv
    have c0 := hX.cell 0
    have c1 := hX.cell 1
    have c2 := hX.cell 2
    have c3 := hX.cell 3
    have c4 := hX.cell 4
    have k0 := hK.cell 0
    have k1 := hK.cell 1
    have k2 := hK.cell 2
    have k3 := hK.cell 3
    have k4 := hK.cell 4
    have kf := hK.frozen
    simp at c0 c1 c2 c3 c4 k0 k1 k2 k3 k4
    have HALL := Lib.hid (show Blk (five w.heap.size (.int .i64 c.d) (.slice aw c.ws.length cw) (.slice am c.ms.length cm) (.int .i64 c.dl) (.int .i64 c.lt) W7) w.heap.size 33 [.int .i64 c.d, .slice aw c.ws.length cw, .slice am c.ms.length cm, .int .i64 c.dl, .int .i64 c.lt] ∧ ConfAt lo c (.slice aw c.ws.length cw) (.slice am c.ms.length cm) (five w.heap.size (.int .i64 c.d) (.slice aw c.ws.length cw) (.slice am c.ms.length cm) (.int .i64 c.dl) (.int .i64 c.lt) W7) ∧ Curs g a len cap (m + 60) (five w.heap.size (.int .i64 c.d) (.slice aw c.ws.length cw) (.slice am c.ms.length cm) (.int .i64 c.dl) (.int .i64 c.lt) W7) ∧ Only g w (five w.heap.size (.int .i64 c.d) (.slice aw c.ws.length cw) (.slice am c.ms.length cm) (.int .i64 c.dl) (.int .i64 c.lt) W7) from ⟨five_blk hK, hA.stay (fun b h1 _ => five_other b (by omega)), hC.belowB five_below hg, hO.then_below five_below (Nat.le_refl _)⟩)
    unfold five at HALL
    have HB := Lib.hid hb
    clear hX hA hx hb hK hC hO hl A4
    go_wp2_with fail
    refine body_gen (fun W9 => Blk W9 w.heap.size 33 [.int .i64 c.d, .slice aw c.ws.length cw, .slice am c.ms.length cm, .int .i64 c.dl, .int .i64 c.lt] ∧ ConfAt lo c (.slice aw c.ws.length cw) (.slice am c.ms.length cm) W9 ∧ Curs g a len cap (m + 60) W9 ∧ Only g w W9) HALL.out ?_
    rintro W9 ⟨q9, a9, c9, o9⟩
    have z0 := q9.cell 0
    have z1 := q9.cell 1
    have z2 := q9.cell 2
    have z3 := q9.cell 3
    have z4 := q9.cell 4
    simp at z0 z1 z2 z3 z4
    refine bodyPost_ret (v := .agg #[.int .i64 c.d, .slice aw c.ws.length cw, .slice am c.ms.length cm, .int .i64 c.dl, .int .i64 c.lt]) (by simp [results, Tryz.results51, go_sem, z0, z1, z2, z3, z4]) rfl ⟨c, _, _, rfl, a9.lower (by omega), HB.out.1, HB.out.2.1, c9, o9⟩
end Go.Proofs.YtdipkbgfkbmfnaaGreatDoor.cur

/-
  THE DRAWS: the contract of logs: some parts of short records, in memory of their own; nothing but the cursor that was there is written.
-/
namespace Go.Proofs.YtdipkbgfkbmfnaaGreatDoor.cur
open Go.RowKit Go.Proofs.YtdipkbgfkbmfnaaGreatDoor.win Go.Proofs.YtdipkbgfkbmfnaaGreatDoor.dat

theorem plain_str : ∀ (w : World) c x f, RStr w c x f → f = [] := fun _ _ _ _ h => h.2.2
/-- A part whose records lie in a row that may be appended to. -/
def RP : Rel PartD := fun w cs x f => ∃ v, cs = [v] ∧ Grows 1 RStr 9 0 w v x.recs ∧ f = v.ownBlock.toList
theorem local_rp : Local RP := by
  refine ⟨?_, ?_⟩
  · rintro w w' cs x f ⟨v, rfl, hG, rfl⟩ hf
    exact ⟨v, rfl, hG.stay local_str plain_str (fun b hb => hf b (by rw [hb]; simp)), rfl⟩
  · rintro w cs x f ⟨v, rfl, hG, rfl⟩ b hb
    cases hv : v.ownBlock with
    | none => rw [hv] at hb; simp at hb
    | some c => rw [hv] at hb; simp at hb; subst hb; exact (hG.lt _ hv).2

def VL (g base : Nat) (z : Int) (i : Nat) (w : World) (v : Value) : Prop := match i with
  | 0 => v = .int .i64 z
  | 1 => ∃ b : Nat, v = .slice (some ⟨b, 0, none⟩) 5 5 ∧ base ≤ b ∧ Blk w b 3 [.int .i64 0, .int .i64 0, .int .i64 3, .int .i64 15, .int .i64 70]
  | 2 => v = .pointer (some ⟨g, 0, none⟩)
  | 3 => ∃ r : Nat, v = .int .i64 (r : Int) ∧ r < 5
  | 4 => ∃ (b r : Nat), v = .pointer (some ⟨b, r, none⟩) ∧ r < 5 ∧ base ≤ b ∧ Blk w b 3 [.int .i64 0, .int .i64 0, .int .i64 3, .int .i64 15, .int .i64 70]
  | 5 => ∃ y : Int, v = .int .i64 y
  | 6 => ∃ y : Int, v = .int .i64 y
  | 7 => v = .pointer (some ⟨g, 0, none⟩)
  | 8 => ∃ y : Int, v = .int .i64 y
  | 9 => ∃ y : Int, v = .int .i64 y
  | 10 => ∃ t u : Int, v = .agg #[.int .i64 t, .slice none 0 0, .int .i64 u]
  | 11 => ∃ b : Nat, v = .pointer (some ⟨b, 0, none⟩) ∧ base ≤ b ∧ Blk w b 84 [.int .i64 0, .slice none 0 0, .int .i64 0]
  | _ => True
theorem VL.keep {g base : Nat} {z : Int} {w w' : World} (h : ∀ b, base ≤ b → b < w.heap.size → w'.heap[b]? = w.heap[b]?) (j : Nat) (u : Value) (hv : VL g base z j w u) : VL g base z j w' u := by
  have hB : ∀ {b t vs}, base ≤ b → Blk w b t vs → Blk w' b t vs := fun h0 hb => (h _ h0 hb.lt).trans hb
  unfold VL at *
  split at hv <;> first | exact hv | (obtain ⟨b, e, h0, hb⟩ := hv; exact ⟨b, e, h0, hB h0 hb⟩) | (obtain ⟨b, r, e, hr, h0, hb⟩ := hv; exact ⟨b, r, e, hr, h0, hB h0 hb⟩)

/-- One part under way: its box q, its records; all else but the cursor is as it was in wo. -/
structure PartAt (g : Nat) (a : Option Addr) (len cap m : Nat) (wo : World) (q j : Nat) (W : World) : Prop where
  ex : ∃ (vq : Value) (recs : List ByteArray), Blk W q 58 [vq] ∧ Grows 1 RStr 9 (q + 1) W vq recs ∧ recs.length ≤ j ∧ (∀ s ∈ recs, s.size ≤ 201)
  curs : Curs g a len cap m W
  only : Only g wo W
  qo : wo.heap.size ≤ q
theorem PartAt.next {g : Nat} {a : Option Addr} {len cap m m' : Nat} {wo : World} {q j : Nat} {W W' : World} (h : PartAt g a len cap m wo q j W) (ho : Only g W W') (hc : Curs g a len cap m' W') (hg : g < wo.heap.size) : PartAt g a len cap m' wo q j W' := by
  obtain ⟨vq, recs, h1, h2, h3, h4⟩ := h.ex
  have hq := h.qo
  exact ⟨⟨vq, recs, (ho.block q h1.lt (by omega)).trans h1, h2.keep local_str (fun b hb hlt => ho.block b hlt (by omega)), h3, h4⟩, hc, h.only.trans ho, h.qo⟩
/-- The world cut off at n blocks. -/
theorem trunc (W : World) {n : Nat} (hn : n ≤ W.heap.size) : ∃ W' : World, W'.heap.size = n ∧ Below W'.heap.size W' W ∧ ∀ b, b < n → W'.heap[b]? = W.heap[b]? := by
  have hs : ({ W with heap := W.heap.extract 0 n } : World).heap.size = n := by simp; omega
  have hb : ∀ b, b < n → ({ W with heap := W.heap.extract 0 n } : World).heap[b]? = W.heap[b]? := fun b hb => by
    show (W.heap.extract 0 n)[b]? = _
    rw [Array.getElem?_extract]
    simp
    intro h
    omega
  exact ⟨{ W with heap := W.heap.extract 0 n }, hs, ⟨rfl, rfl, rfl, by rw [hs]; exact hn, fun b h => (hb b (by rw [hs] at h; exact h)).symm⟩, hb⟩
theorem own_of {α : Type} {k : Nat} {R : Rel α} {e : TypeId} {base lo : Nat} {w : World} {v : Value} {l : List α} (h : Grows k R e base w v l) (hl : lo ≤ base) : Own lo w v.ownBlock.toList := by
  obtain ⟨css, F, h1, h2, h3, h4, h5, h6, ho⟩ := h.ex
  rcases ho.2 with ⟨rfl, _⟩ | ⟨g, cap, cur, rfl, hb, hg, _⟩
  · exact Own.nil
  · refine ⟨by simp [Value.ownBlock], fun b hb' => ?_⟩
    simp [Value.ownBlock] at hb'
    subst hb'
    exact ⟨by omega, cur, e, hg⟩
theorem nodup_apart : ∀ {F : List (List Nat)}, F.flatten.Nodup → ∀ {i j : Nat} (hi : i < F.length) (hj : j < F.length), i ≠ j → ∀ {c : Nat}, c ∈ F[i] → c ∈ F[j] → False
  | [], _, i, _, hi, _, _, _, _, _ => by simp at hi
  | f :: F, h, i, j, hi, hj, hij, c, h1, h2 => by
    rw [List.flatten_cons, List.nodup_append] at h
    cases i with
    | zero =>
      cases j with
      | zero => exact hij rfl
      | succ j => exact h.2.2 c h1 c (List.mem_flatten.2 ⟨_, List.getElem_mem (by simpa using hj), by simpa using h2⟩) rfl
    | succ i =>
      cases j with
      | zero => exact h.2.2 c h2 c (List.mem_flatten.2 ⟨_, List.getElem_mem (by simpa using hi), by simpa using h1⟩) rfl
      | succ j => exact nodup_apart h.2.1 (by simpa using hi) (by simpa using hj) (fun e => hij (by omega)) (by simpa using h1) (by simpa using h2)
/-- Parts in a row, out of their cells. -/
theorem parts_row {base : Nat} {W : World} {b off : Nat} {L : List PartD} (hb : b < W.heap.size) (hbb : base ≤ b) (h : ∀ (i : Nat) x, L[i]? = some x → ∃ v, W.cell? ⟨b, off + i, none⟩ = some v ∧ Grows 1 RStr 9 0 W v x.recs ∧ ∀ c, v.ownBlock = some c → base ≤ c) : ∃ fp, GRow 1 RPart W (some ⟨b, off, none⟩) L.length L fp ∧ ∀ c ∈ fp, base ≤ c := by
  classical
  have hex : ∀ i : Nat, ∃ f : List Nat, (∀ x, L[i]? = some x → El 1 RPart W b (off + i * 1) x f) ∧ ∀ c ∈ f, base ≤ c := by
    intro i
    by_cases hi : i < L.length
    · obtain ⟨v, hv, hG, hvb⟩ := h i L[i] (List.getElem?_eq_getElem hi)
      obtain ⟨a, cap, f, rfl, hg, h1, h2, _, hfo⟩ := hG.plain plain_str
      refine ⟨f, fun x hx => ?_, fun c hc => hvb c (hfo c hc)⟩
      rw [List.getElem?_eq_getElem hi] at hx
      cases hx
      refine ⟨[.slice a L[i].recs.length cap], rfl, ⟨⟨a, _, cap⟩, rfl, ⟨f, rfl, hg, h1, h2⟩⟩, fun j hj => ?_⟩
      obtain rfl : j = 0 := by omega
      simpa using hv
    · exact ⟨[], fun x hx => by have := (List.getElem?_eq_some_iff.1 hx).1; omega, by simp⟩
  by_cases h0 : L.length = 0
  · obtain rfl : L = [] := List.length_eq_zero_iff.1 h0
    exact ⟨[], GRow.nil, by simp⟩
  obtain ⟨g, hg⟩ := Classical.axiomOfChoice hex
  refine ⟨b :: ((List.range L.length).map g).flatten, ⟨rfl, .inr ⟨b, off, (List.range L.length).map g, rfl, hb, rfl, by simp, fun i x f hx hf => ?_⟩⟩, fun c hc => ?_⟩
  rotate_left
  · rcases List.mem_cons.1 hc with rfl | hc
    · exact hbb
    · obtain ⟨f, hf, hcf⟩ := List.mem_flatten.1 hc
      obtain ⟨i, _, rfl⟩ := List.mem_map.1 hf
      exact (hg i).2 c hcf
  have hi := (List.getElem?_eq_some_iff.1 hx).1
  rw [List.getElem?_map, List.getElem?_range hi] at hf
  obtain rfl := Option.some.inj hf
  exact (hg i).1 x hx
/-- The cells of a row of parts; no part's records lie in the row's own block, nor in another's. -/
theorem rp_cells {base : Nat} {W : World} {v : Value} {L : List PartD} (h : Grows 1 RP 58 base W v L) (h0 : 0 < L.length) : ∃ b cap, v = .slice (some ⟨b, 0, none⟩) L.length cap ∧ base ≤ b ∧ Wr W b ∧ L.length ≤ cap ∧ cap ≤ 9223372036854775807 ∧ ∃ us : List Value, us.length = L.length ∧
    (∀ (i : Nat) x u, L[i]? = some x → us[i]? = some u → W.cell? ⟨b, i, none⟩ = some u ∧ Grows 1 RStr 9 0 W u x.recs ∧ u.ownBlock ≠ some b ∧ ∀ c, u.ownBlock = some c → base ≤ c) ∧ ∀ (i j : Nat) u u' c, us[i]? = some u → us[j]? = some u' → i ≠ j → u.ownBlock = some c → u'.ownBlock ≠ some c := by
  obtain ⟨css, F, h1, h2, h3, h4, h5, h6, ho⟩ := h.ex
  rcases ho.2 with ⟨_, hn⟩ | ⟨b, cap, cur, rfl, hb, hg, hnc, hcm, hcs, htake⟩
  · omega
  have hcm' : cap ≤ 9223372036854775807 := by simp only [maxLen] at hcm; omega
  refine ⟨b, cap, rfl, hb, ⟨cur, _, hg⟩, hnc, hcm', css.map (fun c => c.getD 0 undef), by simp [h1], ?_, ?_⟩
  · intro i x u hx hu
    have hi : i < L.length := (List.getElem?_eq_some_iff.1 hx).1
    have hc : css[i]? = some css[i] := List.getElem?_eq_getElem (by omega)
    have hf : F[i]? = some F[i] := List.getElem?_eq_getElem (by omega)
    obtain ⟨v', e, hG, hfo⟩ := h4 i x _ _ hx hc hf
    rw [List.getElem?_map, hc] at hu
    simp at hu
    rw [e] at hu
    simp at hu
    subst hu
    refine ⟨?_, hG, fun eb => ?_, fun q hq => ?_⟩
    · have hflat := flat_get h3 hc 0 (by omega)
      rw [Nat.mul_one, Nat.add_zero, e] at hflat
      have hlt : i < L.length * 1 := by omega
      rw [Go.Joins.cell_of_block hg]
      have : cur.toList[i]? = some v' := by
        rw [← htake, List.getElem?_take, if_pos hlt] at hflat
        exact hflat
      simpa using this
    · have hm : b ∈ F.flatten := mem_flatten_of hf (by rw [hfo, eb]; simp)
      exact (h6 b hm).2.2 rfl
    · exact (h6 q (mem_flatten_of hf (by rw [hfo, hq]; simp))).1
  · intro i j u u' c hu hu' hij hc hc'
    have hil : i < css.length := by have := (List.getElem?_eq_some_iff.1 hu).1; simpa using this
    have hjl : j < css.length := by have := (List.getElem?_eq_some_iff.1 hu').1; simpa using this
    obtain ⟨v1, e1, _, f1⟩ := h4 i L[i] css[i] F[i] (List.getElem?_eq_getElem (by omega)) (List.getElem?_eq_getElem hil) (List.getElem?_eq_getElem (by omega))
    obtain ⟨v2, e2, _, f2⟩ := h4 j L[j] css[j] F[j] (List.getElem?_eq_getElem (by omega)) (List.getElem?_eq_getElem hjl) (List.getElem?_eq_getElem (by omega))
    rw [List.getElem?_map, List.getElem?_eq_getElem hil] at hu
    rw [List.getElem?_map, List.getElem?_eq_getElem hjl] at hu'
    simp at hu hu'
    rw [e1] at hu
    rw [e2] at hu'
    simp at hu hu'
    subst hu hu'
    have m1 : c ∈ F[i] := by rw [f1, hc]; simp
    have m2 : c ∈ F[j] := by rw [f2, hc']; simp
    exact nodup_apart h5 (by omega) (by omega) hij m1 m2
/-- A row of parts, as a row of data. -/
theorem rp_done {base : Nat} {W : World} {v : Value} {L : List PartD} (h : Grows 1 RP 58 base W v L) : ∃ av cv f, v = .slice av L.length cv ∧ GRow 1 RPart W av L.length L f ∧ L.length ≤ cv ∧ cv ≤ 9223372036854775807 ∧ ∀ b ∈ f, base ≤ b := by
  by_cases h0 : L.length = 0
  · obtain rfl : L = [] := List.length_eq_zero_iff.1 h0
    obtain ⟨a, cap, fp, e, _, h1, h2, _⟩ := h.done
    exact ⟨a, cap, [], e, GRow.nil, h1, h2, by simp⟩
  · obtain ⟨b, cap, rfl, hb, hw, h1, h2, us, hus, hc, _⟩ := rp_cells h (by omega)
    obtain ⟨fp, hr, hfb⟩ := parts_row (W := W) (b := b) (off := 0) (L := L) hw.lt hb (fun i x hx => by
      have hi := (List.getElem?_eq_some_iff.1 hx).1
      obtain ⟨c1, c2, _, c4⟩ := hc i x us[i] hx (List.getElem?_eq_getElem (by omega))
      exact ⟨_, by simpa using c1, c2, c4⟩)
    exact ⟨_, cap, fp, rfl, hr, h1, h2, hfb⟩
theorem str_raise {b0 base : Nat} {W : World} {u : Value} {l : List ByteArray} (h : Grows 1 RStr 9 b0 W u l) (hu : ∀ c, u.ownBlock = some c → base ≤ c) : Grows 1 RStr 9 base W u l := by
  obtain ⟨css, F, h1, h2, h3, h4, h5, h6, ho⟩ := h.ex
  refine ⟨css, F, h1, h2, h3, h4, h5, fun b hb => ?_, ho.1, ?_⟩
  · obtain ⟨f, hf, hbf⟩ := List.mem_flatten.1 hb
    obtain ⟨i, hi, rfl⟩ := List.getElem_of_mem hf
    have := plain_str _ _ _ _ (h4 i l[i] css[i] F[i] (List.getElem?_eq_getElem (by omega)) (List.getElem?_eq_getElem (by omega)) (List.getElem?_eq_getElem (by omega)))
    rw [this] at hbf
    simp at hbf
  · rcases ho.2 with hn | ⟨g, cap, cur, hv, hg, r⟩
    · exact .inl hn
    · exact .inr ⟨g, cap, cur, hv, hu g (by rw [hv]; rfl), r⟩
/-- The parts under way while the first of them is made longer. -/
structure Long (base b : Nat) (L : List PartD) (k : Nat) (W : World) : Prop where
  ex : ∃ (t : TypeId) (vs : List Value) (u : Value) (recs : List ByteArray), Blk W b t vs ∧ vs[0]? = some u ∧ Grows 1 RStr 9 base W u recs ∧ u.ownBlock ≠ some b ∧ recs.length + k = 25 ∧ (∀ s ∈ recs, s.size ≤ 201) ∧
    ∀ (i : Nat) x, L[i]? = some x → 0 < i → ∃ v, vs[i]? = some v ∧ Grows 1 RStr 9 base W v x.recs ∧ v.ownBlock ≠ some b ∧ ∀ c, v.ownBlock = some c → u.ownBlock ≠ some c
theorem Long.start {base : Nat} {W : World} {v : Value} {L : List PartD} (h : Grows 1 RP 58 base W v L) (h0 : 0 < L.length) (hs : ∀ x ∈ L, x.recs.length ≤ 9 ∧ ∀ s ∈ x.recs, s.size ≤ 201) : ∃ b cap k, v = .slice (some ⟨b, 0, none⟩) L.length cap ∧ base ≤ b ∧ L.length ≤ cap ∧ cap ≤ 9223372036854775807 ∧ k ≤ 25 ∧ Long base b L k W := by
  obtain ⟨b, cap, rfl, hb, ⟨arr, t, hw⟩, h1, h2, us, hus, hc, hd⟩ := rp_cells h h0
  have hB : Blk W b t arr.toList := by unfold Blk; simpa using hw
  obtain ⟨c1, c2, c3, c4⟩ := hc 0 L[0] us[0] (List.getElem?_eq_getElem h0) (List.getElem?_eq_getElem (by omega))
  have hm : L[0] ∈ L := List.getElem_mem h0
  have h9 := (hs _ hm).1
  refine ⟨b, cap, 25 - L[0].recs.length, rfl, hb, h1, h2, by omega, ⟨t, arr.toList, us[0], L[0].recs, hB, by rw [← hB.cell 0]; exact c1, str_raise c2 c4, c3, by omega, (hs _ hm).2, fun i x hx hi => ?_⟩⟩
  have hi' := (List.getElem?_eq_some_iff.1 hx).1
  obtain ⟨d1, d2, d3, d4⟩ := hc i x us[i] hx (List.getElem?_eq_getElem (by omega))
  exact ⟨us[i], by rw [← hB.cell i]; exact d1, str_raise d2 d4, d3, fun c hc1 hc2 => hd i 0 us[i] us[0] c (List.getElem?_eq_getElem (by omega)) (List.getElem?_eq_getElem (by omega)) (by omega) hc1 hc2⟩
theorem Long.done {base b : Nat} {W : World} {L : List PartD} (h : Long base b L 0 W) (hs : ∀ x ∈ L, x.recs.length ≤ 9 ∧ ∀ s ∈ x.recs, s.size ≤ 201) (h0 : 0 < L.length) (hbb : base ≤ b) : ∃ L' f, L'.length = L.length ∧ (∀ c ∈ f, base ≤ c) ∧ GRow 1 RPart W (some ⟨b, 0, none⟩) L.length L' f ∧ ∀ x ∈ L', x.recs.length ≤ 25 ∧ ∀ s ∈ x.recs, s.size ≤ 201 := by
  obtain ⟨t, vs, u, recs, hB, hu, hG, hub, hr, hrs, hv⟩ := h.ex
  obtain ⟨f, hf, hfb⟩ := parts_row (W := W) (b := b) (off := 0) (L := L.set 0 ⟨recs⟩) hB.lt hbb (fun i x hx => by
    rw [Nat.zero_add, hB.cell i]
    cases i with
    | zero =>
      rw [List.getElem?_set_self h0] at hx
      cases hx
      exact ⟨u, hu, hG.lower (Nat.zero_le _), fun c hc => (hG.lt c hc).1⟩
    | succ i =>
      rw [List.getElem?_set_ne (by omega)] at hx
      obtain ⟨v, h1, h2, _⟩ := hv _ x hx (by omega)
      exact ⟨v, h1, h2.lower (Nat.zero_le _), fun c hc => (h2.lt c hc).1⟩)
  rw [List.length_set] at hf
  refine ⟨L.set 0 ⟨recs⟩, f, by simp, hfb, hf, fun x hx => ?_⟩
  rcases List.mem_or_eq_of_mem_set hx with hx | rfl
  · exact ⟨by have := (hs x hx).1; omega, (hs x hx).2⟩
  · exact ⟨by show recs.length ≤ 25; omega, hrs⟩
theorem Long.step {base b k : Nat} {wr wa w6 : World} {L : List PartD} {t : TypeId} {vs : List Value} {u u' : Value} {recs : List ByteArray} {s : ByteArray} (hB : Blk wr b t vs) (hu : vs[0]? = some u) (hub : u.ownBlock ≠ some b) (hk : recs.length + (k + 1) = 25) (hrs : ∀ s ∈ recs, s.size ≤ 201)
    (hv : ∀ (i : Nat) x, L[i]? = some x → 0 < i → ∃ v, vs[i]? = some v ∧ Grows 1 RStr 9 base wr v x.recs ∧ v.ownBlock ≠ some b ∧ ∀ c, v.ownBlock = some c → u.ownBlock ≠ some c)
    (hba : Below wr.heap.size wr wa) (hG6 : Grows 1 RStr 9 base w6 u' (recs ++ [s])) (hs : s.size ≤ 201) (hk6 : ∀ b, b < wa.heap.size → u.ownBlock ≠ some b → w6.heap[b]? = wa.heap[b]?) (hw6 : u'.ownBlock = u.ownBlock ∨ u'.ownBlock = some wa.heap.size) : Long base b L k (w6.setCell ⟨b, 0, none⟩ u') := by
  have hsz := hba.size
  have hbl := hB.lt
  have hst : ∀ c, c < wr.heap.size → u.ownBlock ≠ some c → w6.heap[c]? = wr.heap[c]? := fun c hc h => (hk6 c (Nat.lt_of_lt_of_le hc hsz) h).trans (hba.block c hc)
  have hB6 : Blk w6 b t vs := (hst b hbl hub).trans hB
  have hu'b : u'.ownBlock ≠ some b := by
    rcases hw6 with e | e <;> rw [e]
    · exact hub
    · intro h
      have := Option.some.inj h
      omega
  refine ⟨t, vs.set 0 u', u', recs ++ [s], hB6.set 0 u', ?_, hG6.stay local_str plain_str (fun c hc => Below.heap_setCell _ _ _ c (by rintro rfl; exact hu'b hc)), hu'b, by simp; omega, ?_, ?_⟩
  · rw [List.getElem?_set_self (List.getElem?_eq_some_iff.1 hu).1]
  · intro y hy
    rcases List.mem_append.1 hy with hy | hy
    · exact hrs y hy
    · simp at hy; rw [hy]; exact hs
  · intro i x hx hi
    obtain ⟨v, h1, h2, h3, h4⟩ := hv i x hx hi
    refine ⟨v, by rw [List.getElem?_set_ne (by omega)]; exact h1, h2.stay local_str plain_str (fun c hc => ?_), h3, fun c hc => ?_⟩
    · exact (Below.heap_setCell _ _ _ c (by rintro rfl; exact h3 hc)).trans (hst c (h2.lt c hc).2 (h4 c hc))
    · rcases hw6 with e | e <;> rw [e]
      · exact h4 c hc
      · intro h
        have := Option.some.inj h
        have := (h2.lt c hc).2
        omega

set_option maxRecDepth 100000 in
set_option maxHeartbeats 16000000 in
theorem logs_any (g : Nat) (a : Option Addr) (len cap m : Nat) (c : ConfD) (h : ConfigH) (cf : List Nat) (w : World) (hm : m ≤ 1000000) (hc : Curs g a len cap m w) (hIs : Config.Is w c h cf) (hgf : ∀ b ∈ cf, b ≠ g) :
    Calls Tryz.prog 52 #[.pointer (some ⟨g, 0, none⟩), .agg (Config.list c h).toArray] w (fun e w' => ∃ (av : Option Addr) (n cv : Nat) (L : List PartD) (f : List Nat), e = .returned (.slice av n cv) ∧ GRow 1 RPart w' av n L f ∧ (∀ b ∈ f, w.heap.size ≤ b) ∧ n ≤ cv ∧ cv ≤ 9223372036854775807 ∧ L.length ≤ 4 ∧ (∀ x ∈ L, x.recs.length ≤ 25 ∧ ∀ s ∈ x.recs, s.size ≤ 201) ∧ Curs g a len cap (m + 2000) w' ∧ Only g w w') := by
  have hg := hc.lt
  have HC := Lib.hid hc
  have HI := Lib.hid hIs
  have HGF := Lib.hid hgf
  clear hc hIs hgf
  simp only [Config.list]
  go_enter Tryz.func52, Tryz.ntmps52
  go_wp2_with fail
  refine calls_gen (fun W => Below w.heap.size w W ∧ Blk W w.heap.size 33 (Config.list c h) ∧ Grows 1 RP 58 (w.heap.size + 1) W (.slice (some ⟨w.heap.size + 1, 0, none⟩) 0 0) ([] : List PartD)) ⟨by repeat (first | exact Below.refl _ _ | refine Below.setCell ?_ (by first | omega | (simp; done) | (simp; omega)) _ | refine Below.alloc ?_ (by first | omega | (simp; done) | (simp; omega)) _ | apply Below.drew), by unfold Config.list; with_reducible (repeat (first | (refine blk_new_at _ _ _ _ ?_; first | rfl | (simp; done)) | refine Blk.alloc ?_ _ | apply Blk.drew | refine Blk.setOther ?_ (by first | (simp; done) | (simp; omega)) _)), ?_⟩ ?_
  · have := Grows.made (k := 1) (R := RP) (e := 58) (base := w.heap.size + 1) (w := w.alloc (.cells (Config.list c h).toArray 33)) #[] 0 (by simp) (by simp [maxLen]) rfl
    simpa [Config.list] using this
  rintro W1 ⟨b1, k1, g1⟩
  refine (pick_any g a len cap m 3 W1 (by omega) (HC.out.below b1)).mono ?_
  rintro e W2 ⟨r, rfl, r0, r1, hc2, ho2⟩
  have hw1 : w.heap.size < W1.heap.size := k1.lt
  have K2 := Lib.hid (show Blk W2 w.heap.size 33 (Config.list c h) from (ho2.block _ k1.lt (by omega)).trans k1)
  have G2 := Lib.hid (g1.keep (w' := W2) local_rp (fun b h1 h2 => ho2.block b h2 (by omega)))
  have C2 := Lib.hid hc2
  have O2 := Lib.hid ((Only.of_below (g := g) b1).trans ho2)
  have hr3 : 1 + r ≤ 3 := by omega
  have hrw : IntKind.i64.wrap (1 + r) = 1 + r := by rw [IntKind.wrap_i64]; omega
  clear b1 k1 g1 hc2 ho2 HC r1
  go_wp2_with fail
  go_loopg [5, 6] 3 (fun k vo p wr => ∃ (L : List PartD) (z : Int), p = .int .i64 z ∧ z ≤ (k : Int) ∧ L.length + k ≤ 3 ∧ (1 : Int) ≤ z + L.length ∧ Grows 1 RP 58 (w.heap.size + 1) wr vo L ∧ (∀ x ∈ L, x.recs.length ≤ 9 ∧ ∀ s ∈ x.recs, s.size ≤ 201) ∧ Blk wr w.heap.size 33 (Config.list c h) ∧ Curs g a len cap (m + 1 + 300 * L.length) wr ∧ Only g w wr)
  case atStart => exact ⟨[], 1 + r, rfl, hr3, by simp, by simp; omega, G2.out, by simp, K2.out, C2.out, O2.out⟩
  case round =>
    obtain ⟨L, z0, rfl, hz0, hLk, hz1L, hGo, hLs, hK, hC, hO⟩ := hrel
    clear K2 G2 C2 O2
    have hgr := hC.lt
    have hkr := hK.lt
    have HGo := Lib.hid hGo
    have HLS := Lib.hid hLs
    have HK := Lib.hid hK
    have HC := Lib.hid hC
    have HO := Lib.hid hO
    clear hGo hLs hK hC hO
    generalize wr = wo at *
    generalize gk = GK at *
    by_cases hzp : 0 < z0
    case neg =>
      have hL0 : 0 < L.length := by omega
      have hL3 : L.length ≤ 3 := by omega
      have hLS : ∀ x ∈ L, x.recs.length ≤ 25 ∧ ∀ s ∈ x.recs, s.size ≤ 201 := fun x hx => ⟨by have := (HLS.out x hx).1; omega, (HLS.out x hx).2⟩
      have HLT := Lib.hid hLS
      clear hLS
      go_wp2_with fail
      refine (once_any g a len cap (m + 1 + 300 * L.length) 24 wo (by omega) HC.out).mono ?_
      rintro e W3 ⟨tb, rfl, hc3, ho3⟩
      have C3 := Lib.hid hc3
      have O3 := Lib.hid (HO.out.trans ho3)
      have G3 := Lib.hid (HGo.out.keep (w' := W3) local_rp (fun b h1 h2 => ho3.block b h2 (by omega)))
      have hs3 : wo.heap.size ≤ W3.heap.size := ho3.size
      clear hc3 ho3 HGo HC HO HK
      cases tb with
      | false =>
        obtain ⟨av, cv, f, hv, hr, h1, h2, hfb⟩ := rp_done G3.out
        subst hv
        have HR := Lib.hid hr
        clear hr G3
        go_wp2_with fail
        exact bodyPost_ret (v := .slice av L.length cv) (by simp [results, Tryz.results52, go_sem]) rfl ⟨av, _, cv, L, f, rfl, HR.out, fun b hb => by have := hfb b hb; omega, h1, h2, by omega, HLT.out, C3.out.more (by omega), O3.out⟩
      | true =>
        go_wp2_with fail
        refine (pick_any g a len cap (m + 1 + 300 * L.length + 1) 3 W3 (by omega) C3.out).mono ?_
        rintro e W4 ⟨r4, rfl, r40, r41, hc4, ho4⟩
        have C4 := Lib.hid (show Curs g a len cap (m + 1500) W4 from hc4.more (by omega))
        have O4 := Lib.hid (O3.out.trans ho4)
        have hs4 : W3.heap.size ≤ W4.heap.size := ho4.size
        have G4 := Lib.hid (G3.out.keep (w' := W4) local_rp (fun b h1 h2 => ho4.block b h2 (by omega)))
        clear hc4 ho4 C3 O3 G3
        have hr4 : r4 = 0 ∨ r4 = 1 ∨ r4 = 2 := by omega
        rcases hr4 with rfl | rfl | rfl
        · go_wp2_with fail
          refine bodyPost_ret (v := .slice (some ⟨W4.heap.size, 0, none⟩) 0 0) (by simp [results, Tryz.results52, go_sem]) rfl ⟨_, _, _, [], [], rfl, GRow.nil, by simp, by omega, by omega, by simp, by simp, (C4.out.below ?_).more (by omega), O4.out.then_below (B := W4.heap.size) ?_ (by omega)⟩
          all_goals repeat (first | exact Below.refl _ _ | refine Below.setCell ?_ (by first | omega | (simp; done) | (simp; omega)) _ | refine Below.alloc ?_ (by first | omega | (simp; done) | (simp; omega)) _ | apply Below.drew)
        · go_wp2_with fail
          go_loopg [5] (4 - L.length) (fun k vo wr => ∃ (L' : List PartD), L'.length + k = 4 ∧ Grows 1 RP 58 (w.heap.size + 1) wr vo L' ∧ (∀ x ∈ L', x.recs.length ≤ 25 ∧ ∀ s ∈ x.recs, s.size ≤ 201) ∧ Curs g a len cap (m + 1500) wr ∧ Only g w wr ∧ w.heap.size < wr.heap.size)
          case atStart => exact ⟨L, by omega, G4.out, HLT.out, C4.out, O4.out, by omega⟩
          case round =>
            obtain ⟨L', hk', hGr, hLr, hCr, hOr, hwr⟩ := hrel
            clear G4 C4 O4
            have HCr := Lib.hid hCr
            have HOr := Lib.hid hOr
            have HLr := Lib.hid hLr
            clear hCr hOr hLr
            by_cases hl3 : L'.length ≤ 3
            · have hl3i : (L'.length : Int) ≤ 3 := by omega
              obtain ⟨ao, co, hvo⟩ := hGr.slice
              subst hvo
              have HGr := Lib.hid hGr
              obtain ⟨i0, hi, hi2⟩ := Option.map_eq_some_iff.1 info_Part
              simp only [Prod.mk.injEq] at hi2
              obtain ⟨hz0', hz1, hz2⟩ := hi2
              clear hGr
              go_wp2_with (at_builtin; refine push2 local_rp rfl _ _ 35 rfl i0 (.agg #[.slice none 0 0]) 24 Tryz.underlying35 hi hz0' hz1 hz2 rfl (by decide) rfl HGr.out ((Below.refl _ _).alloc (Nat.le_refl _) _) wr.heap.size 1 rfl [.slice none 0 0] rfl (fun u hu => by simp at hu; subst hu; rfl) (fun j u hj => ((blk_new wr 58 [.slice none 0 0]).cell j).trans hj) ⟨[]⟩ [] ⟨_, rfl, Grows.nil, rfl⟩ Own.nil (by omega) (by unfold maxLen; omega) (by omega) ?_; intro v' w6 hG6 hb6 hk6 hw6)
              have hB6 : Below (w.heap.size + 1) wr w6 := ((Below.refl _ _).alloc (by omega) _).trans hb6
              go_roundg (3 - L'.length)
              case measure => omega
              case rel =>
                refine ⟨L' ++ [⟨[]⟩], by simp; omega, hG6, ?_, HCr.out.belowB (B := w.heap.size + 1) hB6 (by omega), HOr.out.then_below (B := w.heap.size + 1) hB6 (by omega), by have := hB6.size; omega⟩
                intro y hy
                rcases List.mem_append.1 hy with hy | hy
                · exact HLr.out y hy
                · simp at hy
                  subst hy
                  exact ⟨by simp, by simp⟩
            · have hl3i : ¬ (L'.length : Int) ≤ 3 := by omega
              obtain ⟨av, cv, f, hv, hr, h1, h2, hfb⟩ := rp_done hGr
              subst hv
              have HR := Lib.hid hr
              clear hr hGr
              go_wp2_with fail
              exact bodyPost_ret (v := .slice av L'.length cv) (by simp [results, Tryz.results52, go_sem]) rfl ⟨av, _, cv, rfl, L', f, HR.out, fun b hb => by have := hfb b hb; omega, h1, h2, by omega, HLr.out, HCr.out.more (by omega), HOr.out⟩
        · obtain ⟨b, cv, K0, hv, hb, h1, h2, hK25, hLong⟩ := Long.start G4.out hL0 HLS.out
          subst hv
          have HL4 := Lib.hid hLong
          clear hLong G4
          go_wp2_with fail
          go_loopg [] K0 (fun k wr => Long (w.heap.size + 1) b L k wr ∧ Curs g a len cap (m + 1500) wr ∧ Only g w wr)
          case atStart => exact ⟨HL4.out, C4.out, O4.out⟩
          case round =>
            obtain ⟨hLg, hCr, hOr⟩ := hrel
            clear HL4 C4 O4
            have HCr := Lib.hid hCr
            have HOr := Lib.hid hOr
            have HLg := Lib.hid hLg
            obtain ⟨t, vs, u, recs, hB, hu, hG, hub, hrk, hrs, hvv⟩ := hLg.ex
            obtain ⟨aq, cq, hvq⟩ := hG.slice
            subst hvq
            have b0 : wr.cell? ⟨b, 0, none⟩ = some (.slice aq recs.length cq) := (hB.cell 0).trans hu
            have bl := hB.lt
            have hLi : (0 : Int) < (L.length : Int) := by omega
            have HB := Lib.hid hB
            have HU := Lib.hid hu
            have HG := Lib.hid hG
            have HUB := Lib.hid hub
            have HRS := Lib.hid hrs
            have HVV := Lib.hid hvv
            clear hB hu hG hub hrs hvv hLg hCr hOr
            by_cases hl : recs.length ≤ 24
            · have hli : (recs.length : Int) ≤ 24 := by omega
              obtain ⟨i0, hi, hi2⟩ := Option.map_eq_some_iff.1 info_string
              simp only [Prod.mk.injEq] at hi2
              obtain ⟨hz0', hz1, hz2⟩ := hi2
              have hwr : w.heap.size + 1 ≤ wr.heap.size := by omega
              go_wp2_with (at_builtin; refine push2 local_str rfl _ _ 56 rfl i0 (.string ByteArray.empty) 16 Tryz.underlying56 hi hz0' hz1 hz2 rfl (by decide) rfl HG.out ((Below.refl _ _).alloc (Nat.le_refl _) _) wr.heap.size 1 rfl [.string ⟨#[101, 32, 49, 32, 49]⟩] rfl (fun u hu => by simp at hu; subst hu; rfl) (fun j u hj => ((blk_new wr 9 [.string ⟨#[101, 32, 49, 32, 49]⟩]).cell j).trans hj) ⟨#[101, 32, 49, 32, 49]⟩ [] ⟨rfl, by decide, rfl⟩ Own.nil (by omega) (by unfold maxLen; omega) (by omega) ?_; intro v' w6 hG6 hb6 hk6 hw6; obtain ⟨a8, cap8, hv8⟩ := hG6.slice; subst hv8; (generalize hn8 : (recs ++ [_]).length = n8 at *); clear hn8; have B6 := Lib.hid (show Below (w.heap.size + 1) wr w6 from ((Below.refl _ _).alloc (by omega) _).trans hb6); have Q6 := Lib.hid (show Blk w6 b t vs from ((hk6 b (by simp; omega) HUB.out).trans (Below.heap_alloc _ _ _ bl)).trans HB.out); have ST := Lib.hid (Long.step (k := 24 - recs.length) HB.out HU.out HUB.out (by omega) HRS.out HVV.out ((Below.refl _ _).alloc (Nat.le_refl _) _) hG6 (by decide) hk6 hw6); have q6 := (Q6.out.cell 0).trans HU.out; have f6 := Q6.out.frozen; clear hG6 hb6 hk6 hw6 b0)
              go_roundg (24 - recs.length)
              case measure => omega
              case rel => exact ⟨ST.out, HCr.out.belowB (B := w.heap.size + 1) (B6.out.setCell hb _) (by omega), HOr.out.then_below (B := w.heap.size + 1) (B6.out.setCell hb _) (by omega)⟩
            · have hli : ¬ (recs.length : Int) ≤ 24 := by omega
              obtain ⟨L', f, hll, hfb, hr, hrs⟩ := Long.done (by have := HLg.out; rw [show gk = 0 by omega] at this; exact this) HLS.out hL0 hb
              have HR := Lib.hid hr
              have HRL := Lib.hid hrs
              clear hr hrs
              go_wp2_with fail
              exact bodyPost_ret (v := .slice (some ⟨b, 0, none⟩) L.length cv) (by simp [results, Tryz.results52, go_sem]) rfl ⟨_, _, cv, rfl, L', f, HR.out, fun b hb => by have := hfb b hb; omega, h1, h2, by omega, HRL.out, HCr.out.more (by omega), HOr.out⟩
    go_wp2_with fail
    refine calls_gen (fun W => PartAt g a len cap (m + 1 + 300 * L.length) wo wo.heap.size 0 W) ⟨⟨_, [], by with_reducible (repeat (first | (refine blk_new_at _ _ _ _ ?_; first | rfl | (simp; done)) | refine Blk.alloc ?_ _ | apply Blk.drew | refine Blk.setOther ?_ (by first | (simp; done) | (simp; omega)) _)), Grows.nil, by simp, by simp⟩, HC.out.below (by repeat (first | exact Below.refl _ _ | refine Below.setCell ?_ (by first | omega | (simp; done) | (simp; omega)) _ | refine Below.alloc ?_ (by first | omega | (simp; done) | (simp; omega)) _ | apply Below.drew)), Only.of_below (by repeat (first | exact Below.refl _ _ | refine Below.setCell ?_ (by first | omega | (simp; done) | (simp; omega)) _ | refine Below.alloc ?_ (by first | omega | (simp; done) | (simp; omega)) _ | apply Below.drew)), Nat.le_refl _⟩ ?_
    intro W3 hP3
    refine (pick_any g a len cap (m + 1 + 300 * L.length) 30 W3 (by omega) hP3.curs).mono ?_
    rintro e W4 ⟨z, rfl, -, -, hc4, ho4⟩
    have P4 := Lib.hid (hP3.next ho4 hc4 hgr)
    clear hP3 hc4 ho4
    go_wp2_with fail
    refine (size_any g a len cap (m + 1 + 300 * L.length + 1) 9 W4 (by omega) (by omega) (by omega) P4.out.curs).mono ?_
    rintro e W5 ⟨kk, rfl, hkk, hc5, ho5⟩
    have P5 := Lib.hid (P4.out.next ho5 hc5 hgr)
    have hkk9 : kk ≤ 9 := hkk.2
    clear hc5 ho5 P4 hkk
    go_wp2_with fail
    go_loopg [8, 9] 9 (fun k vz vk wi => ∃ (z kz : Int) (j : Nat), vz = .int .i64 z ∧ vk = .int .i64 kz ∧ kz ≤ (k : Int) ∧ j + k = 9 ∧ PartAt g a len cap (m + 3 + 300 * L.length + 30 * j) wo wo.heap.size j wi)
    case atStart => exact ⟨z, kk, 0, rfl, rfl, hkk9, rfl, ⟨P5.out.ex, P5.out.curs.more (by omega), P5.out.only, P5.out.qo⟩⟩
    case round =>
      obtain ⟨z, kz, j, rfl, rfl, hkz, hjk, hPA⟩ := hrel
      clear P5
      have HPA := Lib.hid hPA
      clear hPA
      generalize wr = wi at *
      by_cases hkp : 0 < kz
      case neg =>
        obtain ⟨vq, recs, hbq, hGq, hrl, hrs⟩ := HPA.out.ex
        have hGoI := HGo.out.keep (w' := wi) local_rp (fun b h1 h2 => HPA.out.only.block b h2 (by omega))
        obtain ⟨wt, ht1, ht2, ht3⟩ := trunc wi (n := wo.heap.size) HPA.out.only.size
        have hGoT : Grows 1 RP 58 (w.heap.size + 1) wt u5 L := HGo.out.keep local_rp (fun b h1 h2 => (ht3 b h2).trans (HPA.out.only.block b h2 (by omega)))
        have hRP : RP wi [vq] ⟨recs⟩ vq.ownBlock.toList := ⟨vq, rfl, hGq.lower (Nat.zero_le _), rfl⟩
        have hOW : Own wt.heap.size wi vq.ownBlock.toList := own_of hGq (by rw [ht1]; omega)
        obtain ⟨ao, co, hvo⟩ := hGoT.slice
        subst hvo
        obtain ⟨aq, cq, hvq⟩ := hGq.slice
        subst hvq
        have b0 := hbq.cell 0
        simp at b0
        have HGT := Lib.hid hGoT
        have HRP := Lib.hid hRP
        have HOW := Lib.hid hOW
        have HT2 := Lib.hid ht2
        have HRS := Lib.hid (And.intro hrl hrs)
        have ht1s : w.heap.size + 1 ≤ wt.heap.size := by rw [ht1]; omega
        obtain ⟨i0, hi, hi2⟩ := Option.map_eq_some_iff.1 info_Part
        simp only [Prod.mk.injEq] at hi2
        obtain ⟨hz0', hz1, hz2⟩ := hi2
        have hL3 : L.length ≤ 3 := by omega
        have hwi2 : w.heap.size + 1 ≤ wi.heap.size := by have := HPA.out.only.size; omega
        have HZ1 := Lib.hid ht1
        clear hbq hGq hGoI ht1 ht2 ht3 hGoT hRP hOW hrl hrs HGo
        go_wp2_with (at_builtin; refine push2 local_rp rfl _ _ 35 rfl i0 (.agg #[.slice none 0 0]) 24 Tryz.underlying35 hi hz0' hz1 hz2 rfl (by decide) rfl HGT.out (HT2.out.alloc (by have := HT2.out.size; omega) _) wi.heap.size 1 rfl [.slice aq recs.length cq] rfl (fun u hu => by simp at hu; subst hu; rfl) (fun j u hj => ((blk_new wi 58 [.slice aq recs.length cq]).cell j).trans hj) ⟨recs⟩ _ (local_rp.keep HRP.out (fun b hb => Below.heap_alloc _ _ _ (local_rp.lt HRP.out b hb))) (HOW.out.keep (fun b hb => Below.heap_alloc _ _ _ (HOW.out.2 b hb).2.lt)) (by omega) (by unfold maxLen; omega) ht1s ?_; intro v' w6 hG6 hb6 hk6 hw6)
        have hB6 : Below (w.heap.size + 1) wi w6 := ((Below.refl _ _).alloc hwi2 _).trans hb6
        have hkw : IntKind.i64.wrap (z0 - 1) = z0 - 1 := by rw [IntKind.wrap_i64]; omega
        have hKI : Blk wi w.heap.size 33 (Config.list c h) := (HPA.out.only.block _ hkr (by omega)).trans HK.out
        have hgw : g < w.heap.size := hg
        go_roundg (GK - 1)
        case measure => omega
        case rel =>
          refine ⟨L ++ [⟨recs⟩], z0 - 1, by go_num, by omega, by simp; omega, by simp; omega, hG6, ?_, hKI.below hB6 (Nat.lt_succ_self _), ?_, ?_⟩
          · intro y hy
            rcases List.mem_append.1 hy with hy | hy
            · exact HLS.out y hy
            · simp at hy
              subst hy
              exact ⟨by have := HRS.out.1; show recs.length ≤ 9; omega, HRS.out.2⟩
          · exact (HPA.out.curs.belowB (B := w.heap.size + 1) hB6 (by omega)).more (by simp; omega)
          · exact (HO.out.trans HPA.out.only).then_below (B := w.heap.size + 1) hB6 (by omega)
      have hgi : g < wi.heap.size := HPA.out.curs.lt
      have hwi : wo.heap.size ≤ wi.heap.size := HPA.out.only.size
      have hqi : wo.heap.size < wi.heap.size := by obtain ⟨vq, recs, hb, _⟩ := HPA.out.ex; exact hb.lt
      have hkzb : kz ≤ 9 := by omega
      obtain ⟨M, hM⟩ : ∃ M, m + 3 + 300 * L.length + 30 * j = M := ⟨_, rfl⟩
      have hMb : M ≤ 2000000 := by omega
      have HM := Lib.hid hM
      have CI := Lib.hid HPA.out.curs
      rw [hM] at CI
      clear hM
      go_wp2_with fail
      refine mix.wp_region_free_tail (VL g wi.heap.size z) (fun n wx => Curs g a len cap (M + n) wx ∧ Only g wi wx) 12 116 [30, 31, 32, 33, 34, 35, 36, 37, 38, 39, 40, 10] rfl (by kernel_rfl) (by kernel_rfl) (by kernel_rfl) ⟨CI.out.below (Below.refl _ _).drew, (Only.refl g wi).drew⟩ ?_ ?_
      · refine ⟨?_, ?_, ?_, ?_, ?_, ?_, ?_, ?_, ?_, ?_, ?_, ?_, trivial⟩
        · intro n A W hn hG hL hP K hK
          have e0 : A.tmps.getD 8 undef = .int .i64 z := hL.same 8 (by decide)
          go_simp
          exact hK _ _ rfl ⟨hG.1.more (by omega), hG.2⟩ (fun _ _ h => h)
        · intro n A W hn hG hL hP K hK
          go_simp
          exact hK _ _ ⟨W.heap.size, rfl, hG.2.size, blk_new W 3 [.int .i64 0, .int .i64 0, .int .i64 3, .int .i64 15, .int .i64 70]⟩ ⟨(hG.1.below ((Below.refl _ _).alloc (Nat.le_refl _) _)).more (by omega), hG.2.alloc _⟩ (VL.keep (fun b _ h2 => Below.heap_alloc _ _ _ h2))
        · intro n A W hn hG hL hP K hK
          have e0 : A.tmps.getD 0 undef = .pointer (some ⟨g, 0, none⟩) := hL.same 0 (by decide)
          go_simp
          exact hK _ _ rfl ⟨hG.1.more (by omega), hG.2⟩ (fun _ _ h => h)
        · intro n A W hn hG hL hP K hK
          have e0 : A.tmps.getD 32 undef = .pointer (some ⟨g, 0, none⟩) := hP 2 (by kernel_rfl) _ rfl
          go_simp
          refine (pick_any g a len cap (M + n) 5 W (by omega) hG.1).mono ?_
          rintro e w' ⟨r, rfl, r0, r1, hc, ho⟩
          exact hK _ _ ⟨r.toNat, by rw [Int.toNat_of_nonneg r0], by omega⟩ ⟨hc.more (by omega), hG.2.trans ho⟩ (VL.keep (fun b h1 h2 => ho.block b h2 (by omega)))
        · intro n A W hn hG hL hP K hK
          obtain ⟨b, e1, hb⟩ : ∃ b, A.tmps.getD 31 undef = .slice (some ⟨b, 0, none⟩) 5 5 ∧ wi.heap.size ≤ b ∧ Blk W b 3 [.int .i64 0, .int .i64 0, .int .i64 3, .int .i64 15, .int .i64 70] := hP 1 (by kernel_rfl) _ rfl
          obtain ⟨r, e2, hr⟩ : ∃ r : Nat, A.tmps.getD 33 undef = .int .i64 (r : Int) ∧ r < 5 := hP 3 (by kernel_rfl) _ rfl
          have hr2 : (r : Int) < 5 := by omega
          have hr0 : (0 : Int) ≤ (r : Int) := by omega
          have HB := Lib.hid hb
          clear hb
          go_simp
          exact hK _ _ ⟨b, r, rfl, hr, HB.out⟩ ⟨hG.1.more (by omega), hG.2⟩ (fun _ _ h => h)
        · intro n A W hn hG hL hP K hK
          obtain ⟨b, r, e1, hr, hb0, hb⟩ : ∃ b r, A.tmps.getD 34 undef = .pointer (some ⟨b, r, none⟩) ∧ r < 5 ∧ wi.heap.size ≤ b ∧ Blk W b 3 [.int .i64 0, .int .i64 0, .int .i64 3, .int .i64 15, .int .i64 70] := hP 4 (by kernel_rfl) _ rfl
          obtain ⟨y, hy⟩ : ∃ y : Int, W.cell? ⟨b, r, none⟩ = some (.int .i64 y) := by
            have : r = 0 ∨ r = 1 ∨ r = 2 ∨ r = 3 ∨ r = 4 := by omega
            rcases this with rfl | rfl | rfl | rfl | rfl
            · exact ⟨_, hb.cell 0⟩
            · exact ⟨_, hb.cell 1⟩
            · exact ⟨_, hb.cell 2⟩
            · exact ⟨_, hb.cell 3⟩
            · exact ⟨_, hb.cell 4⟩
          clear hb
          go_simp
          exact hK _ _ ⟨y, rfl⟩ ⟨hG.1.more (by omega), hG.2⟩ (fun _ _ h => h)
        · intro n A W hn hG hL hP K hK
          have e1 : A.tmps.getD 30 undef = .int .i64 z := hP 0 (by kernel_rfl) _ rfl
          obtain ⟨y, e2⟩ : ∃ y : Int, A.tmps.getD 35 undef = .int .i64 y := hP 5 (by kernel_rfl) _ rfl
          have e1' : A.tmps[30]?.getD undef = .int .i64 z := by simpa using e1
          have e2' : A.tmps[35]?.getD undef = .int .i64 y := by simpa using e2
          go_simp
          exact hK _ _ ⟨_, rfl⟩ ⟨hG.1.more (by omega), hG.2⟩ (fun _ _ h => h)
        · intro n A W hn hG hL hP K hK
          have e0 : A.tmps.getD 0 undef = .pointer (some ⟨g, 0, none⟩) := hL.same 0 (by decide)
          go_simp
          exact hK _ _ rfl ⟨hG.1.more (by omega), hG.2⟩ (fun _ _ h => h)
        · intro n A W hn hG hL hP K hK
          have e0 : A.tmps.getD 37 undef = .pointer (some ⟨g, 0, none⟩) := hP 7 (by kernel_rfl) _ rfl
          go_simp
          refine (pick_any g a len cap (M + n) 9 W (by omega) hG.1).mono ?_
          rintro e w' ⟨r, rfl, r0, r1, hc, ho⟩
          exact hK _ _ ⟨r, rfl⟩ ⟨hc.more (by omega), hG.2.trans ho⟩ (VL.keep (fun b h1 h2 => ho.block b h2 (by omega)))
        · intro n A W hn hG hL hP K hK
          obtain ⟨y, e2⟩ : ∃ y : Int, A.tmps.getD 38 undef = .int .i64 y := hP 8 (by kernel_rfl) _ rfl
          have e2' : A.tmps[38]?.getD undef = .int .i64 y := by simpa using e2
          go_simp
          exact hK _ _ ⟨_, rfl⟩ ⟨hG.1.more (by omega), hG.2⟩ (fun _ _ h => h)
        · intro n A W hn hG hL hP K hK
          obtain ⟨t, e1⟩ : ∃ y : Int, A.tmps.getD 36 undef = .int .i64 y := hP 6 (by kernel_rfl) _ rfl
          obtain ⟨u, e2⟩ : ∃ y : Int, A.tmps.getD 39 undef = .int .i64 y := hP 9 (by kernel_rfl) _ rfl
          have e1' : A.tmps[36]?.getD undef = .int .i64 t := by simpa using e1
          have e2' : A.tmps[39]?.getD undef = .int .i64 u := by simpa using e2
          go_simp
          exact hK _ _ ⟨t, u, rfl⟩ ⟨hG.1.more (by omega), hG.2⟩ (fun _ _ h => h)
        · intro n A W hn hG hL hP K hK
          go_simp
          exact hK _ _ ⟨W.heap.size, rfl, hG.2.size, blk_new W 84 [.int .i64 0, .slice none 0 0, .int .i64 0]⟩ ⟨(hG.1.below ((Below.refl _ _).alloc (Nat.le_refl _) _)).more (by omega), hG.2.alloc _⟩ (VL.keep (fun b _ h2 => Below.heap_alloc _ _ _ h2))
      intro We f hG hV
      obtain ⟨t, u, e1⟩ : ∃ t u : Int, f 40 = .agg #[.int .i64 t, .slice none 0 0, .int .i64 u] := hV 10 _ (by omega) rfl
      obtain ⟨x, e2, hxi, hxb⟩ : ∃ b : Nat, f 10 = .pointer (some ⟨b, 0, none⟩) ∧ wi.heap.size ≤ b ∧ Blk We b 84 [.int .i64 0, .slice none 0 0, .int .i64 0] := hV 11 _ (by omega) rfl
      have CE := Lib.hid hG.1
      have OE := Lib.hid hG.2
      have XE := Lib.hid hxb
      have x0 := hxb.cell 0
      have x1 := hxb.cell 1
      have x2 := hxb.cell 2
      have xf := hxb.frozen
      have hxl := hxb.lt
      simp at x0 x1 x2
      clear hG hV hxb
      simp [mix.lit]
      rw [e1, e2]
      clear e1 e2
      go_wp2_with fail
      go_loopg [11] 4 (fun k kd wr => ∃ (i : Nat) (t u : Int) (dv : Value) (ds : List Int), i + k = 4 ∧ kd = .int .i64 (i : Int) ∧ Blk wr x 84 [.int .i64 t, dv, .int .i64 u] ∧ Grows 1 RInt 3 (x + 1) wr dv ds ∧ ds.length ≤ i ∧ Curs g a len cap (M + 12 + i) wr ∧ Only g wi wr)
      case atStart => exact ⟨0, t, u, _, [], by omega, rfl, by (apply Blk.of_eq; (repeat (first | (with_reducible exact XE.out) | (with_reducible apply Blk.set) | ((with_reducible apply Blk.other); · first | (simp; done) | (simp; omega)) | (with_reducible apply Blk.drew))); rfl), Grows.nil, by simp, CE.out.belowB (B := wi.heap.size) (((Below.refl _ _).setCell hxi _).setCell hxi _ |>.setCell hxi _) hgi, OE.out.then_below (B := wi.heap.size) (((Below.refl _ _).setCell hxi _).setCell hxi _ |>.setCell hxi _) (Nat.le_refl _)⟩
      case round =>
        clear CE OE XE x0 x1 x2 xf hxl
        obtain ⟨i, t, u, dv, ds, hik, rfl, hX, hGd, hds, hCw, hOw⟩ := hrel
        have XW := Lib.hid hX
        have GW := Lib.hid hGd
        have OW := Lib.hid hOw
        have hKW : Blk wr w.heap.size 33 (Config.list c h) := (hOw.block _ (by omega) (by omega)).trans ((HPA.out.only.block _ hkr (by omega)).trans HK.out)
        have KW := Lib.hid hKW
        have kd := hKW.cell 0
        simp [Config.list] at kd
        have hxw := hX.lt
        by_cases hd : (i : Int) < c.d
        case neg =>
          have CW := Lib.hid (show Curs g a len cap (M + 12 + 4) wr from hCw.more (by omega))
          clear hX hGd hCw hOw hKW
          have hO2 : Only g w wr := HO.out.trans (HPA.out.only.trans OW.out)
          have hIs : Config.Is wr c h cf := HI.out.keep (fun b hb => hO2.block b (HI.out.lt b hb) (HGF.out b hb))
          obtain ⟨ad, cd, fd, hdv, r3, u3, v3, -, -⟩ := GW.out.plain plain_int
          subst hdv
          have hEv : Event.Is wr ⟨t, ds, u⟩ ⟨ad, ds.length, cd⟩ fd := ⟨fd, rfl, r3, u3, v3⟩
          have HT := Lib.hid (spec_EventText c h cf ⟨t, ds, u⟩ ⟨ad, ds.length, cd⟩ fd wr hIs hEv)
          simp only [Config.list, Event.list] at HT
          have y0 := XW.out.cell 0
          have y1 := XW.out.cell 1
          have y2 := XW.out.cell 2
          have k0 := KW.out.cell 0
          have k1 := KW.out.cell 1
          have k2 := KW.out.cell 2
          have k3 := KW.out.cell 3
          have k4 := KW.out.cell 4
          simp [Config.list] at k0 k1 k2 k3 k4
          simp at y0 y1 y2
          clear hO2 hIs hEv r3 u3 v3
          go_wp2_with fail
          refine HT.out.mono ?_
          rintro e W6 ⟨rfl, b6⟩
          obtain ⟨s0, hs0⟩ : ∃ s : ByteArray, (⟨(evD c ⟨t, ds, u⟩).toArray⟩ : ByteArray) = s := ⟨_, rfl⟩
          have hs200 : s0.size ≤ 200 := by
            rw [← hs0]
            show (evD c ⟨t, ds, u⟩).toArray.size ≤ 200
            unfold evD
            split
            · rename_i hh; simpa using evText_len hh
            · simp
          rw [hs0]
          have P6 := Lib.hid (HPA.out.next (OW.out.trans (Only.of_below b6)) (CW.out.below b6) hgr)
          clear b6 hs0 HT y0 y1 y2 k0 k1 k2 k3 k4
          go_wp2_with fail
          refine (once_any g a len cap (M + 12 + 4) 12 W6 (by omega) P6.out.curs).mono ?_
          rintro e W7 ⟨tb, rfl, hc7, ho7⟩
          have P7 := Lib.hid (P6.out.next ho7 hc7 hgr)
          clear hc7 ho7 P6
          have hs201 : s0.size ≤ 201 := by omega
          have hMM := HM.out
          cases tb with
          | false =>
            obtain ⟨vq, recs, hbq, hGq, hrl, hrs⟩ := P7.out.ex
            obtain ⟨aq, cq, hvq⟩ := hGq.slice
            subst hvq
            have b0 := hbq.cell 0
            have bl := hbq.lt
            simp at b0
            have HBQ := Lib.hid hbq
            have HGQ := Lib.hid hGq
            have HRS := Lib.hid hrs
            have HOQ := Lib.hid P7.out.only
            have HCQ := Lib.hid P7.out.curs
            have hrl9 : recs.length ≤ 9 := by omega
            obtain ⟨i0, hi, hi2⟩ := Option.map_eq_some_iff.1 info_string
            simp only [Prod.mk.injEq] at hi2
            obtain ⟨hz0, hz1, hz2⟩ := hi2
            clear hbq hGq hrs P7
            go_wp2_with (at_builtin; refine push2 local_str rfl _ _ 56 rfl i0 (.string ByteArray.empty) 16 Tryz.underlying56 hi hz0 hz1 hz2 rfl (by decide) rfl HGQ.out ((Below.refl _ _).alloc (Nat.le_refl _) _) W7.heap.size 1 rfl [.string s0] rfl (fun u hu => by simp at hu; subst hu; rfl) (fun j u hj => ((blk_new W7 9 [.string s0]).cell j).trans hj) s0 [] ⟨rfl, by omega, rfl⟩ Own.nil (by omega) (by unfold maxLen; omega) (by omega) ?_; intro v' w6 hG6 hb6 hk6 hw6; obtain ⟨a8, cap8, hv8⟩ := hG6.slice; subst hv8; clear hk6 hw6; (generalize hn8 : (recs ++ [_]).length = n8 at *); clear hn8; have B6 := Lib.hid (show Below (wo.heap.size + 1) W7 w6 from ((Below.refl _ _).alloc (by omega) _).trans hb6); have Q6 := Lib.hid (HBQ.out.below B6.out (Nat.lt_succ_self _)); have G6 := Lib.hid hG6; have q6 := Q6.out.cell 0; have f6 := Q6.out.frozen; simp at q6; clear hG6 hb6 b0)
            refine calls_gen (fun W => PartAt g a len cap (m + 3 + 300 * L.length + 30 * j + 20) wo wo.heap.size (j + 1) W) ?_ ?_
            · refine ⟨⟨.slice a8 n8 cap8, recs ++ [s0], ?_, ?_, by simp; omega, ?_⟩, ?_, ?_, Nat.le_refl _⟩
              · exact (Q6.out.set 0 _).of_eq rfl
              · exact G6.out.keep local_str (fun b h1 h2 => Below.heap_setCell _ _ _ b (by show b ≠ wo.heap.size; omega))
              · intro s hs
                rcases List.mem_append.1 hs with hs | hs
                · exact HRS.out s hs
                · simp at hs; rw [hs]; omega
              · exact (HCQ.out.belowB (B := wo.heap.size) ((B6.out.mono (Nat.le_succ _)).setCell (Nat.le_refl _) _) hgr).more (by omega)
              · exact HOQ.out.then_below (B := wo.heap.size) ((B6.out.mono (Nat.le_succ _)).setCell (Nat.le_refl _) _) (Nat.le_refl _)
            intro W8 P8
            refine (pick_any g a len cap (m + 3 + 300 * L.length + 30 * j + 20) 25 W8 (by omega) P8.curs).mono ?_
            rintro e W9 ⟨r9, rfl, -, -, hc9, ho9⟩
            have P9 := Lib.hid (P8.next ho9 hc9 hgr)
            clear P8 hc9 ho9
            have hkw : IntKind.i64.wrap (kz - 1) = kz - 1 := by rw [IntKind.wrap_i64]; omega
            go_wp2_with fail
            go_roundg (8 - j)
            case measure => omega
            case rel => exact ⟨_, kz - 1, j + 1, rfl, by go_num, by omega, by omega, ⟨P9.out.ex, P9.out.curs.more (by omega), P9.out.only, P9.out.qo⟩⟩
          | true =>
            have hcat : ¬ 9223372036854775807 < s0.size + 1 := by omega
            go_wp2_with fail
            refine calls_gen (fun W => PartAt g a len cap (M + 12 + 4 + 1) wo wo.heap.size j W ∧ Blk W W7.heap.size 9 [.string ⟨#[]⟩, .string ⟨#[101]⟩, .string ⟨#[120, 32, 49, 32, 50]⟩, .string ⟨#[101, 32, 49]⟩, .string (s0 ++ ⟨#[32]⟩), .string ⟨#[101, 32, 48, 49, 32, 49]⟩]) ⟨P7.out.next (Only.of_below (by repeat (first | exact Below.refl _ _ | refine Below.setCell ?_ (by first | omega | (simp; done) | (simp; omega)) _ | refine Below.alloc ?_ (by first | omega | (simp; done) | (simp; omega)) _ | apply Below.drew))) (P7.out.curs.below (by repeat (first | exact Below.refl _ _ | refine Below.setCell ?_ (by first | omega | (simp; done) | (simp; omega)) _ | refine Below.alloc ?_ (by first | omega | (simp; done) | (simp; omega)) _ | apply Below.drew))) hgr, by with_reducible (repeat (first | (refine blk_new_at _ _ _ _ ?_; first | rfl | (simp; done)) | refine Blk.alloc ?_ _ | apply Blk.drew | refine Blk.setOther ?_ (by first | (simp; done) | (simp; omega)) _))⟩ ?_
            rintro W8 ⟨hP8, hb8⟩
            refine (pick_any g a len cap (M + 12 + 4 + 1) 6 W8 (by omega) hP8.curs).mono ?_
            rintro e W9 ⟨r9, rfl, r90, r91, hc9, ho9⟩
            obtain ⟨kr, rfl⟩ : ∃ kr : Nat, r9 = kr := ⟨r9.toNat, by omega⟩
            have hkr6 : kr < 6 := by omega
            have hw7 : g < W7.heap.size := P7.out.curs.lt
            have hb9 : Blk W9 W7.heap.size 9 _ := (ho9.block _ hb8.lt (by omega)).trans hb8
            obtain ⟨s9, hz9, hs9⟩ : ∃ z : ByteArray, W9.cell? ⟨W7.heap.size, kr, none⟩ = some (.string z) ∧ z.size ≤ 201 := by
              have : kr = 0 ∨ kr = 1 ∨ kr = 2 ∨ kr = 3 ∨ kr = 4 ∨ kr = 5 := by omega
              rcases this with rfl | rfl | rfl | rfl | rfl | rfl
              · exact ⟨_, hb9.cell 0, by decide⟩
              · exact ⟨_, hb9.cell 1, by decide⟩
              · exact ⟨_, hb9.cell 2, by decide⟩
              · exact ⟨_, hb9.cell 3, by decide⟩
              · exact ⟨_, hb9.cell 4, by rw [ByteArray.size_append]; show s0.size + 1 ≤ 201; omega⟩
              · exact ⟨_, hb9.cell 5, by decide⟩
            have P9 := Lib.hid (hP8.next ho9 hc9 hgr)
            have hkr2 : (kr : Int) < 6 := by omega
            have hkr0 : (0 : Int) ≤ (kr : Int) := by omega
            clear hP8 hb8 hb9 hc9 ho9 P7 r90 r91
            obtain ⟨vq, recs, hbq, hGq, hrl, hrs⟩ := P9.out.ex
            obtain ⟨aq, cq, hvq⟩ := hGq.slice
            subst hvq
            have b0 := hbq.cell 0
            have bl := hbq.lt
            simp at b0
            have HBQ := Lib.hid hbq
            have HGQ := Lib.hid hGq
            have HRS := Lib.hid hrs
            have HOQ := Lib.hid P9.out.only
            have HCQ := Lib.hid P9.out.curs
            have hrl9 : recs.length ≤ 9 := by omega
            obtain ⟨i0, hi, hi2⟩ := Option.map_eq_some_iff.1 info_string
            simp only [Prod.mk.injEq] at hi2
            obtain ⟨hz0, hz1, hz2⟩ := hi2
            clear hbq hGq hrs P9
            go_wp2_with (at_builtin; refine push2 local_str rfl _ _ 56 rfl i0 (.string ByteArray.empty) 16 Tryz.underlying56 hi hz0 hz1 hz2 rfl (by decide) rfl HGQ.out ((Below.refl _ _).alloc (Nat.le_refl _) _) W9.heap.size 1 rfl [.string s9] rfl (fun u hu => by simp at hu; subst hu; rfl) (fun j u hj => ((blk_new W9 9 [.string s9]).cell j).trans hj) s9 [] ⟨rfl, by omega, rfl⟩ Own.nil (by omega) (by unfold maxLen; omega) (by omega) ?_; intro v' w6 hG6 hb6 hk6 hw6; obtain ⟨a8, cap8, hv8⟩ := hG6.slice; subst hv8; clear hk6 hw6; (generalize hn8 : (recs ++ [_]).length = n8 at *); clear hn8; have B6 := Lib.hid (show Below (wo.heap.size + 1) W9 w6 from ((Below.refl _ _).alloc (by omega) _).trans hb6); have Q6 := Lib.hid (HBQ.out.below B6.out (Nat.lt_succ_self _)); have G6 := Lib.hid hG6; have q6 := Q6.out.cell 0; have f6 := Q6.out.frozen; simp at q6; clear hG6 hb6 b0)
            refine calls_gen (fun W => PartAt g a len cap (m + 3 + 300 * L.length + 30 * j + 20) wo wo.heap.size (j + 1) W) ?_ ?_
            · refine ⟨⟨.slice a8 n8 cap8, recs ++ [s9], ?_, ?_, by simp; omega, ?_⟩, ?_, ?_, Nat.le_refl _⟩
              · exact (Q6.out.set 0 _).of_eq rfl
              · exact G6.out.keep local_str (fun b h1 h2 => Below.heap_setCell _ _ _ b (by show b ≠ wo.heap.size; omega))
              · intro s hs
                rcases List.mem_append.1 hs with hs | hs
                · exact HRS.out s hs
                · simp at hs; rw [hs]; omega
              · exact (HCQ.out.belowB (B := wo.heap.size) ((B6.out.mono (Nat.le_succ _)).setCell (Nat.le_refl _) _) hgr).more (by omega)
              · exact HOQ.out.then_below (B := wo.heap.size) ((B6.out.mono (Nat.le_succ _)).setCell (Nat.le_refl _) _) (Nat.le_refl _)
            intro W8 P8
            refine (pick_any g a len cap (m + 3 + 300 * L.length + 30 * j + 20) 25 W8 (by omega) P8.curs).mono ?_
            rintro e W9 ⟨r9, rfl, -, -, hc9, ho9⟩
            have P9 := Lib.hid (P8.next ho9 hc9 hgr)
            clear P8 hc9 ho9
            have hkw : IntKind.i64.wrap (kz - 1) = kz - 1 := by rw [IntKind.wrap_i64]; omega
            go_wp2_with fail
            go_roundg (8 - j)
            case measure => omega
            case rel => exact ⟨_, kz - 1, j + 1, rfl, by go_num, by omega, by omega, ⟨P9.out.ex, P9.out.curs.more (by omega), P9.out.only, P9.out.qo⟩⟩
        by_cases hd4 : (i : Int) < 4
        case neg =>
          have CW := Lib.hid (show Curs g a len cap (M + 12 + 4) wr from hCw.more (by omega))
          clear hX hGd hCw hOw hKW
          have hO2 : Only g w wr := HO.out.trans (HPA.out.only.trans OW.out)
          have hIs : Config.Is wr c h cf := HI.out.keep (fun b hb => hO2.block b (HI.out.lt b hb) (HGF.out b hb))
          obtain ⟨ad, cd, fd, hdv, r3, u3, v3, -, -⟩ := GW.out.plain plain_int
          subst hdv
          have hEv : Event.Is wr ⟨t, ds, u⟩ ⟨ad, ds.length, cd⟩ fd := ⟨fd, rfl, r3, u3, v3⟩
          have HT := Lib.hid (spec_EventText c h cf ⟨t, ds, u⟩ ⟨ad, ds.length, cd⟩ fd wr hIs hEv)
          simp only [Config.list, Event.list] at HT
          have y0 := XW.out.cell 0
          have y1 := XW.out.cell 1
          have y2 := XW.out.cell 2
          have k0 := KW.out.cell 0
          have k1 := KW.out.cell 1
          have k2 := KW.out.cell 2
          have k3 := KW.out.cell 3
          have k4 := KW.out.cell 4
          simp [Config.list] at k0 k1 k2 k3 k4
          simp at y0 y1 y2
          clear hO2 hIs hEv r3 u3 v3
          go_wp2_with fail
          refine HT.out.mono ?_
          rintro e W6 ⟨rfl, b6⟩
          obtain ⟨s0, hs0⟩ : ∃ s : ByteArray, (⟨(evD c ⟨t, ds, u⟩).toArray⟩ : ByteArray) = s := ⟨_, rfl⟩
          have hs200 : s0.size ≤ 200 := by
            rw [← hs0]
            show (evD c ⟨t, ds, u⟩).toArray.size ≤ 200
            unfold evD
            split
            · rename_i hh; simpa using evText_len hh
            · simp
          rw [hs0]
          have P6 := Lib.hid (HPA.out.next (OW.out.trans (Only.of_below b6)) (CW.out.below b6) hgr)
          clear b6 hs0 HT y0 y1 y2 k0 k1 k2 k3 k4
          go_wp2_with fail
          refine (once_any g a len cap (M + 12 + 4) 12 W6 (by omega) P6.out.curs).mono ?_
          rintro e W7 ⟨tb, rfl, hc7, ho7⟩
          have P7 := Lib.hid (P6.out.next ho7 hc7 hgr)
          clear hc7 ho7 P6
          have hs201 : s0.size ≤ 201 := by omega
          have hMM := HM.out
          cases tb with
          | false =>
            obtain ⟨vq, recs, hbq, hGq, hrl, hrs⟩ := P7.out.ex
            obtain ⟨aq, cq, hvq⟩ := hGq.slice
            subst hvq
            have b0 := hbq.cell 0
            have bl := hbq.lt
            simp at b0
            have HBQ := Lib.hid hbq
            have HGQ := Lib.hid hGq
            have HRS := Lib.hid hrs
            have HOQ := Lib.hid P7.out.only
            have HCQ := Lib.hid P7.out.curs
            have hrl9 : recs.length ≤ 9 := by omega
            obtain ⟨i0, hi, hi2⟩ := Option.map_eq_some_iff.1 info_string
            simp only [Prod.mk.injEq] at hi2
            obtain ⟨hz0, hz1, hz2⟩ := hi2
            clear hbq hGq hrs P7
            go_wp2_with (at_builtin; refine push2 local_str rfl _ _ 56 rfl i0 (.string ByteArray.empty) 16 Tryz.underlying56 hi hz0 hz1 hz2 rfl (by decide) rfl HGQ.out ((Below.refl _ _).alloc (Nat.le_refl _) _) W7.heap.size 1 rfl [.string s0] rfl (fun u hu => by simp at hu; subst hu; rfl) (fun j u hj => ((blk_new W7 9 [.string s0]).cell j).trans hj) s0 [] ⟨rfl, by omega, rfl⟩ Own.nil (by omega) (by unfold maxLen; omega) (by omega) ?_; intro v' w6 hG6 hb6 hk6 hw6; obtain ⟨a8, cap8, hv8⟩ := hG6.slice; subst hv8; clear hk6 hw6; (generalize hn8 : (recs ++ [_]).length = n8 at *); clear hn8; have B6 := Lib.hid (show Below (wo.heap.size + 1) W7 w6 from ((Below.refl _ _).alloc (by omega) _).trans hb6); have Q6 := Lib.hid (HBQ.out.below B6.out (Nat.lt_succ_self _)); have G6 := Lib.hid hG6; have q6 := Q6.out.cell 0; have f6 := Q6.out.frozen; simp at q6; clear hG6 hb6 b0)
            refine calls_gen (fun W => PartAt g a len cap (m + 3 + 300 * L.length + 30 * j + 20) wo wo.heap.size (j + 1) W) ?_ ?_
            · refine ⟨⟨.slice a8 n8 cap8, recs ++ [s0], ?_, ?_, by simp; omega, ?_⟩, ?_, ?_, Nat.le_refl _⟩
              · exact (Q6.out.set 0 _).of_eq rfl
              · exact G6.out.keep local_str (fun b h1 h2 => Below.heap_setCell _ _ _ b (by show b ≠ wo.heap.size; omega))
              · intro s hs
                rcases List.mem_append.1 hs with hs | hs
                · exact HRS.out s hs
                · simp at hs; rw [hs]; omega
              · exact (HCQ.out.belowB (B := wo.heap.size) ((B6.out.mono (Nat.le_succ _)).setCell (Nat.le_refl _) _) hgr).more (by omega)
              · exact HOQ.out.then_below (B := wo.heap.size) ((B6.out.mono (Nat.le_succ _)).setCell (Nat.le_refl _) _) (Nat.le_refl _)
            intro W8 P8
            refine (pick_any g a len cap (m + 3 + 300 * L.length + 30 * j + 20) 25 W8 (by omega) P8.curs).mono ?_
            rintro e W9 ⟨r9, rfl, -, -, hc9, ho9⟩
            have P9 := Lib.hid (P8.next ho9 hc9 hgr)
            clear P8 hc9 ho9
            have hkw : IntKind.i64.wrap (kz - 1) = kz - 1 := by rw [IntKind.wrap_i64]; omega
            go_wp2_with fail
            go_roundg (8 - j)
            case measure => omega
            case rel => exact ⟨_, kz - 1, j + 1, rfl, by go_num, by omega, by omega, ⟨P9.out.ex, P9.out.curs.more (by omega), P9.out.only, P9.out.qo⟩⟩
          | true =>
            have hcat : ¬ 9223372036854775807 < s0.size + 1 := by omega
            go_wp2_with fail
            refine calls_gen (fun W => PartAt g a len cap (M + 12 + 4 + 1) wo wo.heap.size j W ∧ Blk W W7.heap.size 9 [.string ⟨#[]⟩, .string ⟨#[101]⟩, .string ⟨#[120, 32, 49, 32, 50]⟩, .string ⟨#[101, 32, 49]⟩, .string (s0 ++ ⟨#[32]⟩), .string ⟨#[101, 32, 48, 49, 32, 49]⟩]) ⟨P7.out.next (Only.of_below (by repeat (first | exact Below.refl _ _ | refine Below.setCell ?_ (by first | omega | (simp; done) | (simp; omega)) _ | refine Below.alloc ?_ (by first | omega | (simp; done) | (simp; omega)) _ | apply Below.drew))) (P7.out.curs.below (by repeat (first | exact Below.refl _ _ | refine Below.setCell ?_ (by first | omega | (simp; done) | (simp; omega)) _ | refine Below.alloc ?_ (by first | omega | (simp; done) | (simp; omega)) _ | apply Below.drew))) hgr, by with_reducible (repeat (first | (refine blk_new_at _ _ _ _ ?_; first | rfl | (simp; done)) | refine Blk.alloc ?_ _ | apply Blk.drew | refine Blk.setOther ?_ (by first | (simp; done) | (simp; omega)) _))⟩ ?_
            rintro W8 ⟨hP8, hb8⟩
            refine (pick_any g a len cap (M + 12 + 4 + 1) 6 W8 (by omega) hP8.curs).mono ?_
            rintro e W9 ⟨r9, rfl, r90, r91, hc9, ho9⟩
            obtain ⟨kr, rfl⟩ : ∃ kr : Nat, r9 = kr := ⟨r9.toNat, by omega⟩
            have hkr6 : kr < 6 := by omega
            have hw7 : g < W7.heap.size := P7.out.curs.lt
            have hb9 : Blk W9 W7.heap.size 9 _ := (ho9.block _ hb8.lt (by omega)).trans hb8
            obtain ⟨s9, hz9, hs9⟩ : ∃ z : ByteArray, W9.cell? ⟨W7.heap.size, kr, none⟩ = some (.string z) ∧ z.size ≤ 201 := by
              have : kr = 0 ∨ kr = 1 ∨ kr = 2 ∨ kr = 3 ∨ kr = 4 ∨ kr = 5 := by omega
              rcases this with rfl | rfl | rfl | rfl | rfl | rfl
              · exact ⟨_, hb9.cell 0, by decide⟩
              · exact ⟨_, hb9.cell 1, by decide⟩
              · exact ⟨_, hb9.cell 2, by decide⟩
              · exact ⟨_, hb9.cell 3, by decide⟩
              · exact ⟨_, hb9.cell 4, by rw [ByteArray.size_append]; show s0.size + 1 ≤ 201; omega⟩
              · exact ⟨_, hb9.cell 5, by decide⟩
            have P9 := Lib.hid (hP8.next ho9 hc9 hgr)
            have hkr2 : (kr : Int) < 6 := by omega
            have hkr0 : (0 : Int) ≤ (kr : Int) := by omega
            clear hP8 hb8 hb9 hc9 ho9 P7 r90 r91
            obtain ⟨vq, recs, hbq, hGq, hrl, hrs⟩ := P9.out.ex
            obtain ⟨aq, cq, hvq⟩ := hGq.slice
            subst hvq
            have b0 := hbq.cell 0
            have bl := hbq.lt
            simp at b0
            have HBQ := Lib.hid hbq
            have HGQ := Lib.hid hGq
            have HRS := Lib.hid hrs
            have HOQ := Lib.hid P9.out.only
            have HCQ := Lib.hid P9.out.curs
            have hrl9 : recs.length ≤ 9 := by omega
            obtain ⟨i0, hi, hi2⟩ := Option.map_eq_some_iff.1 info_string
            simp only [Prod.mk.injEq] at hi2
            obtain ⟨hz0, hz1, hz2⟩ := hi2
            clear hbq hGq hrs P9
            go_wp2_with (at_builtin; refine push2 local_str rfl _ _ 56 rfl i0 (.string ByteArray.empty) 16 Tryz.underlying56 hi hz0 hz1 hz2 rfl (by decide) rfl HGQ.out ((Below.refl _ _).alloc (Nat.le_refl _) _) W9.heap.size 1 rfl [.string s9] rfl (fun u hu => by simp at hu; subst hu; rfl) (fun j u hj => ((blk_new W9 9 [.string s9]).cell j).trans hj) s9 [] ⟨rfl, by omega, rfl⟩ Own.nil (by omega) (by unfold maxLen; omega) (by omega) ?_; intro v' w6 hG6 hb6 hk6 hw6; obtain ⟨a8, cap8, hv8⟩ := hG6.slice; subst hv8; clear hk6 hw6; (generalize hn8 : (recs ++ [_]).length = n8 at *); clear hn8; have B6 := Lib.hid (show Below (wo.heap.size + 1) W9 w6 from ((Below.refl _ _).alloc (by omega) _).trans hb6); have Q6 := Lib.hid (HBQ.out.below B6.out (Nat.lt_succ_self _)); have G6 := Lib.hid hG6; have q6 := Q6.out.cell 0; have f6 := Q6.out.frozen; simp at q6; clear hG6 hb6 b0)
            refine calls_gen (fun W => PartAt g a len cap (m + 3 + 300 * L.length + 30 * j + 20) wo wo.heap.size (j + 1) W) ?_ ?_
            · refine ⟨⟨.slice a8 n8 cap8, recs ++ [s9], ?_, ?_, by simp; omega, ?_⟩, ?_, ?_, Nat.le_refl _⟩
              · exact (Q6.out.set 0 _).of_eq rfl
              · exact G6.out.keep local_str (fun b h1 h2 => Below.heap_setCell _ _ _ b (by show b ≠ wo.heap.size; omega))
              · intro s hs
                rcases List.mem_append.1 hs with hs | hs
                · exact HRS.out s hs
                · simp at hs; rw [hs]; omega
              · exact (HCQ.out.belowB (B := wo.heap.size) ((B6.out.mono (Nat.le_succ _)).setCell (Nat.le_refl _) _) hgr).more (by omega)
              · exact HOQ.out.then_below (B := wo.heap.size) ((B6.out.mono (Nat.le_succ _)).setCell (Nat.le_refl _) _) (Nat.le_refl _)
            intro W8 P8
            refine (pick_any g a len cap (m + 3 + 300 * L.length + 30 * j + 20) 25 W8 (by omega) P8.curs).mono ?_
            rintro e W9 ⟨r9, rfl, -, -, hc9, ho9⟩
            have P9 := Lib.hid (P8.next ho9 hc9 hgr)
            clear P8 hc9 ho9
            have hkw : IntKind.i64.wrap (kz - 1) = kz - 1 := by rw [IntKind.wrap_i64]; omega
            go_wp2_with fail
            go_roundg (8 - j)
            case measure => omega
            case rel => exact ⟨_, kz - 1, j + 1, rfl, by go_num, by omega, by omega, ⟨P9.out.ex, P9.out.curs.more (by omega), P9.out.only, P9.out.qo⟩⟩
        obtain ⟨ad, cd, hdv⟩ := hGd.slice
        subst hdv
        have c1 := hX.cell 1
        simp at c1
        have CW := Lib.hid hCw
        have hdl : ds.length ≤ 4 := by omega
        clear hX hGd hCw hOw hKW
        go_wp2_with fail
        refine mix.wp_region_tail (fun w' => w'.cell? ⟨x, 1, none⟩ = some (.slice ad ds.length cd)) [3,4,5] [0,1,2,3,4,5,6] (by kernel_rfl) (by kernel_rfl) (fun _ _ d _ _ h => by cases d <;> exact h) c1 ?_
        simp only [List.filterMap_cons, List.filterMap_nil, List.getElem?_cons_zero, List.getElem?_cons_succ, Option.map_some]
        (repeat (apply mix.ordt_take; (· rfl); (· rfl); (· (intro w' hSw; (try dsimp only at hSw); go_simp; try with_reducible rfl)); (try simp only [Act.put, List.setIfInBounds_toArray, List.set_cons_zero, List.set_cons_succ])))
        refine mix.ordt_hard rfl (fun K hK => ?_); go_simp
        refine (pick_any g a len cap (M + 12 + i) 3 wr.drew (by omega) (CW.out.below (Below.refl _ _).drew)).mono ?_
        rintro e W6 ⟨y, rfl, -, -, hc6, ho6⟩
        have hxg : x ≠ g := by omega
        have X6 := Lib.hid (show Blk W6 x 84 [.int .i64 t, .slice ad ds.length cd, .int .i64 u] from (ho6.block x XW.out.lt hxg).trans XW.out)
        have G6 := Lib.hid (GW.out.keep (w' := W6) local_int (fun b h1 h2 => ho6.block b h2 (by omega)))
        have C6 := Lib.hid hc6
        have O6 := Lib.hid ((OW.out.drew).trans ho6)
        have x6 := X6.out.lt
        have d1 := X6.out.cell 1
        simp at d1
        clear hc6 ho6 c1 XW GW CW OW KW kd
        refine hK.out _ _ (by exact d1) (fun hSw => ?_); clear hK K hSw; (try simp only [Act.put, List.setIfInBounds_toArray, List.set_cons_zero, List.set_cons_succ])
        refine mix.ordt_hard rfl (fun K hK => ?_); go_simp
        have hb7 : Below W6.heap.size W6 (W6.alloc (.cells #[.int .i64 y] 3)) := (Below.refl _ _).alloc (Nat.le_refl _) _
        have d2 : (W6.alloc (.cells #[.int .i64 y] 3)).cell? ⟨x, 1, none⟩ = some (.slice ad ds.length cd) := (hb7.cell (p := ⟨x, 1, none⟩) x6).trans d1
        refine hK.out _ _ (by exact d2) (fun hSw => ?_); clear hK K hSw; (try simp only [Act.put, List.setIfInBounds_toArray, List.set_cons_zero, List.set_cons_succ])
        obtain ⟨i0, hi, hi2⟩ := Option.map_eq_some_iff.1 win.info_int
        simp only [Prod.mk.injEq] at hi2
        obtain ⟨hz0', hz1, hz2⟩ := hi2
        refine mix.ordt_hardb rfl rfl (fun K hK => ?_)
        refine push_wp (v := .slice ad ds.length cd) local_int _ _ 23 rfl i0 (.int .i64 0) 8 Tryz.underlying23 hi hz0' hz1 hz2 rfl (by decide) rfl G6.out hb7 W6.heap.size 1 rfl [.int .i64 y] rfl (fun u hu => by simp at hu; subst hu; rfl) (fun j u hj => ((blk_new W6 3 [.int .i64 y]).cell j).trans hj) y [] ⟨rfl, rfl⟩ Own.nil (by omega) (by unfold maxLen; omega) (by omega) ?_
        intro v8 W8 hG8 hb8 hk8 hw8
        obtain ⟨a8, cap8, hv8⟩ := hG8.slice
        subst hv8
        clear hk8 hw8
        generalize hn8 : (ds ++ [y]).length = n8 at *
        have hBl : Below (x + 1) W6 W8 := ((Below.refl _ _).alloc (by omega) _).trans hb8
        have X8 := Lib.hid (X6.out.below hBl (Nat.lt_succ_self _))
        have G8 := Lib.hid hG8
        have B8 := Lib.hid (hBl.mono (show wi.heap.size ≤ x + 1 by omega))
        have d8 := X8.out.cell 1
        have f8 := X8.out.frozen
        simp at d8
        have hn9 : (ds ++ [y]).length ≤ i + 1 := by simp; omega
        clear hb8 hG8 hBl d1 d2 hb7 hi hz0' hz1 hz2 hn8 X6 G6
        refine hK.out _ _ (by exact d8) (fun hSw => ?_); clear hK K hSw; (try simp only [Act.put, List.setIfInBounds_toArray, List.set_cons_zero, List.set_cons_succ])
        (repeat (apply mix.ordt_take; (· rfl); (· rfl); (· (intro w' hSw; (try dsimp only at hSw); go_simp; try with_reducible rfl)); (try simp only [Act.put, List.setIfInBounds_toArray, List.set_cons_zero, List.set_cons_succ])))
        refine mix.ordt_end ?_; refine mix.last_step (fun K hK => ?_); go_simp
        refine hK _ _ ?_
        clear hK K
        go_wp2_with fail
        go_roundg (3 - i)
        case measure => omega
        case rel => exact ⟨i + 1, t, u, .slice a8 n8 cap8, ds ++ [y], by omega, by go_num, (X8.out.set 1 _).of_eq rfl, G8.out.keep local_int (fun b h1 h2 => Below.heap_setCell _ _ _ b (by show b ≠ x; omega)), hn9, (C6.out.belowB (B := wi.heap.size) (B8.out.setCell hxi _) hgi).more (by omega), O6.out.then_below (B := wi.heap.size) (B8.out.setCell hxi _) (Nat.le_refl _)⟩
end Go.Proofs.YtdipkbgfkbmfnaaGreatDoor.cur

/-
  THE DRAWS: the contract of DrawMergeOrder: some Config and some logs, in memory of their own; nothing that was there is written.
  Condition: the code is a slice of bytes, at most 2,000,000 of them.
-/
namespace Go.Proofs.YtdipkbgfkbmfnaaGreatDoor.cur
open Go.RowKit Go.Proofs.YtdipkbgfkbmfnaaGreatDoor.win Go.Proofs.YtdipkbgfkbmfnaaGreatDoor.dat

theorem conf_is2 {lo : Nat} {c : ConfD} {aw am : Option Addr} {n k cw cm : Nat} {W : World} (h : ConfAt lo c (.slice aw n cw) (.slice am k cm) W) : ∃ fp : List Nat, Config.Is W c ⟨aw, n, cw, am, k, cm⟩ fp ∧ ∀ b ∈ fp, lo ≤ b := by
  obtain ⟨a, cap, f0, e0, g0, u0, v0, o0, _⟩ := h.1.plain plain_win
  obtain ⟨b, cap', f1, e1, g1, u1, v1, o1, _⟩ := h.2.1.plain plain_int
  cases e0
  cases e1
  exact ⟨f0 ++ f1, ⟨f0, f1, rfl, g0, u0, v0, g1, u1, v1⟩, fun b hb => (List.mem_append.1 hb).elim (fun h => (o0.2 b h).1) (fun h => (o1.2 b h).1)⟩

set_option maxRecDepth 100000 in
set_option maxHeartbeats 4000000 in
theorem DrawMergeOrder_any (a : Option Addr) (len cap : Nat) (w : World) (hle : len ≤ 2000000) (hcode : Code w a len) :
    Calls Tryz.prog 28 #[.slice a len cap] w (fun e w' => ∃ (c : ConfD) (h : ConfigH) (fp : List Nat) (av : Option Addr) (n cv : Nat) (L : List PartD) (f : List Nat), e = .returned (.tuple #[.agg (Config.list c h).toArray, .slice av n cv]) ∧ Config.Is w' c h fp ∧ c.ws.length ≤ 4 ∧ c.ms.length ≤ 5 ∧ GRow 1 RPart w' av n L f ∧ n ≤ cv ∧ cv ≤ 9223372036854775807 ∧ L.length ≤ 4 ∧ (∀ x ∈ L, x.recs.length ≤ 25 ∧ ∀ s ∈ x.recs, s.size ≤ 201) ∧ Below w.heap.size w w') := by
  have HK := Lib.hid hcode
  clear hcode
  go_enter Tryz.func28, Tryz.ntmps28
  go_wp2_with fail
  refine calls_gen (fun W => Below w.heap.size w W ∧ Blk W w.heap.size 33 [.int .i64 0, .slice none 0 0, .slice none 0 0, .int .i64 0, .int .i64 0]) ⟨by repeat (first | exact Below.refl _ _ | refine Below.setCell ?_ (by first | omega | (simp; done) | (simp; omega)) _ | refine Below.alloc ?_ (by first | omega | (simp; done) | (simp; omega)) _ | apply Below.drew), by with_reducible (repeat (first | (refine blk_new_at _ _ _ _ ?_; first | rfl | (simp; done)) | refine Blk.alloc ?_ _ | apply Blk.drew | refine Blk.setOther ?_ (by first | (simp; done) | (simp; omega)) _))⟩ ?_
  rintro W0 ⟨b0, k0⟩
  refine (l01Open_cur _ _ _ _ hle (HK.out.below b0)).mono ?_
  rintro e W1 ⟨rfl, hc1, hb1⟩
  have K1 := Lib.hid (k0.below hb1 k0.lt)
  have C1 := Lib.hid hc1
  have B1 := Lib.hid (b0.trans (hb1.mono b0.size))
  have hgw : w.heap.size < W0.heap.size := k0.lt
  clear hc1 hb1 k0 b0 HK
  generalize W0.heap.size = g at *
  go_wp2_with fail
  refine (anyConfig_any g a len cap 0 W1 (by omega) C1.out).mono ?_
  rintro e W2 ⟨c, wv, mv, rfl, hA, hws, hms, hc2, ho2⟩
  obtain ⟨aw, cw, hwv⟩ := hA.1.slice
  obtain ⟨am, cm, hmv⟩ := hA.2.1.slice
  subst hwv hmv
  have hg1 := C1.out.lt
  have hk1 := K1.out.lt
  have K2 := Lib.hid (show Blk W2 w.heap.size 33 [.int .i64 0, .slice none 0 0, .slice none 0 0, .int .i64 0, .int .i64 0] from (ho2.block _ hk1 (by omega)).trans K1.out)
  have A2 := Lib.hid hA
  have C2 := Lib.hid hc2
  have B2 := Lib.hid (B1.out.trans (ho2.below (B := w.heap.size) (by omega) (by omega)))
  have Z2 := Lib.hid (show W1.heap.size ≤ W2.heap.size from ho2.size)
  clear hA hc2 ho2 K1 C1 B1
  go_wp2_with fail
  refine wp_gen (fun W => Below W2.heap.size W2 W ∧ Blk W W2.heap.size 33 [.int .i64 c.d, .slice aw c.ws.length cw, .slice am c.ms.length cm, .int .i64 c.dl, .int .i64 c.lt]) ⟨by repeat (first | exact Below.refl _ _ | refine Below.setCell ?_ (by first | omega | (simp; done) | (simp; omega)) _ | refine Below.alloc ?_ (by first | omega | (simp; done) | (simp; omega)) _ | apply Below.drew), by with_reducible (repeat (first | (refine blk_new_at _ _ _ _ ?_; first | rfl | (simp; done)) | refine Blk.alloc ?_ _ | apply Blk.drew | refine Blk.setOther ?_ (by first | (simp; done) | (simp; omega)) _))⟩ ?_
  rintro W3 ⟨b3, x3⟩
  have X3 := Lib.hid x3
  have A3 := Lib.hid (show ConfAt W1.heap.size c (.slice aw c.ws.length cw) (.slice am c.ms.length cm) W3 from A2.out.stay (fun b _ h2 => b3.block b h2))
  have K3 := Lib.hid (K2.out.below b3 K2.out.lt)
  have hg2 := C2.out.lt
  have C3 := Lib.hid (C2.out.below b3)
  have B3 := Lib.hid (B2.out.trans (b3.mono B2.out.size))
  have hx3 := x3.lt
  have hxg : W2.heap.size ≠ g := by omega
  clear b3 x3 A2 K2 C2 B2
  generalize W2.heap.size = x at *
  have hg3 : g < W3.heap.size := by omega
  have x0 := X3.out.cell 0
  have x1 := X3.out.cell 1
  have x2 := X3.out.cell 2
  have x3 := X3.out.cell 3
  have x4 := X3.out.cell 4
  simp at x0 x1 x2 x3 x4
  refine mix.wp_region_tail (fun w' => w'.cell? ⟨x, 0, none⟩ = some (.int .i64 c.d) ∧ w'.cell? ⟨x, 1, none⟩ = some (.slice aw c.ws.length cw) ∧ w'.cell? ⟨x, 2, none⟩ = some (.slice am c.ms.length cm) ∧ w'.cell? ⟨x, 3, none⟩ = some (.int .i64 c.dl) ∧ w'.cell? ⟨x, 4, none⟩ = some (.int .i64 c.lt)) [3,4] [0,1,2,3,4] (by kernel_rfl) (by kernel_rfl) (fun _ _ d _ _ h => by cases d <;> exact h) ⟨x0, x1, x2, x3, x4⟩ ?_
  simp only [List.filterMap_cons, List.filterMap_nil, List.getElem?_cons_zero, List.getElem?_cons_succ, Option.map_some]
  (repeat (apply mix.ordt_take; (· rfl); (· rfl); (· (intro w' hSw; (try dsimp only at hSw); go_simp; try with_reducible rfl)); (try simp only [Act.put, List.setIfInBounds_toArray, List.set_cons_zero, List.set_cons_succ])))
  refine mix.ordt_hard rfl (fun K hK => ?_); go_simp
  obtain ⟨fp3, hIs3, hf3⟩ := conf_is2 A3.out
  refine (logs_any g a len cap (0 + 60) c ⟨aw, c.ws.length, cw, am, c.ms.length, cm⟩ fp3 W3.drew (by omega) (C3.out.below (Below.refl _ _).drew) (hIs3.keep (fun _ _ => rfl)) (fun b hb => by have := hf3 b hb; omega)).mono ?_
  rintro e W4 ⟨av, n, cv, L, f, rfl, hR, hRb, hncv, hcv, hL4, hLs, hc4, ho4⟩
  have hsz4 := ho4.size
  have X4 := Lib.hid (show Blk W4 x 33 [.int .i64 c.d, .slice aw c.ws.length cw, .slice am c.ms.length cm, .int .i64 c.dl, .int .i64 c.lt] from (ho4.block x X3.out.lt hxg).trans X3.out)
  have K4 := Lib.hid (show Blk W4 w.heap.size 33 [.int .i64 0, .slice none 0 0, .slice none 0 0, .int .i64 0, .int .i64 0] from (ho4.block _ K3.out.lt (by omega)).trans K3.out)
  have A4 := Lib.hid (show ConfAt W1.heap.size c (.slice aw c.ws.length cw) (.slice am c.ms.length cm) W4 from A3.out.stay (fun b h1 h2 => ho4.block b h2 (by omega)))
  have R4 := Lib.hid hR
  have RB := Lib.hid hRb
  have LS := Lib.hid hLs
  have B4 := Lib.hid (B3.out.trans ((Below.refl _ _).drew.trans (ho4.below (B := w.heap.size) (by omega) (by show w.heap.size ≤ W3.heap.size; omega))))
  have hkk := K4.out.lt
  have p0 := X4.out.cell 0
  have p1 := X4.out.cell 1
  have p2 := X4.out.cell 2
  have p3 := X4.out.cell 3
  have p4 := X4.out.cell 4
  have k0 := K4.out.cell 0
  have k1 := K4.out.cell 1
  have k2 := K4.out.cell 2
  have k3 := K4.out.cell 3
  have k4 := K4.out.cell 4
  have kf := K4.out.frozen
  simp at p0 p1 p2 p3 p4 k0 k1 k2 k3 k4
  have HP := Lib.hid (And.intro p0 (And.intro p1 (And.intro p2 (And.intro p3 p4))))
  have hw3 : w.heap.size < W3.drew.heap.size := K3.out.lt
  clear hR hRb hLs hc4 ho4 x0 x1 x2 x3 x4 X3 K3 A3 C3 B3 p0 p1 p2 p3 p4 hIs3 hf3
  refine hK.out _ _ (by exact HP.out) (fun hSw => ?_); clear hK K hSw; (try simp only [Act.put, List.setIfInBounds_toArray, List.set_cons_zero, List.set_cons_succ])
  clear HP
  refine mix.ordt_hard rfl (fun K hK => ?_); go_simp
  have hx5 : Blk (((((W4.setCell ⟨w.heap.size, 0, none⟩ (.int .i64 c.d)).setCell ⟨w.heap.size, 1, none⟩ (.slice aw c.ws.length cw)).setCell ⟨w.heap.size, 2, none⟩ (.slice am c.ms.length cm)).setCell ⟨w.heap.size, 3, none⟩ (.int .i64 c.dl)).setCell ⟨w.heap.size, 4, none⟩ (.int .i64 c.lt)) x 33 [.int .i64 c.d, .slice aw c.ws.length cw, .slice am c.ms.length cm, .int .i64 c.dl, .int .i64 c.lt] := ((((X4.out.setOther (by simp; omega) _).setOther (by simp; omega) _).setOther (by simp; omega) _).setOther (by simp; omega) _).setOther (by simp; omega) _
  have K5 := Lib.hid (show Blk (((((W4.setCell ⟨w.heap.size, 0, none⟩ (.int .i64 c.d)).setCell ⟨w.heap.size, 1, none⟩ (.slice aw c.ws.length cw)).setCell ⟨w.heap.size, 2, none⟩ (.slice am c.ms.length cm)).setCell ⟨w.heap.size, 3, none⟩ (.int .i64 c.dl)).setCell ⟨w.heap.size, 4, none⟩ (.int .i64 c.lt)) w.heap.size 33 [.int .i64 c.d, .slice aw c.ws.length cw, .slice am c.ms.length cm, .int .i64 c.dl, .int .i64 c.lt] from (((((K4.out.set 0 _).set 1 _).set 2 _).set 3 _).set 4 _).of_eq rfl)
  have E5 := Lib.hid (show ∀ b, b ≠ w.heap.size → (((((W4.setCell ⟨w.heap.size, 0, none⟩ (.int .i64 c.d)).setCell ⟨w.heap.size, 1, none⟩ (.slice aw c.ws.length cw)).setCell ⟨w.heap.size, 2, none⟩ (.slice am c.ms.length cm)).setCell ⟨w.heap.size, 3, none⟩ (.int .i64 c.dl)).setCell ⟨w.heap.size, 4, none⟩ (.int .i64 c.lt)).heap[b]? = W4.heap[b]? from fun b hb => by
    rw [Below.heap_setCell _ _ _ b (by simpa using hb), Below.heap_setCell _ _ _ b (by simpa using hb), Below.heap_setCell _ _ _ b (by simpa using hb), Below.heap_setCell _ _ _ b (by simpa using hb), Below.heap_setCell _ _ _ b (by simpa using hb)])
  have B5 := Lib.hid (show Below w.heap.size w (((((W4.setCell ⟨w.heap.size, 0, none⟩ (.int .i64 c.d)).setCell ⟨w.heap.size, 1, none⟩ (.slice aw c.ws.length cw)).setCell ⟨w.heap.size, 2, none⟩ (.slice am c.ms.length cm)).setCell ⟨w.heap.size, 3, none⟩ (.int .i64 c.dl)).setCell ⟨w.heap.size, 4, none⟩ (.int .i64 c.lt)) from ((((B4.out.setCell (Nat.le_refl _) _).setCell (Nat.le_refl _) _).setCell (Nat.le_refl _) _).setCell (Nat.le_refl _) _).setCell (Nat.le_refl _) _)
  have q0 := hx5.cell 0
  have q1 := hx5.cell 1
  have q2 := hx5.cell 2
  have q3 := hx5.cell 3
  have q4 := hx5.cell 4
  simp only [List.getElem?_cons_zero, List.getElem?_cons_succ] at q0 q1 q2 q3 q4
  have HQ := Lib.hid (And.intro q0 (And.intro q1 (And.intro q2 (And.intro q3 q4))))
  clear q0 q1 q2 q3 q4 hx5 k0 k1 k2 k3 k4 kf
  generalize (((((W4.setCell ⟨w.heap.size, 0, none⟩ (.int .i64 c.d)).setCell ⟨w.heap.size, 1, none⟩ (.slice aw c.ws.length cw)).setCell ⟨w.heap.size, 2, none⟩ (.slice am c.ms.length cm)).setCell ⟨w.heap.size, 3, none⟩ (.int .i64 c.dl)).setCell ⟨w.heap.size, 4, none⟩ (.int .i64 c.lt)) = W5 at *
  refine hK.out _ _ (by exact HQ.out) (fun hSw => ?_); clear hK K hSw; (try simp only [Act.put, List.setIfInBounds_toArray, List.set_cons_zero, List.set_cons_succ])
  clear HQ
  refine mix.ordt_end ?_; refine mix.last_step (fun K hK => ?_); go_simp
  refine hK _ _ ?_
  clear hK K
  go_wp2_with fail
  have z0 := K5.out.cell 0
  have z1 := K5.out.cell 1
  have z2 := K5.out.cell 2
  have z3 := K5.out.cell 3
  have z4 := K5.out.cell 4
  simp at z0 z1 z2 z3 z4
  refine bodyPost_ret (v := .tuple #[.agg #[.int .i64 c.d, .slice aw c.ws.length cw, .slice am c.ms.length cm, .int .i64 c.dl, .int .i64 c.lt], .slice av n cv]) (by simp [results, Tryz.results28, go_sem, z0, z1, z2, z3, z4]) rfl ?_
  obtain ⟨fp5, hIs5, _⟩ := conf_is2 (A4.out.stay (fun b h1 h2 => E5.out b (by omega)))
  exact ⟨c, _, fp5, av, n, cv, L, f, rfl, hIs5, hws, hms, R4.out.keep local_Part (fun b hb => E5.out b (by have := RB.out b hb; omega)), hncv, hcv, hL4, LS.out, B5.out⟩
end Go.Proofs.YtdipkbgfkbmfnaaGreatDoor.cur

/-
  THE MERGED ORDER, RECORD BY RECORD: what was read behind i records, what the record i is, when all is read; marks never fall.
-/
namespace Go.Proofs.YtdipkbgfkbmfnaaGreatDoor.dat
open Go.RowKit Go.Proofs.YtdipkbgfkbmfnaaGreatDoor.win

theorem offsTo_snoc (m : Nat) (out : List (Int × Int)) (x : Int × Int) : offsTo m (out ++ [x]) = rdNext (offsTo m out) x.1.toNat := by
  simp [offsTo]
/-- One record more. -/
theorem Under.next {c : ConfD} {L : List PartD} {out : List (Int × Int)} {rd : List Nat} (h : Under c L out rd) (hl : out.length < (ordD c L).length) : ∃ b : Nat, b < L.length ∧ (ordD c L)[out.length]? = some ((b : Int), ((rd.getD b 0 : Nat) : Int)) ∧ Under c L (out ++ [((b : Int), ((rd.getD b 0 : Nat) : Int))]) (rdNext rd b) := by
  have e := h.eq
  cases hf : totalD L - out.length with
  | zero =>
    rw [hf, ordFrom, List.append_nil] at e
    rw [← e] at hl
    omega
  | succ f =>
    rw [hf, ordFrom] at e
    rcases scan_spec c L rd L.length with ⟨h1, _⟩ | ⟨b, h1, h2⟩
    · rw [if_pos (by rw [h1]; omega), List.append_nil] at e
      rw [← e] at hl
      omega
    · rw [h1, if_neg (by omega)] at e
      simp only [Int.toNat_natCast] at e
      refine ⟨b, h2.1, ?_, (h.step h2).2⟩
      rw [← e]
      simp
theorem under_take (c : ConfD) (L : List PartD) : ∀ i, i ≤ (ordD c L).length → Under c L ((ordD c L).take i) (offsTo L.length ((ordD c L).take i))
  | 0, _ => by simpa [offsTo] using Under.start c L
  | i + 1, hi => by
    have h := under_take c L i (by omega)
    have hl : ((ordD c L).take i).length = i := by simp; omega
    obtain ⟨b, hb, hx, hU⟩ := h.next (by rw [hl]; omega)
    rw [hl] at hx
    rw [List.take_add_one, hx]
    simp only [Option.toList_some]
    rw [offsTo_snoc]
    simpa using hU
/-- The record i: the next of its part. -/
theorem ord_at (c : ConfD) (L : List PartD) {i : Nat} (hi : i < (ordD c L).length) : ∃ b : Nat, b < L.length ∧ (ordD c L)[i]? = some ((b : Int), (((offsTo L.length ((ordD c L).take i)).getD b 0 : Nat) : Int)) ∧ offsTo L.length ((ordD c L).take (i + 1)) = rdNext (offsTo L.length ((ordD c L).take i)) b := by
  have hl : ((ordD c L).take i).length = i := by simp; omega
  obtain ⟨b, hb, hx, _⟩ := (under_take c L i (by omega)).next (by rw [hl]; omega)
  rw [hl] at hx
  refine ⟨b, hb, hx, ?_⟩
  rw [List.take_add_one, hx]
  simp only [Option.toList_some]
  rw [offsTo_snoc]
  simp
/-- All is read at the end. -/
theorem ord_all (c : ConfD) (L : List PartD) {p : Nat} (hp : p < L.length) : (offsTo L.length (ordD c L)).getD p 0 = (recsOf L p).length := by
  have h := under_take c L _ (Nat.le_refl _)
  rw [List.take_length] at h
  have e := h.eq
  have e0 : ordFrom c L (totalD L - (ordD c L).length) (offsTo L.length (ordD c L)) = [] := by
    have := congrArg List.length e
    rw [List.length_append] at this
    exact List.length_eq_zero_iff.1 (by omega)
  have hle := h.le p
  cases hf : totalD L - (ordD c L).length with
  | zero =>
    apply Classical.byContradiction
    intro hne
    have := (sum_le_total h.len h.le).2 ⟨p, by omega⟩
    have := h.sum
    omega
  | succ f =>
    rw [hf, ordFrom] at e0
    rcases scan_spec c L (offsTo L.length (ordD c L)) L.length with ⟨h1, h2⟩ | ⟨b, h1, h2⟩
    · have := h2 p hp
      simp [opn] at this
      simp only [List.getD_eq_getElem?_getD] at hle ⊢
      omega
    · rw [h1, if_neg (by omega)] at e0
      cases e0
theorem mk_step (c : ConfD) (L : List PartD) (p k : Nat) : mk c L p k ≤ mk c L p (k + 1) := by
  unfold mk
  cases h : (recsOf L p)[k]? with
  | some s => rw [tideL_succ h]; exact markB_le _ _
  | none =>
    have := List.getElem?_eq_none_iff.1 h
    rw [List.take_of_length_le (by omega), List.take_of_length_le (by omega)]
    omega
theorem lowTo_le {f g : Nat → Int} : ∀ (l : List Nat) {x y : Int}, (∀ p ∈ l, f p ≤ g p) → x ≤ y → lowTo x (l.map f) ≤ lowTo y (l.map g)
  | [], _, _, _, h => h
  | p :: l, x, y, h, hxy => by
    have := h p (List.mem_cons_self ..)
    exact lowTo_le (f := f) (g := g) l (x := min x (f p)) (y := min y (g p)) (fun q hq => h q (List.mem_cons_of_mem _ hq)) (by omega)
theorem lowD_le {f g : Nat → Int} (l : List Nat) (h : ∀ p ∈ l, f p ≤ g p) : lowD (l.map f) ≤ lowD (l.map g) := by
  cases l with
  | nil => exact Int.le_refl _
  | cons p l => exact lowTo_le l (fun q hq => h q (List.mem_cons_of_mem _ hq)) (h p (List.mem_cons_self ..))
theorem ofNats_getD (rd : List Nat) (p : Nat) : ((ofNats rd).getD p 0).toNat = rd.getD p 0 := by
  unfold ofNats
  rw [List.getD_eq_getElem?_getD, List.getD_eq_getElem?_getD, List.getElem?_map]
  cases rd[p]? <;> simp
/-- Marks never fall. -/
theorem markAt_le {c : ConfD} {L : List PartD} (hl : logsB c L = true) {i : Nat} (hi : i < (ordD c L).length) : markAtD c L (i : Int) ≤ markAtD c L ((i + 1 : Nat) : Int) := by
  obtain ⟨b, hb, _, hn⟩ := ord_at c L hi
  have h0 := (under_take c L i (by omega)).len
  have h1 := (under_take c L (i + 1) (by omega)).len
  unfold markAtD offsD
  rw [if_pos hl, if_pos hl]
  simp only [Int.toNat_natCast]
  have e0 : (ofNats (offsTo L.length ((ordD c L).take i))).length = L.length := by simp [ofNats, h0]
  have e1 : (ofNats (offsTo L.length ((ordD c L).take (i + 1)))).length = L.length := by simp [ofNats, h1]
  rw [e0, e1]
  unfold marksTo
  refine lowD_le _ (fun p _ => ?_)
  rw [ofNats_getD, ofNats_getD, hn, rdNext, getD_set (by rw [h0]; exact hb)]
  split
  · rename_i e
    subst e
    exact mk_step c L p _
  · exact Int.le_refl _
end Go.Proofs.YtdipkbgfkbmfnaaGreatDoor.dat

/-
  WHAT THE WALKS ASK OF THE LIBRARY's VARIABLES, out of the row's list of what they hold.
-/
namespace Go.Proofs.YtdipkbgfkbmfnaaGreatDoor.num
open Go.RowKit

theorem star : "*" ++ "errors.errorString" = "*errors.errorString" := by decide
/-- The one type of that name. -/
theorem errRow (u : TypeId) (h : Tryz.prog.typeName? 3 u = some "*errors.errorString") : u = 164 :=
  typeName_ptr_named (nm := "errors.errorString") (by rw [star]; kernel_rfl) (by kernel_rfl) (by decide) u (by rw [star]; exact h)

theorem var_lt {w : World} {n : String} {g : Nat} {v : Value} (hg : Tryz.prog.globalNamed n = some g) (h : w.var? Tryz.prog n = some #[v]) : g < w.heap.size :=
  World.block_lt_of_cell? w ⟨g, 0, none⟩ (u := v) (by simpa using World.var?_cell hg h 0)

/-- The seven listed variables. -/
theorem env_of_laid {W : World} {x0 x1 x3 x6 : String × DataW Unit} {t4 t5 : List UInt8} (h : laidMet Tryz.prog [x0, x1, ("internal/strconv.uint64pow10", Lib.tabData .u64 Lib.pow10Tab), x3, ("strconv.ErrRange", .iface "*errors.errorString" (.ptr (.agg [.lit (.string t4)]))), ("strconv.ErrSyntax", .iface "*errors.errorString" (.ptr (.agg [.lit (.string t5)]))), x6] W) : Env W := by
  obtain ⟨a4, s4, hv4, -⟩ := laid_sentinel (g := 1) h.tail.tail.tail.tail (by kernel_rfl) (by kernel_rfl) Tryz.underlying143 errRow Tryz.underlying164 Tryz.underlying166 rfl rfl Tryz.underlying9 (by kernel_rfl) (by kernel_rfl)
  obtain ⟨a5, s5, hv5, -⟩ := laid_sentinel (g := 0) h.tail.tail.tail.tail.tail (by kernel_rfl) (by kernel_rfl) Tryz.underlying143 errRow Tryz.underlying164 Tryz.underlying166 rfl rfl Tryz.underlying9 (by kernel_rfl) (by kernel_rfl)
  exact ⟨pow_of_laid h, ⟨_, _, hv5⟩, ⟨_, _, hv4⟩, var_lt gSyn hv5, var_lt gRan hv4⟩
/-- Where five are listed. -/
theorem env_of_laid5 {W : World} {x0 x1 : String × DataW Unit} {t4 t5 : List UInt8} (h : laidMet Tryz.prog [x0, x1, ("internal/strconv.uint64pow10", Lib.tabData .u64 Lib.pow10Tab), ("strconv.ErrRange", .iface "*errors.errorString" (.ptr (.agg [.lit (.string t4)]))), ("strconv.ErrSyntax", .iface "*errors.errorString" (.ptr (.agg [.lit (.string t5)])))] W) : Env W := by
  obtain ⟨a4, s4, hv4, -⟩ := laid_sentinel (g := 1) h.tail.tail.tail (by kernel_rfl) (by kernel_rfl) Tryz.underlying143 errRow Tryz.underlying164 Tryz.underlying166 rfl rfl Tryz.underlying9 (by kernel_rfl) (by kernel_rfl)
  obtain ⟨a5, s5, hv5, -⟩ := laid_sentinel (g := 0) h.tail.tail.tail.tail (by kernel_rfl) (by kernel_rfl) Tryz.underlying143 errRow Tryz.underlying164 Tryz.underlying166 rfl rfl Tryz.underlying9 (by kernel_rfl) (by kernel_rfl)
  exact ⟨pow_of_laid h, ⟨_, _, hv5⟩, ⟨_, _, hv4⟩, var_lt gSyn hv5, var_lt gRan hv4⟩
end Go.Proofs.YtdipkbgfkbmfnaaGreatDoor.num

/-
  THE WALK OF THE LAW FnMerged: whatever the code, it answers true; nothing that was there is written.
  Condition: what the walks ask of the library's variables (num.Env).
-/
namespace Go.Proofs.YtdipkbgfkbmfnaaGreatDoor.dat
open Go.RowKit Go.Proofs.YtdipkbgfkbmfnaaGreatDoor.win Go.Proofs.YtdipkbgfkbmfnaaGreatDoor.cur
open Go.Proofs.YtdipkbgfkbmfnaaGreatDoor.num (Env Env.next)

theorem szL_le {α : Type} {f : α → Nat} {M : Nat} : ∀ {l : List α}, (∀ x ∈ l, f x ≤ M) → szL f l ≤ l.length * (M + 1)
  | [], _ => by simp [szL]
  | x :: l, h => by
    have h1 := szL_le (f := f) (M := M) (l := l) (fun y hy => h y (List.mem_cons_of_mem _ hy))
    have h2 := h x (List.mem_cons_self ..)
    simp only [szL, List.length_cons, List.map_cons, List.sum_cons, Nat.add_mul] at h1 ⊢
    omega
theorem logs_sz {L : List PartD} (h4 : L.length ≤ 4) (h : ∀ x ∈ L, x.recs.length ≤ 25 ∧ ∀ s ∈ x.recs, s.size ≤ 201) : szL Part.sz L ≤ 2000000 := by
  have h1 : ∀ x ∈ L, Part.sz x ≤ 5050 := fun x hx => by
    have := szL_le (f := ByteArray.size) (M := 201) (l := x.recs) (h x hx).2
    have := (h x hx).1
    unfold Part.sz
    omega
  have := szL_le h1
  omega

set_option maxRecDepth 100000 in
set_option maxHeartbeats 4000000 in
theorem law_Merged (a : Option Addr) (len cap : Nat) (zs : List Int) (w : World) (hrow : IsRow .u8 w a len cap zs) (hE : Env w) :
    Calls Tryz.prog 6 #[.slice a len cap] w fun e w' => e = .returned (.bool true) ∧ Below w.heap.size w w' := by
  have HK := Lib.hid (code_of_row hrow)
  have HE := Lib.hid hE
  clear hrow hE
  obtain ⟨t1, ht1⟩ : ∃ t, decide (1048576 < len) = t := ⟨_, rfl⟩
  have hb1 := Lib.hid (fun W => big_any a len cap t1 W ht1)
  have HT1 := Lib.hid ht1
  clear ht1
  cases t1
  case true =>
    go_enter Tryz.func6, Tryz.ntmps6
    go_wp2_with fail
    refine (hb1.out w).mono ?_
    rintro e w' ⟨rfl, rfl⟩
    go_wp2_with fail
    go_ret
    exact ⟨rfl, Below.refl _ _⟩
  case false =>
  have hbig : ¬ 1048576 < len := of_decide_eq_false HT1.out
  go_enter Tryz.func6, Tryz.ntmps6
  go_wp2_with fail
  refine (hb1.out w).mono ?_
  rintro e w' ⟨rfl, rfl⟩
  go_wp2_with fail
  clear hb1 HT1
  refine (DrawMergeOrder_any _ _ _ _ (by omega) HK.out).mono ?_
  rintro e w1 ⟨c, h, fp, av, n, cv, L, f, rfl, hIs, hws, hms, hR, hncv, hcv, hL4, hLs, hb1⟩
  obtain rfl : n = L.length := hR.1.symm
  have hzl : szL Part.sz L ≤ 2000000 := logs_sz hL4 hLs
  have HC := Lib.hid hIs
  have HR := Lib.hid hR
  have B1 := Lib.hid hb1
  have HLS := Lib.hid hLs
  clear hIs hR hb1 hLs hws hms
  simp only [Config.list]
  go_wp2_with fail
  refine calls_gen (fun W => Below w1.heap.size w1 W ∧ Blk W w1.heap.size 33 (Config.list c h)) ⟨by repeat (first | exact Below.refl _ _ | refine Below.setCell ?_ (by first | omega | (simp; done) | (simp; omega)) _ | refine Below.alloc ?_ (by first | omega | (simp; done) | (simp; omega)) _ | apply Below.drew), by unfold Config.list; with_reducible (repeat (first | (refine blk_new_at _ _ _ _ ?_; first | rfl | (simp; done)) | refine Blk.alloc ?_ _ | apply Blk.drew | refine Blk.setOther ?_ (by first | (simp; done) | (simp; omega)) _))⟩ ?_
  rintro W2 ⟨b2, k2⟩
  have HM := Lib.hid (impl_MergeOrder_any c h fp av L.length cv L f W2 (HC.out.below b2) (HR.out.below local_Part b2) hncv hcv (HE.out.next (B1.out.trans (b2.mono B1.out.size))))
  simp only [Config.list] at HM
  refine HM.out.mono ?_
  rintro e W3 ⟨ao, no, co, fo, rfl, hO, hnc, hc9, hOw, b3⟩
  have hB3 := b2.trans (b3.mono b2.size)
  have K3 := Lib.hid (k2.below b3 k2.lt)
  have C3 := Lib.hid (HC.out.below hB3)
  have R3 := Lib.hid (HR.out.below local_Part hB3)
  have O3 := Lib.hid hO
  have B3 := Lib.hid (B1.out.trans (hB3.mono B1.out.size))
  have hw1 : w.heap.size ≤ w1.heap.size := B1.out.size
  clear b2 b3 k2 hB3 HC HR hO HM hOw
  have k0 := K3.out.cell 0
  have k1 := K3.out.cell 1
  have k2 := K3.out.cell 2
  have k3 := K3.out.cell 3
  have k4 := K3.out.cell 4
  simp [Config.list] at k0 k1 k2 k3 k4
  go_wp2_with fail
  have HM := Lib.hid (spec_MergeOrder_any c h fp av L.length cv L f W3 C3.out R3.out hncv hcv hzl)
  simp only [Config.list] at HM
  refine HM.out.mono ?_
  rintro e W4 ⟨aw, nw, cw, fw, rfl, hQ, hnc', hc9', _, b4⟩
  have K4 := Lib.hid (K3.out.below b4 K3.out.lt)
  have C4 := Lib.hid (C3.out.below b4)
  have R4 := Lib.hid (R3.out.below local_Part b4)
  have O4 := Lib.hid (O3.out.below local_Pos b4)
  have Q4 := Lib.hid hQ
  have B4 := Lib.hid (B3.out.trans (b4.mono B3.out.size))
  have ENO := Lib.hid (show no = (mergeD c L).length from O3.out.1.symm)
  obtain rfl : nw = no := by rw [ENO.out]; exact hQ.1.symm
  clear b4 K3 C3 R3 O3 B3 HM hQ k0 k1 k2 k3 k4
  have k0 := K4.out.cell 0
  have k1 := K4.out.cell 1
  have k2 := K4.out.cell 2
  have k3 := K4.out.cell 3
  have k4 := K4.out.cell 4
  simp [Config.list] at k0 k1 k2 k3 k4
  go_wp2_with fail
  have HO := Lib.hid (spec_LogsOk c h fp av L.length cv L f W4 C4.out R4.out hncv hcv)
  simp only [Config.list] at HO
  refine HO.out.mono ?_
  rintro e W5 ⟨rfl, b5⟩
  have K5 := Lib.hid (K4.out.below b5 K4.out.lt)
  have C5 := Lib.hid (C4.out.below b5)
  have R5 := Lib.hid (R4.out.below local_Part b5)
  have O5 := Lib.hid (O4.out.below local_Pos b5)
  have Q5 := Lib.hid (Q4.out.below local_Pos b5)
  have B5 := Lib.hid (B4.out.trans (b5.mono B4.out.size))
  clear b5 K4 C4 R4 O4 Q4 B4 HO k0 k1 k2 k3 k4
  cases hlog : logsB c L with
  | false =>
    have hn0 : nw = 0 := by rw [ENO.out]; unfold mergeD; rw [hlog]; rfl
    subst hn0
    go_wp2_with fail
    go_ret
    exact ⟨rfl, B5.out⟩
  | true =>
  have ENM := Lib.hid (show mergeD c L = ordD c L by unfold mergeD; rw [hlog]; rfl)
  have HLOG := Lib.hid hlog
  clear hlog
  have k0 := K5.out.cell 0
  have k1 := K5.out.cell 1
  have k2 := K5.out.cell 2
  have k3 := K5.out.cell 3
  have k4 := K5.out.cell 4
  simp [Config.list] at k0 k1 k2 k3 k4
  have hmake := fun w => run_make_n (P := Tryz.prog) 23 3 (.int .i64 0) 1 8 Tryz.underlying23 info_int .i64 .i64 L.length (by omega) (by omega) w
  have kl := K5.out.lt
  go_wp2_with fail
  refine calls_gen (fun W => Below W5.heap.size W5 W ∧ Blk W W5.heap.size 3 (rdCells (List.replicate L.length 0))) ⟨by repeat (first | exact Below.refl _ _ | refine Below.setCell ?_ (by first | omega | (simp; done) | (simp; omega)) _ | refine Below.alloc ?_ (by first | omega | (simp; done) | (simp; omega)) _ | apply Below.drew), by rw [made_zero]; exact blk_new _ _ _⟩ ?_
  rintro W6 ⟨b6, z6⟩
  have HM := Lib.hid (impl_MarkAt_any c h fp av L.length cv L f 0 W6 (C5.out.below b6) (R5.out.below local_Part b6) hncv hcv hzl (HE.out.next (B5.out.trans (b6.mono B5.out.size))))
  simp only [Config.list] at HM
  refine HM.out.mono ?_
  rintro e W7 ⟨rfl, b7⟩
  have hB7 := b6.trans (b7.mono b6.size)
  have K7 := Lib.hid (K5.out.below hB7 K5.out.lt)
  have C7 := Lib.hid (C5.out.below hB7)
  have R7 := Lib.hid (R5.out.below local_Part hB7)
  have O7 := Lib.hid (O5.out.below local_Pos hB7)
  have Q7 := Lib.hid (Q5.out.below local_Pos hB7)
  have Z7 := Lib.hid (z6.below b7 z6.lt)
  have B7 := Lib.hid (B5.out.trans (hB7.mono B5.out.size))
  have CL := Lib.hid C5.out.lt
  have RL := Lib.hid (R5.out.lt local_Part)
  have OL := Lib.hid (O5.out.lt local_Pos)
  have QL := Lib.hid (Q5.out.lt local_Pos)
  have hs7 : W5.heap.size < W7.heap.size := Z7.out.lt
  clear b6 b7 hB7 z6 K5 C5 R5 O5 Q5 B5 HM hmake k0 k1 k2 k3 k4
  go_wp2_with fail
  go_loopg [8, 9] nw (fun r vm vi wr => ∃ j : Nat, j + r = nw ∧ vm = .int .i64 (markAtD c L (j : Int)) ∧ vi = .int .i64 (j : Int) ∧ Blk wr W5.heap.size 3 (rdCells (offsTo L.length ((ordD c L).take j))) ∧ (∀ b, b < W7.heap.size → b ≠ W5.heap.size → wr.heap[b]? = W7.heap[b]?) ∧ Below w.heap.size w wr ∧ W7.heap.size ≤ wr.heap.size)
  case atStart => exact ⟨0, by omega, rfl, rfl, by simp only [List.take_zero]; exact Z7.out, fun _ _ _ => rfl, B7.out, Nat.le_refl _⟩
  case round =>
    obtain ⟨j, hj, rfl, rfl, hZ, hkp, hB, hsz⟩ := hrel
    have Kr := Lib.hid (show Blk wr w1.heap.size 33 (Config.list c h) from (hkp _ (by omega) (by omega)).trans K7.out)
    have Cr := Lib.hid (C7.out.keep (w' := wr) (fun b hb => hkp b (by have := CL.out b hb; omega) (by have := CL.out b hb; omega)))
    have Rr := Lib.hid (R7.out.keep (w' := wr) local_Part (fun b hb => hkp b (by have := RL.out b hb; omega) (by have := RL.out b hb; omega)))
    have Or := Lib.hid (O7.out.keep (w' := wr) local_Pos (fun b hb => hkp b (by have := OL.out b hb; omega) (by have := OL.out b hb; omega)))
    have Qr := Lib.hid (Q7.out.keep (w' := wr) local_Pos (fun b hb => hkp b (by have := QL.out b hb; omega) (by have := QL.out b hb; omega)))
    have HZ := Lib.hid hZ
    have HKP := Lib.hid hkp
    have HB := Lib.hid hB
    by_cases hlt : j < nw
    case neg =>
      obtain rfl : j = nw := by omega
      have hoe : offsTo L.length ((ordD c L).take j) = offsTo L.length (ordD c L) := by rw [List.take_of_length_le (by rw [← ENM.out, ← ENO.out]; omega)]
      rw [hoe] at hZ
      have HZE := Lib.hid hZ
      clear hZ hkp hB hoe HZ
      generalize wr = wo at *
      have gko := Kr.out.lt
      go_wp2_with fail
      go_loopg [12] L.length (fun r v wr => ∃ i : Nat, i + r = L.length ∧ v = .int .i64 (i : Int) ∧ (∀ b, b < wo.heap.size → wr.heap[b]? = wo.heap[b]?) ∧ Below w.heap.size w wr)
      case atStart => exact ⟨0, by omega, rfl, fun _ _ => rfl, HB.out⟩
      case round =>
        obtain ⟨i, hi, rfl, hkq, hBq⟩ := hrel
        have HBQ := Lib.hid hBq
        have HKQ := Lib.hid hkq
        by_cases hil : i < L.length
        case neg =>
          obtain rfl : i = L.length := by omega
          have K9 := Lib.hid (show Blk wr w1.heap.size 33 (Config.list c h) from (hkq _ gko).trans Kr.out)
          have C9 := Lib.hid (Cr.out.keep (w' := wr) (fun b hb => hkq b (Cr.out.lt b hb)))
          have R9 := Lib.hid (Rr.out.keep (w' := wr) local_Part (fun b hb => hkq b (Rr.out.lt local_Part b hb)))
          have HM := Lib.hid (spec_MarkAt_any c h fp av L.length cv L f (j : Int) wr C9.out R9.out hncv hcv hzl)
          simp only [Config.list] at HM
          have g0 := K9.out.cell 0
          have g1 := K9.out.cell 1
          have g2 := K9.out.cell 2
          have g3 := K9.out.cell 3
          have g4 := K9.out.cell 4
          simp [Config.list] at g0 g1 g2 g3 g4
          clear hkq hBq
          go_wp2_with fail
          refine HM.out.mono ?_
          rintro e W9 ⟨rfl, b9⟩
          go_wp2_with fail
          go_ret
          exact ⟨rfl, HBQ.out.trans (b9.mono HBQ.out.size)⟩
        obtain ⟨b, off, x, f1, cs, rfl, hbl, hx, hcl, hRR, hcs⟩ := Rr.out.at hil
        obtain ⟨hh, rfl, hPI⟩ := hRR
        obtain ⟨f0, _, r0, _⟩ := hPI
        have hxl : x.recs.length = hh.recsl := r0.1
        have e0 : wr.cell? ⟨b, off + i, none⟩ = some (.slice hh.recsa hh.recsl hh.recsc) := by
          have h1 := hcs 0 (by omega)
          simp [Part.list] at h1
          rw [← h1]
          exact cell_same (hkq b hbl) _
        have hall := ord_all c L hil
        rw [recsOf_at hx, hxl] at hall
        have d0 : wr.cell? ⟨W5.heap.size, i, none⟩ = some (.int .i64 (hh.recsl : Int)) := by
          have hz : Blk wr W5.heap.size 3 _ := (hkq _ (by omega)).trans HZE.out
          rw [hz.cell i, rdCells_at (by rw [offsTo_len]; exact hil), hall]
        have hi0 : (0 : Int) ≤ (i : Int) := by omega
        have hi1 : (i : Int) < (L.length : Int) := by omega
        have hiw : IntKind.i64.wrap ((i : Int) + 1) = (i : Int) + 1 := by rw [IntKind.wrap_i64]; omega
        clear hx hcs hcl r0 hxl hall hkq hBq
        go_wp2_with fail
        go_quiet (fail)
        go_wp2_with fail
        go_roundg (L.length - (i + 1))
        case measure => omega
        case rel => exact ⟨i + 1, by omega, by go_num, fun b hb => HKQ.out b hb, below_drewN HBQ.out _⟩
    obtain ⟨P, hP, hx, hn⟩ := ord_at c L (i := j) (by rw [← ENM.out, ← ENO.out]; exact hlt)
    obtain ⟨b, off, x, f1, cs, rfl, hbl, hx1, hcl, hRR, hcs⟩ := Or.out.at hlt
    obtain ⟨rfl, rfl⟩ := hRR
    rw [ENM.out, hx] at hx1
    cases hx1
    obtain ⟨b', off', x', f2, cs', rfl, hbl', hx2, hcl', hRR', hcs'⟩ := Qr.out.at hlt
    obtain ⟨rfl, rfl⟩ := hRR'
    rw [ENM.out, hx] at hx2
    cases hx2
    have hle := offsTo_le L.length ((ordD c L).take j) P
    rw [List.length_take] at hle
    obtain ⟨kb, hkb⟩ : ∃ kb : Int, (((offsTo L.length ((ordD c L).take j)).getD P 0 : Nat) : Int) = kb := ⟨_, rfl⟩
    have hkb2 : 0 ≤ kb ∧ kb ≤ (j : Int) := by omega
    have c0 : wr.cell? ⟨b, off + j * 2, none⟩ = some (.int .i64 (P : Int)) := (hcs 0 (by omega)).trans (by simp [Pos.list])
    have c1 : wr.cell? ⟨b, off + j * 2 + 1, none⟩ = some (.int .i64 kb) := (hcs 1 (by omega)).trans (by rw [← hkb]; simp [Pos.list])
    have e0 : wr.cell? ⟨b', off' + j * 2, none⟩ = some (.int .i64 (P : Int)) := (hcs' 0 (by omega)).trans (by simp [Pos.list])
    have e1 : wr.cell? ⟨b', off' + j * 2 + 1, none⟩ = some (.int .i64 kb) := (hcs' 1 (by omega)).trans (by rw [← hkb]; simp [Pos.list])
    have d0 : wr.cell? ⟨W5.heap.size, P, none⟩ = some (.int .i64 kb) := (hZ.cell P).trans (by rw [rdCells_at (by rw [offsTo_len]; exact hP), hkb])
    have df := hZ.frozen
    have dl := hZ.lt
    have hlt2 : (j : Int) < (nw : Int) := by omega
    have h02 : (0 : Int) ≤ (j : Int) := by omega
    have hP2 : (P : Int) < (L.length : Int) := by omega
    have hP0 : (0 : Int) ≤ (P : Int) := by omega
    have hjw : IntKind.i64.wrap ((j : Int) + 1) = (j : Int) + 1 := by rw [IntKind.wrap_i64]; omega
    have HKB := Lib.hid hkb
    have HN := Lib.hid hn
    have g0 := Kr.out.cell 0
    have g1 := Kr.out.cell 1
    have g2 := Kr.out.cell 2
    have g3 := Kr.out.cell 3
    have g4 := Kr.out.cell 4
    have gl := Kr.out.lt
    simp [Config.list] at g0 g1 g2 g3 g4
    clear hx hcs hcs' hle hkb hZ hkp hB hcl hcl' hn
    go_wp2_with fail
    go_quiet (fail)
    go_wp2_with fail
    refine calls_gen (fun W => (∀ b, b < wr.heap.size → b ≠ W5.heap.size → W.heap[b]? = wr.heap[b]?) ∧ Blk W W5.heap.size 3 (rdCells (offsTo L.length ((ordD c L).take (j + 1)))) ∧ Below w.heap.size w W ∧ wr.heap.size ≤ W.heap.size) ⟨?_, ?_, ?_, ?_⟩ ?_
    · intro q h1 h2
      exact (Below.heap_setCell _ _ _ q h2).trans (Below.heap_alloc _ _ _ h1)
    · rw [HN.out]
      have := (HZ.out.alloc (.cells #[.int .i64 (P : Int), .int .i64 kb] 55)).set P (.int .i64 ((((offsTo L.length ((ordD c L).take j)).getD P 0 : Nat) : Int) + 1))
      rw [rdCells_next, HKB.out] at this
      exact this
    · exact (below_drewN (HB.out.alloc (by omega) _) _).setCell (by show w.heap.size ≤ W5.heap.size; omega) _
    · exact ((below_drewN ((Below.refl W5.heap.size wr).alloc (by omega) _) _).setCell (Nat.le_refl _) _).size
    rintro W8 ⟨hk8, hz8, hb8, hs8⟩
    have K8 := Lib.hid (show Blk W8 w1.heap.size 33 (Config.list c h) from (hk8 _ gl (by omega)).trans Kr.out)
    have C8 := Lib.hid (Cr.out.keep (w' := W8) (fun b hb => hk8 b (Cr.out.lt b hb) (by have := CL.out b hb; omega)))
    have R8 := Lib.hid (Rr.out.keep (w' := W8) local_Part (fun b hb => hk8 b (Rr.out.lt local_Part b hb) (by have := RL.out b hb; omega)))
    have HM := Lib.hid (impl_MarkAt_any c h fp av L.length cv L f ((j : Int) + 1) W8 C8.out R8.out hncv hcv hzl (HE.out.next hb8))
    simp only [Config.list] at HM
    refine HM.out.mono ?_
    rintro e W9 ⟨rfl, b9⟩
    have hmm : ¬ markAtD c L ((j : Int) + 1) < markAtD c L (j : Int) := by
      have := markAt_le HLOG.out (i := j) (by rw [← ENM.out, ← ENO.out]; exact hlt)
      rw [Int.natCast_add] at this
      simp at this ⊢
      exact this
    have K9 := Lib.hid (K8.out.below b9 K8.out.lt)
    have C9 := Lib.hid (C8.out.below b9)
    have R9 := Lib.hid (R8.out.below local_Part b9)
    have Z9 := Lib.hid (hz8.below b9 hz8.lt)
    have B9 := Lib.hid (hb8.trans (b9.mono hb8.size))
    have P9 := Lib.hid (show ∀ b, b < wr.heap.size → b ≠ W5.heap.size → W9.heap[b]? = wr.heap[b]? from fun b h1 h2 => (b9.block b (by omega)).trans (hk8 b h1 h2))
    have hs9 : wr.heap.size ≤ W9.heap.size := Nat.le_trans hs8 b9.size
    clear b9 hk8 hz8 hb8 hs8 HM K8 C8 R8 c0 c1 e0 e1 d0 df g0 g1 g2 g3 g4
    have g0 := K9.out.cell 0
    have g1 := K9.out.cell 1
    have g2 := K9.out.cell 2
    have g3 := K9.out.cell 3
    have g4 := K9.out.cell 4
    simp [Config.list] at g0 g1 g2 g3 g4
    go_wp2_with fail
    have HM := Lib.hid (impl_Offsets_any c h fp av L.length cv L f ((j : Int) + 1) W9 C9.out R9.out hncv hcv (HE.out.next B9.out))
    simp only [Config.list] at HM
    refine HM.out.mono ?_
    rintro e W10 ⟨ar, nr, cr, fr, rfl, hrow, hnr, hcr, _, b10⟩
    have hof : offsD c L ((j : Int) + 1) = ofNats (offsTo L.length ((ordD c L).take (j + 1))) := by
      unfold offsD
      rw [if_pos HLOG.out, show ((j : Int) + 1).toNat = j + 1 by omega]
    rw [hof] at hrow
    have hol : (ofNats (offsTo L.length ((ordD c L).take (j + 1)))).length = L.length := by simp [ofNats, offsTo_len]
    obtain rfl : nr = L.length := hrow.1.symm.trans hol
    have Z10 := Lib.hid (Z9.out.below b10 Z9.out.lt)
    have hrd : GRow 1 RInt W10 (some ⟨W5.heap.size, 0, none⟩) L.length (ofNats (offsTo L.length ((ordD c L).take (j + 1)))) [W5.heap.size] := by
      have := row_nats Z10.out
      rw [offsTo_len] at this
      exact this
    have HS := Lib.hid (same_same ar (some ⟨W5.heap.size, 0, none⟩) L.length cr L.length _ W10 (by omega) (row_of hrow) (row_of hrd))
    have B10 := Lib.hid (B9.out.trans (b10.mono B9.out.size))
    have P10 := Lib.hid (show ∀ b, b < wr.heap.size → b ≠ W5.heap.size → W10.heap[b]? = wr.heap[b]? from fun b h1 h2 => (b10.block b (by omega)).trans (P9.out b h1 h2))
    have hs10 : wr.heap.size ≤ W10.heap.size := Nat.le_trans hs9 b10.size
    clear hof hol hrow hrd b10 HM K9 C9 R9 Z9 B9 P9 g0 g1 g2 g3 g4
    go_wp2_with fail
    refine HS.out.mono ?_
    rintro e W11 ⟨rfl, b11⟩
    have Z11 := Lib.hid (Z10.out.below b11 Z10.out.lt)
    have B11 := Lib.hid (B10.out.trans (b11.mono B10.out.size))
    have P11 := Lib.hid (show ∀ b, b < wr.heap.size → b ≠ W5.heap.size → W11.heap[b]? = wr.heap[b]? from fun b h1 h2 => (b11.block b (by omega)).trans (P10.out b h1 h2))
    have hs11 : wr.heap.size ≤ W11.heap.size := Nat.le_trans hs10 b11.size
    clear b11 HS Z10 B10 P10
    go_wp2_with fail
    go_roundg (nw - (j + 1))
    case measure => omega
    case rel => exact ⟨j + 1, by omega, by rw [Int.natCast_add]; rfl, by go_num, Z11.out, fun b h1 h2 => (P11.out b (by omega) h2).trans (HKP.out b h1 h2), B11.out, by omega⟩
end Go.Proofs.YtdipkbgfkbmfnaaGreatDoor.dat
