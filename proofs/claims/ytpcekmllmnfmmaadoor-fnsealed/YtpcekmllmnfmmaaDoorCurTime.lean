/-
  THE DRAWS: the contract of time: it answers a number, and writes nothing but the cursor and new memory.
  Condition: the cursor is one, and has been asked fewer than 2^38 times.
-/
import Derived.Test.YtpcekmllmnfmmaaDoorCurBase
import Derived.Deep.DeepCutAuto
import Derived.Deep.RegionWith
import Derived.Deep.RegionHeld3
namespace Go.Proofs.YtpcekmllmnfmmaaDoor.cur
open Go.RowKit

theorem lt16 {r : Int} (h0 : 0 ≤ r) (h1 : r < 16 ∨ r = 0) : r = 0 ∨ r = 1 ∨ r = 2 ∨ r = 3 ∨ r = 4 ∨ r = 5 ∨ r = 6 ∨ r = 7 ∨ r = 8 ∨ r = 9 ∨ r = 10 ∨ r = 11 ∨ r = 12 ∨ r = 13 ∨ r = 14 ∨ r = 15 := by omega

/-- One of sixteen moments, by its place. -/
def selT (r : Int) : Int := if r = 0 then 0 else if r = 1 then 1 else if r = 2 then 9 else if r = 3 then 10 else if r = 4 then 11 else if r = 5 then 19 else if r = 6 then 20 else if r = 7 then 35 else if r = 8 then 60 else if r = 9 then 61 else if r = 10 then 119 else if r = 11 then (-1) else if r = 12 then (-10) else if r = 13 then (-11) else if r = 14 then 100 else 7

theorem selT_arr (r : Int) (h0 : 0 ≤ r) (h1 : r < 16) : (#[.int .i64 0, .int .i64 1, .int .i64 9, .int .i64 10, .int .i64 11, .int .i64 19, .int .i64 20, .int .i64 35, .int .i64 60, .int .i64 61, .int .i64 119, .int .i64 (-1), .int .i64 (-10), .int .i64 (-11), .int .i64 100, .int .i64 7] : Array Value)[r.toNat]? = some (.int .i64 (selT r)) := by
  rcases lt16 h0 (.inl h1) with rfl | rfl | rfl | rfl | rfl | rfl | rfl | rfl | rfl | rfl | rfl | rfl | rfl | rfl | rfl | rfl <;> simp [selT]
theorem selT_cell (w : World) (t : TypeId) (r : Int) (h0 : 0 ≤ r) (h1 : r < 16) : (w.alloc (.cells #[.int .i64 0, .int .i64 1, .int .i64 9, .int .i64 10, .int .i64 11, .int .i64 19, .int .i64 20, .int .i64 35, .int .i64 60, .int .i64 61, .int .i64 119, .int .i64 (-1), .int .i64 (-10), .int .i64 (-11), .int .i64 100, .int .i64 7] t)).cell? ⟨w.heap.size, r.toNat, none⟩ = some (.int .i64 (selT r)) := by
  rcases lt16 h0 (.inl h1) with rfl | rfl | rfl | rfl | rfl | rfl | rfl | rfl | rfl | rfl | rfl | rfl | rfl | rfl | rfl | rfl <;> simp [go_sem, selT]
theorem selT_bd (r : Int) : -11 ≤ selT r ∧ selT r ≤ 119 := by
  unfold selT; repeat' split
  all_goals omega

set_option maxRecDepth 100000 in
set_option maxHeartbeats 1000000 in
theorem time_any (g : Nat) (a : Option Addr) (len cap m : Nat) (w : World) (hm : m ≤ 274877906944) (hc : Curs g a len cap m w) :
    Calls Tryd.prog 45 #[.pointer (some ⟨g, 0, none⟩)] w (Num (fun r => -1000 ≤ r ∧ r ≤ 1000) g a len cap (m + 2) w) := by
  have hg := hc.lt
  have H := Lib.hid hc
  clear hc
  go_enter Tryd.func45, Tryd.ntmps45
  go_wp2_with fail
  have hsel := selT_cell
  have hsel2 := selT_arr
  have n5 : ¬ w.heap.size = g := by omega
  go_region_with (first | (go_at_call 29; refine (pick_any g a len cap (m + 1) 3 _ (by omega) (hc6.belowB (B := w6.heap.size) (by repeat (first | exact Below.refl _ _ | refine Below.setCell ?_ (by first | omega | (simp; done) | (simp; omega)) _ | refine Below.alloc ?_ (by first | omega | (simp; done) | (simp; omega)) _ | apply Below.drew)) g6)).mono ?_; (rintro e w7 ⟨j, rfl, jj0, jj1, hc7, ho7⟩); have j2 : j ≤ 2 := (by omega); have kw : IntKind.i64.wrap (60 * j) = 60 * j := IntWalk.i64_in _ (by omega); have kv : IntKind.i64.wrap (selT r + 60 * j) = selT r + 60 * j := IntWalk.i64_in _ (by omega); have g7 := hc7.lt; have k7 := fun (b o : Nat) (h1 : b < _) (h2 : ¬ b = g) => ho7.cell (b := b) (o := o) h1 h2) | (go_at_call 29; refine (pick_any g a len cap m 16 _ (by omega) (H.out.belowB (B := w.heap.size) (by repeat (first | exact Below.refl _ _ | refine Below.setCell ?_ (by first | omega | (simp; done) | (simp; omega)) _ | refine Below.alloc ?_ (by first | omega | (simp; done) | (simp; omega)) _ | apply Below.drew)) hg)).mono ?_; (rintro e w6 ⟨r, rfl, rr0, rr1, hc6, ho6⟩); have r5 : r < 16 := (by omega); have rb := selT_bd r; obtain ⟨rb1, rb2⟩ := rb; have g6 := hc6.lt; have n6 : ¬ w6.heap.size = g := (by omega); have z6 : w.heap.size ≤ w6.heap.size := Nat.le_trans (by first | exact Nat.le_refl _ | (simp; done)) ho6.size; have y6 : _ ≤ w6.heap.size := ho6.size; simp [go_sem, Nat.add_one_le_iff] at y6; have k6 := fun (b o : Nat) (h1 : b < _) (h2 : ¬ b = g) => ho6.cell (b := b) (o := o) h1 h2))
  all_goals (
    have o56 : Only g w w6 := Only.trans (by repeat (first | exact Only.refl _ w | apply Only.drew | refine Only.alloc ?_ _)) ho6
    have o67 : Only g w6 w7 := Only.trans (by repeat (first | exact Only.refl _ w6 | apply Only.drew | refine Only.alloc ?_ _)) ho7
    have HC7 := Lib.hid hc7
    have HO7 := Lib.hid (o56.trans o67)
    clear k6 k7 hsel hsel2 hc6 hc7 ho6 ho7 o56 o67 H
    go_wp2_with fail
    go_ret
    refine ⟨selT r + 60 * j, rfl, ⟨by omega, by omega⟩, ?_, ?_⟩
    · exact HC7.out.below (by repeat (first | exact Below.refl _ _ | refine Below.setCell ?_ (by first | omega | (simp; done) | (simp; omega)) _ | refine Below.alloc ?_ (by first | omega | (simp; done) | (simp; omega)) _ | apply Below.drew))
    · exact HO7.out.then_below (B := w7.heap.size) (by repeat (first | exact Below.refl _ _ | refine Below.setCell ?_ (by first | omega | (simp; done) | (simp; omega)) _ | refine Below.alloc ?_ (by first | omega | (simp; done) | (simp; omega)) _ | apply Below.drew)) HO7.out.size)
end Go.Proofs.YtpcekmllmnfmmaaDoor.cur
