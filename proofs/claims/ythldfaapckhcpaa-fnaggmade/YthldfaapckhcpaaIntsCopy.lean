/-
  THE CONTRACTS OF toIntS AND eqIntS: a copy of a row of numbers in new memory; two slices of the same numbers are the same.
  Condition: the slices' elements are the numbers of a list, at most 2,000,000 of them.
-/
import Derived.Test.YthldfaapckhcpaaAggCells
import Derived.Deep.LoopGhost
import Derived.Deep.OwnRows
namespace Go.Proofs.Ythldfaapckhcpaa.agg
open Go.RowKit

theorem info_int : (Try.prog.info? 3).map (fun i => (i.zero, i.size, i.bytes)) = some (some (.int .i64 0), 1, 8) := by kernel_rfl

/-- What toIntS leaves: a new row that holds the list. -/
def Copied (w : World) (len : Nat) (l : List Int) (e : Ending) (w' : World) : Prop :=
  e = .returned (.slice (some ⟨w.heap.size, 0, none⟩) len len) ∧ Below w.heap.size w w' ∧ w'.rowIs w.heap.size 3 len (fun i => .int .i64 (l.getD i 0))

theorem Copied.row {w w' : World} {len : Nat} {l : List Int} (hl : l.length = len) (hr : w'.rowIs w.heap.size 3 len (fun i => .int .i64 (l.getD i 0))) : Row w' (some ⟨w.heap.size, 0, none⟩) len l :=
  ⟨hl, fun _ => ⟨w.heap.size, 0, rfl, hr.lt, fun i hi => by rw [Nat.zero_add]; exact hr.cell hi⟩⟩

def half (l : List Int) (j : Nat) (i : Nat) : Value := if i < j then .int .i64 (l.getD i 0) else .int .i64 0

set_option maxHeartbeats 400000 in
theorem toIntS (a : Option Addr) (len cap : Nat) (l : List Int) (w : World) (hmax : len ≤ 2000000) (hrow : Row w a len l) :
    Calls Try.prog 22 #[.slice a len cap] w (Copied w len l) := by
  have hmk := run_make_row' (P := Try.prog) 32 3 (.int .i64 0) 8 Try.underlying32 info_int rfl .i64 .i64 len (by omega) (by omega)
  have HC := Lib.hid hrow.2
  have HL := Lib.hid hrow.1
  clear hrow
  go_enter Try.func22, Try.ntmps22
  go_wp2_with fail
  go_loopg [4] len (fun k i wr => ∃ j : Nat, j + k = len ∧ i = .int .i64 j ∧ Below w.heap.size w wr ∧ wr.rowIs w.heap.size 3 len (half l j))
  case atStart =>
    refine ⟨0, by omega, rfl, (Below.refl _ _).alloc (Nat.le_refl _) _, ?_⟩
    exact (World.rowIs_made w (.int .i64 0) len 3).congr (fun i _ => by simp [half])
  case round =>
    obtain ⟨j, hj, rfl, hb, hr⟩ := hrel
    clear hmk
    by_cases hlt : j < len
    · obtain ⟨b, off, rfl, hbl, hc⟩ := HC.out (by omega)
      obtain ⟨v, hveq⟩ : ∃ v, l.getD j 0 = v := ⟨_, rfl⟩
      have hcell : wr.cell? ⟨b, off + j, none⟩ = some (.int .i64 v) := by
        rw [hb.cell (p := ⟨b, off + j, none⟩) hbl, ← hveq]
        exact hc j hlt
      have hc2 : wr.cell? ⟨w.heap.size, j, none⟩ = some (.int .i64 0) := by
        rw [hr.cell hlt]; simp [half]
      have hf2 : wr.frozen? ⟨w.heap.size, j, none⟩ = false := hr.frozen j
      have HB := Lib.hid hb
      have HR := Lib.hid hr
      have HV := Lib.hid hveq
      clear hb hr hveq hc HC
      go_wp2_with fail
      go_roundg (len - (j + 1))
      case measure => omega
      case rel =>
        refine ⟨j + 1, by omega, by go_num, HB.out.setCell (by simp) _, ?_⟩
        refine (HR.out.set j (.int .i64 v)).congr (fun i hi => ?_)
        by_cases e : i = j
        · subst e; simp [half]
          rw [← HV.out]; simp
        · simp only [if_neg e, half]
          by_cases h : i < j
          · rw [if_pos h, if_pos (by omega)]
          · rw [if_neg h, if_neg (by omega)]
    · have HB := Lib.hid hb
      have HR := Lib.hid hr
      clear hb hr
      go_wp2_with fail
      go_ret
      refine ⟨rfl, HB.out, HR.out.congr (fun i hi => ?_)⟩
      simp only [half]; rw [if_pos (by omega)]

set_option maxHeartbeats 400000 in
theorem eqIntS_same (a a' : Option Addr) (len cap cap' : Nat) (l : List Int) (w : World) (hmax : len ≤ 2000000) (hrow : Row w a len l) (hrow' : Row w a' len l) :
    Calls Try.prog 23 #[.slice a len cap, .slice a' len cap'] w fun e w' => e = .returned (.bool true) ∧ Below w.heap.size w w' := by
  have HC := Lib.hid hrow.2
  have HC' := Lib.hid hrow'.2
  clear hrow hrow'
  go_enter Try.func23, Try.ntmps23
  go_wp2_with fail
  go_loopg [5] len (fun k i wr => ∃ j : Nat, j + k = len ∧ i = .int .i64 j ∧ Below w.heap.size w wr)
  case atStart => exact ⟨0, by omega, rfl, Below.refl _ _⟩
  case round =>
    obtain ⟨j, hj, rfl, hb⟩ := hrel
    by_cases hlt : j < len
    · obtain ⟨b, off, rfl, hbl, hc⟩ := HC.out (by omega)
      obtain ⟨b', off', rfl, hbl', hc'⟩ := HC'.out (by omega)
      obtain ⟨v, hveq⟩ : ∃ v, l.getD j 0 = v := ⟨_, rfl⟩
      have hcell : wr.cell? ⟨b, off + j, none⟩ = some (.int .i64 v) := by
        rw [hb.cell (p := ⟨b, off + j, none⟩) hbl, ← hveq]
        exact hc j hlt
      have hcell' : wr.cell? ⟨b', off' + j, none⟩ = some (.int .i64 v) := by
        rw [hb.cell (p := ⟨b', off' + j, none⟩) hbl', ← hveq]
        exact hc' j hlt
      have hlt2 : (j : Int) < (len : Int) := by omega
      have h02 : (0 : Int) ≤ (j : Int) := by omega
      have HB := Lib.hid hb
      clear hb hveq hc hc' HC HC'
      go_wp2_with fail
      go_quiet (fail)
      go_wp2_with fail
      go_roundg (len - (j + 1))
      case measure => omega
      case rel => exact ⟨j + 1, by omega, by go_num, below_drewN HB.out _⟩
    · have HB := Lib.hid hb
      clear hb
      go_wp2_with fail
      go_ret
      exact ⟨rfl, HB.out⟩
end Go.Proofs.Ythldfaapckhcpaa.agg
