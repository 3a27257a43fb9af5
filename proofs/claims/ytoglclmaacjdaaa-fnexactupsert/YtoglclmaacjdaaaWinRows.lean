/-
  ROWS OF WINDOWS IN MEMORY, AND THE CONTRACTS OF eqWin, eqWinS, toWinS, szWinS, szIntS: what each call answers; nothing that was there is written.
  Condition: at most 2,000,000 windows.
-/
import Derived.Test.YtoglclmaacjdaaaLim
import Derived.Test.YtoglclmaacjdaaaIntRows
import Derived.Deep.LoopGhost
import Derived.Deep.OwnRows
import Derived.WalkSmall
import Derived.Laws.OwnMore
import Derived.StillTailTactics
namespace Go.Proofs.Ytoglclmaacjdaaa.win
open Go.RowKit

/-- A slice value's elements are these windows (nothing is said of an empty one). -/
def WRow (w : World) (a : Option Addr) (len : Nat) (l : List (Int × Int)) : Prop :=
  l.length = len ∧ (0 < len → ∃ b off, a = some ⟨b, off, none⟩ ∧ b < w.heap.size ∧ ∀ i, i < len → w.cell? ⟨b, off + i * 2, none⟩ = some (.int .i64 (l.getD i (0, 0)).1) ∧ w.cell? ⟨b, off + i * 2 + 1, none⟩ = some (.int .i64 (l.getD i (0, 0)).2))

theorem WRow.below {w w' : World} {a : Option Addr} {len : Nat} {l : List (Int × Int)} (h : WRow w a len l) (hb : Below w.heap.size w w') : WRow w' a len l :=
  ⟨h.1, fun h0 => by
    obtain ⟨b, off, e, hlt, hc⟩ := h.2 h0
    exact ⟨b, off, e, Nat.lt_of_lt_of_le hlt hb.size, fun i hi => ⟨(hb.cell (p := ⟨b, off + i * 2, none⟩) hlt).trans (hc i hi).1, (hb.cell (p := ⟨b, off + i * 2 + 1, none⟩) hlt).trans (hc i hi).2⟩⟩⟩

set_option maxHeartbeats 400000 in
theorem eqWin_same (z l : Int) (w : World) : Calls Try.prog 118 #[.agg #[.int .i64 z, .int .i64 l], .agg #[.int .i64 z, .int .i64 l]] w fun e w' => e = .returned (.bool true) ∧ Below w.heap.size w w' := by
  go_enter Try.func118, Try.ntmps118
  go_wp2_with fail
  go_ret
  exact ⟨rfl, by repeat (first | exact Below.refl _ _ | (refine Below.alloc ?_ (by simp; try omega) _))⟩

set_option maxRecDepth 100000 in
set_option maxHeartbeats 400000 in
theorem eqWinS_same (a a' : Option Addr) (len cap cap' : Nat) (l : List (Int × Int)) (w : World) (hmax : len ≤ 2000000) (hrow : WRow w a len l) (hrow' : WRow w a' len l) :
    Calls Try.prog 81 #[.slice a len cap, .slice a' len cap'] w fun e w' => e = .returned (.bool true) ∧ Below w.heap.size w w' := by
  have HC := Lib.hid hrow.2
  have HC' := Lib.hid hrow'.2
  clear hrow hrow'
  go_enter Try.func81, Try.ntmps81
  go_wp2_with fail
  go_loopg [5] len (fun k i wr => ∃ j : Nat, j + k = len ∧ i = .int .i64 j ∧ Below w.heap.size w wr)
  case atStart => exact ⟨0, by omega, rfl, Below.refl _ _⟩
  case round =>
    obtain ⟨j, hj, rfl, hb⟩ := hrel
    by_cases hlt : j < len
    · obtain ⟨b, off, rfl, hbl, hc⟩ := HC.out (by omega)
      obtain ⟨b', off', rfl, hbl', hc'⟩ := HC'.out (by omega)
      obtain ⟨v, hveq⟩ : ∃ v, l.getD j (0, 0) = v := ⟨_, rfl⟩
      obtain ⟨z, s⟩ := v
      have hc0 := hc j hlt
      have hc1 := hc' j hlt
      rw [hveq] at hc0 hc1
      have hcell : wr.cell? ⟨b, off + j * 2, none⟩ = some (.int .i64 z) := (hb.cell (p := ⟨b, off + j * 2, none⟩) hbl).trans hc0.1
      have hcell1 : wr.cell? ⟨b, off + j * 2 + 1, none⟩ = some (.int .i64 s) := (hb.cell (p := ⟨b, off + j * 2 + 1, none⟩) hbl).trans hc0.2
      have hcell' : wr.cell? ⟨b', off' + j * 2, none⟩ = some (.int .i64 z) := (hb.cell (p := ⟨b', off' + j * 2, none⟩) hbl').trans hc1.1
      have hcell1' : wr.cell? ⟨b', off' + j * 2 + 1, none⟩ = some (.int .i64 s) := (hb.cell (p := ⟨b', off' + j * 2 + 1, none⟩) hbl').trans hc1.2
      have hlt2 : (j : Int) < (len : Int) := by omega
      have h02 : (0 : Int) ≤ (j : Int) := by omega
      have HB := Lib.hid hb
      clear hb hveq hc hc' hc0 hc1 HC HC'
      go_wp2_with fail
      go_still_tail 8, (by kernel_rfl)
      change wpList _ _ _ _ _ wr.drew
      have HB2 := Lib.hid (HB.out.drew)
      generalize wr.drew = wd at *
      go_wp2_with (go_at_call 118; refine (eqWin_same _ _ _).mono ?_; rintro e w3 ⟨rfl, hb3⟩; have HB3 := Lib.hid (HB2.out.trans (hb3.mono HB2.out.size)); clear hb3)
      go_roundg (len - (j + 1))
      case measure => omega
      case rel => exact ⟨j + 1, by omega, by go_num, HB3.out⟩
    · have HB := Lib.hid hb
      clear hb
      go_wp2_with fail
      go_ret
      exact ⟨rfl, HB.out⟩

/-! ### Copies -/

/-- 'make([]T, n)', T of any number of cells. -/
theorem run_make_n {P : Program} (t e : TypeId) (z : Value) (size bytes : Nat) (ht : P.underlying t = some (.slice e)) (hinfo : (P.info? e).map (fun i => (i.zero, i.size, i.bytes)) = some (some z, size, bytes))
    (kl kc : IntKind) (n : Nat) (hbytes : bytes * n ≤ 281474976710656) (h63 : n ≤ 9223372036854775807) (w : World) :
    (Instr.makeSlice t (.int kl (n : Int)) (.int kc (n : Int))).run P w = .ok (.slice (some ⟨w.heap.size, 0, none⟩) n n) (w.alloc (.cells (madeCells z.cells (n * size)) e)) := by
  obtain ⟨i, hi, hzz⟩ := Option.map_eq_some_iff.1 hinfo
  simp only [Prod.mk.injEq] at hzz
  obtain ⟨hz, hs, hb⟩ := hzz
  have hb' : (i.bytes : Int) * (n : Int) ≤ 281474976710656 := by
    have h : ((i.bytes * n : Nat) : Int) ≤ 281474976710656 := by rw [hb]; omega
    rwa [Int.natCast_mul] at h
  have hr := run_make (P := P) w t e i z ht hi hz kl kc n n (by omega) (Int.le_refl _) hb' (by omega)
  simp only [Int.toNat_natCast, hs] at hr
  exact hr

/-- What toIntS leaves: a new row that holds the list. -/
def Copied (w : World) (len : Nat) (l : List Int) (e : Ending) (w' : World) : Prop :=
  e = .returned (.slice (some ⟨w.heap.size, 0, none⟩) len len) ∧ Below w.heap.size w w' ∧ w'.rowIs w.heap.size 3 len (fun i => .int .i64 (l.getD i 0))

theorem row_of_is {w : World} {g len : Nat} {l : List Int} (hl : l.length = len) (hr : w.rowIs g 3 len (fun i => .int .i64 (l.getD i 0))) : Row w (some ⟨g, 0, none⟩) len l :=
  ⟨hl, fun _ => ⟨g, 0, rfl, hr.lt, fun i hi => by rw [Nat.zero_add]; exact hr.cell hi⟩⟩

def half (l : List Int) (j : Nat) (i : Nat) : Value := if i < j then .int .i64 (l.getD i 0) else .int .i64 0

set_option maxHeartbeats 400000 in
theorem toIntS (a : Option Addr) (len cap : Nat) (l : List Int) (w : World) (hmax : len ≤ 2000000) (hrow : Row w a len l) :
    Calls Try.prog 78 #[.slice a len cap] w (Copied w len l) := by
  have hmk := run_make_row' (P := Try.prog) 29 3 (.int .i64 0) 8 Try.underlying29 info_int rfl .i64 .i64 len (by omega) (by omega)
  have HC := Lib.hid hrow.2
  have HL := Lib.hid hrow.1
  clear hrow
  go_enter Try.func78, Try.ntmps78
  go_wp2_with fail
  go_loopg [4] len (fun k i wr => ∃ j : Nat, j + k = len ∧ i = .int .i64 j ∧ Below w.heap.size w wr ∧ wr.rowIs w.heap.size 3 len (half l j))
  case atStart =>
    refine ⟨0, by omega, rfl, (Below.refl _ _).alloc (Nat.le_refl _) _, ?_⟩
    exact (World.rowIs_made w (.int .i64 0) len 3).congr (fun i _ => by simp [half])
  case round =>
    obtain ⟨j, hj, rfl, hb, hr⟩ := hrel
    clear hmk
    by_cases hlt : j < len
    · obtain ⟨b, off, rfl, hbl, hc⟩ := HC.out (by omega)
      obtain ⟨v, hveq⟩ : ∃ v, l.getD j 0 = v := ⟨_, rfl⟩
      have hcell : wr.cell? ⟨b, off + j, none⟩ = some (.int .i64 v) := by
        rw [hb.cell (p := ⟨b, off + j, none⟩) hbl, ← hveq]
        exact hc j hlt
      have hc2 : wr.cell? ⟨w.heap.size, j, none⟩ = some (.int .i64 0) := by
        rw [hr.cell hlt]; simp [half]
      have hf2 : wr.frozen? ⟨w.heap.size, j, none⟩ = false := hr.frozen j
      have HB := Lib.hid hb
      have HR := Lib.hid hr
      have HV := Lib.hid hveq
      clear hb hr hveq hc HC
      go_wp2_with fail
      go_roundg (len - (j + 1))
      case measure => omega
      case rel =>
        refine ⟨j + 1, by omega, by go_num, HB.out.setCell (by simp) _, ?_⟩
        refine (HR.out.set j (.int .i64 v)).congr (fun i hi => ?_)
        by_cases e : i = j
        · subst e; simp [half]
          rw [← HV.out]; simp
        · simp only [if_neg e, half]
          by_cases h : i < j
          · rw [if_pos h, if_pos (by omega)]
          · rw [if_neg h, if_neg (by omega)]
    · have HB := Lib.hid hb
      have HR := Lib.hid hr
      clear hb hr
      go_wp2_with fail
      go_ret
      refine ⟨rfl, HB.out, HR.out.congr (fun i hi => ?_)⟩
      simp only [half]; rw [if_pos (by omega)]

theorem info_win : (Try.prog.info? 158).map (fun i => (i.zero, i.size, i.bytes)) = some (some (.agg #[.int .i64 0, .int .i64 0]), 2, 16) := by kernel_rfl

/-- Cell i of a row of windows. -/
def wcell (l : List (Int × Int)) (i : Nat) : Value := .int .i64 (if i % 2 = 0 then (l.getD (i / 2) (0, 0)).1 else (l.getD (i / 2) (0, 0)).2)
def whalf (l : List (Int × Int)) (j : Nat) (i : Nat) : Value := if i < j * 2 then wcell l i else .int .i64 0
def CopiedW (w : World) (len : Nat) (l : List (Int × Int)) (e : Ending) (w' : World) : Prop :=
  e = .returned (.slice (some ⟨w.heap.size, 0, none⟩) len len) ∧ Below w.heap.size w w' ∧ w'.rowIs w.heap.size 158 (len * 2) (wcell l)

theorem wrow_of_is {w : World} {g len : Nat} {l : List (Int × Int)} (hl : l.length = len) (hr : w.rowIs g 158 (len * 2) (wcell l)) : WRow w (some ⟨g, 0, none⟩) len l :=
  ⟨hl, fun _ => ⟨g, 0, rfl, hr.lt, fun i hi => by
    constructor
    · rw [Nat.zero_add, hr.cell (by omega)]; simp [wcell]
    · rw [Nat.zero_add, hr.cell (by omega)]
      have h1 : (i * 2 + 1) % 2 = 1 := by omega
      have h2 : (i * 2 + 1) / 2 = i := by omega
      simp [wcell, h1, h2]⟩⟩

theorem rowIs_made2 (w : World) (n : Nat) (t : TypeId) : (w.alloc (.cells (madeCells #[.int .i64 0, .int .i64 0] n) t)).rowIs w.heap.size t n (fun _ => .int .i64 0) :=
  ⟨_, Go.Deep.blk_alloc_new _ _, size_madeCells _ _, fun i hi => by
    have : i % 2 = 0 ∨ i % 2 = 1 := by omega
    rcases this with h | h <;> simp [madeCells, hi, h]⟩

theorem whalf_set {l : List (Int × Int)} {j : Nat} {z s : Int} (h : l.getD j (0, 0) = (z, s)) (i : Nat) :
    (if i = j * 2 + 1 then Value.int .i64 s else if i = j * 2 then Value.int .i64 z else whalf l j i) = whalf l (j + 1) i := by
  unfold whalf wcell
  by_cases e : i = j * 2 + 1
  · have h1 : i / 2 = j := by omega
    have h2 : ¬ i % 2 = 0 := by omega
    have h3 : i < (j + 1) * 2 := by omega
    rw [if_pos e, if_pos h3, if_neg h2, h1, h]
  · by_cases e' : i = j * 2
    · have h1 : i / 2 = j := by omega
      have h2 : i % 2 = 0 := by omega
      have h3 : i < (j + 1) * 2 := by omega
      rw [if_neg e, if_pos e', if_pos h3, if_pos h2, h1, h]
    · rw [if_neg e, if_neg e']
      by_cases h' : i < j * 2
      · have h3 : i < (j + 1) * 2 := by omega
        rw [if_pos h', if_pos h3]
      · have h3 : ¬ i < (j + 1) * 2 := by omega
        rw [if_neg h', if_neg h3]

set_option maxHeartbeats 1000000 in
theorem toWinS (a : Option Addr) (len cap : Nat) (l : List (Int × Int)) (w : World) (hmax : len ≤ 2000000) (hrow : WRow w a len l) :
    Calls Try.prog 77 #[.slice a len cap] w (CopiedW w len l) := by
  have hmk := run_make_n (P := Try.prog) 61 158 (.agg #[.int .i64 0, .int .i64 0]) 2 16 Try.underlying61 info_win .i64 .i64 len (by omega) (by omega)
  have HC := Lib.hid hrow.2
  have HL := Lib.hid hrow.1
  clear hrow
  go_enter Try.func77, Try.ntmps77
  go_wp2_with fail
  go_loopg [4] len (fun k i wr => ∃ j : Nat, j + k = len ∧ i = .int .i64 j ∧ Below w.heap.size w wr ∧ wr.rowIs w.heap.size 158 (len * 2) (whalf l j))
  case atStart =>
    refine ⟨0, by omega, rfl, (Below.refl _ _).alloc (Nat.le_refl _) _, ?_⟩
    exact (rowIs_made2 w (len * 2) 158).congr (fun i _ => by simp [whalf])
  case round =>
    obtain ⟨j, hj, rfl, hb, hr⟩ := hrel
    clear hmk
    by_cases hlt : j < len
    · obtain ⟨b, off, rfl, hbl, hc⟩ := HC.out (by omega)
      obtain ⟨v, hveq⟩ : ∃ v, l.getD j (0, 0) = v := ⟨_, rfl⟩
      obtain ⟨z, s⟩ := v
      have hc0 := hc j hlt
      rw [hveq] at hc0
      have hcell : wr.cell? ⟨b, off + j * 2, none⟩ = some (.int .i64 z) := (hb.cell (p := ⟨b, off + j * 2, none⟩) hbl).trans hc0.1
      have hcell1 : wr.cell? ⟨b, off + j * 2 + 1, none⟩ = some (.int .i64 s) := (hb.cell (p := ⟨b, off + j * 2 + 1, none⟩) hbl).trans hc0.2
      have hlt2 : (j : Int) < (len : Int) := by omega
      have h02 : (0 : Int) ≤ (j : Int) := by omega
      have HB := Lib.hid hb
      have HR := Lib.hid hr
      have HV := Lib.hid hveq
      clear hb hr hveq hc hc0 HC
      go_wp2_with (go_at_call 114; refine (toWin _ _ _).mono ?_; rintro e w3 ⟨rfl, hb3⟩; have HR3 := Lib.hid (HR.out.of_block (hb3.block _ HR.out.lt)); have HB3 := Lib.hid (HB.out.trans (hb3.mono HB.out.size)); clear hb3; have hc2 : w3.cell? ⟨w.heap.size, j * 2, none⟩ = some (.int .i64 0) := (by rw [HR3.out.cell (by omega)]; simp [whalf]); have hc3 : w3.cell? ⟨w.heap.size, j * 2 + 1, none⟩ = some (.int .i64 0) := (by rw [HR3.out.cell (by omega)]; simp [whalf]; omega); have hf2 : w3.frozen? ⟨w.heap.size, j * 2, none⟩ = false := HR3.out.frozen _; have hf3 : w3.frozen? ⟨w.heap.size, j * 2 + 1, none⟩ = false := HR3.out.frozen _)
      go_roundg (len - (j + 1))
      case measure => omega
      case rel =>
        refine ⟨j + 1, by omega, by go_num, (HB3.out.setCell (by simp) _).setCell (by simp) _, ?_⟩
        refine ((HR3.out.set (j * 2) (.int .i64 z)).set (j * 2 + 1) (.int .i64 s)).congr (fun i hi => ?_)
        exact whalf_set HV.out i
    · have HB := Lib.hid hb
      have HR := Lib.hid hr
      clear hb hr
      go_wp2_with fail
      go_ret
      refine ⟨rfl, HB.out, HR.out.congr (fun i hi => ?_)⟩
      simp only [whalf]; rw [if_pos (by omega)]
end Go.Proofs.Ytoglclmaacjdaaa.win
