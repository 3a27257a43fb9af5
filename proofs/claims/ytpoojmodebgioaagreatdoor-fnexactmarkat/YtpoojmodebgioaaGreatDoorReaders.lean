/-
  A HEAP OF READERS in memory: its slice in a box, its elements in a block of the call's own; the contracts of its methods (Len, Less, Swap, Push, Pop).
-/
import Derived.Test.YtpoojmodebgioaaGreatDoorMergeInv
import Derived.Test.YtpoojmodebgioaaGreatDoorMarkOf
import Derived.Test.YtpoojmodebgioaaGreatDoorGrow
namespace Go.Proofs.YtpoojmodebgioaaGreatDoor.dat
open Go.RowKit Go.Proofs.YtpoojmodebgioaaGreatDoor.win

/-- A reader's cells. -/
def RdD.list (x : RdD) : List Value := [.int .i64 x.part, .slice x.a x.n x.c, .int .i64 x.read, .int .i64 x.mark]
def rdFlat (l : List RdD) : List Value := (l.map RdD.list).flatten
/-- The heap: its slice stands in box q, its elements in block g. -/
structure InHeap (w : World) (q g cap : Nat) (l : List RdD) : Prop where
  box : Blk w q 64 [.slice (some ⟨g, 0, none⟩) l.length cap]
  row : ∃ rest, Blk w g 99 (rdFlat l ++ rest) ∧ rest.length = (cap - l.length) * 4
  le : l.length ≤ cap
  ne : q ≠ g

theorem InHeap.slot {w : World} {q g cap : Nat} {l : List RdD} (h : InHeap w q g cap l) : w.cell? ⟨q, 0, none⟩ = some (.slice (some ⟨g, 0, none⟩) l.length cap) := by
  have := h.box.cell 0
  simpa using this

set_option maxRecDepth 100000 in
set_option maxHeartbeats 1000000 in
theorem rd_less (g len cap i j : Nat) (x y : RdD) (w : World) (hi : i < len) (hj : j < len) (xp : w.cell? ⟨g, i * 4, none⟩ = some (.int .i64 x.part)) (xm : w.cell? ⟨g, i * 4 + 3, none⟩ = some (.int .i64 x.mark)) (yp : w.cell? ⟨g, j * 4, none⟩ = some (.int .i64 y.part)) (ym : w.cell? ⟨g, j * 4 + 3, none⟩ = some (.int .i64 y.mark)) :
    Calls Tryz.prog 159 #[.slice (some ⟨g, 0, none⟩) len cap, .int .i64 i, .int .i64 j] w fun e w' => e = .returned (.bool (lessB x y)) ∧ Below w.heap.size w w' := by
  have hi2 : (i : Int) < (len : Int) := by omega
  have hj2 : (j : Int) < (len : Int) := by omega
  have hi0 : (0 : Int) ≤ (i : Int) := by omega
  have hj0 : (0 : Int) ≤ (j : Int) := by omega
  by_cases hm : x.mark = y.mark
  · have HM := Lib.hid (show lessB x y = decide (x.part < y.part) by unfold lessB; rw [if_pos hm])
    go_enter Tryz.func159, Tryz.ntmps159
    go_wp2_with fail
    go_quiet (fail)
    go_wp2_with fail
    have e0 : (w.drewN nq).cell? ⟨g, i * 4, none⟩ = some (.int .i64 x.part) := xp
    have e1 : (w.drewN nq).cell? ⟨g, j * 4, none⟩ = some (.int .i64 y.part) := yp
    obtain ⟨wd, hwd⟩ : ∃ wd, w.drewN nq = wd := ⟨_, rfl⟩
    rw [hwd] at e0 e1 ⊢
    have HD := Lib.hid hwd
    clear hwd xp xm yp ym
    go_quiet (fail)
    go_wp2_with fail
    go_ret
    exact ⟨ret_bool HM.out.symm, by rw [← HD.out]; exact below_drewN (below_drewN (Below.refl _ _) _) _⟩
  · have HM := Lib.hid (show lessB x y = decide (x.mark < y.mark) by unfold lessB; rw [if_neg hm])
    go_enter Tryz.func159, Tryz.ntmps159
    go_wp2_with fail
    go_quiet (fail)
    go_wp2_with fail
    have e0 : (w.drewN nq).cell? ⟨g, i * 4 + 3, none⟩ = some (.int .i64 x.mark) := xm
    have e1 : (w.drewN nq).cell? ⟨g, j * 4 + 3, none⟩ = some (.int .i64 y.mark) := ym
    obtain ⟨wd, hwd⟩ : ∃ wd, w.drewN nq = wd := ⟨_, rfl⟩
    rw [hwd] at e0 e1 ⊢
    have HD := Lib.hid hwd
    clear hwd xp xm yp ym
    go_quiet (fail)
    go_wp2_with fail
    go_ret
    exact ⟨ret_bool HM.out.symm, by rw [← HD.out]; exact below_drewN (below_drewN (Below.refl _ _) _) _⟩

set_option maxRecDepth 100000 in
set_option maxHeartbeats 1000000 in
theorem rd_swap10 (g len cap : Nat) (x : RdD) (rest : List Value) (w : World) (hl : 0 < len) (hb : Blk w g 99 (rdFlat [x] ++ rest)) :
    Calls Tryz.prog 160 #[.slice (some ⟨g, 0, none⟩) len cap, .int .i64 0, .int .i64 0] w fun e w' => e = .returned (.tuple #[]) ∧ Blk w' g 99 (rdFlat [x] ++ rest) ∧ Apart [g] w w' := by
  have hj2 : (0 : Int) < (len : Int) := by omega
  have hi2 : (0 : Int) < (len : Int) := by omega
  have hf := hb.frozen
  have HB := Lib.hid hb
  have c0 := hb.cell 0
  have c1 := hb.cell 1
  have c2 := hb.cell 2
  have c3 := hb.cell 3
  simp [rdFlat, RdD.list] at c0 c1 c2 c3
  clear hb
  go_enter Tryz.func160, Tryz.ntmps160
  go_wp2_with fail
  go_region
  all_goals go_wp2_with fail
  all_goals go_end0
  all_goals exact ⟨rfl, by (apply Blk.of_eq; (repeat (first | (with_reducible exact HB.out) | (with_reducible apply Blk.set) | ((with_reducible apply Blk.other); · first | (simp; done) | (simp; omega)) | (with_reducible apply Blk.drew))); rfl), by with_reducible (repeat (first | exact Apart.refl _ _ | apply Apart.drew | refine Apart.setCell ?_ (List.mem_singleton.2 rfl) _ _))⟩

set_option maxRecDepth 100000 in
set_option maxHeartbeats 1000000 in
theorem rd_swap21 (g len cap : Nat) (x y : RdD) (rest : List Value) (w : World) (hl : 1 < len) (hb : Blk w g 99 (rdFlat [x, y] ++ rest)) :
    Calls Tryz.prog 160 #[.slice (some ⟨g, 0, none⟩) len cap, .int .i64 0, .int .i64 1] w fun e w' => e = .returned (.tuple #[]) ∧ Blk w' g 99 (rdFlat [y, x] ++ rest) ∧ Apart [g] w w' := by
  have hj2 : (1 : Int) < (len : Int) := by omega
  have hi2 : (0 : Int) < (len : Int) := by omega
  have hf := hb.frozen
  have HB := Lib.hid hb
  have c0 := hb.cell 0
  have c1 := hb.cell 1
  have c2 := hb.cell 2
  have c3 := hb.cell 3
  have c4 := hb.cell 4
  have c5 := hb.cell 5
  have c6 := hb.cell 6
  have c7 := hb.cell 7
  simp [rdFlat, RdD.list] at c0 c1 c2 c3 c4 c5 c6 c7
  clear hb
  go_enter Tryz.func160, Tryz.ntmps160
  go_wp2_with fail
  go_region
  all_goals go_wp2_with fail
  all_goals go_end0
  all_goals exact ⟨rfl, by (apply Blk.of_eq; (repeat (first | (with_reducible exact HB.out) | (with_reducible apply Blk.set) | ((with_reducible apply Blk.other); · first | (simp; done) | (simp; omega)) | (with_reducible apply Blk.drew))); rfl), by with_reducible (repeat (first | exact Apart.refl _ _ | apply Apart.drew | refine Apart.setCell ?_ (List.mem_singleton.2 rfl) _ _))⟩

set_option maxRecDepth 100000 in
set_option maxHeartbeats 1000000 in
theorem rd_swap31 (g len cap : Nat) (x y z : RdD) (rest : List Value) (w : World) (hl : 1 < len) (hb : Blk w g 99 (rdFlat [x, y, z] ++ rest)) :
    Calls Tryz.prog 160 #[.slice (some ⟨g, 0, none⟩) len cap, .int .i64 0, .int .i64 1] w fun e w' => e = .returned (.tuple #[]) ∧ Blk w' g 99 (rdFlat [y, x, z] ++ rest) ∧ Apart [g] w w' := by
  have hj2 : (1 : Int) < (len : Int) := by omega
  have hi2 : (0 : Int) < (len : Int) := by omega
  have hf := hb.frozen
  have HB := Lib.hid hb
  have c0 := hb.cell 0
  have c1 := hb.cell 1
  have c2 := hb.cell 2
  have c3 := hb.cell 3
  have c4 := hb.cell 4
  have c5 := hb.cell 5
  have c6 := hb.cell 6
  have c7 := hb.cell 7
  have c8 := hb.cell 8
  have c9 := hb.cell 9
  have c10 := hb.cell 10
  have c11 := hb.cell 11
  simp [rdFlat, RdD.list] at c0 c1 c2 c3 c4 c5 c6 c7 c8 c9 c10 c11
  clear hb
  go_enter Tryz.func160, Tryz.ntmps160
  go_wp2_with fail
  go_region
  all_goals go_wp2_with fail
  all_goals go_end0
  all_goals exact ⟨rfl, by (apply Blk.of_eq; (repeat (first | (with_reducible exact HB.out) | (with_reducible apply Blk.set) | ((with_reducible apply Blk.other); · first | (simp; done) | (simp; omega)) | (with_reducible apply Blk.drew))); rfl), by with_reducible (repeat (first | exact Apart.refl _ _ | apply Apart.drew | refine Apart.setCell ?_ (List.mem_singleton.2 rfl) _ _))⟩

set_option maxRecDepth 100000 in
set_option maxHeartbeats 1000000 in
theorem rd_swap32 (g len cap : Nat) (x y z : RdD) (rest : List Value) (w : World) (hl : 2 < len) (hb : Blk w g 99 (rdFlat [x, y, z] ++ rest)) :
    Calls Tryz.prog 160 #[.slice (some ⟨g, 0, none⟩) len cap, .int .i64 0, .int .i64 2] w fun e w' => e = .returned (.tuple #[]) ∧ Blk w' g 99 (rdFlat [z, y, x] ++ rest) ∧ Apart [g] w w' := by
  have hj2 : (2 : Int) < (len : Int) := by omega
  have hi2 : (0 : Int) < (len : Int) := by omega
  have hf := hb.frozen
  have HB := Lib.hid hb
  have c0 := hb.cell 0
  have c1 := hb.cell 1
  have c2 := hb.cell 2
  have c3 := hb.cell 3
  have c4 := hb.cell 4
  have c5 := hb.cell 5
  have c6 := hb.cell 6
  have c7 := hb.cell 7
  have c8 := hb.cell 8
  have c9 := hb.cell 9
  have c10 := hb.cell 10
  have c11 := hb.cell 11
  simp [rdFlat, RdD.list] at c0 c1 c2 c3 c4 c5 c6 c7 c8 c9 c10 c11
  clear hb
  go_enter Tryz.func160, Tryz.ntmps160
  go_wp2_with fail
  go_region
  all_goals go_wp2_with fail
  all_goals go_end0
  all_goals exact ⟨rfl, by (apply Blk.of_eq; (repeat (first | (with_reducible exact HB.out) | (with_reducible apply Blk.set) | ((with_reducible apply Blk.other); · first | (simp; done) | (simp; omega)) | (with_reducible apply Blk.drew))); rfl), by with_reducible (repeat (first | exact Apart.refl _ _ | apply Apart.drew | refine Apart.setCell ?_ (List.mem_singleton.2 rfl) _ _))⟩

end Go.Proofs.YtpoojmodebgioaaGreatDoor.dat
