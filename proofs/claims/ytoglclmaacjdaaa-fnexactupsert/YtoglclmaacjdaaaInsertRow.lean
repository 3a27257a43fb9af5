/-
  slices.Insert OF ONE ROW INTO A LIST OF ROWS THAT THE CALL OWNS: in place or in a new block; which cells stand there then (nine a row).
-/
import Derived.Test.YtoglclmaacjdaaaDataStates
import Derived.Test.YtoglclmaacjdaaaGrow2
import Derived.Test.YtoglclmaacjdaaaCellsPut
import Derived.Shelf.Spec.SlicesInsert
import Derived.Deep.AppendSrc
import Derived.Lib.AppendZerosOnto
namespace Go.Proofs.Ytoglclmaacjdaaa.dat
open Go.RowKit Go.Proofs.Ytoglclmaacjdaaa.win

/-- What Insert leaves: n + 1 rows, in the list's own block or in a new one. -/
def InsRow (w : World) (own : Option Nat) (n : Nat) (cs' : List Value) (v' : Value) (w' : World) : Prop :=
  ∃ (g' c' : Nat) (L' : List Value), v' = .slice (some ⟨g', 0, none⟩) (n + 1) c' ∧ Blk w' g' 120 L' ∧ L'.length = c' * 9 ∧ n + 1 ≤ c' ∧ c' ≤ maxLen ∧ L'.take (n * 9 + 9) = cs' ∧ (own = some g' ∨ g' = w.heap.size) ∧ Apart [g'] w w'
def rowZ : Value := .agg #[.int .i64 0, .int .i64 0, .int .i64 0, .slice none 0 0, .int .i64 0, .int .i64 0, .int .i64 0, .int .i64 0, .int .i64 0]
theorem row_info : ∃ i0, Try.prog.info? 120 = some i0 ∧ i0.zero = some rowZ ∧ i0.size = 9 ∧ i0.bytes = 88 := by
  obtain ⟨i0, hi, hi2⟩ := Option.map_eq_some_iff.1 info_Row
  simp only [Prod.mk.injEq] at hi2
  exact ⟨i0, hi, hi2.1, hi2.2.1, hi2.2.2⟩
theorem zero_rows (n : Nat) : (Builtin.zeroCells rowZ.cells n).size = n * 9 := by simp [Builtin.zeroCells, rowZ, Value.cells]

set_option maxRecDepth 100000 in
set_option maxHeartbeats 2000000 in
/-- At the end, room: in place. -/
theorem insR_end_room (g n c g2 : Nat) (L p : List Value) (w : World) (hb : Blk w g 120 L) (hL : L.length = c * 9) (hroom : n + 1 ≤ c) (hc : c ≤ maxLen) (h2 : Blk w g2 120 p) (hpl : p.length = 9) (hp : ∀ u ∈ p, u.oneCell' = true) :
    Calls Try.prog 72 #[.slice (some ⟨g, 0, none⟩) n c, .int .i64 (n : Int), .slice (some ⟨g2, 0, none⟩) 1 1] w fun e w' => ∃ v', e = .returned v' ∧ InsRow w (some g) n (L.take (n * 9) ++ p) v' w' := by
  obtain ⟨i0, hi, hz, hs, hby⟩ := row_info
  have hc63 : c ≤ 9223372036854775807 := by unfold maxLen at hc; omega
  have hsrc : Src Try.prog i0.size 46 (.slice (some ⟨g2, 0, none⟩) 1 1) 1 p w := Src.ofSlice w Try.underlying46 ⟨g2, 0, none⟩ 1 1 p (by rw [hs, hpl]) (fun j u hj => by rw [Go.WideShapes.add_plain, Nat.zero_add]; exact (h2.cell j).trans hj) hp
  have hrun : ∀ ty, (Builtin.append_ #[46, 46] ty #[.slice (some ⟨g, 0, none⟩) n c, .slice (some ⟨g2, 0, none⟩) 1 1]).run Try.prog w = .ok (.slice (some ⟨g, 0, none⟩) (n + 1) c) (w.setCells g (n * 9) p) := fun ty => by
    have := run_append_room_src (P := Try.prog) w 46 46 ty 120 i0 Try.underlying46 hi g 0 n c _ 1 p hsrc hroom (fun j hj => by rw [hpl] at hj; rw [hs, Nat.zero_add]; exact cell_some hb (by omega)) (fun j hj => by rw [hs]; exact hb.frozen _)
    rw [hs] at this
    simpa using this
  have HR := Lib.hid (And.intro hb hL)
  have HRUN := Lib.hid hrun
  have HC := Lib.hid hc
  have HPL := Lib.hid hpl
  clear hb hL h2 hi hz hs hby hsrc hrun hc hp hpl
  go_enter Try.func72, Try.ntmps72
  go_wp2_with (at_builtin; refine Lib.wpList_append_run _ rfl _ _ _ _ rfl _ _ rfl rfl _ _ (HRUN.out _) ?_)
  go_ret
  have hLL := HR.out.2
  have hPP := HPL.out
  refine ⟨_, rfl, g, c, putAt L (n * 9) p, rfl, blk_setCells p (n * 9) HR.out.1 (by omega), by rw [putAt_len _ _ _ (by omega)]; exact hLL, hroom, HC.out, ?_, .inl rfl, apart_setCells (by simp) _ _ (Apart.refl _ _)⟩
  exact take_cells_end L p (n * 9) 9 hPP (by omega)

set_option maxRecDepth 100000 in
set_option maxHeartbeats 2000000 in
/-- At the end, no room: a new list. -/
theorem insR_end_grow (ao : Option Addr) (own : Option Nat) (n c g2 : Nat) (cs p : List Value) (w : World) (hn : n ≤ 3000000) (hnc : n ≤ c) (hroom : c < n + 1) (hcl : cs.length = n * 9) (hcs : ∀ a, ao = some a → a.spot = none → ∀ j v, cs[j]? = some v → w.cell? (a.add j) = some v) (hsp : ∀ a, ao = some a → a.spot = none) (hnil : ao = none → n = 0) (h2 : Blk w g2 120 p) (hpl : p.length = 9) (hp : ∀ u ∈ p, u.oneCell' = true) :
    Calls Try.prog 72 #[.slice ao n c, .int .i64 (n : Int), .slice (some ⟨g2, 0, none⟩) 1 1] w fun e w' => ∃ v', e = .returned v' ∧ InsRow w own n (cs ++ p) v' w' := by
  obtain ⟨i0, hi, hz, hs, hby⟩ := row_info
  have hsrc : Src Try.prog i0.size 46 (.slice (some ⟨g2, 0, none⟩) 1 1) 1 p w := Src.ofSlice w Try.underlying46 ⟨g2, 0, none⟩ 1 1 p (by rw [hs, hpl]) (fun j u hj => by rw [Go.WideShapes.add_plain, Nat.zero_add]; exact (h2.cell j).trans hj) hp
  have hold : (Builtin.firstCells i0.size n (.slice ao n c)).run Try.prog w.drew = .ok cs.toArray w.drew := by
    cases ao with
    | none =>
      obtain rfl : n = 0 := hnil rfl
      obtain rfl : cs = [] := List.length_eq_zero_iff.1 (by omega)
      exact run_firstCells_none w.drew _ 0 0 c
    | some a => exact run_firstCells_some w.drew i0.size n a n c cs (by rw [hs, hcl]) (fun j v hj => hcs a rfl (hsp a rfl) j v hj)
  have hrun : ∀ ty, (Builtin.append_ #[46, 46] ty #[.slice ao n c, .slice (some ⟨g2, 0, none⟩) 1 1]).run Try.prog w = .ok (.slice (some ⟨w.heap.size, 0, none⟩) (n + 1) (grownCap w (n + 1) c 120)) (w.drew.alloc (.cells ((cs ++ p).toArray ++ Builtin.zeroCells rowZ.cells (grownCap w (n + 1) c 120 - (n + 1))) 120)) := fun ty =>
    run_append_grow_src (P := Try.prog) w 46 46 ty 120 i0 _ Try.underlying46 hi hz ao n c cs hold _ 1 p hsrc hroom (by omega) (by rw [hby]; exact growslice_fits hroom (by omega))
  have hge := grownCap_ge w (n + 1) c 120
  have hle := grownCap_le_maxLen w (n + 1) c 120 (by unfold maxLen; omega)
  obtain ⟨G, hG⟩ : ∃ G, grownCap w (n + 1) c 120 = G := ⟨_, rfl⟩
  rw [hG] at hrun hge hle
  obtain ⟨Z, hZ⟩ : ∃ Z : List Value, (Builtin.zeroCells rowZ.cells (G - (n + 1))).toList = Z ∧ Z.length = (G - (n + 1)) * 9 := ⟨_, rfl, by rw [Array.length_toList, zero_rows]⟩
  have hrow : (cs ++ p).toArray ++ Builtin.zeroCells rowZ.cells (G - (n + 1)) = (cs ++ p ++ Z).toArray := by
    apply Array.ext'
    simp [hZ.1]
  rw [hrow] at hrun
  have HRUN := Lib.hid hrun
  have HGE := Lib.hid (And.intro hge hle)
  have HZ := Lib.hid hZ.2
  have HCL := Lib.hid (And.intro hcl hpl)
  clear h2 hi hz hs hby hsrc hrun hold hge hle hG hZ hrow hcs hcl hp hpl
  go_enter Try.func72, Try.ntmps72
  go_wp2_with (at_builtin; refine Lib.wpList_append_run _ rfl _ _ _ _ rfl _ _ rfl rfl _ _ (HRUN.out _) ?_)
  go_ret
  have h1 := HZ.out
  have h2 := HCL.out
  have h3 := HGE.out.1
  refine ⟨_, rfl, w.heap.size, G, cs ++ p ++ Z, rfl, Blk.drew (Blk.of_eq (blk_new w _ _) (by simp)), ?_, HGE.out.1, HGE.out.2, ?_, .inr rfl, ((Apart.refl _ _).alloc _).drew⟩
  · simp
    omega
  · exact List.take_left' (by simp; omega)

set_option maxRecDepth 100000 in
set_option maxHeartbeats 4000000 in
/-- Ahead of the end, room: in place. -/
theorem insR_shift (g n c i g2 : Nat) (L p : List Value) (w : World) (hb : Blk w g 120 L) (hL : L.length = c * 9) (hi : i < n) (hroom : n + 1 ≤ c) (hc : c ≤ maxLen) (h2 : Blk w g2 120 p) (hpl : p.length = 9) (hg : g2 ≠ g) (hp : ∀ u ∈ p, u.oneCell' = true) (hone : ∀ v ∈ L.take (n * 9), v.oneCell' = true) :
    Calls Try.prog 72 #[.slice (some ⟨g, 0, none⟩) n c, .int .i64 (i : Int), .slice (some ⟨g2, 0, none⟩) 1 1] w fun e w' => ∃ v', e = .returned v' ∧ InsRow w (some g) n ((L.take (n * 9)).take (i * 9) ++ (p ++ (L.take (n * 9)).drop (i * 9))) v' w' := by
  obtain ⟨i0, hi0, hz, hs, hby⟩ := row_info
  have hc63 : c ≤ 9223372036854775807 := by unfold maxLen at hc; omega
  have hsz : (Try.prog.info? 120).map (·.size) = some 9 := by rw [hi0]; simp [hs]
  obtain ⟨B, hB⟩ : ∃ B, (L.take (n * 9)).drop (i * 9) = B := ⟨_, rfl⟩
  have hBl : B.length = (n - i) * 9 := by rw [← hB]; simp; omega
  have hov : ∀ lb cb, (callFunc 110 #[.slice (some ⟨g2, 0, none⟩) 1 1, .slice (some ⟨g, (i + 1) * 9, none⟩) lb cb]).run Try.prog w = .ok (.value (.bool false)) w := fun lb cb => by
    rw [run_callFunc_extern Try.func110 (by kernel_rfl) (by kernel_rfl) (by kernel_rfl) (e := Extern.SlicesOverlaps.overlaps #[46, 46] #[4]) (by kernel_rfl),
      Lib.run_overlaps_apart w 46 4 120 Try.underlying46 9 Try.sizeOf120 ⟨g2, 0, none⟩ ⟨g, (i + 1) * 9, none⟩ 1 1 lb cb hg 120 120 9 (c * 9) (by have := blk_shape h2; rw [hpl] at this; exact this) (by rw [← hL]; exact blk_shape hb) (by omega) (h2.frozen _) (h2.frozen _)]
    rfl
  have hcp1 : ∀ ty dc sc, (Builtin.copy_ #[46, 46] ty #[.slice (some ⟨g, (i + 1) * 9, none⟩) (n - i) dc, .slice (some ⟨g, i * 9, none⟩) (n + 1 - i) sc]).run Try.prog w.drew = .ok (goInt (Nat.min (n + 1 - i) (n - i))) (w.drew.setCells g ((i + 1) * 9) B) := fun ty dc sc =>
    run_copy_cellsK 9 w.drew _ _ ty 120 g ((i + 1) * 9) (n - i) dc ⟨g, i * 9, none⟩ (n + 1 - i) sc B Try.underlying46 hsz (by rw [hBl]; simp only [Nat.min_def]; split <;> omega)
      (fun j v hj => by
        rw [Go.WideShapes.add_plain]
        have hj' : j < (n - i) * 9 := by rw [← hBl]; exact (List.getElem?_eq_some_iff.1 hj).1
        rw [← hB, List.getElem?_drop, List.getElem?_take, if_pos (by omega)] at hj
        exact (hb.cell (i * 9 + j)).trans hj)
      (fun j hj => cell_some (Blk.drew hb) (by omega)) (fun j _ => hb.frozen _) (fun v hv => hone v (List.mem_of_mem_drop (hB ▸ hv)))
  obtain ⟨W1, hW1⟩ : ∃ W1, W1 = w.drew.setCells g ((i + 1) * 9) B := ⟨_, rfl⟩
  have hk1 : Blk W1 g 120 (putAt L ((i + 1) * 9) B) := by
    rw [hW1]
    exact blk_setCells B ((i + 1) * 9) (Blk.drew hb) (by omega)
  have hk1l : (putAt L ((i + 1) * 9) B).length = c * 9 := by rw [putAt_len _ _ _ (by omega)]; exact hL
  have hk2 : Blk W1 g2 120 p := by
    have := (apart_setCells (fp := [g]) (a := w.drew) (g := g) (by simp) B ((i + 1) * 9) (Apart.refl _ _)).block g2 h2.lt (by simpa using hg)
    rw [hW1]
    exact Eq.trans this h2
  have mixed : Try.prog.follows .mixedOrders = true := by kernel_rfl
  have hcp2 : ∀ (W : World), (∀ x, W.cell? x = W1.cell? x) → (∀ x, W.frozen? x = W1.frozen? x) → ∀ ty dc, (Builtin.copy_ #[46, 46] ty #[.slice (some ⟨g, i * 9, none⟩) (n + 1 - i) dc, .slice (some ⟨g2, 0, none⟩) 1 1]).run Try.prog W = .ok (goInt (Nat.min 1 (n + 1 - i))) (W.setCells g (i * 9) p) := fun W hWc hWf ty dc =>
    run_copy_cellsK 9 W _ _ ty 120 g (i * 9) (n + 1 - i) dc ⟨g2, 0, none⟩ 1 1 p Try.underlying46 hsz (by rw [hpl]; simp only [Nat.min_def]; split <;> omega)
      (fun j v hj => by
        rw [Go.WideShapes.add_plain, hWc, Nat.zero_add]
        exact (hk2.cell j).trans hj)
      (fun j hj => by rw [hWc]; exact cell_some hk1 (by omega)) (fun j _ => by rw [hWf]; exact hk1.frozen _) hp
  have hap : Apart [g] w W1 := by
    rw [hW1]
    exact apart_setCells (fp := [g]) (g := g) (by simp) _ _ (Apart.refl _ _).drew
  have HF := Lib.hid (And.intro hk1 (And.intro hk1l (And.intro hap (And.intro hroom (And.intro hc (And.intro hL (And.intro hB hpl)))))))
  rw [← hW1] at hcp1
  have HCP1 := Lib.hid hcp1
  have HCP2 := Lib.hid hcp2
  have HOV := Lib.hid hov
  have hin : i ≤ n := by omega
  have hb1 : (0 : Int) ≤ (i : Int) + 1 := by omega
  have htn : ((i : Int) + 1).toNat = i + 1 := by omega
  have hw1 : IntKind.i64.wrap ((i : Int) + 1) = (i : Int) + 1 := by rw [IntKind.wrap_i64]; omega
  have hne : ¬ ((i : Int) = (n : Int)) := by omega
  have hb2 : ¬ (c = i + 1) := by omega
  have hb3 : (i : Int) ≤ (n : Int) + 1 := by omega
  have hb4 : ¬ (c = i) := by omega
  clear hb hL h2 hi0 hz hs hby hsz hcp1 hcp2 hov hk1 hk1l hk2 hap hone hW1 hB hBl hp hpl
  go_enter Try.func72, Try.ntmps72
  go_wp2_with (simp only [HOV.out])
  go_region_law_o (refine step_copy_runI rfl _ _ 46 46 rfl (.slice (some ⟨g, (i + 1) * 9, none⟩) (n - i) (c - (i + 1))) (.slice (some ⟨g, i * 9, none⟩) (n + 1 - i) (c - i)) (by simp [Act.eval, Act.put]) (by simp [Act.eval, Act.put]) (HCP1.out _ _ _) ?_)
  go_wp2_with (simp only [HCP2.out W1 (fun _ => rfl) (fun _ => rfl)])
  go_ret
  obtain ⟨q1, q2, q3, q4, q5, q6, q7, q8⟩ := HF.out
  refine ⟨_, rfl, g, c, putAt (putAt L ((i + 1) * 9) B) (i * 9) p, rfl, blk_setCells p (i * 9) q1 (by omega), by rw [putAt_len _ _ _ (by omega)]; exact q2, q4, q5, ?_, .inl rfl, apart_setCells (by simp) _ _ q3⟩
  rw [← q7]
  rw [show (i + 1) * 9 = i * 9 + 9 by omega]
  exact shift_cells L p (i * 9) (n * 9) 9 q8 (by omega) (by omega)

set_option maxRecDepth 100000 in
set_option maxHeartbeats 4000000 in
/-- Ahead of the end, no room: a new list. -/
theorem insR_grow (own : Option Nat) (g n c i g2 : Nat) (cs p : List Value) (w : World) (hcs : ∀ j v, cs[j]? = some v → w.cell? ⟨g, j, none⟩ = some v) (hcl : cs.length = n * 9) (hi : i < n) (hnc : n ≤ c) (hn : n ≤ 3000000) (hroom : c < n + 1) (h2 : Blk w g2 120 p) (hpl : p.length = 9) (hp : ∀ u ∈ p, u.oneCell' = true) (hone : ∀ v ∈ cs, v.oneCell' = true) :
    Calls Try.prog 72 #[.slice (some ⟨g, 0, none⟩) n c, .int .i64 (i : Int), .slice (some ⟨g2, 0, none⟩) 1 1] w fun e w' => ∃ v', e = .returned v' ∧ InsRow w own n (cs.take (i * 9) ++ (p ++ cs.drop (i * 9))) v' w' := by
  obtain ⟨i0, hi0, hz, hs, hby⟩ := row_info
  have hsz : (Try.prog.info? 120).map (·.size) = some 9 := by rw [hi0]; simp [hs]
  obtain ⟨B, hB⟩ : ∃ B, cs.drop (i * 9) = B := ⟨_, rfl⟩
  have hBl : B.length = (n - i) * 9 := by rw [← hB]; simp; omega
  have hbw : g < w.heap.size := block_lt_of_cell (hcs 0 _ (List.getElem?_eq_getElem (by omega)))
  have hg2w : g2 < w.heap.size := h2.lt
  have hkk : (n : Int) + 1 - (i : Int) = ((n + 1 - i : Nat) : Int) := by omega
  have hik : i + (n + 1 - i) = n + 1 := by omega
  have hold : (Builtin.firstCells i0.size i (.slice (some ⟨g, 0, none⟩) i c)).run Try.prog w.drew = .ok (cs.take (i * 9)).toArray w.drew := by
    rw [hs]
    exact run_firstCells_some w.drew 9 i ⟨g, 0, none⟩ i c (cs.take (i * 9)) (by rw [List.length_take]; omega) (fun j v hj => by
      rw [Go.WideShapes.add_plain, Nat.zero_add]
      rw [List.getElem?_take] at hj
      split at hj
      · exact hcs j v hj
      · cases hj)
  have hrz : ∀ ty, (Builtin.append_ #[46, 3] ty #[.slice (some ⟨g, 0, none⟩) i c, .int .i64 ((n : Int) + 1 - (i : Int))]).run Try.prog w =
      .ok (.slice (some ⟨w.heap.size, 0, none⟩) (n + 1) (grownCap w (n + 1) c 120)) (w.drew.alloc (.cells ((cs.take (i * 9)).toArray ++ Builtin.zeroCells rowZ.cells (n + 1 - i) ++ Builtin.zeroCells rowZ.cells (grownCap w (n + 1) c 120 - (n + 1))) 120)) := fun ty => by
    have h := Lib.run_append_grow_zeros w 46 3 ty 120 i0 _ .i64 .i64 Try.underlying46 Try.underlying3 hi0 hz (some ⟨g, 0, none⟩) i c (cs.take (i * 9)) hold (n + 1 - i) (by omega) (by omega) (by omega) (by omega) (by rw [hby]; omega) (by rw [hby, hik]; exact growslice_fits hroom (by omega))
    rw [hik] at h
    rw [hkk]
    exact h
  obtain ⟨G, hG⟩ : ∃ G, G = grownCap w (n + 1) c 120 := ⟨_, rfl⟩
  obtain ⟨ROW, hROW⟩ : ∃ ROW : List Value, ROW = cs.take (i * 9) ++ (Builtin.zeroCells rowZ.cells (n + 1 - i)).toList ++ (Builtin.zeroCells rowZ.cells (G - (n + 1))).toList := ⟨_, rfl⟩
  rw [← hG] at hrz
  rw [show (cs.take (i * 9)).toArray ++ Builtin.zeroCells rowZ.cells (n + 1 - i) ++ Builtin.zeroCells rowZ.cells (G - (n + 1)) = ROW.toArray by rw [hROW]; apply Array.ext'; simp] at hrz
  have hGn : n + 1 ≤ G := by rw [hG]; exact grownCap_ge w _ _ _
  have hGm : G ≤ maxLen := by rw [hG]; exact grownCap_le_maxLen w (n + 1) c 120 (by unfold maxLen; omega)
  have hG63 : G ≤ 9223372036854775807 := by
    unfold maxLen at hGm
    omega
  have hRl : ROW.length = G * 9 := by
    have h1 := zero_rows (n + 1 - i)
    have h2 := zero_rows (G - (n + 1))
    rw [← Array.length_toList] at h1 h2
    rw [hROW, List.length_append, List.length_append, h1, h2, List.length_take]
    omega
  have hRA : ROW.take (i * 9) = cs.take (i * 9) := by
    rw [hROW, List.append_assoc]
    exact List.take_left' (by simp; omega)
  obtain ⟨W1, hW1⟩ : ∃ W1, W1 = w.drew.alloc (.cells ROW.toArray 120) := ⟨_, rfl⟩
  rw [← hW1] at hrz
  have hk0 : Blk W1 w.heap.size 120 ROW := by rw [hW1]; exact blk_new w.drew _ _
  have hap0 : Apart [w.heap.size] w W1 := by rw [hW1]; exact (Apart.refl _ _).drew.alloc _
  have hk2 : Blk W1 g2 120 p := (hap0.block g2 hg2w (by simp; omega)).trans h2
  have hkg : ∀ j v, cs[j]? = some v → W1.cell? ⟨g, j, none⟩ = some v := fun j v h => by rw [hW1, World.cell?_alloc_past (w := w.drew) _ g j hbw]; exact hcs j v h
  have hcpA : ∀ (W : World), (∀ x, W.cell? x = W1.cell? x) → (∀ x, W.frozen? x = W1.frozen? x) → ∀ ty dc, (Builtin.copy_ #[46, 46] ty #[.slice (some ⟨w.heap.size, i * 9, none⟩) (n + 1 - i) dc, .slice (some ⟨g2, 0, none⟩) 1 1]).run Try.prog W = .ok (goInt (Nat.min 1 (n + 1 - i))) (W.setCells w.heap.size (i * 9) p) := fun W hWc hWf ty dc =>
    run_copy_cellsK 9 W _ _ ty 120 w.heap.size (i * 9) (n + 1 - i) dc ⟨g2, 0, none⟩ 1 1 p Try.underlying46 hsz (by rw [hpl]; simp only [Nat.min_def]; split <;> omega)
      (fun j v hj => by rw [Go.WideShapes.add_plain, hWc, Nat.zero_add]; exact (hk2.cell j).trans hj)
      (fun j hj => by rw [hWc]; exact cell_some hk0 (by omega)) (fun j _ => by rw [hWf]; exact hk0.frozen _) hp
  obtain ⟨W2, hW2⟩ : ∃ W2, W2 = W1.setCells w.heap.size (i * 9) p := ⟨_, rfl⟩
  have hk3 : Blk W2 w.heap.size 120 (putAt ROW (i * 9) p) := by rw [hW2]; exact blk_setCells p (i * 9) hk0 (by omega)
  have hap2 : Apart [w.heap.size] w W2 := by rw [hW2]; exact apart_setCells (fp := [w.heap.size]) (g := w.heap.size) (by simp) _ _ hap0
  have hkg2 : ∀ j v, cs[j]? = some v → W2.cell? ⟨g, j, none⟩ = some v := fun j v h => by
    rw [hW2, World.cell?_setCells_out _ _ _ _ _ (fun h' _ => absurd h' (by show g ≠ w.heap.size; omega))]
    exact hkg j v h
  have hpl2 : (putAt ROW (i * 9) p).length = G * 9 := by rw [putAt_len _ _ _ (by omega)]; exact hRl
  have hcpB : ∀ (W : World), (∀ x, W.cell? x = W2.cell? x) → (∀ x, W.frozen? x = W2.frozen? x) → ∀ ty dc sc, (Builtin.copy_ #[46, 46] ty #[.slice (some ⟨w.heap.size, (i + 1) * 9, none⟩) (n - i) dc, .slice (some ⟨g, i * 9, none⟩) (n - i) sc]).run Try.prog W = .ok (goInt (Nat.min (n - i) (n - i))) (W.setCells w.heap.size ((i + 1) * 9) B) := fun W hWc hWf ty dc sc =>
    run_copy_cellsK 9 W _ _ ty 120 w.heap.size ((i + 1) * 9) (n - i) dc ⟨g, i * 9, none⟩ (n - i) sc B Try.underlying46 hsz (by rw [hBl]; simp only [Nat.min_def]; split <;> omega)
      (fun j v hj => by
        rw [Go.WideShapes.add_plain, hWc]
        exact hkg2 (i * 9 + j) v (by rw [← hB, List.getElem?_drop] at hj; exact hj))
      (fun j hj => by rw [hWc]; exact cell_some hk3 (by omega)) (fun j _ => by rw [hWf]; exact hk3.frozen _) (fun v hv => hone v (List.mem_of_mem_drop (hB ▸ hv)))
  have hF0 : (Blk W2 w.heap.size 120 (putAt ROW (i * 9) p)) ∧ Apart [w.heap.size] w W2 ∧ (putAt ROW (i * 9) p).length = G * 9 ∧ ROW.length = G * 9 ∧ ROW.take (i * 9) = cs.take (i * 9) ∧ B.length = (n - i) * 9 ∧ cs.drop (i * 9) = B ∧ G ≤ maxLen ∧ p.length = 9 := ⟨hk3, hap2, hpl2, hRl, hRA, hBl, hB, hGm, hpl⟩
  have HF := Lib.hid hF0
  have HRZ := Lib.hid hrz
  have HCPA := Lib.hid hcpA
  have HCPB := Lib.hid hcpB
  have mixed : Try.prog.follows .mixedOrders = true := by kernel_rfl
  have hne : ¬ ((i : Int) = (n : Int)) := by omega
  have hz3 : (c : Int) < (n : Int) + 1 := by omega
  have hGi : ¬ (G = i) := by omega
  have hGim : ¬ (G = i + 1) := by omega
  have hci : ¬ (c = i) := by omega
  have hw1 : IntKind.i64.wrap ((i : Int) + 1) = (i : Int) + 1 := by rw [IntKind.wrap_i64]; omega
  have hb1 : (0 : Int) ≤ (i : Int) + 1 := by omega
  have hin : i ≤ n := by omega
  have htn : ((i : Int) + 1).toNat = i + 1 := by omega
  have hb3 : (i : Int) ≤ (n : Int) := by omega
  subst hW2
  clear hW1 hi0 hz hs hby hsz hBl hbw hg2w hkk hik hold hrz hG hROW hGm hRl hRA hk0 hap0 hk2 hkg hcpA hk3 hap2 hkg2 hpl2 hcpB hF0 hone hcs h2 hB hp hpl
  go_enter Try.func72, Try.ntmps72
  go_wp2_with (first
    | (at_builtin; refine Lib.wpList_append_run _ rfl _ _ _ _ rfl _ _ rfl rfl _ _ (HRZ.out _) ?_)
    | (simp only [HCPA.out W1 (fun _ => rfl) (fun _ => rfl)]))
  go_region_law_o (refine step_copy_runI rfl _ _ 46 46 rfl (.slice (some ⟨w.heap.size, (i + 1) * 9, none⟩) (n - i) (G - (i + 1))) (.slice (some ⟨g, i * 9, none⟩) (n - i) (c - i)) (by simp [Act.eval, Act.put]) (by simp [Act.eval, Act.put]) (HCPB.out (W1.setCells w.heap.size (i * 9) p).drew (fun _ => rfl) (fun _ => rfl) _ _ _) ?_)
  go_wp2
  go_ret
  obtain ⟨q1, q2, q3, q4, q5, q6, q7, q8, q9⟩ := HF.out
  refine ⟨_, rfl, w.heap.size, G, putAt (putAt ROW (i * 9) p) ((i + 1) * 9) B, rfl, blk_setCells B ((i + 1) * 9) (Blk.drew q1) (by omega), by rw [putAt_len _ _ _ (by omega)]; exact q3, by omega, q8, ?_, .inr rfl, apart_setCells (by simp) _ _ q2.drew⟩
  rw [q7]
  rw [show (i + 1) * 9 = i * 9 + 9 by omega]
  exact grow_cells ROW (cs.take (i * 9)) B p (i * 9) (n * 9) 9 q9 (by omega) (by omega) q5 (by omega)

/-! ### as data -/
theorem flat_take {css : List (List Value)} {k : Nat} (hk : ∀ c ∈ css, c.length = k) : ∀ i, i ≤ css.length → css.flatten.take (i * k) = (css.take i).flatten ∧ css.flatten.drop (i * k) = (css.drop i).flatten := by
  induction css with
  | nil => intro i hi; simp
  | cons c r ih =>
    intro i hi
    cases i with
    | zero => simp
    | succ i =>
      have hc := hk c (by simp)
      obtain ⟨h1, h2⟩ := ih (fun d hd => hk d (by simp [hd])) i (by simpa using hi)
      rw [List.take_succ_cons, List.drop_succ_cons, List.flatten_cons, List.flatten_cons, Nat.succ_mul, Nat.add_comm (i * k) k, ← hc, List.take_append, List.drop_append]
      rw [hc, List.take_of_length_le (by omega), List.drop_of_length_le (by omega), Nat.add_sub_cancel_left, h1, h2]
      simp
theorem row_one {x : RowD} {h : RowH} : ∀ u ∈ Row.list x h, u.oneCell' = true := by
  intro u hu
  simp [Row.list] at hu
  rcases hu with rfl | rfl | rfl | rfl | rfl | rfl | rfl | rfl | rfl <;> rfl
theorem insertRow (base : Nat) (v : Value) (l : List RowD) (i : Nat) (y : RowD) (h : RowH) (f : List Nat) (g2 : Nat) (wr w : World) (hG : Grows 9 RRow 120 base wr v l) (hb : Below wr.heap.size wr w) (hi : i ≤ l.length) (hn : l.length ≤ 3000000)
    (h2 : Blk w g2 120 (Row.list y h)) (hy : Row.Is w y h f) (hf : Own wr.heap.size w f) (hg2 : wr.heap.size ≤ g2) (hbase : base ≤ wr.heap.size) :
    Calls Try.prog 72 #[v, .int .i64 (i : Int), .slice (some ⟨g2, 0, none⟩) 1 1] w fun e w' => ∃ v', e = .returned v' ∧ Grows 9 RRow 120 base w' v' (l.take i ++ y :: l.drop i) ∧ Below base w w' ∧ (v'.ownBlock = v.ownBlock ∨ v'.ownBlock = some w.heap.size) := by
  have hlt := hG.lt
  obtain ⟨css, F, e1, e2, e3, e4, e5, e6, hown⟩ := hG.ex
  have hws := hb.size
  have hcl : css.flatten.length = l.length * 9 := by rw [flat_len e3, e1]
  have hP : ∀ (j : Nat) x u q, l[j]? = some x → css[j]? = some u → F[j]? = some q → RRow w u x q ∧ u.length = 9 := fun j x u q hx hu hq =>
    ⟨local_Row.keep (e4 j x u q hx hu hq) (fun b hbm => hb.block b (e6 b (mem_flatten_of hq hbm)).2.1.lt), e3 u (List.mem_of_getElem? hu)⟩
  have hone : ∀ u ∈ css.flatten, u.oneCell' = true := by
    intro u hu
    obtain ⟨c, hc, hcu⟩ := List.mem_flatten.1 hu
    obtain ⟨j, hj, rfl⟩ := List.getElem_of_mem hc
    obtain ⟨⟨hh, he, _⟩, _⟩ := hP j _ _ _ (List.getElem?_eq_getElem (by omega)) (List.getElem?_eq_getElem hj) (List.getElem?_eq_getElem (show j < F.length by omega))
    rw [he] at hcu
    exact row_one u hcu
  have hFw : ∀ b ∈ F.flatten, base ≤ b ∧ Wr w b ∧ v.ownBlock ≠ some b ∧ b < wr.heap.size := fun b hbm => ⟨(e6 b hbm).1, (e6 b hbm).2.1.same (hb.block b (e6 b hbm).2.1.lt), (e6 b hbm).2.2, (e6 b hbm).2.1.lt⟩
  obtain ⟨ht, hd⟩ := flat_take e3 i (by omega)
  have hflat : css.flatten.take (i * 9) ++ (Row.list y h ++ css.flatten.drop (i * 9)) = (css.take i ++ Row.list y h :: css.drop i).flatten := by rw [ht, hd]; simp
  have hdone : ∀ (e : Ending) (w' : World), (∃ v', e = .returned v' ∧ InsRow w v.ownBlock l.length (css.flatten.take (i * 9) ++ (Row.list y h ++ css.flatten.drop (i * 9))) v' w') → ∃ v', e = .returned v' ∧ Grows 9 RRow 120 base w' v' (l.take i ++ y :: l.drop i) ∧ Below base w w' ∧ (v'.ownBlock = v.ownBlock ∨ v'.ownBlock = some w.heap.size) := by
    rintro e w' ⟨v', rfl, g', c', L', rfl, hk', hL', hc1, hc2, htk, hwhere, hap⟩
    have hgb : base ≤ g' := by
      rcases hwhere with h | h
      · exact (hlt g' h).1
      · omega
    have hFg : ∀ b ∈ F.flatten, b ≠ g' := by
      intro b hbm
      rcases hwhere with h | h
      · intro e; subst e; exact (hFw b hbm).2.2.1 h
      · have := (hFw b hbm).2.1.lt; omega
    have hfg : ∀ b ∈ f, b ≠ g' := by
      intro b hbm
      have hb1 := (hf.2 b hbm).1
      have hb2 := (hf.2 b hbm).2.lt
      rcases hwhere with h | h
      · have := (hlt g' h).2; omega
      · omega
    have hperm : (F.take i ++ f :: F.drop i).flatten.Perm (f ++ F.flatten) := by
      have := List.Perm.flatten (List.perm_middle (a := f) (l₁ := F.take i) (l₂ := F.drop i))
      rw [List.take_append_drop, List.flatten_cons] at this
      exact this
    refine ⟨_, rfl, ?_, hap.below (lo := base) (fun c hc => by simp at hc; subst hc; exact hgb) (by omega), hwhere.elim (fun h => .inl h.symm) (fun h => .inr (by rw [h]; rfl))⟩
    have hmem : ∀ b ∈ (F.take i ++ f :: F.drop i).flatten, b ∈ f ∨ b ∈ F.flatten := fun b hbm => List.mem_append.1 (hperm.mem_iff.1 hbm)
    have hne' : ∀ b, b ≠ g' → (Value.slice (some ⟨g', 0, none⟩) (l.length + 1) c').ownBlock ≠ some b := fun b h e => by
      simp [Value.ownBlock] at e
      exact h e.symm
    have hthree := ins3 (Q := fun x u q => RRow w' u x q ∧ u.length = 9) hi e1 e2 hP (fun x u q hq hp => by
      refine ⟨local_Row.keep hp.1 (fun b hbm => ?_), hp.2⟩
      have hbF : b ∈ F.flatten := List.mem_flatten.2 ⟨q, hq, hbm⟩
      exact hap.block b (hFw b hbF).2.1.lt (by simpa using hFg b hbF)) ⟨⟨h, rfl, hy.keep (fun b hbm => hap.block b (hf.2 b hbm).2.lt (by simpa using hfg b hbm))⟩, rfl⟩
    refine ⟨css.take i ++ Row.list y h :: css.drop i, F.take i ++ f :: F.drop i, ?_, ?_, ?_, fun j x c q hx hc hq => (hthree j x c q hx hc hq).1, ?_, ?_, ?_⟩
    · rw [ins_len _ _ _ (by omega), ins_len _ _ _ hi, e1]
    · rw [ins_len _ _ _ (by omega), ins_len _ _ _ hi, e2]
    · intro c hc
      rcases List.mem_append.1 hc with hc | hc
      · exact e3 c (List.mem_of_mem_take hc)
      · rcases List.mem_cons.1 hc with rfl | hc
        · rfl
        · exact e3 c (List.mem_of_mem_drop hc)
    · rw [hperm.nodup_iff, List.nodup_append]
      refine ⟨hf.1, e5, fun p hp q hq e => ?_⟩
      have := (hf.2 p hp).1
      have := (hFw q hq).2.2.2
      omega
    · intro b hbm
      rcases hmem b hbm with hb2 | hb2
      · exact ⟨by have := (hf.2 b hb2).1; omega, (hf.2 b hb2).2.same (hap.block b (hf.2 b hb2).2.lt (by simpa using hfg b hb2)), hne' _ (hfg b hb2)⟩
      · exact ⟨(hFw b hb2).1, (hFw b hb2).2.1.same (hap.block b (hFw b hb2).2.1.lt (by simpa using hFg b hb2)), hne' _ (hFg b hb2)⟩
    · rw [← hflat]
      refine ⟨?_, .inr ⟨g', c', L'.toArray, ?_, hgb, hk', ?_, hc2, ?_, ?_⟩⟩
      · rw [ins_len _ _ _ hi, List.length_append, List.length_append, List.length_take, List.length_drop, hcl]
        simp [Row.list]
        omega
      · rw [ins_len _ _ _ hi]
      · rw [ins_len _ _ _ hi]; exact hc1
      · simp [hL']
      · rw [ins_len _ _ _ hi, Nat.succ_mul]; exact htk
  have hp : ∀ u ∈ Row.list y h, u.oneCell' = true := row_one
  have hpl : (Row.list y h).length = 9 := rfl
  rcases hown.2 with ⟨rfl, h0⟩ | ⟨g0, cap, cur, rfl, hbg, hh, hnc, hcm, hsz, htk⟩
  · obtain rfl : l = [] := List.length_eq_zero_iff.1 h0
    have hcs0 : css.flatten = [] := List.length_eq_zero_iff.1 (by rw [hcl]; rfl)
    obtain rfl : i = 0 := by simpa using hi
    rw [hcs0] at hdone
    exact (insR_end_grow none _ 0 0 g2 [] _ w (by omega) (by omega) (by omega) rfl (fun a h => by cases h) (fun a h => by cases h) (fun _ => rfl) h2 hpl hp).mono hdone
  · obtain ⟨L, hL⟩ : ∃ L, cur = L.toArray := ⟨cur.toList, rfl⟩
    subst hL
    have hLl : L.length = cap * 9 := by simpa using hsz
    have hbk : Blk w g0 120 L := (hb.block g0 (Array.getElem?_eq_some_iff.1 hh).1).trans hh
    have htk' : L.take (l.length * 9) = css.flatten := htk
    have hg0 : g0 < wr.heap.size := (Array.getElem?_eq_some_iff.1 hh).1
    have hg20 : g2 ≠ g0 := by omega
    have hcells : ∀ j u, css.flatten[j]? = some u → w.cell? ⟨g0, j, none⟩ = some u := fun j u hu => by
      rw [← htk', List.getElem?_take] at hu
      split at hu
      · exact (hbk.cell j).trans hu
      · cases hu
    by_cases hin : i = l.length
    · subst hin
      have hend : css.flatten ++ Row.list y h = css.flatten.take (l.length * 9) ++ (Row.list y h ++ css.flatten.drop (l.length * 9)) := by
        rw [← hcl, List.take_length, List.drop_length, List.append_nil]
      rw [← hend] at hdone
      by_cases hroom : l.length + 1 ≤ cap
      · rw [← htk'] at hdone
        exact (insR_end_room g0 l.length cap g2 L _ w hbk hLl hroom hcm h2 hpl hp).mono hdone
      · exact (insR_end_grow (some ⟨g0, 0, none⟩) _ l.length cap g2 _ _ w hn hnc (by omega) hcl (fun a ha _ j u hu => by cases ha; rw [Go.WideShapes.add_plain, Nat.zero_add]; exact hcells j u hu) (fun a ha => by cases ha; rfl) (fun h => by cases h) h2 hpl hp).mono hdone
    · by_cases hroom : l.length + 1 ≤ cap
      · rw [← htk'] at hdone
        exact (insR_shift g0 l.length cap i g2 L _ w hbk hLl (by omega) hroom hcm h2 hpl hg20 hp (by rw [htk']; exact hone)).mono hdone
      · exact (insR_grow _ g0 l.length cap i g2 _ _ w hcells hcl (by omega) hnc hn (by omega) h2 hpl hp hone).mono hdone
end Go.Proofs.Ytoglclmaacjdaaa.dat
