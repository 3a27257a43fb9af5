/-
  slices.Insert OF ONE POINTER INTO A ROW OF POINTERS THAT THE CALL OWNS: in place or in a new block; which cells stand there then.
-/
import Derived.Test.YtoglclmaacjdaaaStores
import Derived.Test.YtoglclmaacjdaaaCellsPut
import Derived.Shelf.Spec.SlicesInsert
import Derived.Deep.AppendSrc
import Derived.Lib.AppendZerosOnto
namespace Go.Proofs.Ytoglclmaacjdaaa.dat
open Go.RowKit Go.Proofs.Ytoglclmaacjdaaa.win

theorem take_putAt_end (L : List Value) (n : Nat) (p : Value) (h : n + 1 ≤ L.length) : (putAt L n [p]).take (n + 1) = L.take n ++ [p] := by
  unfold putAt
  exact List.take_left' (by simp; omega)
/-- What Insert leaves: n + 1 cells, in the row's own block or in a new one. -/
def InsRes (w : World) (own : Option Nat) (n : Nat) (cs' : List Value) (v' : Value) (w' : World) : Prop :=
  ∃ (g' c' : Nat) (L' : List Value), v' = .slice (some ⟨g', 0, none⟩) (n + 1) c' ∧ Blk w' g' 90 L' ∧ L'.length = c' ∧ n + 1 ≤ c' ∧ c' ≤ maxLen ∧ L'.take (n + 1) = cs' ∧ (own = some g' ∨ g' = w.heap.size) ∧ Apart [g'] w w'

theorem named_info : ∃ i0, Try.prog.info? 90 = some i0 ∧ i0.zero = some (.pointer none) ∧ i0.size = 1 ∧ i0.bytes = 8 := by
  obtain ⟨i0, hi, hi2⟩ := Option.map_eq_some_iff.1 info_named
  simp only [Prod.mk.injEq] at hi2
  exact ⟨i0, hi, hi2.1, hi2.2.1, hi2.2.2⟩

set_option maxRecDepth 100000 in
set_option maxHeartbeats 2000000 in
/-- At the end, room: in place. -/
theorem ins_end_room (g n c g2 : Nat) (L : List Value) (p : Value) (w : World) (hb : Blk w g 90 L) (hL : L.length = c) (hroom : n + 1 ≤ c) (hc : c ≤ maxLen) (h2 : Blk w g2 90 [p]) (hp : p.oneCell' = true) :
    Calls Try.prog 101 #[.slice (some ⟨g, 0, none⟩) n c, .int .i64 (n : Int), .slice (some ⟨g2, 0, none⟩) 1 1] w fun e w' => ∃ v', e = .returned v' ∧ InsRes w (some g) n (L.take n ++ [p]) v' w' := by
  obtain ⟨i0, hi, hz, hs, hby⟩ := named_info
  have hc63 : c ≤ 9223372036854775807 := by unfold maxLen at hc; omega
  have hsrc : Src Try.prog i0.size 85 (.slice (some ⟨g2, 0, none⟩) 1 1) 1 [p] w := Src.ofSlice w Try.underlying85 ⟨g2, 0, none⟩ 1 1 [p] (by rw [hs]; rfl) (fun j u hj => by rw [Go.WideShapes.add_plain, Nat.zero_add]; exact (h2.cell j).trans hj) (fun u hu => by simp at hu; subst hu; exact hp)
  have hrun : ∀ ty, (Builtin.append_ #[86, 85] ty #[.slice (some ⟨g, 0, none⟩) n c, .slice (some ⟨g2, 0, none⟩) 1 1]).run Try.prog w = .ok (.slice (some ⟨g, 0, none⟩) (n + 1) c) (w.setCells g n [p]) := fun ty => by
    have := run_append_room_src (P := Try.prog) w 86 85 ty 90 i0 Try.underlying86 hi g 0 n c _ 1 [p] hsrc hroom (fun j hj => by simp at hj; subst hj; rw [hs]; simpa using cell_some hb (j := n) (by omega)) (fun j hj => by simp at hj; subst hj; exact hb.frozen _)
    rw [hs] at this
    simpa using this
  have HR := Lib.hid (And.intro hb hL)
  have HRUN := Lib.hid hrun
  have HC := Lib.hid hc
  clear hb hL h2 hi hz hs hby hsrc hrun hc
  go_enter Try.func101, Try.ntmps101
  go_wp2_with (at_builtin; refine Lib.wpList_append_run _ rfl _ _ _ _ rfl _ _ rfl rfl _ _ (HRUN.out _) ?_)
  go_ret
  refine ⟨_, rfl, g, c, putAt L n [p], rfl, blk_setCells [p] n HR.out.1 (by have := HR.out.2; simp; omega), by rw [putAt_len _ _ _ (by have := HR.out.2; simp; omega)]; exact HR.out.2, hroom, HC.out, ?_, .inl rfl, apart_setCells (by simp) _ _ (Apart.refl _ _)⟩
  exact take_putAt_end L n p (by have := HR.out.2; omega)

set_option maxRecDepth 100000 in
set_option maxHeartbeats 2000000 in
/-- At the end, no room: a new row. -/
theorem ins_end_grow (ao : Option Addr) (own : Option Nat) (n c g2 : Nat) (cs : List Value) (p : Value) (w : World) (hn : n ≤ 1000) (hnc : n ≤ c) (hroom : c < n + 1) (hcl : cs.length = n) (hcs : ∀ a, ao = some a → a.spot = none → ∀ j v, cs[j]? = some v → w.cell? (a.add j) = some v) (hsp : ∀ a, ao = some a → a.spot = none) (hnil : ao = none → n = 0) (h2 : Blk w g2 90 [p]) (hp : p.oneCell' = true) :
    Calls Try.prog 101 #[.slice ao n c, .int .i64 (n : Int), .slice (some ⟨g2, 0, none⟩) 1 1] w fun e w' => ∃ v', e = .returned v' ∧ InsRes w own n (cs ++ [p]) v' w' := by
  obtain ⟨i0, hi, hz, hs, hby⟩ := named_info
  have hsrc : Src Try.prog i0.size 85 (.slice (some ⟨g2, 0, none⟩) 1 1) 1 [p] w := Src.ofSlice w Try.underlying85 ⟨g2, 0, none⟩ 1 1 [p] (by rw [hs]; rfl) (fun j u hj => by rw [Go.WideShapes.add_plain, Nat.zero_add]; exact (h2.cell j).trans hj) (fun u hu => by simp at hu; subst hu; exact hp)
  have hold : (Builtin.firstCells i0.size n (.slice ao n c)).run Try.prog w.drew = .ok cs.toArray w.drew := by
    cases ao with
    | none =>
      obtain rfl : n = 0 := hnil rfl
      obtain rfl : cs = [] := List.length_eq_zero_iff.1 hcl
      exact run_firstCells_none w.drew _ 0 0 c
    | some a => exact run_firstCells_some w.drew i0.size n a n c cs (by rw [hs, hcl, Nat.mul_one]) (fun j v hj => hcs a rfl (hsp a rfl) j v hj)
  have hrun : ∀ ty, (Builtin.append_ #[86, 85] ty #[.slice ao n c, .slice (some ⟨g2, 0, none⟩) 1 1]).run Try.prog w = .ok (.slice (some ⟨w.heap.size, 0, none⟩) (n + 1) (grownCap w (n + 1) c 90)) (w.drew.alloc (.cells ((cs ++ [p]).toArray ++ Builtin.zeroCells (Value.pointer none).cells (grownCap w (n + 1) c 90 - (n + 1))) 90)) := fun ty =>
    run_append_grow_src (P := Try.prog) w 86 85 ty 90 i0 _ Try.underlying86 hi hz ao n c cs hold _ 1 [p] hsrc hroom (by omega) (by rw [hby]; exact growslice_fits hroom (by omega))
  have hge := grownCap_ge w (n + 1) c 90
  have hle := grownCap_le_maxLen w (n + 1) c 90 (by unfold maxLen; omega)
  obtain ⟨G, hG⟩ : ∃ G, grownCap w (n + 1) c 90 = G := ⟨_, rfl⟩
  rw [hG] at hrun hge hle
  obtain ⟨Z, hZ⟩ : ∃ Z : List Value, (Builtin.zeroCells (Value.pointer none).cells (G - (n + 1))).toList = Z ∧ Z.length = G - (n + 1) := ⟨_, rfl, by simp [Builtin.zeroCells, Value.cells]⟩
  have hrow : (cs ++ [p]).toArray ++ Builtin.zeroCells (Value.pointer none).cells (G - (n + 1)) = (cs ++ [p] ++ Z).toArray := by
    apply Array.ext'
    simp [hZ.1]
  rw [hrow] at hrun
  have HRUN := Lib.hid hrun
  have HGE := Lib.hid (And.intro hge hle)
  have HZ := Lib.hid hZ.2
  have HCL := Lib.hid hcl
  clear h2 hi hz hs hby hsrc hrun hold hge hle hG hZ hrow hcs hcl
  go_enter Try.func101, Try.ntmps101
  go_wp2_with (at_builtin; refine Lib.wpList_append_run _ rfl _ _ _ _ rfl _ _ rfl rfl _ _ (HRUN.out _) ?_)
  go_ret
  refine ⟨_, rfl, w.heap.size, G, cs ++ [p] ++ Z, rfl, Blk.drew (Blk.of_eq (blk_new w _ _) (by simp)), ?_, HGE.out.1, HGE.out.2, ?_, .inr rfl, ((Apart.refl _ _).alloc _).drew⟩
  · have h1 := HZ.out
    have h2 := HCL.out
    have h3 := HGE.out.1
    simp
    omega
  · rw [List.take_left' (by simp; exact HCL.out)]

/-- What stands there behind the two copies in place. -/
theorem shift_list (L : List Value) (n i : Nat) (p : Value) (hi : i < n) (hn : n + 1 ≤ L.length) :
    (putAt (putAt L (i + 1) ((L.take n).drop i)) i [p]).take (n + 1) = (L.take n).take i ++ p :: (L.take n).drop i := by
  obtain ⟨B, hB⟩ : ∃ B, (L.take n).drop i = B := ⟨_, rfl⟩
  have hl : B.length = n - i := by rw [← hB]; simp; omega
  have hA : (L.take n).take i = L.take i := by rw [List.take_take, Nat.min_eq_left (Nat.le_of_lt hi)]
  rw [hB, hA]
  have h1 : putAt L (i + 1) B = L.take (i + 1) ++ (B ++ L.drop (n + 1)) := by
    unfold putAt
    rw [show i + 1 + B.length = n + 1 by omega, List.append_assoc]
  have h2 : putAt (putAt L (i + 1) B) i [p] = (L.take i ++ p :: B) ++ L.drop (n + 1) := by
    rw [h1]
    unfold putAt
    rw [List.take_append_of_le_length (by simp; omega), List.take_take, Nat.min_eq_left (by omega), List.length_singleton, List.drop_left' (by simp; omega)]
    simp
  rw [h2]
  exact List.take_left' (by simp; omega)
/-- What stands in the new row behind the two copies. -/
theorem grow_list (L A B : List Value) (n i : Nat) (p : Value) (hi : i < n) (hn : n + 1 ≤ L.length) (hA : L.take i = A) (hB : B.length = n - i) :
    (putAt (putAt L i [p]) (i + 1) B).take (n + 1) = A ++ p :: B := by
  have hAl : A.length = i := by rw [← hA]; simp; omega
  have h1 : putAt L i [p] = (A ++ [p]) ++ L.drop (i + 1) := by
    unfold putAt
    rw [hA, List.length_singleton]
  have h2 : putAt (putAt L i [p]) (i + 1) B = (A ++ p :: B) ++ L.drop (n + 1) := by
    rw [h1]
    unfold putAt
    rw [List.take_left' (by simp [hAl]), show i + 1 + B.length = n + 1 by omega]
    have : ((A ++ [p]) ++ L.drop (i + 1)).drop (n + 1) = L.drop (n + 1) := by
      rw [List.drop_append, List.drop_eq_nil_of_le (by simp [hAl]; omega), List.nil_append, List.drop_drop]
      congr 1
      simp [hAl]
      omega
    rw [this]
    simp
  rw [h2]
  exact List.take_left' (by simp [hAl]; omega)

set_option maxRecDepth 100000 in
set_option maxHeartbeats 4000000 in
/-- Ahead of the end, room: in place. -/
theorem ins_shift (g n c i g2 : Nat) (L : List Value) (p : Value) (w : World) (hb : Blk w g 90 L) (hL : L.length = c) (hi : i < n) (hroom : n + 1 ≤ c) (hc : c ≤ maxLen) (h2 : Blk w g2 90 [p]) (hg : g2 ≠ g) (hp : p.oneCell' = true) (hone : ∀ v ∈ L.take n, v.oneCell' = true) :
    Calls Try.prog 101 #[.slice (some ⟨g, 0, none⟩) n c, .int .i64 (i : Int), .slice (some ⟨g2, 0, none⟩) 1 1] w fun e w' => ∃ v', e = .returned v' ∧ InsRes w (some g) n ((L.take n).take i ++ p :: (L.take n).drop i) v' w' := by
  obtain ⟨i0, hi0, hz, hs, hby⟩ := named_info
  have hc63 : c ≤ 9223372036854775807 := by unfold maxLen at hc; omega
  have hsz : (Try.prog.info? 90).map (·.size) = some 1 := by rw [hi0]; simp [hs]
  obtain ⟨B, hB⟩ : ∃ B, (L.take n).drop i = B := ⟨_, rfl⟩
  have hBl : B.length = n - i := by rw [← hB]; simp; omega
  have hov : ∀ lb cb, (callFunc 127 #[.slice (some ⟨g2, 0, none⟩) 1 1, .slice (some ⟨g, i + 1, none⟩) lb cb]).run Try.prog w = .ok (.value (.bool false)) w := fun lb cb => by
    rw [run_callFunc_extern Try.func127 (by kernel_rfl) (by kernel_rfl) (by kernel_rfl) (e := Extern.SlicesOverlaps.overlaps #[85, 85] #[4]) (by kernel_rfl),
      Lib.run_overlaps_apart w 85 4 90 Try.underlying85 1 Try.sizeOf90 ⟨g2, 0, none⟩ ⟨g, i + 1, none⟩ 1 1 lb cb hg 90 90 1 c (by simpa using blk_shape h2) (by rw [← hL]; exact blk_shape hb) (by omega) (h2.frozen _) (h2.frozen _)]
    rfl
  have hcp1 : ∀ ty dc sc, (Builtin.copy_ #[86, 86] ty #[.slice (some ⟨g, i + 1, none⟩) (n - i) dc, .slice (some ⟨g, i, none⟩) (n + 1 - i) sc]).run Try.prog w.drew = .ok (goInt B.length) (w.drew.setCells g (i + 1) B) := fun ty dc sc =>
    run_copy_cells w.drew _ _ ty 90 g (i + 1) (n - i) dc ⟨g, i, none⟩ (n + 1 - i) sc B Try.underlying86 hsz (by rw [hBl]; simp only [Nat.min_def]; split <;> omega)
      (fun j v hj => by
        rw [Go.WideShapes.add_plain]
        have hj' : j < n - i := by rw [← hBl]; exact (List.getElem?_eq_some_iff.1 hj).1
        rw [← hB, List.getElem?_drop, List.getElem?_take, if_pos (by omega)] at hj
        exact (hb.cell (i + j)).trans hj)
      (fun j hj => cell_some (Blk.drew hb) (by omega)) (fun j _ => hb.frozen _) (fun v hv => hone v (List.mem_of_mem_drop (hB ▸ hv)))
  obtain ⟨W1, hW1⟩ : ∃ W1, W1 = w.drew.setCells g (i + 1) B := ⟨_, rfl⟩
  have hk1 : Blk W1 g 90 (putAt L (i + 1) B) := by
    rw [hW1]
    exact blk_setCells B (i + 1) (Blk.drew hb) (by omega)
  have hk1l : (putAt L (i + 1) B).length = c := by rw [putAt_len _ _ _ (by omega)]; exact hL
  have hk2 : Blk W1 g2 90 [p] := by
    have := (apart_setCells (fp := [g]) (a := w.drew) (g := g) (by simp) B (i + 1) (Apart.refl _ _)).block g2 h2.lt (by simpa using hg)
    rw [hW1]
    exact Eq.trans this h2
  have mixed : Try.prog.follows .mixedOrders = true := by kernel_rfl
  have hcp2 : ∀ (W : World), (∀ x, W.cell? x = W1.cell? x) → (∀ x, W.frozen? x = W1.frozen? x) → ∀ ty dc, (Builtin.copy_ #[86, 85] ty #[.slice (some ⟨g, i, none⟩) (n + 1 - i) dc, .slice (some ⟨g2, 0, none⟩) 1 1]).run Try.prog W = .ok (goInt 1) (W.setCells g i [p]) := fun W hWc hWf ty dc =>
    run_copy_cells W _ _ ty 90 g i (n + 1 - i) dc ⟨g2, 0, none⟩ 1 1 [p] Try.underlying86 hsz (by simp only [Nat.min_def, List.length_singleton]; split <;> omega)
      (fun j v hj => by
        rw [Go.WideShapes.add_plain, hWc, Nat.zero_add]
        exact (hk2.cell j).trans hj)
      (fun j hj => by rw [hWc]; exact cell_some hk1 (by simp at hj; omega)) (fun j _ => by rw [hWf]; exact hk1.frozen _) (fun v hv => by simp at hv; subst hv; exact hp)
  have hap : Apart [g] w W1 := by
    rw [hW1]
    exact apart_setCells (fp := [g]) (g := g) (by simp) _ _ (Apart.refl _ _).drew
  have HF := Lib.hid (And.intro hk1 (And.intro hk1l (And.intro hap (And.intro hroom (And.intro hc (And.intro hL hB))))))
  rw [← hW1] at hcp1
  have HCP1 := Lib.hid hcp1
  have HCP2 := Lib.hid hcp2
  have HOV := Lib.hid hov
  have hin : i ≤ n := by omega
  have hb1 : (0 : Int) ≤ (i : Int) + 1 := by omega
  have htn : ((i : Int) + 1).toNat = i + 1 := by omega
  have hw1 : IntKind.i64.wrap ((i : Int) + 1) = (i : Int) + 1 := by rw [IntKind.wrap_i64]; omega
  have hne : ¬ ((i : Int) = (n : Int)) := by omega
  have hb2 : ¬ (c = i + 1) := by omega
  have hb3 : (i : Int) ≤ (n : Int) + 1 := by omega
  have hb4 : ¬ (c = i) := by omega
  clear hb hL h2 hi0 hz hs hby hsz hcp1 hcp2 hov hk1 hk1l hk2 hap hone hW1 hB hBl
  go_enter Try.func101, Try.ntmps101
  go_wp2_with (simp only [HOV.out])
  go_region_law_o (refine step_copy_runI rfl _ _ 86 86 rfl (.slice (some ⟨g, i + 1, none⟩) (n - i) (c - (i + 1))) (.slice (some ⟨g, i, none⟩) (n + 1 - i) (c - i)) (by simp [Act.eval, Act.put]) (by simp [Act.eval, Act.put]) (HCP1.out _ _ _) ?_)
  go_wp2_with (simp only [HCP2.out W1 (fun _ => rfl) (fun _ => rfl)])
  go_ret
  obtain ⟨q1, q2, q3, q4, q5, q6, q7⟩ := HF.out
  refine ⟨_, rfl, g, c, putAt (putAt L (i + 1) B) i [p], rfl, blk_setCells [p] i q1 (by simp; omega), by rw [putAt_len _ _ _ (by simp; omega)]; exact q2, q4, q5, ?_, .inl rfl, apart_setCells (by simp) _ _ q3⟩
  rw [← q7]
  exact shift_list L n i p hi (by omega)

set_option maxRecDepth 100000 in
set_option maxHeartbeats 4000000 in
/-- Ahead of the end, no room: a new row. -/
theorem ins_grow (own : Option Nat) (g n c i g2 : Nat) (cs : List Value) (p : Value) (w : World) (hcs : ∀ j v, cs[j]? = some v → w.cell? ⟨g, j, none⟩ = some v) (hcl : cs.length = n) (hi : i < n) (hnc : n ≤ c) (hn : n ≤ 1000) (hroom : c < n + 1) (h2 : Blk w g2 90 [p]) (hp : p.oneCell' = true) (hone : ∀ v ∈ cs, v.oneCell' = true) :
    Calls Try.prog 101 #[.slice (some ⟨g, 0, none⟩) n c, .int .i64 (i : Int), .slice (some ⟨g2, 0, none⟩) 1 1] w fun e w' => ∃ v', e = .returned v' ∧ InsRes w own n (cs.take i ++ p :: cs.drop i) v' w' := by
  obtain ⟨i0, hi0, hz, hs, hby⟩ := named_info
  have hsz : (Try.prog.info? 90).map (·.size) = some 1 := by rw [hi0]; simp [hs]
  obtain ⟨B, hB⟩ : ∃ B, cs.drop i = B := ⟨_, rfl⟩
  have hBl : B.length = n - i := by rw [← hB]; simp; omega
  have hbw : g < w.heap.size := block_lt_of_cell (hcs 0 _ (List.getElem?_eq_getElem (by omega)))
  have hg2w : g2 < w.heap.size := h2.lt
  have hkk : (n : Int) + 1 - (i : Int) = ((n + 1 - i : Nat) : Int) := by omega
  have hik : i + (n + 1 - i) = n + 1 := by omega
  have hold : (Builtin.firstCells i0.size i (.slice (some ⟨g, 0, none⟩) i c)).run Try.prog w.drew = .ok (cs.take i).toArray w.drew := by
    rw [hs]
    exact run_firstCells_some w.drew 1 i ⟨g, 0, none⟩ i c (cs.take i) (by rw [List.length_take]; omega) (fun j v hj => by
      rw [Go.WideShapes.add_plain, Nat.zero_add]
      rw [List.getElem?_take] at hj
      split at hj
      · exact hcs j v hj
      · cases hj)
  have hrz : ∀ ty, (Builtin.append_ #[86, 3] ty #[.slice (some ⟨g, 0, none⟩) i c, .int .i64 ((n : Int) + 1 - (i : Int))]).run Try.prog w =
      .ok (.slice (some ⟨w.heap.size, 0, none⟩) (n + 1) (grownCap w (n + 1) c 90)) (w.drew.alloc (.cells ((cs.take i).toArray ++ Builtin.zeroCells (Value.pointer none).cells (n + 1 - i) ++ Builtin.zeroCells (Value.pointer none).cells (grownCap w (n + 1) c 90 - (n + 1))) 90)) := fun ty => by
    have h := Lib.run_append_grow_zeros w 86 3 ty 90 i0 _ .i64 .i64 Try.underlying86 Try.underlying3 hi0 hz (some ⟨g, 0, none⟩) i c (cs.take i) hold (n + 1 - i) (by omega) (by omega) (by omega) (by omega) (by rw [hby]; omega) (by rw [hby, hik]; exact growslice_fits hroom (by omega))
    rw [hik] at h
    rw [hkk]
    exact h
  obtain ⟨G, hG⟩ : ∃ G, G = grownCap w (n + 1) c 90 := ⟨_, rfl⟩
  obtain ⟨ROW, hROW⟩ : ∃ ROW : List Value, ROW = cs.take i ++ (Builtin.zeroCells (Value.pointer none).cells (n + 1 - i)).toList ++ (Builtin.zeroCells (Value.pointer none).cells (G - (n + 1))).toList := ⟨_, rfl⟩
  rw [← hG] at hrz
  rw [show (cs.take i).toArray ++ Builtin.zeroCells (Value.pointer none).cells (n + 1 - i) ++ Builtin.zeroCells (Value.pointer none).cells (G - (n + 1)) = ROW.toArray by rw [hROW]; apply Array.ext'; simp] at hrz
  have hGn : n + 1 ≤ G := by rw [hG]; exact grownCap_ge w _ _ _
  have hGm : G ≤ maxLen := by rw [hG]; exact grownCap_le_maxLen w (n + 1) c 90 (by unfold maxLen; omega)
  have hG63 : G ≤ 9223372036854775807 := by
    unfold maxLen at hGm
    omega
  have hRl : ROW.length = G := by
    rw [hROW]
    simp [Builtin.zeroCells, Value.cells]
    omega
  have hRA : ROW.take i = cs.take i := by
    rw [hROW, List.append_assoc]
    exact List.take_left' (by simp; omega)
  obtain ⟨W1, hW1⟩ : ∃ W1, W1 = w.drew.alloc (.cells ROW.toArray 90) := ⟨_, rfl⟩
  rw [← hW1] at hrz
  have hk0 : Blk W1 w.heap.size 90 ROW := by rw [hW1]; exact blk_new w.drew _ _
  have hap0 : Apart [w.heap.size] w W1 := by rw [hW1]; exact (Apart.refl _ _).drew.alloc _
  have hk2 : Blk W1 g2 90 [p] := (hap0.block g2 hg2w (by simp; omega)).trans h2
  have hkg : ∀ j v, cs[j]? = some v → W1.cell? ⟨g, j, none⟩ = some v := fun j v h => by rw [hW1, World.cell?_alloc_past (w := w.drew) _ g j hbw]; exact hcs j v h
  have hcpA : ∀ (W : World), (∀ x, W.cell? x = W1.cell? x) → (∀ x, W.frozen? x = W1.frozen? x) → ∀ ty dc, (Builtin.copy_ #[86, 85] ty #[.slice (some ⟨w.heap.size, i, none⟩) (n + 1 - i) dc, .slice (some ⟨g2, 0, none⟩) 1 1]).run Try.prog W = .ok (goInt 1) (W.setCells w.heap.size i [p]) := fun W hWc hWf ty dc =>
    run_copy_cells W _ _ ty 90 w.heap.size i (n + 1 - i) dc ⟨g2, 0, none⟩ 1 1 [p] Try.underlying86 hsz (by simp only [Nat.min_def, List.length_singleton]; split <;> omega)
      (fun j v hj => by rw [Go.WideShapes.add_plain, hWc, Nat.zero_add]; exact (hk2.cell j).trans hj)
      (fun j hj => by rw [hWc]; exact cell_some hk0 (by simp at hj; omega)) (fun j _ => by rw [hWf]; exact hk0.frozen _) (fun v hv => by simp at hv; subst hv; exact hp)
  obtain ⟨W2, hW2⟩ : ∃ W2, W2 = W1.setCells w.heap.size i [p] := ⟨_, rfl⟩
  have hk3 : Blk W2 w.heap.size 90 (putAt ROW i [p]) := by rw [hW2]; exact blk_setCells [p] i hk0 (by simp; omega)
  have hap2 : Apart [w.heap.size] w W2 := by rw [hW2]; exact apart_setCells (fp := [w.heap.size]) (g := w.heap.size) (by simp) _ _ hap0
  have hkg2 : ∀ j v, cs[j]? = some v → W2.cell? ⟨g, j, none⟩ = some v := fun j v h => by
    rw [hW2, World.cell?_setCells_out _ _ _ _ _ (fun h' _ => absurd h' (by show g ≠ w.heap.size; omega))]
    exact hkg j v h
  have hpl : (putAt ROW i [p]).length = G := by rw [putAt_len _ _ _ (by simp; omega)]; exact hRl
  have hcpB : ∀ (W : World), (∀ x, W.cell? x = W2.cell? x) → (∀ x, W.frozen? x = W2.frozen? x) → ∀ ty dc sc, (Builtin.copy_ #[86, 86] ty #[.slice (some ⟨w.heap.size, i + 1, none⟩) (n - i) dc, .slice (some ⟨g, i, none⟩) (n - i) sc]).run Try.prog W = .ok (goInt B.length) (W.setCells w.heap.size (i + 1) B) := fun W hWc hWf ty dc sc =>
    run_copy_cells W _ _ ty 90 w.heap.size (i + 1) (n - i) dc ⟨g, i, none⟩ (n - i) sc B Try.underlying86 hsz (by rw [hBl]; simp only [Nat.min_def]; split <;> omega)
      (fun j v hj => by
        rw [Go.WideShapes.add_plain, hWc]
        exact hkg2 (i + j) v (by rw [← hB, List.getElem?_drop] at hj; exact hj))
      (fun j hj => by rw [hWc]; exact cell_some hk3 (by omega)) (fun j _ => by rw [hWf]; exact hk3.frozen _) (fun v hv => hone v (List.mem_of_mem_drop (hB ▸ hv)))
  have hF0 : (Blk W2 w.heap.size 90 (putAt ROW i [p])) ∧ Apart [w.heap.size] w W2 ∧ (putAt ROW i [p]).length = G ∧ ROW.length = G ∧ ROW.take i = cs.take i ∧ B.length = n - i ∧ cs.drop i = B ∧ G ≤ maxLen := ⟨hk3, hap2, hpl, hRl, hRA, hBl, hB, hGm⟩
  have HF := Lib.hid hF0
  have HRZ := Lib.hid hrz
  have HCPA := Lib.hid hcpA
  have HCPB := Lib.hid hcpB
  have mixed : Try.prog.follows .mixedOrders = true := by kernel_rfl
  have hne : ¬ ((i : Int) = (n : Int)) := by omega
  have hz3 : (c : Int) < (n : Int) + 1 := by omega
  have hGi : ¬ (G = i) := by omega
  have hGim : ¬ (G = i + 1) := by omega
  have hci : ¬ (c = i) := by omega
  have hw1 : IntKind.i64.wrap ((i : Int) + 1) = (i : Int) + 1 := by rw [IntKind.wrap_i64]; omega
  have hb1 : (0 : Int) ≤ (i : Int) + 1 := by omega
  have hin : i ≤ n := by omega
  have htn : ((i : Int) + 1).toNat = i + 1 := by omega
  have hb3 : (i : Int) ≤ (n : Int) := by omega
  subst hW2
  clear hW1 hi0 hz hs hby hsz hBl hbw hg2w hkk hik hold hrz hG hROW hGm hRl hRA hk0 hap0 hk2 hkg hcpA hk3 hap2 hkg2 hpl hcpB hF0 hone hcs h2 hB
  go_enter Try.func101, Try.ntmps101
  go_wp2_with (first
    | (at_builtin; refine Lib.wpList_append_run _ rfl _ _ _ _ rfl _ _ rfl rfl _ _ (HRZ.out _) ?_)
    | (simp only [HCPA.out W1 (fun _ => rfl) (fun _ => rfl)]))
  go_region_law_o (refine step_copy_runI rfl _ _ 86 86 rfl (.slice (some ⟨w.heap.size, i + 1, none⟩) (n - i) (G - (i + 1))) (.slice (some ⟨g, i, none⟩) (n - i) (c - i)) (by simp [Act.eval, Act.put]) (by simp [Act.eval, Act.put]) (HCPB.out (W1.setCells w.heap.size i [p]).drew (fun _ => rfl) (fun _ => rfl) _ _ _) ?_)
  go_wp2
  go_ret
  obtain ⟨q1, q2, q3, q4, q5, q6, q7, q8⟩ := HF.out
  refine ⟨_, rfl, w.heap.size, G, putAt (putAt ROW i [p]) (i + 1) B, rfl, blk_setCells B (i + 1) (Blk.drew q1) (by omega), by rw [putAt_len _ _ _ (by omega)]; exact q3, by omega, q8, ?_, .inr rfl, apart_setCells (by simp) _ _ q2.drew⟩
  rw [q7]
  exact grow_list ROW _ B n i p hi (by omega) q5 q6

/-! ### Insert, as data -/
theorem flat_one : ∀ (cs : List Value), (cs.map fun c => [c]).flatten = cs
  | [] => rfl
  | c :: r => by rw [List.map_cons, List.flatten_cons, flat_one r]; rfl

theorem insert_ (base : Nat) (v : Value) (l : List FileD) (i : Nat) (y : FileD) (g g2 : Nat) (wr w : World) (hG : Grows 1 RNamed 90 base wr v l) (hb : Below wr.heap.size wr w) (hi : i ≤ l.length) (hn : l.length ≤ 1000)
    (h2 : Blk w g2 90 [.pointer (some ⟨g, 0, none⟩)]) (hy : Blk w g 101 (Named.list y)) (hg : wr.heap.size ≤ g) (hg2 : wr.heap.size ≤ g2) (hne : g2 ≠ g) (hbase : base ≤ wr.heap.size) :
    Calls Try.prog 101 #[v, .int .i64 (i : Int), .slice (some ⟨g2, 0, none⟩) 1 1] w fun e w' => ∃ v', e = .returned v' ∧ Grows 1 RNamed 90 base w' v' (l.take i ++ y :: l.drop i) ∧ Below base w w' := by
  have hlt := hG.lt
  obtain ⟨css, F, e1, e2, e3, e4, e5, e6, hown⟩ := hG.ex
  have hws := hb.size
  obtain ⟨cs, hcs⟩ : ∃ cs, css.flatten = cs := ⟨_, rfl⟩
  have hcl : cs.length = l.length := by rw [← hcs, hown.1]; omega
  have hP : ∀ (j : Nat) x u f, l[j]? = some x → cs[j]? = some u → F[j]? = some f → ∃ b, u = .pointer (some ⟨b, 0, none⟩) ∧ Blk w b 101 (Named.list x) ∧ f = [b] := by
    intro j x u f hx hu hf
    have hj : j < css.length := by rw [e1]; exact (List.getElem?_eq_some_iff.1 hx).1
    obtain ⟨b, hc, hk, hfb⟩ := local_Named.keep (e4 j x _ f hx (List.getElem?_eq_getElem hj) hf) (w' := w) (fun b hbm => hb.block b (e6 b (mem_flatten_of hf hbm)).2.1.lt)
    have := flat_get e3 (List.getElem?_eq_getElem hj) 0 (by omega)
    rw [hcs, hc, Nat.mul_one, Nat.add_zero, hu] at this
    simp at this
    exact ⟨b, this, hk, hfb⟩
  have hone : ∀ u ∈ cs, u.oneCell' = true := by
    intro u hu
    obtain ⟨j, hj, rfl⟩ := List.getElem_of_mem hu
    obtain ⟨b, hb', _⟩ := hP j _ _ _ (List.getElem?_eq_getElem (by omega)) (List.getElem?_eq_getElem hj) (List.getElem?_eq_getElem (show j < F.length by omega))
    rw [hb']
    rfl
  have hFw : ∀ b ∈ F.flatten, base ≤ b ∧ Wr w b ∧ v.ownBlock ≠ some b ∧ b < wr.heap.size := fun b hbm => ⟨(e6 b hbm).1, (e6 b hbm).2.1.same (hb.block b (e6 b hbm).2.1.lt), (e6 b hbm).2.2, (e6 b hbm).2.1.lt⟩
  have hw0 : cs.length = l.length := hcl
  have hdone : ∀ (e : Ending) (w' : World), (∃ v', e = .returned v' ∧ InsRes w v.ownBlock l.length (cs.take i ++ .pointer (some ⟨g, 0, none⟩) :: cs.drop i) v' w') → ∃ v', e = .returned v' ∧ Grows 1 RNamed 90 base w' v' (l.take i ++ y :: l.drop i) ∧ Below base w w' := by
    rintro e w' ⟨v', rfl, g', c', L', rfl, hk', hL', hc1, hc2, htk, hwhere, hap⟩
    have hgb : base ≤ g' := by
      rcases hwhere with h | h
      · exact (hlt g' h).1
      · have := hb.size; omega
    have hFg : ∀ b ∈ F.flatten, b ≠ g' := by
      intro b hbm
      rcases hwhere with h | h
      · intro e; subst e; exact (hFw b hbm).2.2.1 h
      · have := (hFw b hbm).2.1.lt; omega
    have hgg : g ≠ g' := by
      rcases hwhere with h | h
      · have := (hlt g' h).2; omega
      · have := hy.lt; omega
    have hgF : g ∉ F.flatten := fun hm => by
      have := (hFw g hm).2.2.2
      omega
    have hperm : (F.take i ++ [g] :: F.drop i).flatten.Perm (g :: F.flatten) := by
      have := List.Perm.flatten (List.perm_middle (a := [g]) (l₁ := F.take i) (l₂ := F.drop i))
      rw [List.take_append_drop] at this
      exact this
    refine ⟨_, rfl, ?_, hap.below (lo := base) (fun c hc => by simp at hc; subst hc; exact hgb) (Nat.le_trans hbase hb.size)⟩
    refine ⟨(cs.take i ++ .pointer (some ⟨g, 0, none⟩) :: cs.drop i).map (fun c => [c]), F.take i ++ [g] :: F.drop i, ?_, ?_, fun c hc => by obtain ⟨u, _, rfl⟩ := List.mem_map.1 hc; rfl, ?_, ?_, ?_, ?_⟩
    · rw [List.length_map, ins_len _ _ _ (by omega), ins_len _ _ _ hi, hcl]
    · rw [ins_len _ _ _ (by omega), ins_len _ _ _ hi, e2]
    · intro j x c f hx hc hf
      rw [List.getElem?_map] at hc
      obtain ⟨u, hu, rfl⟩ := Option.map_eq_some_iff.1 hc
      have := ins3 (Q := fun x u f => ∃ b, u = .pointer (some ⟨b, 0, none⟩) ∧ Blk w' b 101 (Named.list x) ∧ f = [b]) hi hcl e2 hP (fun x u f hf hp => by
        obtain ⟨b, h1, h2', h3⟩ := hp
        have hbm : b ∈ F.flatten := List.mem_flatten.2 ⟨f, hf, by simp [h3]⟩
        exact ⟨b, h1, (hap.block b h2'.lt (by simpa using hFg b hbm)).trans h2', h3⟩) ⟨g, rfl, (hap.block g hy.lt (by simpa using hgg)).trans hy, rfl⟩ j x u f hx hu hf
      obtain ⟨b, h1, h2', h3⟩ := this
      exact ⟨b, by rw [h1], h2', h3⟩
    · rw [hperm.nodup_iff]
      exact List.nodup_cons.2 ⟨hgF, e5⟩
    · intro b hbm
      have hb2 : b = g ∨ b ∈ F.flatten := List.mem_cons.1 (hperm.mem_iff.1 hbm)
      have hne' : ∀ b, b ≠ g' → (Value.slice (some ⟨g', 0, none⟩) (l.length + 1) c').ownBlock ≠ some b := fun b h e => by
        simp [Value.ownBlock] at e
        exact h e.symm
      rcases hb2 with rfl | hb2
      · exact ⟨by omega, Wr.same ⟨_, _, hy⟩ (hap.block b hy.lt (by simpa using hgg)), hne' _ hgg⟩
      · exact ⟨(hFw b hb2).1, (hFw b hb2).2.1.same (hap.block b (hFw b hb2).2.1.lt (by simpa using hFg b hb2)), hne' _ (hFg b hb2)⟩
    · rw [flat_one]
      refine ⟨?_, .inr ⟨g', c', L'.toArray, ?_, hgb, hk', ?_, hc2, ?_, ?_⟩⟩
      · rw [ins_len _ _ _ (by omega), ins_len _ _ _ hi, hcl]; omega
      · rw [ins_len _ _ _ hi]
      · rw [ins_len _ _ _ hi]; exact hc1
      · simp [hL']
      · rw [ins_len _ _ _ hi, Nat.mul_one]; exact htk
  have hp : (Value.pointer (some ⟨g, 0, none⟩)).oneCell' = true := rfl
  rcases hown.2 with ⟨rfl, h0⟩ | ⟨g0, cap, cur, rfl, hbg, hh, hnc, hcm, hsz, htk⟩
  · obtain rfl : l = [] := List.length_eq_zero_iff.1 h0
    obtain rfl : cs = [] := List.length_eq_zero_iff.1 hcl
    obtain rfl : i = 0 := by simpa using hi
    exact (ins_end_grow none _ 0 0 g2 [] _ w (by omega) (by omega) (by omega) rfl (fun a h => by cases h) (fun a h => by cases h) (fun _ => rfl) h2 hp).mono hdone
  · obtain ⟨L, hL⟩ : ∃ L, cur = L.toArray := ⟨cur.toList, rfl⟩
    subst hL
    have hLl : L.length = cap := by simpa using hsz
    have hbk : Blk w g0 90 L := (hb.block g0 (Array.getElem?_eq_some_iff.1 hh).1).trans hh
    have htk' : L.take l.length = cs := by rw [← hcs, ← htk]; simp
    have hg0 : g0 < wr.heap.size := (Array.getElem?_eq_some_iff.1 hh).1
    have hg20 : g2 ≠ g0 := by omega
    have hcells : ∀ j u, cs[j]? = some u → w.cell? ⟨g0, j, none⟩ = some u := fun j u hu => by
      rw [← htk', List.getElem?_take] at hu
      split at hu
      · exact (hbk.cell j).trans hu
      · cases hu
    by_cases hin : i = l.length
    · subst hin
      have hend : cs ++ [.pointer (some ⟨g, 0, none⟩)] = cs.take l.length ++ .pointer (some ⟨g, 0, none⟩) :: cs.drop l.length := by
        rw [← hcl, List.take_length, List.drop_length]
      rw [← hend] at hdone
      by_cases hroom : l.length + 1 ≤ cap
      · rw [← htk'] at hdone
        exact (ins_end_room g0 l.length cap g2 L _ w hbk hLl hroom hcm h2 hp).mono hdone
      · exact (ins_end_grow (some ⟨g0, 0, none⟩) _ l.length cap g2 cs _ w hn hnc (by omega) hcl (fun a ha _ j u hu => by cases ha; rw [Go.WideShapes.add_plain, Nat.zero_add]; exact hcells j u hu) (fun a ha => by cases ha; rfl) (fun h => by cases h) h2 hp).mono hdone
    · by_cases hroom : l.length + 1 ≤ cap
      · rw [← htk'] at hdone
        exact (ins_shift g0 l.length cap i g2 L _ w hbk hLl (by omega) hroom hcm h2 hg20 hp (by rw [htk']; exact hone)).mono hdone
      · exact (ins_grow _ g0 l.length cap i g2 cs _ w hcells hcl (by omega) hnc hn (by omega) h2 hp hone).mono hdone
end Go.Proofs.Ytoglclmaacjdaaa.dat
