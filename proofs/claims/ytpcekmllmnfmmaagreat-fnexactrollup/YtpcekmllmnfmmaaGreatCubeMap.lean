/-
  A MAP OF THE PROGRAM THAT IS KEYED BY CELLS, IN MEMORY: what it holds is a function of cells; look, lay, delete, range.
-/
import Derived.Test.YtpcekmllmnfmmaaGreatDataPanes
import Derived.Maps.OwnSet
import Derived.Maps.RangeWalk
import Derived.DeepKeys4
namespace Go.Proofs.YtpcekmllmnfmmaaGreat.dat
open Go.RowKit Go.Proofs.YtpcekmllmnfmmaaGreat.win Go.Maps

structure CellD where
  win : Int
  mask : Int
  start : Int
  d0 : Int
  d1 : Int
  d2 : Int
theorem CellD.eq_iff (a b : CellD) : (a.win = b.win ∧ a.mask = b.mask ∧ a.start = b.start ∧ a.d0 = b.d0 ∧ a.d1 = b.d1 ∧ a.d2 = b.d2) ↔ a = b := by
  cases a; cases b; simp
instance : DecidableEq CellD := fun a b => decidable_of_iff _ (CellD.eq_iff a b)
def Cell.list (x : CellD) : List Value := [.int .i64 x.win, .int .i64 x.mask, .int .i64 x.start, .int .i64 x.d0, .int .i64 x.d1, .int .i64 x.d2]
def Cell.lits (x : CellD) : List Lit := [.int .i64 x.win, .int .i64 x.mask, .int .i64 x.start, .int .i64 x.d0, .int .i64 x.d1, .int .i64 x.d2]
def Cell.v (x : CellD) : Value := .agg (Cell.list x).toArray
def Cell.Wf (x : CellD) : Prop := (Lit.int .i64 x.win).wf = true ∧ (Lit.int .i64 x.mask).wf = true ∧ (Lit.int .i64 x.start).wf = true ∧ (Lit.int .i64 x.d0).wf = true ∧ (Lit.int .i64 x.d1).wf = true ∧ (Lit.int .i64 x.d2).wf = true
def Cell.lit (x : CellD) : Lit := .string (keyBytes (Cell.lits x))
theorem cell_v_inj {x y : CellD} (h : Cell.v x = Cell.v y) : x = y := by
  cases x; cases y
  simp [Cell.v, Cell.list] at h
  obtain ⟨h1, h2, h3, h4, h5, h6⟩ := h
  subst h1 h2 h3 h4 h5 h6
  rfl

theorem law_cell : Keyed Tryz.prog 72 := Keyed.of_law (deep_law (m := 4) (by omega) (by kernel_rfl) (by kernel_rfl) (by kernel_rfl))
theorem keyT_cell : Tryz.prog.keyType 72 = true := by kernel_rfl
theorem cells_cell : Tryz.prog.cellsOf 72 = 6 := by kernel_rfl
theorem cells_int : Tryz.prog.cellsOf 3 = 1 := by kernel_rfl
theorem cells_three : Tryz.prog.cellsOf 70 = 3 := by kernel_rfl
theorem five_types : ∃ m, Tryz.prog.types.size = m + 5 := by
  have h : 5 ≤ Tryz.prog.types.size := of_decide_eq_true (by kernel_rfl)
  exact ⟨Tryz.prog.types.size - 5, by omega⟩
set_option maxRecDepth 100000 in
theorem lits_int (d : Nat) (n : Int) : Tryz.prog.keyLits (d + 1) 3 [.int .i64 n] = if (Lit.int .i64 n).wf = true then some [.int .i64 n] else none := by
  simp [Program.keyLits, Tryz.underlying3]
set_option maxRecDepth 100000 in
theorem lits_int_inv {d : Nat} {v : Value} {l : List Lit} (h : Tryz.prog.keyLits (d + 1) 3 [v] = some l) : ∃ n, v = .int .i64 n ∧ (Lit.int .i64 n).wf = true ∧ l = [.int .i64 n] := by
  unfold Program.keyLits at h
  rw [Tryz.underlying3] at h
  cases v <;> simp at h
  obtain ⟨⟨rfl, hw⟩, rfl⟩ := h
  exact ⟨_, rfl, hw, rfl⟩
set_option maxRecDepth 100000 in
theorem lits_three (d : Nat) (a b c : Value) : Tryz.prog.keyLits (d + 2) 70 [a, b, c] = (do let x ← Tryz.prog.keyLits (d + 1) 3 [a]; let y ← Tryz.prog.keyLits (d + 1) 3 [b]; let z ← Tryz.prog.keyLits (d + 1) 3 [c]; some (x ++ (y ++ z))) := by
  rw [Program.keyLits.eq_def]
  simp only [Tryz.underlying70, cells_three, cells_int]
  simp [List.range_succ, List.mapM_cons]
  cases Tryz.prog.keyLits (d + 1) 3 [a] <;> cases Tryz.prog.keyLits (d + 1) 3 [b] <;> cases Tryz.prog.keyLits (d + 1) 3 [c] <;> simp
set_option maxRecDepth 100000 in
theorem lits_cell (d : Nat) (v0 v1 v2 v3 v4 v5 : Value) : Tryz.prog.keyLits (d + 3) 72 [v0, v1, v2, v3, v4, v5] = (do let a ← Tryz.prog.keyLits (d + 2) 3 [v0]; let b ← Tryz.prog.keyLits (d + 2) 3 [v1]; let c ← Tryz.prog.keyLits (d + 2) 3 [v2]; let e ← Tryz.prog.keyLits (d + 2) 70 [v3, v4, v5]; some (a ++ (b ++ (c ++ e)))) := by
  rw [Program.keyLits.eq_def]
  simp only [Tryz.underlying72, cells_cell]
  simp [cells_int, cells_three, List.mapM_cons]
  cases Tryz.prog.keyLits (d + 2) 3 [v0] <;> cases Tryz.prog.keyLits (d + 2) 3 [v1] <;> cases Tryz.prog.keyLits (d + 2) 3 [v2] <;> cases Tryz.prog.keyLits (d + 2) 70 [v3, v4, v5] <;> simp
set_option maxRecDepth 100000 in
theorem key_cell {x : CellD} (h : Cell.Wf x) : keyOf Tryz.prog 72 (Cell.v x) = some (Cell.lit x) := by
  obtain ⟨m, hm⟩ := five_types
  obtain ⟨h0, h1, h2, h3, h4, h5⟩ := h
  unfold keyOf
  simp only [Tryz.underlying72]
  rw [keyT_cell, show (Cell.v x).formed Tryz.prog 72 = true by simp [Cell.v, Cell.list, Value.formed, Tryz.underlying72, cells_cell], Bool.and_self, if_pos rfl, hm]
  show Option.map _ (Tryz.prog.keyLits (m + 3 + 3) 72 [_, _, _, _, _, _]) = _
  rw [lits_cell, lits_int, lits_int, lits_int, lits_three, lits_int, lits_int, lits_int]
  simp [h0, h1, h2, h3, h4, h5, Cell.lit, Cell.lits]
set_option maxRecDepth 100000 in
theorem key_inv {v : Value} {kl : Lit} (h : keyOf Tryz.prog 72 v = some kl) : ∃ x, v = Cell.v x ∧ Cell.Wf x ∧ kl = Cell.lit x := by
  obtain ⟨m, hm⟩ := five_types
  have h' := h
  unfold keyOf at h
  simp only [Tryz.underlying72] at h
  split at h
  · rename_i hc
    simp only [Bool.and_eq_true] at hc
    have hf := hc.2
    cases v <;> simp [Value.formed, Tryz.underlying72, cells_cell] at hf
    rename_i cs
    obtain ⟨l⟩ := cs
    match l, hf with
    | [v0, v1, v2, v3, v4, v5], _ =>
      rw [hm] at h
      have h : Option.map (fun ls => Lit.string (keyBytes ls)) (Tryz.prog.keyLits (m + 3 + 3) 72 [v0, v1, v2, v3, v4, v5]) = some kl := h
      rw [lits_cell, lits_three] at h
      simp only [Option.map_eq_some_iff, Option.bind_eq_bind, Option.bind_eq_some_iff] at h
      obtain ⟨ls, ⟨a, ha, b, hb, c, hc', e, ⟨x, hx, y, hy, z, hz, he⟩, hls⟩, rfl⟩ := h
      obtain ⟨n0, rfl, w0, rfl⟩ := lits_int_inv ha
      obtain ⟨n1, rfl, w1, rfl⟩ := lits_int_inv hb
      obtain ⟨n2, rfl, w2, rfl⟩ := lits_int_inv hc'
      obtain ⟨n3, rfl, w3, rfl⟩ := lits_int_inv hx
      obtain ⟨n4, rfl, w4, rfl⟩ := lits_int_inv hy
      obtain ⟨n5, rfl, w5, rfl⟩ := lits_int_inv hz
      cases he
      cases hls
      exact ⟨⟨n0, n1, n2, n3, n4, n5⟩, rfl, ⟨w0, w1, w2, w3, w4, w5⟩, rfl⟩
  · cases h
theorem lit_inj {x y : CellD} (hx : Cell.Wf x) (hy : Cell.Wf y) (h : Cell.lit x = Cell.lit y) : x = y := by
  have h1 := key_cell hx
  have h2 := key_cell hy
  rw [← h] at h2
  exact cell_v_inj (law_cell.inj h1 h2)
theorem lit_same {x y : CellD} (hx : Cell.Wf x) (hy : Cell.Wf y) : (Cell.lit x).sameKey (Cell.lit y) = decide (x = y) := by
  by_cases h : x = y
  · subst h; simp; exact WideAt.sameKey_self (law_cell.key (key_cell hx))
  · rw [decide_eq_false h]; exact sameKey_ne fun e => h (lit_inj hx hy e)

/-- A kind of maps: what its elements are. -/
structure MapK (ε : Type) where
  T : TypeId
  E : TypeId
  und : Tryz.prog.underlying T = some (.map 72 E)
  v : ε → Value
  d : ε → DataW Unit
  R : Value → Option (DataW Unit × List MemPlace)
  made : ∀ a, R (v a) = some (d a, [])
  inv : ∀ {x y}, R x = some y → ∃ a, x = v a ∧ y = (d a, [])
  dinj : ∀ {a b}, d a = d b → a = b
  zero : ε
  hz : ∀ w, (zeroValue E).run Tryz.prog w = .ok (v zero) w
def Tells {ε : Type} (M : MapK ε) (D : DataW Unit) (F : CellD → Option ε) : Prop :=
  (∀ x, Cell.Wf x → ∀ z, D.atKey (Cell.lit x) z = match F x with | some a => M.d a | none => z) ∧ ∀ x, F x ≠ none → Cell.Wf x
/-- BLOCK b OF w IS A MAP OF AT MOST n ENTRIES THAT HOLDS F. -/
def MapAt {ε : Type} (M : MapK ε) (w : World) (b n : Nat) (F : CellD → Option ε) : Prop := ∃ D : DataW Unit, w.ownsMap Tryz.prog 72 M.R b n D ∧ Tells M D F
def upd {ε : Type} (F : CellD → Option ε) (k : CellD) (o : Option ε) : CellD → Option ε := fun x => if x = k then o else F x

section
variable {ε : Type} {M : MapK ε} {w : World} {b n : Nat} {F : CellD → Option ε}
theorem MapAt.made (M : MapK ε) (w : World) : MapAt M (w.alloc (.map #[] 0)) w.heap.size 0 fun _ => none :=
  ⟨.map [], World.ownsMap_made _ _ _ _, fun _ _ _ => rfl, fun _ h => absurd rfl h⟩
theorem MapAt.same {w' : World} (h : MapAt M w b n F) (e : w'.heap[b]? = w.heap[b]?) : MapAt M w' b n F := by
  obtain ⟨D, ⟨es, clock, hb, r⟩, t⟩ := h
  exact ⟨D, ⟨es, clock, e.trans hb, r⟩, t⟩
theorem MapAt.lt (h : MapAt M w b n F) : b < w.heap.size := by obtain ⟨D, h, _⟩ := h; exact h.lt
theorem MapAt.mono (h : MapAt M w b n F) {m : Nat} (hm : n ≤ m) : MapAt M w b m F := by obtain ⟨D, h, t⟩ := h; exact ⟨D, h.mono hm, t⟩
theorem MapAt.below {w' : World} (h : MapAt M w b n F) (hb : Below w.heap.size w w') : MapAt M w' b n F := h.same (hb.block b h.lt)
theorem MapAt.wf (h : MapAt M w b n F) {x : CellD} {a : ε} (hx : F x = some a) : Cell.Wf x := by
  obtain ⟨D, _, _, t⟩ := h; exact t x (by rw [hx]; simp)
theorem Tells.has {D : DataW Unit} (t : Tells M D F) {x : CellD} (hx : Cell.Wf x) : Maps.has D (Cell.lit x) = (F x).isSome := by
  cases h : F x with
  | none => exact has_false_of_atKey fun z => by rw [t.1 x hx, h]
  | some a => exact has_true_of_atKey (y := M.d a) fun z => by rw [t.1 x hx, h]
theorem Tells.put {D : DataW Unit} (t : Tells M D F) (hD : IsMap D) {k : CellD} (hk : Cell.Wf k) (a : ε) : Tells M (D.put (Cell.lit k) (M.d a)) (upd F k (some a)) := by
  refine ⟨fun x hx z => ?_, fun x h => ?_⟩
  · unfold upd
    by_cases e : x = k
    · subst e; rw [if_pos rfl, atKey_put_same hD (law_cell.key (key_cell hx))]
    · rw [if_neg e, atKey_put_other (fun h => e (lit_inj hx hk h)), t.1 x hx]
  · unfold upd at h
    by_cases e : x = k
    · rw [e]; exact hk
    · rw [if_neg e] at h; exact t.2 x h
theorem Tells.del {D : DataW Unit} (t : Tells M D F) {k : CellD} (hk : Cell.Wf k) : Tells M (D.del (Cell.lit k)) (upd F k none) := by
  refine ⟨fun x hx z => ?_, fun x h => ?_⟩
  · unfold upd
    by_cases e : x = k
    · subst e; rw [if_pos rfl, atKey_del_same]
    · rw [if_neg e, atKey_del_other (fun h => e (lit_inj hx hk h)), t.1 x hx]
  · unfold upd at h
    by_cases e : x = k
    · rw [e]; exact hk
    · rw [if_neg e] at h; exact t.2 x h
end

section
variable {ε : Type} (M : MapK ε) (w : World) {ops : Array Oper} {rest : List Oper} {o : Oper} {a : Act} {Q : Exit → Act → World → Prop}
/-- 'm[k]'. -/
theorem look_map (hg : o.guard = none) (m x : Operand) (t : TypeId) (hop : o.op = Op.lookup t m x false) (ht : t = M.T) (b n : Nat) (F : CellD → Option ε) (hm : a.eval m = .map (some b)) (hown : MapAt M w b n F) (k : CellD) (hx : a.eval x = Cell.v k) (hk : Cell.Wf k)
    (hK : wpList Tryz.prog ops Q rest (a.put o.dst (M.v ((F k).getD M.zero))) w) : wpList Tryz.prog ops Q (o :: rest) a w := by
  subst ht
  refine wpList_plain hg fun K' hK' => ?_
  obtain ⟨D, h, t1, t2⟩ := hown
  obtain ⟨v, ps, hrun, hv⟩ := h.lookup law_cell M.und (M.hz w) (M.made M.zero) (key_cell hk)
  obtain ⟨c, rfl, hc⟩ := M.inv hv
  rw [t1 k hk] at hc
  have e : c = (F k).getD M.zero := by
    cases hF : F k with
    | none => rw [hF] at hc; exact M.dinj (congrArg Prod.fst hc).symm
    | some a => rw [hF] at hc; exact M.dinj (congrArg Prod.fst hc).symm
  unfold Oper.wp
  simp [execOp, hop, hm, hx, hrun, Result.andThen]
  rw [e]
  exact hK' _ _ hK
/-- 'm[k] = v'. -/
theorem lay_map (hg : o.guard = none) (m x v : Operand) (t : TypeId) (hop : o.op = Op.mapUpdate t m x v) (ht : t = M.T) (b n : Nat) (F : CellD → Option ε) (hm : a.eval m = .map (some b)) (hown : MapAt M w b n F) (hn : n < 9000000) (k : CellD) (hx : a.eval x = Cell.v k) (hk : Cell.Wf k) (c : ε) (hv : a.eval v = M.v c)
    (hK : ∀ w', MapAt M w' b (n + 1) (upd F k (some c)) → w.grownBy w' (some b) → w'.heap.size = w.heap.size → w'.drawn = w.drawn → wpList Tryz.prog ops Q rest (a.put o.dst undef) w') : wpList Tryz.prog ops Q (o :: rest) a w := by
  subst ht
  refine wpList_plain hg fun K' hK' => ?_
  obtain ⟨D, h, t⟩ := hown
  obtain ⟨w', hrun, r1, r2⟩ := h.store law_cell M.und (by unfold maxLen; omega) (key_cell hk) (M.made c)
  unfold Oper.wp
  simp [execOp, hop, hm, hx, hv, hrun, Result.andThen]
  refine hK' _ _ (hK w' ⟨_, r1, t.put h.isMap hk c⟩ r2.grown ?_ ?_)
  · obtain ⟨_, _, _, _, _, rfl⟩ := r2; simp [ChangeMaps.setBlock]
  · obtain ⟨_, _, _, _, _, rfl⟩ := r2; simp [ChangeMaps.setBlock]
/-- 'delete(m, k)'. -/
theorem drop_map (hg : o.guard = none) (m x : Operand) (t k0 : TypeId) (hop : o.op = Op.call { callee := Callee.builtin Builtin.delete, args := #[m, x], argTypes := #[t, k0] }) (ht : t = M.T) (hk0 : k0 = 72) (b n : Nat) (F : CellD → Option ε) (hm : a.eval m = .map (some b)) (hown : MapAt M w b n F) (k : CellD) (hx : a.eval x = Cell.v k) (hk : Cell.Wf k)
    (hK : ∀ w', MapAt M w' b n (upd F k none) → w.grownBy w' (some b) → w'.heap.size = w.heap.size → w'.drawn = w.drawn → wpList Tryz.prog ops Q rest (a.put o.dst (.tuple #[])) w') : wpList Tryz.prog ops Q (o :: rest) a w := by
  subst ht hk0
  refine wpList_plain hg fun K' hK' => ?_
  obtain ⟨D, h, t⟩ := hown
  obtain ⟨w', hrun, r1, r2⟩ := h.drop law_cell M.und (key_cell hk) o.type
  unfold Oper.wp
  simp [execOp, hop, resolve, invoke, builtin, hm, hx, hrun, Result.andThen]
  refine hK' _ _ (hK w' ⟨_, r1, t.del hk⟩ r2.grown ?_ ?_)
  · obtain ⟨_, _, _, _, _, rfl⟩ := r2; simp [ChangeMaps.setBlock]
  · obtain ⟨_, _, _, _, _, rfl⟩ := r2; simp [ChangeMaps.setBlock]
/-- 'len(m)'. -/
theorem len_map (hg : o.guard = none) (m : Operand) (t : TypeId) (hop : o.op = Op.call { callee := Callee.builtin Builtin.len, args := #[m], argTypes := #[t] }) (ht : t = M.T) (b n : Nat) (F : CellD → Option ε) (hm : a.eval m = .map (some b)) (hown : MapAt M w b n F)
    (hK : ∀ s : Nat, s ≤ n → wpList Tryz.prog ops Q rest (a.put o.dst (.int .i64 s)) w) : wpList Tryz.prog ops Q (o :: rest) a w := by
  subst ht
  obtain ⟨D, h, t⟩ := hown
  exact wpList_len_own w hg m M.T hop 72 M.E M.und M.R b n D hm h (hK _ h.size_le)

/-- 'for k, v := range m' under way: 'left' says which are still to come. -/
def MapRange (w : World) (b r n : Nat) (F : CellD → Option ε) (left : CellD → Bool) (cnt : Nat) : Prop :=
  ∃ (D : DataW Unit) (lf : Lit → Bool), w.ranges Tryz.prog 72 M.R b r n D lf cnt ∧ Tells M D F ∧ ∀ x, Cell.Wf x → lf (Cell.lit x) = left x
variable {M w}
theorem MapRange.at {b r n : Nat} {F : CellD → Option ε} {left : CellD → Bool} {cnt : Nat} (h : MapRange M w b r n F left cnt) : MapAt M w b n F := by
  obtain ⟨D, lf, h, t, _⟩ := h; exact ⟨D, h.owns, t⟩
theorem MapRange.left_eq {b r n : Nat} {F : CellD → Option ε} {left : CellD → Bool} {cnt : Nat} (h : MapRange M w b r n F left cnt) : w.rangeLeft b r = cnt := by
  obtain ⟨D, lf, h, t, _⟩ := h; exact h.left_eq
theorem MapRange.lt {b r n : Nat} {F : CellD → Option ε} {left : CellD → Bool} {cnt : Nat} (h : MapRange M w b r n F left cnt) : b < w.heap.size ∧ r < w.heap.size := by
  obtain ⟨D, lf, h, t, _⟩ := h; exact ⟨h.owns.lt, h.lt⟩
theorem MapRange.same {w' : World} {b r n : Nat} {F : CellD → Option ε} {left : CellD → Bool} {cnt : Nat} (h : MapRange M w b r n F left cnt) (e : w'.heap[b]? = w.heap[b]?) (e' : w'.heap[r]? = w.heap[r]?) : MapRange M w' b r n F left cnt := by
  obtain ⟨D, lf, ⟨es, clock, since, seen, c0, hb, F1, hs, hD, hr, rest⟩, t⟩ := h
  exact ⟨D, lf, ⟨es, clock, since, seen, c0, e.trans hb, F1, hs, hD, e'.trans hr, rest⟩, t⟩
theorem MapRange.below {w' : World} {b r n : Nat} {F : CellD → Option ε} {left : CellD → Bool} {cnt : Nat} (h : MapRange M w b r n F left cnt) (hb : Below w.heap.size w w') : MapRange M w' b r n F left cnt := h.same (hb.block b h.lt.1) (hb.block r h.lt.2)
variable (M w)
/-- 'range m'. -/
theorem range_map (hg : o.guard = none) (m : Operand) (t : TypeId) (hop : o.op = Op.range t m) (ht : t = M.T) (b n : Nat) (F : CellD → Option ε) (hm : a.eval m = .map (some b)) (hown : MapAt M w b n F)
    (hK : ∀ w' cnt, cnt ≤ n → MapRange M w' b w.heap.size n F (fun x => (F x).isSome) cnt → Below w.heap.size w w' → w'.heap.size = w.heap.size + 1 → wpList Tryz.prog ops Q rest (a.put o.dst (.pointer (some ⟨w.heap.size, 0, none⟩))) w') :
    wpList Tryz.prog ops Q (o :: rest) a w := by
  subst ht
  obtain ⟨D, h, t⟩ := hown
  refine wpList_range_own w hg m M.T hop 72 M.E law_cell M.und M.R b n D hm h fun w' hr hgr hs => ?_
  exact hK w' _ h.size_le ⟨D, _, hr, t, fun x hx => t.has hx⟩ ⟨hgr.os, hgr.tape, hgr.output, hgr.size, fun k hk => hgr.block k hk (by simp)⟩ hs
/-- THE STEP. -/
theorem next_map (hg : o.guard = none) (it : Operand) (hop : o.op = Op.next it false) (b r n : Nat) (F : CellD → Option ε) (left : CellD → Bool) (cnt : Nat)
    (hit : a.eval it = .pointer (some ⟨r, 0, none⟩)) (h : MapRange M w b r n F left cnt)
    (hDone : (∀ x, Cell.Wf x → left x = false) → wpList Tryz.prog ops Q rest (a.put o.dst (.tuple #[.bool false])) w)
    (hMore : ∀ (x : CellD) (c : ε) (w' : World) (cnt' : Nat), Cell.Wf x → left x = true → F x = some c → MapRange M w' b r n F (fun y => left y && !decide (y = x)) cnt' → cnt' < cnt → w.grownBy w' (some r) → w'.heap.size = w.heap.size →
      (Instr.entry (.pointer (some ⟨r, 0, none⟩))).run Tryz.prog w' = .ok (.tuple #[Cell.v x, M.v c]) w' → wpList Tryz.prog ops Q rest (a.put o.dst (.tuple #[.bool true, Cell.v x, M.v c])) w') :
    wpList Tryz.prog ops Q (o :: rest) a w := by
  obtain ⟨D, lf, h, t, hl⟩ := h
  refine wpList_next_ranges w hg it hop 72 law_cell M.R Cell.v M.v (fun key kl hk => by obtain ⟨x, rfl, _⟩ := key_inv hk; exact ⟨x, rfl⟩) (fun v y hv => by obtain ⟨c, rfl, _⟩ := M.inv hv; exact ⟨c, rfl⟩) b r n D lf cnt hit h (fun _ h0 => hDone fun x hx => by rw [← hl x hx]; exact h0 _) ?_
  intro x c kl y w' cnt' hkey hlk hv hat hrg hlt hgr hs hen
  obtain ⟨x', ex, hw, rfl⟩ := key_inv hkey
  obtain rfl := cell_v_inj ex
  obtain ⟨c', ec, rfl⟩ := M.inv hv
  have hF : F x = some c := by
    cases hF : F x with
    | none =>
      have := hat .nil
      rw [t.1 x hw, hF] at this
      have h2 := hat (.slice [] [])
      rw [t.1 x hw, hF] at h2
      rw [← this] at h2
      cases h2
    | some a =>
      have := hat .nil
      rw [t.1 x hw, hF] at this
      have hcc := M.made c
      rw [hv] at hcc
      have e2 : M.d c' = M.d c := by simpa using hcc
      rw [M.dinj (this.trans e2)]
  exact hMore x c w' cnt' hw (by rw [← hl x hw]; exact hlk) hF ⟨D, _, hrg, t, fun z hz => by rw [hl z hz, lit_same hz hw]⟩ hlt hgr hs hen
end

/-- The cube: aggregates by cells. -/
def aggV (a : AggD) : Value := .agg #[.int .i64 a.n, .int .i64 a.sm, .int .i64 a.mn, .int .i64 a.mx]
def aggDt (a : AggD) : DataW Unit := .agg [.lit (.int .i64 a.n), .lit (.int .i64 a.sm), .lit (.int .i64 a.mn), .lit (.int .i64 a.mx)]
def aggR : Value → Option (DataW Unit × List MemPlace)
  | .agg ⟨[.int .i64 n, .int .i64 s, .int .i64 mn, .int .i64 mx]⟩ => some (aggDt ⟨n, s, mn, mx⟩, [])
  | _ => none
theorem aggR_inv {x : Value} {y : DataW Unit × List MemPlace} (h : aggR x = some y) : ∃ a, x = aggV a ∧ y = (aggDt a, []) := by
  unfold aggR at h
  split at h
  · cases h; exact ⟨⟨_, _, _, _⟩, rfl, rfl⟩
  · cases h
def zeroA : AggD := ⟨0, 0, 0, 0⟩
def cubeK : MapK AggD where
  T := 68
  E := 60
  und := Tryz.underlying68
  v := aggV
  d := aggDt
  R := aggR
  made := fun _ => rfl
  inv := aggR_inv
  dinj := fun {a b} h => by
    cases a; cases b
    simp [aggDt] at h
    obtain ⟨h1, h2, h3, h4⟩ := h
    subst h1 h2 h3 h4
    rfl
  zero := zeroA
  hz := fun w => by kernel_rfl
end Go.Proofs.YtpcekmllmnfmmaaGreat.dat
