/-
  DATA IN MEMORY, ONE NOTION FOR ALL TYPES: what cells are (a relation of cells, a datum and the blocks that its rows take); rows of such elements; rows that a call makes; what leaves them as they are.
-/
import Derived.Test.YtoglclmaacjdaaaBlk
import Derived.Deep.LoopGhost
import Derived.Deep.DeepCutAuto
import Derived.Deep.RegionHeld3
import Derived.StillTailTactics
import Derived.Laws.OwnMore
import Derived.WalkSmall
import Derived.Deep.QuietTactic
import Derived.BigQuiet
namespace Go.Proofs.Ytoglclmaacjdaaa.dat
open Go.RowKit Go.Proofs.Ytoglclmaacjdaaa.win

theorem ret_int {a b : Int} (h : a = b) : Ending.returned (.int .i64 a) = .returned (.int .i64 b) := by rw [h]
/-- 'make([]T, n)', T of any number of cells. -/
theorem run_make_n {P : Program} (t e : TypeId) (z : Value) (size bytes : Nat) (ht : P.underlying t = some (.slice e)) (hinfo : (P.info? e).map (fun i => (i.zero, i.size, i.bytes)) = some (some z, size, bytes))
    (kl kc : IntKind) (n : Nat) (hbytes : bytes * n ≤ 281474976710656) (h63 : n ≤ 9223372036854775807) (w : World) :
    (Instr.makeSlice t (.int kl (n : Int)) (.int kc (n : Int))).run P w = .ok (.slice (some ⟨w.heap.size, 0, none⟩) n n) (w.alloc (.cells (madeCells z.cells (n * size)) e)) := by
  obtain ⟨i, hi, hzz⟩ := Option.map_eq_some_iff.1 hinfo
  simp only [Prod.mk.injEq] at hzz
  obtain ⟨hz, hs, hb⟩ := hzz
  have hb' : (i.bytes : Int) * (n : Int) ≤ 281474976710656 := by
    have h : ((i.bytes * n : Nat) : Int) ≤ 281474976710656 := by rw [hb]; omega
    rwa [Int.natCast_mul] at h
  have hr := run_make (P := P) w t e i z ht hi hz kl kc n n (by omega) (Int.le_refl _) hb' (by omega)
  simp only [Int.toNat_natCast, hs] at hr
  exact hr

/-- What cells are: the cells, the datum, the blocks that its rows take. -/
abbrev Rel (α : Type) := World → List Value → α → List Nat → Prop
/-- It hangs on its own blocks alone. -/
structure Local {α : Type} (R : Rel α) : Prop where
  keep : ∀ {w w' : World} {cs : List Value} {x : α} {f : List Nat}, R w cs x f → (∀ b ∈ f, w'.heap[b]? = w.heap[b]?) → R w' cs x f
  lt : ∀ {w : World} {cs : List Value} {x : α} {f : List Nat}, R w cs x f → ∀ b ∈ f, b < w.heap.size

theorem cell_same {w w' : World} {b : Nat} (h : w'.heap[b]? = w.heap[b]?) (o : Nat) : w'.cell? ⟨b, o, none⟩ = w.cell? ⟨b, o, none⟩ := World.cell?_of_block (w := w) h
theorem frozen_same {w w' : World} {b : Nat} (h : w'.heap[b]? = w.heap[b]?) (o : Nat) : w'.frozen? ⟨b, o, none⟩ = w.frozen? ⟨b, o, none⟩ := World.frozen?_of_block (w := w) h
theorem lt_same {w w' : World} {b : Nat} (h : w'.heap[b]? = w.heap[b]?) (hb : b < w.heap.size) : b < w'.heap.size := by
  rw [Array.getElem?_eq_getElem hb] at h
  exact (Array.getElem?_eq_some_iff.1 h).1

/-- The element at offset o of block b. -/
def El {α : Type} (k : Nat) (R : Rel α) (w : World) (b o : Nat) (x : α) (f : List Nat) : Prop := ∃ cs, cs.length = k ∧ R w cs x f ∧ ∀ j, j < k → w.cell? ⟨b, o + j, none⟩ = cs[j]?
/-- A slice's elements; the blocks that they take: its own, then each element's. -/
def GRow {α : Type} (k : Nat) (R : Rel α) (w : World) (a : Option Addr) (len : Nat) (l : List α) (fp : List Nat) : Prop :=
  l.length = len ∧ ((len = 0 ∧ fp = []) ∨ ∃ (b off : Nat) (F : List (List Nat)), a = some ⟨b, off, none⟩ ∧ b < w.heap.size ∧ fp = b :: F.flatten ∧ F.length = len ∧ ∀ (i : Nat) x f, l[i]? = some x → F[i]? = some f → El k R w b (off + i * k) x f)

theorem El.keep {α : Type} {k : Nat} {R : Rel α} {w w' : World} {b o : Nat} {x : α} {f : List Nat} (hR : Local R) (h : El k R w b o x f) (hf : ∀ c ∈ f, w'.heap[c]? = w.heap[c]?) (hb : w'.heap[b]? = w.heap[b]?) : El k R w' b o x f := by
  obtain ⟨cs, h1, h2, h3⟩ := h
  exact ⟨cs, h1, hR.keep h2 hf, fun j hj => (cell_same hb _).trans (h3 j hj)⟩

theorem mem_flatten_of {F : List (List Nat)} {i : Nat} {f : List Nat} (h : F[i]? = some f) {c : Nat} (hc : c ∈ f) : c ∈ F.flatten :=
  List.mem_flatten.2 ⟨f, List.mem_of_getElem? h, hc⟩

theorem GRow.keep {α : Type} {k : Nat} {R : Rel α} {w w' : World} {a : Option Addr} {len : Nat} {l : List α} {fp : List Nat} (hR : Local R) (h : GRow k R w a len l fp) (hf : ∀ b ∈ fp, w'.heap[b]? = w.heap[b]?) : GRow k R w' a len l fp := by
  obtain ⟨h1, h2 | ⟨b, off, F, e, hb, rfl, hF, hx⟩⟩ := h
  · exact ⟨h1, .inl h2⟩
  · have hbb := hf b (by simp)
    exact ⟨h1, .inr ⟨b, off, F, e, lt_same hbb hb, rfl, hF, fun i x f hi hfi => (hx i x f hi hfi).keep hR (fun c hc => hf c (by simp only [List.mem_cons]; exact .inr (mem_flatten_of hfi hc))) hbb⟩⟩
theorem GRow.lt {α : Type} {k : Nat} {R : Rel α} {w : World} {a : Option Addr} {len : Nat} {l : List α} {fp : List Nat} (hR : Local R) (h : GRow k R w a len l fp) : ∀ b ∈ fp, b < w.heap.size := by
  obtain ⟨h1, ⟨_, rfl⟩ | ⟨b, off, F, e, hb, rfl, hF, hx⟩⟩ := h
  · intro b hb; simp at hb
  · intro c hc
    rcases List.mem_cons.1 hc with rfl | hc
    · exact hb
    · obtain ⟨f, hf, hcf⟩ := List.mem_flatten.1 hc
      obtain ⟨i, hi, rfl⟩ := List.getElem_of_mem hf
      obtain ⟨cs, _, h3, _⟩ := hx i l[i] F[i] (List.getElem?_eq_getElem (by omega)) (List.getElem?_eq_getElem hi)
      exact hR.lt h3 c hcf
theorem GRow.below {α : Type} {k : Nat} {R : Rel α} {w w' : World} {a : Option Addr} {len : Nat} {l : List α} {fp : List Nat} (hR : Local R) (h : GRow k R w a len l fp) (hb : Below w.heap.size w w') : GRow k R w' a len l fp :=
  h.keep hR (fun b hb' => hb.block b (h.lt hR b hb'))
/-- Element j, its cells written out. -/
theorem GRow.at {α : Type} {k : Nat} {R : Rel α} {w : World} {a : Option Addr} {len : Nat} {l : List α} {fp : List Nat} (h : GRow k R w a len l fp) {j : Nat} (hj : j < len) :
    ∃ b off x f cs, a = some ⟨b, off, none⟩ ∧ b < w.heap.size ∧ l[j]? = some x ∧ cs.length = k ∧ R w cs x f ∧ ∀ i, i < k → w.cell? ⟨b, off + j * k + i, none⟩ = cs[i]? := by
  obtain ⟨h1, ⟨h0, _⟩ | ⟨b, off, F, e, hb, rfl, hF, hx⟩⟩ := h
  · omega
  · obtain ⟨cs, h2, h3, h4⟩ := hx j l[j] F[j] (List.getElem?_eq_getElem (by omega)) (List.getElem?_eq_getElem (by omega))
    exact ⟨b, off, l[j], F[j], cs, e, hb, List.getElem?_eq_getElem (by omega), h2, h3, h4⟩
theorem GRow.nil {α : Type} {k : Nat} {R : Rel α} {w : World} {a : Option Addr} : GRow k R w a 0 ([] : List α) [] := ⟨rfl, .inl ⟨rfl, rfl⟩⟩

/-- Numbers, strings: one cell. -/
def RInt : Rel Int := fun _ cs z f => cs = [.int .i64 z] ∧ f = []
def RStr : Rel ByteArray := fun _ cs s f => cs = [.string s] ∧ s.size ≤ 9223372036854775807 ∧ f = []
theorem local_int : Local RInt := ⟨fun h _ => h, fun h b hb => by rw [h.2] at hb; simp at hb⟩
theorem local_str : Local RStr := ⟨fun h _ => h, fun h b hb => by rw [h.2.2] at hb; simp at hb⟩

/-- A block that may be written. -/
def Wr (w : World) (b : Nat) : Prop := ∃ arr t, w.heap[b]? = some (.cells arr t (0, 0))
/-- Blocks of the call's own, from lo on, no two the same. -/
def Own (lo : Nat) (w : World) (fp : List Nat) : Prop := fp.Nodup ∧ ∀ b ∈ fp, lo ≤ b ∧ Wr w b
theorem Wr.same {w w' : World} {b : Nat} (h : Wr w b) (e : w'.heap[b]? = w.heap[b]?) : Wr w' b := by
  obtain ⟨arr, t, h⟩ := h
  exact ⟨arr, t, e.trans h⟩
theorem Wr.lt {w : World} {b : Nat} (h : Wr w b) : b < w.heap.size := by
  obtain ⟨arr, t, h⟩ := h
  exact (Array.getElem?_eq_some_iff.1 h).1
theorem Wr.frozen {w : World} {b : Nat} (h : Wr w b) (o : Nat) : w.frozen? ⟨b, o, none⟩ = false := by
  obtain ⟨arr, t, h⟩ := h
  exact Go.Joins.unfrozen_of_block h o
theorem Wr.setCell {w : World} {b : Nat} (h : Wr w b) (c o : Nat) (v : Value) : Wr (w.setCell ⟨c, o, none⟩ v) b := by
  obtain ⟨arr, t, h⟩ := h
  by_cases e : b = c
  · subst e
    exact ⟨_, t, Go.Joins.block_setCell h v⟩
  · exact ⟨arr, t, (Below.heap_setCell w ⟨c, o, none⟩ v b e).trans h⟩
theorem Blk.wr {w : World} {g : Nat} {t : TypeId} {vs : List Value} (h : Blk w g t vs) : Wr w g := ⟨_, t, h⟩
theorem Own.nil {lo : Nat} {w : World} : Own lo w [] := ⟨List.nodup_nil, fun b hb => by simp at hb⟩
theorem Own.mono {lo lo' : Nat} {w : World} {fp : List Nat} (h : Own lo w fp) (hl : lo' ≤ lo) : Own lo' w fp := ⟨h.1, fun b hb => ⟨Nat.le_trans hl (h.2 b hb).1, (h.2 b hb).2⟩⟩
theorem Own.keep {lo : Nat} {w w' : World} {fp : List Nat} (h : Own lo w fp) (hf : ∀ b ∈ fp, w'.heap[b]? = w.heap[b]?) : Own lo w' fp := ⟨h.1, fun b hb => ⟨(h.2 b hb).1, (h.2 b hb).2.same (hf b hb)⟩⟩
theorem Own.below {lo : Nat} {w w' : World} {fp : List Nat} (h : Own lo w fp) (hb : Below w.heap.size w w') : Own lo w' fp := h.keep fun b hb' => hb.block b (h.2 b hb').2.lt
/-- What lies below and what lies from there on. -/
theorem Own.append {lo mid : Nat} {w : World} {f g : List Nat} (h : Own lo w f) (k : Own mid w g) (hlt : ∀ b ∈ f, b < mid) (hlo : lo ≤ mid) : Own lo w (f ++ g) :=
  ⟨List.nodup_append.2 ⟨h.1, k.1, fun a ha b hb e => by have := hlt a ha; have := (k.2 b hb).1; omega⟩, fun b hb => by
    rcases List.mem_append.1 hb with hb | hb
    · exact h.2 b hb
    · exact ⟨Nat.le_trans hlo (k.2 b hb).1, (k.2 b hb).2⟩⟩

/-- All but these blocks is as it was. -/
structure Apart (fp : List Nat) (w w' : World) : Prop where
  os : w'.os = w.os
  tape : w'.tape = w.tape
  output : w'.output = w.output
  size : w.heap.size ≤ w'.heap.size
  block : ∀ b, b < w.heap.size → b ∉ fp → w'.heap[b]? = w.heap[b]?
theorem Apart.refl (fp : List Nat) (w : World) : Apart fp w w := ⟨rfl, rfl, rfl, Nat.le_refl _, fun _ _ _ => rfl⟩
theorem Apart.trans {fp : List Nat} {a b c : World} (h : Apart fp a b) (k : Apart fp b c) : Apart fp a c :=
  ⟨k.os.trans h.os, k.tape.trans h.tape, k.output.trans h.output, Nat.le_trans h.size k.size, fun i hi hn => (k.block i (Nat.lt_of_lt_of_le hi h.size) hn).trans (h.block i hi hn)⟩
theorem Apart.mono {fp fp' : List Nat} {w w' : World} (h : Apart fp w w') (hs : ∀ b ∈ fp, b ∈ fp') : Apart fp' w w' := ⟨h.os, h.tape, h.output, h.size, fun b hb hn => h.block b hb (fun hm => hn (hs b hm))⟩
theorem Apart.of_below {fp : List Nat} {w w' : World} (h : Below w.heap.size w w') : Apart fp w w' := ⟨h.os, h.tape, h.output, h.size, fun b hb _ => h.block b hb⟩
theorem Apart.below {fp : List Nat} {lo : Nat} {w w' : World} (h : Apart fp w w') (hl : ∀ b ∈ fp, lo ≤ b) (hlo : lo ≤ w.heap.size) : Below lo w w' :=
  ⟨h.os, h.tape, h.output, h.size, fun b hb => h.block b (by omega) (fun hm => by have := hl b hm; omega)⟩
theorem Apart.setCell {fp : List Nat} {a w : World} (h : Apart fp a w) {c : Nat} (hc : c ∈ fp) (o : Nat) (v : Value) : Apart fp a (w.setCell ⟨c, o, none⟩ v) :=
  ⟨h.os, h.tape, h.output, Nat.le_trans h.size (by simp [World.setCell]), fun b hb hn => (Below.heap_setCell w ⟨c, o, none⟩ v b (fun e => hn (by rw [e]; exact hc))).trans (h.block b hb hn)⟩
theorem Apart.drew {fp : List Nat} {a w : World} (h : Apart fp a w) : Apart fp a w.drew := ⟨h.os, h.tape, h.output, h.size, h.block⟩
theorem Apart.alloc {fp : List Nat} {a w : World} (h : Apart fp a w) (o : Obj) : Apart fp a (w.alloc o) :=
  ⟨h.os, h.tape, h.output, Nat.le_trans h.size (by simp), fun b hb hn => (Below.heap_alloc w o b (Nat.lt_of_lt_of_le hb h.size)).trans (h.block b hb hn)⟩

/-! ### A row that a call makes, element by element -/
/-- L with cs put at offset o. -/
def putAt (L : List Value) (o : Nat) (cs : List Value) : List Value := L.take o ++ cs ++ L.drop (o + cs.length)
theorem putAt_nil (L : List Value) (o : Nat) : putAt L o [] = L := by simp [putAt]
theorem putAt_length (L : List Value) (o : Nat) (cs : List Value) (h : o + cs.length ≤ L.length) : (putAt L o cs).length = L.length := by simp [putAt]; omega
theorem putAt_set (L : List Value) (o : Nat) (cs : List Value) (c : Value) (h : o + cs.length < L.length) : (putAt L o cs).set (o + cs.length) c = putAt L o (cs ++ [c]) := by
  unfold putAt
  have h1 : (L.take o ++ cs).length = o + cs.length := by simp; omega
  rw [List.set_append_right _ _ (by rw [h1]; exact Nat.le_refl _), h1, Nat.sub_self, List.drop_eq_getElem_cons h, List.set_cons_zero, List.length_append, ← List.append_assoc (L.take o), List.append_assoc (L.take o ++ cs) [c]]
  simp [Nat.add_assoc]
theorem Blk.start {w : World} {g : Nat} {t : TypeId} {L : List Value} (h : Blk w g t L) (o : Nat) : Blk w g t (putAt L o []) := h.of_eq (putAt_nil L o).symm
theorem Blk.put {w : World} {g : Nat} {t : TypeId} {L : List Value} {o : Nat} {cs : List Value} (h : Blk w g t (putAt L o cs)) (i : Nat) (hi : i = o + cs.length) (hl : o + cs.length < L.length) (c : Value) : Blk (w.setCell ⟨g, i, none⟩ c) g t (putAt L o (cs ++ [c])) := by
  subst hi
  exact (h.set (o + cs.length) c).of_eq (putAt_set L o cs c hl)

theorem made_eq (zc : List Value) (hz : 0 < zc.length) (n : Nat) : madeCells zc.toArray (n * zc.length) = ((List.replicate n zc).flatten).toArray := by
  apply Array.ext'
  have hfl : ∀ n, ((List.replicate n zc).flatten).length = n * zc.length := fun n => by simp [List.length_flatten]
  apply List.ext_getElem?
  intro i
  by_cases hi : i < n * zc.length
  · have h1 : (madeCells zc.toArray (n * zc.length)).toList[i]? = zc[i % zc.length]? := by
      have : i % zc.length < zc.length := Nat.mod_lt _ hz
      simp [madeCells, hi, this]
    rw [h1]
    clear h1
    induction n generalizing i with
    | zero => omega
    | succ n ih =>
      rw [List.replicate_succ, List.flatten_cons]
      by_cases h : i < zc.length
      · rw [List.getElem?_append_left h, Nat.mod_eq_of_lt h]
      · rw [List.getElem?_append_right (by omega), Nat.mod_eq_sub_mod (by omega)]
        exact ih _ (by rw [Nat.succ_mul] at hi; omega)
  · rw [List.getElem?_eq_none (by simp [size_madeCells]; omega), List.getElem?_eq_none (by show ((List.replicate n zc).flatten).length ≤ i; rw [hfl]; omega)]

/-- A row under way: j elements are laid, the others are zero. -/
structure Laying {α : Type} (k : Nat) (R : Rel α) (t : TypeId) (zc : List Value) (l : List α) (w : World) (j : Nat) (wr : World) : Prop where
  ex : ∃ (vs : List (List Value)) (F : List (List Nat)), vs.length = j ∧ F.length = j ∧ (∀ c ∈ vs, c.length = k) ∧ (∀ (i : Nat) x c f, l[i]? = some x → vs[i]? = some c → F[i]? = some f → R wr c x f) ∧ F.flatten.Nodup ∧ (∀ b ∈ F.flatten, w.heap.size < b ∧ Wr wr b) ∧
    Blk wr w.heap.size t (vs.flatten ++ (List.replicate (l.length - j) zc).flatten)
  below : Below w.heap.size w wr

theorem flat_len {vs : List (List Value)} {k : Nat} (h : ∀ c ∈ vs, c.length = k) : vs.flatten.length = vs.length * k := by
  induction vs with
  | nil => simp
  | cons c r ih =>
    rw [List.flatten_cons, List.length_append, h c (by simp), ih (fun c hc => h c (by simp [hc])), List.length_cons, Nat.succ_mul]; omega

theorem Laying.start {α : Type} {k : Nat} {R : Rel α} {t : TypeId} {zc : List Value} {l : List α} {w : World} (hz : 0 < zc.length) (n : Nat) (hn : n = l.length) : Laying k R t zc l w 0 (w.alloc (.cells (madeCells zc.toArray (n * zc.length)) t)) := by
  subst hn
  refine ⟨⟨[], [], rfl, rfl, by simp, by simp, by simp, by simp, ?_⟩, (Below.refl _ _).alloc (Nat.le_refl _) _⟩
  rw [made_eq zc hz]
  exact (blk_new w t _).of_eq (by simp)
theorem Laying.lt {α : Type} {k : Nat} {R : Rel α} {t : TypeId} {zc : List Value} {l : List α} {w wr : World} {j : Nat} (h : Laying k R t zc l w j wr) : w.heap.size < wr.heap.size := by
  obtain ⟨vs, F, _, _, _, _, _, _, hb⟩ := h.ex
  exact hb.lt
/-- The cells of the element that is laid next. -/
theorem Laying.cell {α : Type} {k : Nat} {R : Rel α} {t : TypeId} {zc : List Value} {l : List α} {w wr : World} {j : Nat} (h : Laying k R t zc l w j wr) (hz : zc.length = k) (hj : j < l.length) (i : Nat) (hi : i < k) : wr.cell? ⟨w.heap.size, j * k + i, none⟩ = zc[i]? := by
  obtain ⟨vs, F, hv, _, hk, _, _, _, hb⟩ := h.ex
  have hl := flat_len hk
  rw [hb.cell, List.getElem?_append_right (by rw [hl, hv]; omega), hl, hv, Nat.add_sub_cancel_left, show l.length - j = (l.length - j - 1) + 1 by omega, List.replicate_succ, List.flatten_cons, List.getElem?_append_left (by omega)]
theorem Laying.frozen {α : Type} {k : Nat} {R : Rel α} {t : TypeId} {zc : List Value} {l : List α} {w wr : World} {j : Nat} (h : Laying k R t zc l w j wr) : ∀ i, wr.frozen? ⟨w.heap.size, i, none⟩ = false := by
  obtain ⟨vs, F, _, _, _, _, _, _, hb⟩ := h.ex
  exact hb.frozen

/-- One element more: made in w3 (in blocks of its own), put into the row in w4. -/
theorem Laying.step {α : Type} {k : Nat} {R : Rel α} {t : TypeId} {zc : List Value} {l : List α} {w wr w3 w4 : World} {j : Nat} (hR : Local R) (hz : zc.length = k) (hC : Laying k R t zc l w j wr) (hj : j < l.length) {x : α} (hx : l[j]? = some x) {cs : List Value} {f : List Nat}
    (hcs : cs.length = k) (hr : R w3 cs x f) (hown : Own wr.heap.size w3 f) (hb3 : Below wr.heap.size wr w3)
    (hblk : ∀ L, Blk w3 w.heap.size t L → j * k + k ≤ L.length → Blk w4 w.heap.size t (putAt L (j * k) cs)) (h4 : Below w.heap.size w3 w4) (hoth : ∀ b, b ≠ w.heap.size → w4.heap[b]? = w3.heap[b]?) : Laying k R t zc l w (j + 1) w4 := by
  have hlt := hC.lt
  obtain ⟨vs, F, hv, hF, hk, hall, hnd, hwr, hb⟩ := hC.ex
  have hl := flat_len hk
  refine ⟨⟨vs ++ [cs], F ++ [f], by simp [hv], by simp [hF], ?_, ?_, ?_, ?_, ?_⟩, hC.below.trans ((hb3.mono (by omega)).trans h4)⟩
  · intro c hc
    rcases List.mem_append.1 hc with hc | hc
    · exact hk c hc
    · simp at hc; rw [hc]; exact hcs
  · intro i y c g hy hc hg
    by_cases hi : i < j
    · rw [List.getElem?_append_left (by omega)] at hc hg
      have h0 := hall i y c g hy hc hg
      refine hR.keep h0 (fun b hb' => ?_)
      have hbF := mem_flatten_of hg hb'
      have := hwr b hbF
      rw [hoth b (by omega), hb3.block b this.2.lt]
    · have hij : i = j := by
        have := (List.getElem?_eq_some_iff.1 hc).1
        simp at this; omega
      subst hij
      rw [List.getElem?_append_right (by omega)] at hc hg
      simp [hv] at hc
      simp [hF] at hg
      subst hc hg
      rw [hx] at hy
      cases hy
      exact hR.keep hr (fun b hb' => hoth b (by have := (hown.2 b hb').1; omega))
  · rw [List.flatten_append, List.nodup_append]
    refine ⟨hnd, by simpa using hown.1, ?_⟩
    intro a ha b hb' e
    have h1 := (hwr a ha).2.lt
    have h2 := (hown.2 b (by simpa using hb')).1
    omega
  · intro b hb'
    rw [List.flatten_append, List.mem_append] at hb'
    rcases hb' with hb' | hb'
    · have := hwr b hb'
      exact ⟨this.1, (this.2.same (hb3.block b this.2.lt)).same (hoth b (by omega))⟩
    · have := hown.2 b (by simpa using hb')
      exact ⟨by omega, this.2.same (hoth b (by omega))⟩
  · have h0 := hblk _ (hb.below hb3 hlt) (by
      rw [List.length_append, hl, hv]
      have : ((List.replicate (l.length - j) zc).flatten).length = (l.length - j) * k := by simp [List.length_flatten, hz]
      rw [this]
      have : 1 * k ≤ (l.length - j) * k := Nat.mul_le_mul_right k (by omega)
      omega)
    refine h0.of_eq ?_
    unfold putAt
    have hvl : vs.flatten.length = j * k := by rw [hl, hv]
    rw [List.take_append_of_le_length (by omega), List.take_of_length_le (by omega), hcs, List.drop_append, List.drop_of_length_le (by omega), hvl, Nat.add_sub_cancel_left,
      show l.length - j = (l.length - (j + 1)) + 1 by omega, List.replicate_succ, List.flatten_cons, List.drop_append_of_le_length (by omega), List.drop_of_length_le (by omega)]
    simp

/-- What is left when all are laid: a row of its own. -/
def Copied {α : Type} (k : Nat) (R : Rel α) (w : World) (len : Nat) (l : List α) (e : Ending) (w' : World) : Prop :=
  ∃ (g : Nat) (fp : List Nat), e = .returned (.slice (some ⟨g, 0, none⟩) len len) ∧ GRow k R w' (some ⟨g, 0, none⟩) len l fp ∧ Own w.heap.size w' fp ∧ Below w.heap.size w w'
theorem Laying.done {α : Type} {k : Nat} {R : Rel α} {t : TypeId} {zc : List Value} {l : List α} {w wr : World} {j : Nat} (h : Laying k R t zc l w j wr) (hj : j = l.length) (len : Nat) (hlen : len = l.length) : Copied k R w len l (.returned (.slice (some ⟨w.heap.size, 0, none⟩) len len)) wr := by
  subst hj hlen
  obtain ⟨vs, F, hv, hF, hk, hall, hnd, hwr, hb⟩ := h.ex
  have hl := flat_len hk
  by_cases h0 : l.length = 0
  · obtain rfl : l = [] := List.length_eq_zero_iff.1 h0
    exact ⟨_, [], rfl, GRow.nil, Own.nil, h.below⟩
  refine ⟨w.heap.size, w.heap.size :: F.flatten, rfl, ⟨rfl, .inr ⟨w.heap.size, 0, F, rfl, hb.lt, rfl, hF, ?_⟩⟩, ⟨?_, ?_⟩, h.below⟩
  · intro i x f hx hf
    have hi : i < l.length := (List.getElem?_eq_some_iff.1 hx).1
    have hi' : i < vs.length := by omega
    have hc : vs[i]? = some vs[i] := List.getElem?_eq_getElem hi'
    refine ⟨vs[i], hk _ (List.getElem_mem hi'), hall i x _ f hx hc hf, fun j hj => ?_⟩
    rw [hb.cell]
    simp only [Nat.sub_self, List.replicate_zero, List.flatten_nil, List.append_nil]
    rw [Nat.zero_add]
    clear hb hall hx hf hc hv hF hwr hnd
    have hkv := hk
    clear hk hl
    induction vs generalizing i with
    | nil => simp at hi'
    | cons c r ih =>
      rw [List.flatten_cons]
      have hcl := hkv c (by simp)
      cases i with
      | zero => rw [List.getElem?_append_left (by omega)]; simp
      | succ i =>
        rw [List.getElem?_append_right (by rw [Nat.succ_mul]; omega), show (i + 1) * k + j - c.length = i * k + j by rw [Nat.succ_mul]; omega]
        have := ih i (by omega) (by simpa using hi') (fun c hc => hkv c (by simp [hc]))
        simpa using this
  · rw [List.nodup_cons]
    exact ⟨fun hm => by have := (hwr _ hm).1; omega, hnd⟩
  · intro b hb'
    rcases List.mem_cons.1 hb' with rfl | hb'
    · exact ⟨Nat.le_refl _, Blk.wr hb⟩
    · exact ⟨Nat.le_of_lt (hwr b hb').1, (hwr b hb').2⟩

theorem GRow.set {α : Type} {k : Nat} {R : Rel α} {w : World} {a : Option Addr} {len : Nat} {l : List α} {fp : List Nat} (hR : Local R) (h : GRow k R w a len l fp) {c : Nat} (hc : ∀ b ∈ fp, b ≠ c) (o : Nat) (v : Value) : GRow k R (w.setCell ⟨c, o, none⟩ v) a len l fp :=
  h.keep hR fun b hb => Below.heap_setCell w ⟨c, o, none⟩ v b (hc b hb)
theorem Own.set {lo : Nat} {w : World} {fp : List Nat} (h : Own lo w fp) (c o : Nat) (v : Value) : Own lo (w.setCell ⟨c, o, none⟩ v) fp := ⟨h.1, fun b hb => ⟨(h.2 b hb).1, (h.2 b hb).2.setCell c o v⟩⟩
theorem Own.ne {lo c : Nat} {w : World} {fp : List Nat} (h : Own lo w fp) (hc : c < lo) : ∀ b ∈ fp, b ≠ c := fun b hb => by have := (h.2 b hb).1; omega
theorem Own.left {lo : Nat} {w : World} {f g : List Nat} (h : Own lo w (f ++ g)) : Own lo w f := ⟨(List.nodup_append.1 h.1).1, fun b hb => h.2 b (by simp [hb])⟩
theorem Own.right {lo : Nat} {w : World} {f g : List Nat} (h : Own lo w (f ++ g)) : Own lo w g := ⟨(List.nodup_append.1 h.1).2.1, fun b hb => h.2 b (by simp [hb])⟩

/-- The size that the laws reckon. -/
def szL {α : Type} (sz : α → Nat) (l : List α) : Nat := l.length + (l.map sz).sum
/-- What is left of n. -/
def Left (n : Int) (s : Nat) (w : World) (e : Ending) (w' : World) : Prop := e = .returned (.int .i64 (if (s : Int) ≤ n then n - (s : Int) else -1)) ∧ Below w.heap.size w w'
theorem sum_take_succ {α : Type} (sz : α → Nat) (l : List α) {j : Nat} {x : α} (hx : l[j]? = some x) : ((l.take (j + 1)).map sz).sum = ((l.take j).map sz).sum + sz x := by
  rw [List.take_add_one, hx]; simp
theorem sum_take_le {α : Type} (sz : α → Nat) (l : List α) (j : Nat) : ((l.take j).map sz).sum ≤ (l.map sz).sum := by
  conv => rhs; rw [← List.take_append_drop j l]
  rw [List.map_append, List.sum_append]; omega
theorem sz_elem_le {α : Type} (sz : α → Nat) (l : List α) {j : Nat} {x : α} (hx : l[j]? = some x) : sz x ≤ (l.map sz).sum := by
  have := sum_take_succ sz l hx
  have := sum_take_le sz l (j + 1)
  omega
end Go.Proofs.Ytoglclmaacjdaaa.dat
