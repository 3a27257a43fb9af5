/-
  A BLOCK SOME OF WHOSE CELLS ARE WRITTEN, one behind the other.
-/
import Derived.Test.YtoglclmaacjdaaaGrow
import Derived.Test.YtoglclmaacjdaaaBlk
namespace Go.Proofs.Ytoglclmaacjdaaa.dat
open Go.RowKit Go.Proofs.Ytoglclmaacjdaaa.win

/-! ### A block some of whose cells are written -/
theorem putAt_cons (L : List Value) (o : Nat) (v : Value) (r : List Value) (h : o < L.length) : putAt (L.set o v) (o + 1) r = putAt L o (v :: r) := by
  unfold putAt
  rw [List.drop_set_of_lt (by omega), List.take_set, List.take_succ_eq_append_getElem h, List.set_append_right _ _ (by simp; omega)]
  simp [Nat.min_eq_left (Nat.le_of_lt h), Nat.add_assoc, Nat.add_comm 1]
theorem blk_setCells {t : TypeId} {g : Nat} : ∀ (us : List Value) (o : Nat) {w : World} {L : List Value}, Blk w g t L → o + us.length ≤ L.length → Blk (w.setCells g o us) g t (putAt L o us)
  | [], o, w, L, h, _ => by rw [putAt_nil]; exact h
  | v :: r, o, w, L, h, hl => by
    simp only [List.length_cons] at hl
    rw [World.setCells, ← putAt_cons L o v r (by omega)]
    exact blk_setCells r (o + 1) (h.set o v) (by simp; omega)
theorem apart_setCells {fp : List Nat} {a : World} {g : Nat} (hg : g ∈ fp) : ∀ (us : List Value) (o : Nat) {w : World}, Apart fp a w → Apart fp a (w.setCells g o us)
  | [], _, _, h => h
  | v :: r, o, w, h => by
    rw [World.setCells]
    exact apart_setCells hg r (o + 1) (h.setCell hg o v)
theorem blk_shape {w : World} {g : Nat} {t : TypeId} {L : List Value} (h : Blk w g t L) : w.shape? g = some (t, L.length) := by
  unfold World.shape?
  rw [show w.heap[g]? = some (.cells L.toArray t (0, 0)) from h]
  simp
theorem putAt_len (L : List Value) (o : Nat) (us : List Value) (h : o + us.length ≤ L.length) : (putAt L o us).length = L.length := putAt_length L o us h
theorem cell_some {w : World} {g : Nat} {t : TypeId} {L : List Value} (h : Blk w g t L) {j : Nat} (hj : j < L.length) : (w.cell? ⟨g, j, none⟩).isSome = true := by
  rw [h.cell j, List.getElem?_eq_getElem hj]
  rfl
/-- Behind the two copies in place. -/
theorem shift_cells (L p : List Value) (x y q : Nat) (hq : p.length = q) (hx : x ≤ y) (hy : y + q ≤ L.length) :
    (putAt (putAt L (x + q) ((L.take y).drop x)) x p).take (y + q) = (L.take y).take x ++ (p ++ (L.take y).drop x) := by
  obtain ⟨B, hB⟩ : ∃ B, (L.take y).drop x = B := ⟨_, rfl⟩
  have hl : B.length = y - x := by rw [← hB]; simp; omega
  have hA : (L.take y).take x = L.take x := by rw [List.take_take, Nat.min_eq_left hx]
  rw [hB, hA]
  have h1 : putAt L (x + q) B = L.take (x + q) ++ (B ++ L.drop (y + q)) := by
    unfold putAt
    rw [show x + q + B.length = y + q by omega, List.append_assoc]
  have h2 : putAt (putAt L (x + q) B) x p = (L.take x ++ (p ++ B)) ++ L.drop (y + q) := by
    rw [h1]
    unfold putAt
    rw [List.take_append_of_le_length (by simp; omega), List.take_take, Nat.min_eq_left (by omega), hq, List.drop_left' (by simp; omega)]
    simp
  rw [h2]
  exact List.take_left' (by simp; omega)
/-- In the new row behind the two copies. -/
theorem grow_cells (L A B p : List Value) (x y q : Nat) (hq : p.length = q) (hx : x ≤ y) (hy : y + q ≤ L.length) (hA : L.take x = A) (hB : B.length = y - x) :
    (putAt (putAt L x p) (x + q) B).take (y + q) = A ++ (p ++ B) := by
  have hAl : A.length = x := by rw [← hA]; simp; omega
  have h1 : putAt L x p = (A ++ p) ++ L.drop (x + q) := by
    unfold putAt
    rw [hA, hq]
  have h2 : putAt (putAt L x p) (x + q) B = (A ++ (p ++ B)) ++ L.drop (y + q) := by
    rw [h1]
    unfold putAt
    rw [List.take_left' (by simp [hAl, hq]), show x + q + B.length = y + q by omega]
    have : ((A ++ p) ++ L.drop (x + q)).drop (y + q) = L.drop (y + q) := by
      rw [List.drop_append, List.drop_eq_nil_of_le (by simp [hAl, hq]; omega), List.nil_append, List.drop_drop]
      congr 1
      simp [hAl, hq]
      omega
    rw [this]
    simp
  rw [h2]
  exact List.take_left' (by simp [hAl, hq]; omega)
theorem take_cells_end (L p : List Value) (y q : Nat) (hq : p.length = q) (h : y + q ≤ L.length) : (putAt L y p).take (y + q) = L.take y ++ p := by
  unfold putAt
  exact List.take_left' (by simp; omega)
/-- copy(d, s), elements of k cells. -/
theorem run_copy_cellsK {P : Program} (k : Nat) (w : World) (dT sT ty elem : TypeId) (b o dLen dCap : Nat) (a : Addr) (sLen sCap : Nat) (cs : List Value)
    (hu : P.underlying dT = some (.slice elem)) (hs : (P.info? elem).map (·.size) = some k) (hn : cs.length = Nat.min sLen dLen * k)
    (hsrc : ∀ j v, cs[j]? = some v → w.cell? (a.add j) = some v) (hc : ∀ j, j < cs.length → (w.cell? ⟨b, o + j, none⟩).isSome = true) (hf : ∀ j, j < cs.length → w.frozen? ⟨b, o + j, none⟩ = false) (h1 : ∀ v ∈ cs, v.oneCell' = true) :
    (Builtin.copy_ #[dT, sT] ty #[.slice (some ⟨b, o, none⟩) dLen dCap, .slice (some a) sLen sCap]).run P w = .ok (goInt (Nat.min sLen dLen)) (w.setCells b o cs) := by
  have hl := run_loadCells_list (P := P) w a cs hsrc
  have hst := run_storeCells_cells (P := P) b o cs 0 w (by simpa using hc) (by simpa using hf) h1
  cases hq : P.info? elem with
  | none => simp [hq] at hs
  | some i =>
    have hi : i.size = k := by simpa [hq] using hs
    simp [Builtin.copy_, run_underlying hu, Builtin.lenOf, Builtin.firstCells, sizeOf, typeInfo, hq, hi, ← hn, hl, hst]
theorem ins_get {α : Type} (l : List α) (i : Nat) (y : α) (hi : i ≤ l.length) (j : Nat) : (l.take i ++ y :: l.drop i)[j]? = if j < i then l[j]? else if j = i then some y else l[j - 1]? := by
  have hl : (l.take i).length = i := by rw [List.length_take]; omega
  rw [List.getElem?_append, hl]
  split
  · rename_i h
    rw [List.getElem?_take, if_pos h]
  · rename_i h
    split
    · rename_i h2
      subst h2
      simp
    · rename_i h2
      obtain ⟨k, hk⟩ : ∃ k, j - i = k + 1 := ⟨j - i - 1, by omega⟩
      rw [hk, List.getElem?_cons_succ, List.getElem?_drop]
      congr 1
      omega
theorem ins_len {α : Type} (l : List α) (i : Nat) (y : α) (hi : i ≤ l.length) : (l.take i ++ y :: l.drop i).length = l.length + 1 := by
  simp
  omega
theorem ins3 {α β γ : Type} {P Q : α → β → γ → Prop} {l : List α} {m : List β} {n : List γ} {i : Nat} {a : α} {b : β} {c : γ} (h1 : i ≤ l.length) (h2 : m.length = l.length) (h3 : n.length = l.length)
    (hP : ∀ (j : Nat) x y z, l[j]? = some x → m[j]? = some y → n[j]? = some z → P x y z) (hPQ : ∀ (x : α) (y : β) (z : γ), z ∈ n → P x y z → Q x y z) (hQ : Q a b c) :
    ∀ (j : Nat) x y z, (l.take i ++ a :: l.drop i)[j]? = some x → (m.take i ++ b :: m.drop i)[j]? = some y → (n.take i ++ c :: n.drop i)[j]? = some z → Q x y z := by
  intro j x y z hx hy hz
  rw [ins_get l i a h1] at hx
  rw [ins_get m i b (by omega)] at hy
  rw [ins_get n i c (by omega)] at hz
  split at hx
  · rename_i h
    rw [if_pos h] at hy hz
    exact hPQ x y z (List.mem_of_getElem? hz) (hP j x y z hx hy hz)
  · rename_i h
    rw [if_neg h] at hy hz
    split at hx
    · rename_i h'
      rw [if_pos h'] at hy hz
      cases hx; cases hy; cases hz
      exact hQ
    · rename_i h'
      rw [if_neg h'] at hy hz
      exact hPQ x y z (List.mem_of_getElem? hz) (hP _ x y z hx hy hz)
end Go.Proofs.Ytoglclmaacjdaaa.dat
