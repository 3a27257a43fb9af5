/-
  UPSERT ON DATA: one row put into a list of rows, all of them one by one; how many numbers come of it.
-/
import Derived.Test.YtoglclmaacjdaaaStateParts
import Derived.Test.YtoglclmaacjdaaaPaneAt
import Derived.Test.YtoglclmaacjdaaaDataFrames
namespace Go.Proofs.Ytoglclmaacjdaaa.dat
open Go.RowKit Go.Proofs.Ytoglclmaacjdaaa.win

/-- Of the same name; behind. -/
def upsAt (r x : RowD) : Bool := decide (paneC x.pane r.pane = 0)
def gtB (r x : RowD) : Bool := decide (0 < paneC x.pane r.pane)
def upsOne (l : List RowD) (r : RowD) : List RowD :=
  if l.any (upsAt r) then l.set (l.findIdx (upsAt r)) r else l.take (l.findIdx (gtB r)) ++ r :: l.drop (l.findIdx (gtB r))
def upsertD (rows more : List RowD) : List RowD := more.foldl upsOne rows

theorem upsOne_set {l : List RowD} {r x : RowD} {i : Nat} (hno : ∀ (j : Nat) y, j < i → l[j]? = some y → upsAt r y = false) (hx : l[i]? = some x) (hm : upsAt r x = true) : upsOne l r = l.set i r := by
  unfold upsOne
  obtain ⟨h1, h2⟩ := List.getElem?_eq_some_iff.1 hx
  rw [if_pos (List.any_eq_true.2 ⟨x, List.mem_of_getElem? hx, hm⟩), (List.findIdx_eq h1).2 ⟨by rw [h2]; exact hm, fun j hj => hno j _ hj (List.getElem?_eq_getElem (by omega))⟩]
theorem upsOne_ins {l : List RowD} {r : RowD} {i : Nat} (hno : ∀ (j : Nat) y, l[j]? = some y → upsAt r y = false) (hi : i ≤ l.length) (h1 : ∀ (j : Nat) y, j < i → l[j]? = some y → gtB r y = false) (h2 : ∀ y, l[i]? = some y → gtB r y = true) : upsOne l r = l.take i ++ r :: l.drop i := by
  have hf : l.findIdx (gtB r) = i := by
    by_cases e : i < l.length
    · exact (List.findIdx_eq e).2 ⟨h2 _ (List.getElem?_eq_getElem e), fun j hj => h1 j _ hj (List.getElem?_eq_getElem (by omega))⟩
    · obtain rfl : i = l.length := by omega
      exact List.findIdx_eq_length.2 fun y hy => by
        obtain ⟨j, hj, rfl⟩ := List.getElem_of_mem hy
        exact h1 j _ hj (List.getElem?_eq_getElem hj)
  unfold upsOne
  rw [if_neg, hf]
  intro h
  obtain ⟨x, hx, hm⟩ := List.any_eq_true.1 h
  obtain ⟨j, hj, rfl⟩ := List.getElem_of_mem hx
  rw [hno j _ (List.getElem?_eq_getElem hj)] at hm
  cases hm
theorem sum_map_set {α : Type} (f : α → Nat) : ∀ (l : List α) (i : Nat) (r : α), ((l.set i r).map f).sum ≤ (l.map f).sum + f r
  | [], _, _ => by simp
  | x :: l, 0, r => by simp; omega
  | x :: l, i + 1, r => by
    have := sum_map_set f l i r
    simp only [List.set_cons_succ, List.map_cons, List.sum_cons]
    omega
theorem sz_upsOne (l : List RowD) (r : RowD) : szL Row.sz (upsOne l r) ≤ szL Row.sz l + (1 + Row.sz r) := by
  unfold upsOne szL
  split
  · have := sum_map_set Row.sz l (l.findIdx (upsAt r)) r
    simp only [List.length_set]
    omega
  · obtain ⟨i, hi⟩ : ∃ i, l.findIdx (gtB r) = i := ⟨_, rfl⟩
    rw [hi]
    have h1 : ((l.take i).map Row.sz).sum + ((l.drop i).map Row.sz).sum = (l.map Row.sz).sum := by
      rw [← List.sum_append, ← List.map_append, List.take_append_drop]
    have h2 : (l.take i).length + (l.drop i).length = l.length := by rw [← List.length_append, List.take_append_drop]
    simp only [List.length_append, List.length_cons, List.map_append, List.map_cons, List.sum_append, List.sum_cons]
    omega
theorem upsert_take {rows more : List RowD} {j : Nat} {r : RowD} (hx : more[j]? = some r) : upsertD rows (more.take (j + 1)) = upsOne (upsertD rows (more.take j)) r := by
  unfold upsertD
  rw [List.take_add_one, hx]
  simp
theorem upsert_zero (rows more : List RowD) : upsertD rows (more.take 0) = rows := rfl
theorem upsert_all {rows more : List RowD} {j : Nat} (h : more.length ≤ j) : upsertD rows (more.take j) = upsertD rows more := by rw [List.take_of_length_le h]
theorem sz_upsert : ∀ (more rows : List RowD), szL Row.sz (upsertD rows more) ≤ szL Row.sz rows + szL Row.sz more
  | [], rows => by simp [upsertD, szL]
  | r :: m, rows => by
    have h1 := sz_upsert m (upsOne rows r)
    have h2 := sz_upsOne rows r
    have h3 : upsertD rows (r :: m) = upsertD (upsOne rows r) m := rfl
    rw [h3]
    have h4 : szL Row.sz (r :: m) = 1 + Row.sz r + szL Row.sz m := by simp [szL]; omega
    omega
theorem sz_take (l : List RowD) (j : Nat) : szL Row.sz (l.take j) ≤ szL Row.sz l := by
  have := sum_take_le Row.sz l j
  unfold szL
  rw [List.length_take]
  omega
theorem sz_upsert_take (rows more : List RowD) (j : Nat) : szL Row.sz (upsertD rows (more.take j)) ≤ szL Row.sz rows + szL Row.sz more := Nat.le_trans (sz_upsert _ _) (Nat.add_le_add_left (sz_take more j) _)
/-- The sink of frames. -/
def sinkD (l : List FrameD) : List RowD := l.foldl (fun s f => upsertD s f.rows) []
theorem sink_flat (l : List FrameD) : ∀ s, l.foldl (fun s f => upsertD s f.rows) s = upsertD s (l.flatMap FrameD.rows) := by
  induction l with
  | nil => intro s; rfl
  | cons f r ih =>
    intro s
    rw [List.foldl_cons, ih, List.flatMap_cons]
    unfold upsertD
    rw [List.foldl_append]
/-- Where the walk of the program stands: no row of the name among the first i; the first of them that is behind, or none. -/
def UpsTo (l : List RowD) (r : RowD) (i p : Nat) : Prop :=
  (∀ (j : Nat) y, j < i → l[j]? = some y → upsAt r y = false) ∧ p ≤ l.length ∧ (∀ (j : Nat) y, j < p → j < i → l[j]? = some y → gtB r y = false) ∧ ((p < i ∧ ∀ y, l[p]? = some y → gtB r y = true) ∨ p = l.length)
theorem UpsTo.start (l : List RowD) (r : RowD) : UpsTo l r 0 l.length := ⟨fun j y h => absurd h (by omega), Nat.le_refl _, fun j y _ h => absurd h (by omega), .inr rfl⟩
theorem UpsTo.done {l : List RowD} {r : RowD} {p : Nat} (h : UpsTo l r l.length p) : upsOne l r = l.take p ++ r :: l.drop p := by
  obtain ⟨h1, h2, h3, h4⟩ := h
  refine upsOne_ins (fun j y hj => h1 j y (List.getElem?_eq_some_iff.1 hj).1 hj) h2 (fun j y hj hy => h3 j y hj (List.getElem?_eq_some_iff.1 hy).1 hy) (fun y hy => ?_)
  rcases h4 with ⟨_, h4⟩ | h4
  · exact h4 y hy
  · have := (List.getElem?_eq_some_iff.1 hy).1; omega
theorem UpsTo.found {l : List RowD} {r x : RowD} {i p : Nat} (h : UpsTo l r i p) (hx : l[i]? = some x) (hm : upsAt r x = true) : upsOne l r = l.set i r := upsOne_set h.1 hx hm
/-- A row behind. -/
theorem UpsTo.gt {l : List RowD} {r x : RowD} {i p : Nat} (h : UpsTo l r i p) (hx : l[i]? = some x) (hc : 0 < paneC x.pane r.pane) : UpsTo l r (i + 1) (min p i) := by
  obtain ⟨h1, h2, h3, h4⟩ := h
  have hi := (List.getElem?_eq_some_iff.1 hx).1
  refine ⟨fun j y hj hy => ?_, by omega, fun j y hj _ hy => h3 j y (by omega) (by omega) hy, .inl ⟨by omega, fun y hy => ?_⟩⟩
  · by_cases e : j = i
    · subst e; rw [hx] at hy; cases hy; unfold upsAt; simp; omega
    · exact h1 j y (by omega) hy
  · by_cases e : p ≤ i
    · rw [Nat.min_eq_left e] at hy
      rcases h4 with ⟨_, h4⟩ | h4
      · exact h4 y hy
      · have := (List.getElem?_eq_some_iff.1 hy).1; omega
    · rw [Nat.min_eq_right (by omega), hx] at hy
      cases hy
      unfold gtB
      simpa using hc
/-- A row ahead. -/
theorem UpsTo.lt {l : List RowD} {r x : RowD} {i p : Nat} (h : UpsTo l r i p) (hx : l[i]? = some x) (hc : paneC x.pane r.pane < 0) : UpsTo l r (i + 1) p := by
  obtain ⟨h1, h2, h3, h4⟩ := h
  refine ⟨fun j y hj hy => ?_, h2, fun j y hj hj2 hy => ?_, h4.imp (fun ⟨a, b⟩ => ⟨by omega, b⟩) id⟩
  · by_cases e : j = i
    · subst e; rw [hx] at hy; cases hy; unfold upsAt; simp; omega
    · exact h1 j y (by omega) hy
  · by_cases e : j = i
    · subst e; rw [hx] at hy; cases hy; unfold gtB; simp; omega
    · exact h3 j y hj (by omega) hy
end Go.Proofs.Ytoglclmaacjdaaa.dat
