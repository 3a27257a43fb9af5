/-
  PLAIN MATHEMATICS OF A LIST OF VALUES (no program): what its aggregate is, and when there is one.
-/
import Derived.Test.YthldfaapckhcpaaDoorAggMath
namespace Go.Proofs.YthldfaapckhcpaaDoor.agg

def foldQ (l : List Int) : Q := l.foldl (fun q v => wth q (ofV v)) zero
def listT (l : List Int) : Bool := decide (l.length ≤ 1000) && l.all isVal
def listV (l : List Int) : Q := if listT l = true then foldQ l else zero

theorem foldQ_nil : foldQ [] = zero := rfl
theorem foldQ_snoc (l : List Int) (v : Int) : foldQ (l ++ [v]) = wth (foldQ l) (ofV v) := by simp [foldQ]

theorem ofV_n {v : Int} (h : isVal v = true) : (ofV v).n = 1 := by simp [ofV, h]

/-- The list's aggregate is one, and counts its values: by one value more at the end. -/
theorem foldQ_take (l : List Int) (hl : l.length ≤ 1000) : ∀ k, k ≤ l.length → (∀ v ∈ l.take k, isVal v = true) → (foldQ (l.take k)).Ok ∧ (foldQ (l.take k)).n = k := by
  intro k
  induction k with
  | zero => intro _ _; exact ⟨ok_zero, rfl⟩
  | succ k ih =>
    intro hk hv
    have e : l.take (k + 1) = l.take k ++ [l[k]] := List.take_succ_eq_append_getElem (by omega)
    rw [e] at hv ⊢
    obtain ⟨h1, h2⟩ := ih (by omega) (fun v hm => hv v (List.mem_append_left _ hm))
    have h3 : isVal l[k] = true := hv _ (List.mem_append_right _ (List.mem_singleton.2 rfl))
    have h4 := ofV_n h3
    have h5 := ok_ofV l[k]
    rw [foldQ_snoc]
    refine ⟨ok_with h1 h5 (by omega), ?_⟩
    rw [with_n h1 h5, h2, h4]; omega

theorem listT_iff (l : List Int) : listT l = true ↔ l.length ≤ 1000 ∧ ∀ v ∈ l, isVal v = true := by
  simp [listT, List.all_eq_true]

theorem listT_yes {l : List Int} (h1 : l.length ≤ 1000) (h2 : ∀ v ∈ l, isVal v = true) : listT l = true := (listT_iff l).2 ⟨h1, h2⟩
theorem listT_long {l : List Int} (h : 1000 < l.length) : listT l = false := by
  rw [← Bool.not_eq_true, listT_iff]; omega
theorem listT_bad {l : List Int} {k : Nat} (hk : k < l.length) (h : isVal (l.getD k 0) = false) : listT l = false := by
  rw [← Bool.not_eq_true, listT_iff]
  rintro ⟨_, h2⟩
  have := h2 (l.getD k 0) (by rw [List.getD_eq_getElem?_getD, List.getElem?_eq_getElem hk]; simp)
  rw [h] at this; cases this

/-- So many values at the list's head are values. -/
def Vals (l : List Int) (k : Nat) : Prop := ∀ v ∈ l.take k, isVal v = true
theorem Vals.zero (l : List Int) : Vals l 0 := by intro v hv; simp at hv
theorem Vals.succ {l : List Int} {k : Nat} (h : Vals l k) (hk : k < l.length) (hv : isVal (l.getD k 0) = true) : Vals l (k + 1) := by
  intro v hm
  rw [List.take_succ_eq_append_getElem hk] at hm
  rcases List.mem_append.1 hm with hm | hm
  · exact h v hm
  · simp only [List.mem_singleton] at hm
    rw [hm]
    rw [List.getD_eq_getElem?_getD, List.getElem?_eq_getElem hk] at hv
    exact hv
theorem Vals.all {l : List Int} (h : Vals l l.length) : ∀ v ∈ l, isVal v = true := by
  intro v hv; exact h v (by rw [List.take_of_length_le (Nat.le_refl _)]; exact hv)

theorem foldQ_succ {l : List Int} {k : Nat} (hk : k < l.length) : foldQ (l.take (k + 1)) = wth (foldQ (l.take k)) (ofV (l.getD k 0)) := by
  rw [List.take_succ_eq_append_getElem hk, foldQ_snoc, List.getD_eq_getElem?_getD, List.getElem?_eq_getElem hk]
  rfl

theorem listV_no {l : List Int} (h : listT l = false) : listV l = zero := by simp [listV, h]
theorem listV_yes {l : List Int} (h : listT l = true) : listV l = foldQ l := by simp [listV, h]
end Go.Proofs.YthldfaapckhcpaaDoor.agg
