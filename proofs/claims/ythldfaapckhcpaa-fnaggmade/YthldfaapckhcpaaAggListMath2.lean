/-
  PLAIN MATHEMATICS OF TWO LISTS OF VALUES, one behind the other (no program).
-/
import Derived.Test.YthldfaapckhcpaaAggListMath
namespace Go.Proofs.Ythldfaapckhcpaa.agg

/-- All of a list's numbers are values, and not too many: its aggregate is one, and counts them. -/
theorem foldQ_ok {l : List Int} (h1 : l.length ≤ 1000) (h2 : ∀ v ∈ l, isVal v = true) : (foldQ l).Ok ∧ (foldQ l).n = l.length := by
  have h := foldQ_take l h1 l.length (Nat.le_refl _) (by rw [List.take_of_length_le (Nat.le_refl _)]; exact h2)
  rw [List.take_of_length_le (Nat.le_refl _)] at h
  exact h

/-- Two lists, one behind the other. -/
theorem foldQ_append {l : List Int} (h1 : l.length ≤ 1000) (h2 : ∀ v ∈ l, isVal v = true) (r : List Int) (h3 : r.length ≤ 1000) (h4 : ∀ v ∈ r, isVal v = true) : foldQ (l ++ r) = wth (foldQ l) (foldQ r) := by
  have hl := (foldQ_ok h1 h2).1
  have key : ∀ k, k ≤ r.length → foldQ (l ++ r.take k) = wth (foldQ l) (foldQ (r.take k)) := by
    intro k
    induction k with
    | zero =>
      intro _
      have hz : wth (foldQ l) zero = foldQ l := by rw [with_comm hl ok_zero]; simp [wth, zero]
      rw [List.take_zero, List.append_nil, foldQ_nil, hz]
    | succ k ih =>
      intro hk
      have e : r.take (k + 1) = r.take k ++ [r[k]] := List.take_succ_eq_append_getElem (by omega)
      have hr : (foldQ (r.take k)).Ok := (foldQ_take r h3 k (by omega) (fun v hv => h4 v (List.mem_of_mem_take hv))).1
      rw [e, ← List.append_assoc, foldQ_snoc, foldQ_snoc, ih (by omega), with_assoc hl hr (ok_ofV _)]
  have h := key r.length (Nat.le_refl _)
  rw [List.take_of_length_le (Nat.le_refl _)] at h
  exact h

theorem listT_append {l r : List Int} : listT (l ++ r) = true ↔ listT l = true ∧ listT r = true ∧ l.length + r.length ≤ 1000 := by
  simp only [listT_iff, List.length_append, List.mem_append]
  constructor
  · rintro ⟨h1, h2⟩
    exact ⟨⟨by omega, fun v hv => h2 v (.inl hv)⟩, ⟨by omega, fun v hv => h2 v (.inr hv)⟩, h1⟩
  · rintro ⟨⟨a1, a2⟩, ⟨b1, b2⟩, h⟩
    exact ⟨h, fun v hv => hv.elim (a2 v) (b2 v)⟩
end Go.Proofs.Ythldfaapckhcpaa.agg
