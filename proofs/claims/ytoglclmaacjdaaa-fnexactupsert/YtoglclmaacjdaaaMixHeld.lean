/-
  A REGION THAT DRAWS ITS ORDER, WALKED IN THE ORDER OF THE TEXT: what only reads yields the same in every world that meets S, so it may be taken as it stands; calls come up alone, and show S anew. One check for the whole region.
-/
import Derived.Deep.RegionHeld3
namespace Go.Proofs.Ytoglclmaacjdaaa.mix
open Go

section
variable {P : Program} {ops : Array Oper} {Q : Exit → Act → World → Prop} {md : Region.Mode} {S : World → Prop}

def heldB (md : Region.Mode) (ops : Array Oper) (hs : List Nat) : Nat → Nat → Array Bool → Bool
  | 0, _, listed => (Region.ready md ops listed).isEmpty
  | f + 1, k, listed => (if hs.contains k then decide (Region.ready md ops listed = [k]) else (Region.ready md ops listed).contains k && Region.free md ops listed k) && heldB md ops hs f (k + 1) (listed.setIfInBounds k true)

def wpHeld (P : Program) (ops : Array Oper) (Q : Exit → Act → World → Prop) (S : World → Prop) (hs : List Nat) : Nat → List Oper → Act → World → Prop
  | _, [], a, w => Q .normal a w
  | k, o :: rest, a, w =>
    if hs.contains k then ∀ K : Act → World → Prop, Shut (∀ a w, S w → (S w → wpHeld P ops Q S hs (k + 1) rest a w) → K a w) → if Region.wanted o (yielded ops a.tmps) = true then o.wp P a w K Q else K (a.put o.dst undef) w
    else ∃ v, YieldsIf P ops S o v a ∧ wpHeld P ops Q S hs (k + 1) rest (a.put o.dst v) w

theorem anyH_of {hs : List Nat} (hsel : Region.noSelect ops = true) (hQ : ∀ c a d v w, Q (.panic c) (Act.put a d v) w → Q (.panic c) a w) : ∀ (l : List Oper) (k : Nat) (listed : Array Bool) (a : Act) (w : World), (∀ j, l[j]? = ops[k + j]?) →
    heldB md ops hs l.length k listed = true → S w → wpHeld P ops Q S hs k l a w → wpAnyH P md ops Q S l.length listed a w
  | [], k, listed, a, w, _, hB, _, h => wpAnyH_done (by simpa [heldB] using hB) h 0
  | o :: l, k, listed, a, w, hl, hB, hS, h => by
    have h0 : ops[k]? = some o := by simpa using (hl 0).symm
    have hl' : ∀ j, l[j]? = ops[k + 1 + j]? := fun j => by have := hl (j + 1); simpa [Nat.add_assoc, Nat.add_comm 1 j] using this
    simp only [List.length_cons, heldB, Bool.and_eq_true] at hB
    simp only [wpHeld] at h
    by_cases hk : hs.contains k = true
    · rw [if_pos hk] at hB h
      have hr : Region.ready md ops listed = [k] := by simpa using hB.1
      refine wpAnyH_ready hr (by simp) (AllReadyH.cons h0 (fun K hK => ?_) AllReadyH.nil)
      exact h K (fun a' w' hS' hW => hK.out a' w' hS' (fun hS'' => anyH_of hsel hQ l (k + 1) _ a' w' hl' hB.2 hS'' (hW hS'')))
    · rw [if_neg hk] at hB h
      have hB1 := hB.1
      simp only [Bool.and_eq_true] at hB1
      obtain ⟨v, hy, hh⟩ := h
      exact wpAnyH_take h0 hsel hB1.2 hB1.1 (fun c a w => hQ c a o.dst v w) hy hS (anyH_of hsel hQ l (k + 1) _ _ w hl' hB.2 hS hh)

theorem wp_region_mixh {id : Nat} {a : Act} {w : World} {l : List Oper} (S : World → Prop) (hs : List Nat) (hm : P.follows .mixedOrders = true) (hB : (Region.noSelect l.toArray && heldB .any l.toArray hs l.length 0 (Array.replicate l.length false)) = true)
    (hQ : ∀ c a d v w, Q (.panic c) (Act.put a d v) w → Q (.panic c) a w) (hS : S w.drew) (h : wpHeld P l.toArray Q S hs 0 l a w.drew) : (Code.region id l.toArray true).wp P Q a w := by
  simp only [Bool.and_eq_true] at hB
  refine wp_region_held_drew (S := S) hm hS (fun _ => ?_)
  have := anyH_of (P := P) (Q := Q) (S := S) (md := .any) hB.1 hQ l 0 (Array.replicate l.length false) a w.drew (fun j => by simp) hB.2 hS h
  simpa using this

theorem held_take {hs : List Nat} {k : Nat} {o : Oper} {rest : List Oper} {a : Act} {w : World} {v : Value} (hk : hs.contains k = false) (hw : Region.wanted o (yielded ops a.tmps) = true) (hy : ∀ w, S w → (execOp a.eval o).run P w = .ok (.value v) w)
    (h : wpHeld P ops Q S hs (k + 1) rest (a.put o.dst v) w) : wpHeld P ops Q S hs k (o :: rest) a w := by
  simp only [wpHeld]
  rw [if_neg (by rw [hk]; simp)]
  exact ⟨v, .inl ⟨hw, hy⟩, h⟩
theorem held_pass {hs : List Nat} {k : Nat} {o : Oper} {rest : List Oper} {a : Act} {w : World} (hk : hs.contains k = false) (hw : Region.wanted o (yielded ops a.tmps) = false)
    (h : wpHeld P ops Q S hs (k + 1) rest (a.put o.dst undef) w) : wpHeld P ops Q S hs k (o :: rest) a w := by
  simp only [wpHeld]
  rw [if_neg (by rw [hk]; simp)]
  exact ⟨undef, .inr ⟨hw, rfl⟩, h⟩
theorem held_hard {hs : List Nat} {k : Nat} {o : Oper} {rest : List Oper} {a : Act} {w : World} (hk : hs.contains k = true)
    (h : ∀ K : Act → World → Prop, Shut (∀ a w, S w → (S w → wpHeld P ops Q S hs (k + 1) rest a w) → K a w) → if Region.wanted o (yielded ops a.tmps) = true then o.wp P a w K Q else K (a.put o.dst undef) w) : wpHeld P ops Q S hs k (o :: rest) a w := by
  simp only [wpHeld]
  rw [if_pos hk]
  exact h
theorem held_end {hs : List Nat} {k : Nat} {a : Act} {w : World} (h : Q .normal a w) : wpHeld P ops Q S hs k [] a w := h
end
end Go.Proofs.Ytoglclmaacjdaaa.mix
