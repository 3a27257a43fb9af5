/-
  A REGION THAT DRAWS ITS ORDER, WALKED IN AN ORDER OF ONE'S CHOICE: what only reads yields the same in every world that meets S, so it may be taken as it stands; calls come up alone, and show S anew. One check for the whole region.
-/
import Derived.Deep.RegionHeld3
namespace Go.Proofs.Ytoglclmaacjdaaa.mix
open Go

section
variable {P : Program} {ops : Array Oper} {Q : Exit → Act → World → Prop} {md : Region.Mode} {S : World → Prop}

def ordB (md : Region.Mode) (ops : Array Oper) (hs : List Nat) : List Nat → Array Bool → Bool
  | [], listed => (Region.ready md ops listed).isEmpty
  | k :: r, listed => (if hs.contains k then decide (Region.ready md ops listed = [k]) else (Region.ready md ops listed).contains k && Region.free md ops listed k) && ordB md ops hs r (listed.setIfInBounds k true)

/-- The operations, each with its place, in the order chosen. -/
def wpOrd (P : Program) (ops : Array Oper) (Q : Exit → Act → World → Prop) (S : World → Prop) (hs : List Nat) : List (Nat × Oper) → Act → World → Prop
  | [], a, w => Q .normal a w
  | (k, o) :: rest, a, w =>
    if hs.contains k then ∀ K : Act → World → Prop, Shut (∀ a w, S w → (S w → wpOrd P ops Q S hs rest a w) → K a w) → if Region.wanted o (yielded ops a.tmps) = true then o.wp P a w K Q else K (a.put o.dst undef) w
    else ∃ v, YieldsIf P ops S o v a ∧ wpOrd P ops Q S hs rest (a.put o.dst v) w

theorem ordH_of {hs : List Nat} (hsel : Region.noSelect ops = true) (hQ : ∀ c a d v w, Q (.panic c) (Act.put a d v) w → Q (.panic c) a w) : ∀ (l : List (Nat × Oper)) (listed : Array Bool) (a : Act) (w : World), (∀ p ∈ l, ops[p.1]? = some p.2) →
    ordB md ops hs (l.map (·.1)) listed = true → S w → wpOrd P ops Q S hs l a w → wpAnyH P md ops Q S l.length listed a w
  | [], listed, a, w, _, hB, _, h => wpAnyH_done (by simpa [ordB] using hB) h 0
  | (k, o) :: l, listed, a, w, hl, hB, hS, h => by
    have h0 : ops[k]? = some o := hl (k, o) (by simp)
    have hl' : ∀ p ∈ l, ops[p.1]? = some p.2 := fun p hp => hl p (by simp [hp])
    simp only [List.map_cons, ordB, Bool.and_eq_true] at hB
    simp only [wpOrd] at h
    by_cases hk : hs.contains k = true
    · rw [if_pos hk] at hB h
      have hr : Region.ready md ops listed = [k] := by simpa using hB.1
      refine wpAnyH_ready hr (by simp) (AllReadyH.cons h0 (fun K hK => ?_) AllReadyH.nil)
      exact h K (fun a' w' hS' hW => hK.out a' w' hS' (fun hS'' => ordH_of hsel hQ l _ a' w' hl' hB.2 hS'' (hW hS'')))
    · rw [if_neg hk] at hB h
      have hB1 := hB.1
      simp only [Bool.and_eq_true] at hB1
      obtain ⟨v, hy, hh⟩ := h
      exact wpAnyH_take h0 hsel hB1.2 hB1.1 (fun c a w => hQ c a o.dst v w) hy hS (ordH_of hsel hQ l _ _ w hl' hB.2 hS hh)

theorem wp_region_ord {id : Nat} {a : Act} {w : World} {l : List Oper} (S : World → Prop) (hs : List Nat) (ord : List Nat) (hm : P.follows .mixedOrders = true) (hB : (Region.noSelect l.toArray && decide (ord.length = l.length) && ord.all (fun k => decide (k < l.length)) && ordB .any l.toArray hs ord (Array.replicate l.length false)) = true)
    (hQ : ∀ c a d v w, Q (.panic c) (Act.put a d v) w → Q (.panic c) a w) (hS : S w.drew) (h : wpOrd P l.toArray Q S hs (ord.filterMap fun k => (l[k]?).map fun o => (k, o)) a w.drew) : (Code.region id l.toArray true).wp P Q a w := by
  simp only [Bool.and_eq_true, decide_eq_true_eq, List.all_eq_true] at hB
  refine wp_region_held_drew (S := S) hm hS (fun _ => ?_)
  have hmap : ∀ ks : List Nat, (∀ k ∈ ks, k < l.length) → (ks.filterMap fun k => (l[k]?).map fun o => (k, o)).map (·.1) = ks := by
    intro ks
    induction ks with
    | nil => intro _; rfl
    | cons k r ih =>
      intro hk
      obtain ⟨o, h1⟩ : ∃ o, l[k]? = some o := ⟨_, List.getElem?_eq_getElem (hk k (by simp))⟩
      simp only [List.filterMap_cons, h1, Option.map_some, List.map_cons, ih (fun k' hk' => hk k' (by simp [hk']))]
  have hm2 := hmap ord hB.1.2
  have hlen : (ord.filterMap fun k => (l[k]?).map fun o => (k, o)).length = l.length := by
    rw [← hB.1.1.2]; conv => rhs; rw [← hm2]
    simp
  have := ordH_of (P := P) (Q := Q) (S := S) (md := .any) hB.1.1.1 hQ (ord.filterMap fun k => (l[k]?).map fun o => (k, o)) (Array.replicate l.length false) a w.drew (fun p hp => by
    obtain ⟨k, _, hk⟩ := List.mem_filterMap.1 hp
    obtain ⟨o, ho, rfl⟩ := Option.map_eq_some_iff.1 hk
    simpa using ho) (by rw [hm2]; exact hB.2) hS h
  rw [hlen] at this
  simpa using this

theorem ord_take {hs : List Nat} {k : Nat} {o : Oper} {rest : List (Nat × Oper)} {a : Act} {w : World} {v : Value} (hk : hs.contains k = false) (hw : Region.wanted o (yielded ops a.tmps) = true) (hy : ∀ w, S w → (execOp a.eval o).run P w = .ok (.value v) w)
    (h : wpOrd P ops Q S hs rest (a.put o.dst v) w) : wpOrd P ops Q S hs ((k, o) :: rest) a w := by
  simp only [wpOrd]
  rw [if_neg (by rw [hk]; simp)]
  exact ⟨v, .inl ⟨hw, hy⟩, h⟩
theorem ord_pass {hs : List Nat} {k : Nat} {o : Oper} {rest : List (Nat × Oper)} {a : Act} {w : World} (hk : hs.contains k = false) (hw : Region.wanted o (yielded ops a.tmps) = false)
    (h : wpOrd P ops Q S hs rest (a.put o.dst undef) w) : wpOrd P ops Q S hs ((k, o) :: rest) a w := by
  simp only [wpOrd]
  rw [if_neg (by rw [hk]; simp)]
  exact ⟨undef, .inr ⟨hw, rfl⟩, h⟩
theorem ord_hard {hs : List Nat} {k : Nat} {o : Oper} {rest : List (Nat × Oper)} {a : Act} {w : World} (hk : hs.contains k = true)
    (h : ∀ K : Act → World → Prop, Shut (∀ a w, S w → (S w → wpOrd P ops Q S hs rest a w) → K a w) → if Region.wanted o (yielded ops a.tmps) = true then o.wp P a w K Q else K (a.put o.dst undef) w) : wpOrd P ops Q S hs ((k, o) :: rest) a w := by
  simp only [wpOrd]
  rw [if_pos hk]
  exact h
theorem ord_end {hs : List Nat} {a : Act} {w : World} (h : Q .normal a w) : wpOrd P ops Q S hs [] a w := h
end
end Go.Proofs.Ytoglclmaacjdaaa.mix
