/-
  A REGION THAT DRAWS ITS ORDER AND ENDS IN A STORE: walked in an order of one's choice (as in MixOrd), the last operation behind all others; behind it S need not hold.
-/
import Derived.Test.YtoglclmaacjdaaaMix
import Derived.Deep.RegionHeld3
namespace Go.Proofs.Ytoglclmaacjdaaa.mix
open Go

section
variable {P : Program} {ops : Array Oper} {Q : Exit → Act → World → Prop} {md : Region.Mode} {S : World → Prop}

def wpAnyLH (P : Program) (md : Region.Mode) (ops : Array Oper) (Q : Exit → Act → World → Prop) (S : World → Prop) (n : Nat) (L : Array Bool → Act → World → Prop) : Nat → Array Bool → Act → World → Prop
  | 0, listed, a, w => L listed a w
  | f + 1, listed, a, w => Region.ready md ops listed ≠ [] ∧ ∀ i ∈ Region.ready md ops listed, i < n ∧ wpOp P ops Q i (fun a' w' => S w' ∧ wpAnyLH P md ops Q S n L f (listed.setIfInBounds i true) a' w') a w

theorem any_of_LH {n g : Nat} {L : Array Bool → Act → World → Prop} (hL : ∀ listed a w, L listed a w → wpAny P md ops Q g listed a w) :
    ∀ (f : Nat) (listed : Array Bool) (a : Act) (w : World), wpAnyLH P md ops Q S n L f listed a w → wpAny P md ops Q (f + g) listed a w
  | 0, listed, a, w, h => by rw [Nat.zero_add]; exact hL _ _ _ h
  | f + 1, listed, a, w, h => by
    rw [show f + 1 + g = (f + g) + 1 by omega]
    exact ⟨fun h0 => absurd h0 h.1, fun i hi => wpOp_mono (fun a' w' h' => any_of_LH hL f _ a' w' h'.2) (h.2 i hi).2⟩

theorem anyLH_first {n i : Nat} {oi : Oper} {v : Value} {L : Array Bool → Act → World → Prop} (hi : ops[i]? = some oi) (hsel : ∀ (j : Nat) (o : Oper) cs b, ops[j]? = some o → o.op ≠ .select cs b)
    (hQ : ∀ c a w, Q (.panic c) (a.put oi.dst v) w → Q (.panic c) a w) (hs : n < ops.size → Region.sinkB md ops n = true) (hc : afterB md ops n = true) (hin : i < n)
    (hdone : ∀ listed a w, L listed a w → ∀ j ∈ Region.ready md ops listed, n ≤ j) :
    ∀ (f : Nat) (listed : Array Bool) (a : Act) (w : World), HeadInv md ops n listed →
      (∀ j oj, ops[j]? = some oj → j ≠ i → listed.getD j true = false → (∀ e ∈ oj.after, Region.binds md e = true → e.on ≠ i) → oi.apart ops oj = true) →
      i ∈ Region.ready md ops listed → YieldsIf P ops S oi v a → S w →
      wpAnyLH P md ops Q S n L f (listed.setIfInBounds i true) (a.put oi.dst v) w → wpAnyLH P md ops Q S n L (f + 1) listed a w := by
  intro f
  induction f with
  | zero =>
    intro listed a w inv _ hr hy hS H
    have hun := (mem_ready.1 hr).1
    refine ⟨fun h => (by rw [h] at hr; cases hr), fun j hj => ?_⟩
    have hjn : j < n := by
      rcases Nat.lt_or_ge j n with h | h
      · exact h
      · exact absurd hj (waits hs hc inv _ i rfl hin hun j h)
    refine ⟨hjn, ?_⟩
    by_cases hji : j = i
    · subst hji; exact hy.wpOp hi hS ⟨hS, H⟩
    · have := hdone _ _ _ H j (ready_mono hj hji)
      omega
  | succ f ih =>
    intro listed a w inv hfree hr hy hS H
    have hun := (mem_ready.1 hr).1
    refine ⟨fun h => (by rw [h] at hr; cases hr), fun j hj => ?_⟩
    have hjn : j < n := by
      rcases Nat.lt_or_ge j n with h | h
      · exact h
      · exact absurd hj (waits hs hc inv _ i rfl hin hun j h)
    refine ⟨hjn, ?_⟩
    by_cases hji : j = i
    · subst hji; exact hy.wpOp hi hS ⟨hS, H⟩
    · have h1 := (H.2 j (ready_mono hj hji)).2
      obtain ⟨hjun, oj, hoj, hall⟩ := mem_ready.1 hj
      have hnot : ∀ e ∈ oj.after, Region.binds md e = true → e.on ≠ i := fun e he hb heq => by
        have h1 := hall e he hb
        rw [heq, getD_both hun] at h1
        cases h1
      have h2 := wpOp_putIf hoj (hfree j oj hoj hji hjun hnot) (fun cs b => hsel i oi cs b hi) (fun cs b => hsel j oj cs b hoj) hQ hy h1
      have hfree' : ∀ k ok, ops[k]? = some ok → k ≠ i → (listed.setIfInBounds j true).getD k true = false →
          (∀ e ∈ ok.after, Region.binds md e = true → e.on ≠ i) → oi.apart ops ok = true := fun k ok hk hki hun hno => by
        refine hfree k ok hk hki ?_ hno
        by_cases hjk : j = k
        · subst hjk; exact hjun
        · rw [getD_set_ne true hjk] at hun; exact hun
      refine wpOp_mono (fun a' w' h3 => ⟨h3.2.1, ih (listed.setIfInBounds j true) a' w' (inv.set hj hjn) hfree' (ready_mono hr (Ne.symm hji)) h3.1 h3.2.1 ?_⟩) h2
      rw [Array.setIfInBounds_comm _ _ hji]
      exact h3.2.2

def setL : List Nat → Array Bool → Array Bool
  | [], listed => listed
  | k :: r, listed => setL r (listed.setIfInBounds k true)
def ordTB (md : Region.Mode) (ops : Array Oper) (hs : List Nat) : List Nat → Array Bool → Bool
  | [], _ => true
  | k :: r, listed => (if hs.contains k then decide (Region.ready md ops listed = [k]) else (Region.ready md ops listed).contains k && Region.free md ops listed k) && ordTB md ops hs r (listed.setIfInBounds k true)

/-- The operations, each with its place, in the order chosen; F at the end. -/
def wpOrdT (P : Program) (ops : Array Oper) (Q : Exit → Act → World → Prop) (S : World → Prop) (F : Act → World → Prop) (hs : List Nat) : List (Nat × Oper) → Act → World → Prop
  | [], a, w => F a w
  | (k, o) :: rest, a, w =>
    if hs.contains k then ∀ K : Act → World → Prop, Shut (∀ a w, S w → (S w → wpOrdT P ops Q S F hs rest a w) → K a w) → if Region.wanted o (yielded ops a.tmps) = true then o.wp P a w K Q else K (a.put o.dst undef) w
    else ∃ v, YieldsIf P ops S o v a ∧ wpOrdT P ops Q S F hs rest (a.put o.dst v) w

theorem ordLH_of {n : Nat} {hs : List Nat} {F : Act → World → Prop} {fin : Array Bool} (hsel : Region.noSelect ops = true) (hQ : ∀ c a d v w, Q (.panic c) (Act.put a d v) w → Q (.panic c) a w) (hsk : n < ops.size → Region.sinkB md ops n = true) (hc : afterB md ops n = true) (hfin : ∀ j ∈ Region.ready md ops fin, n ≤ j) :
    ∀ (l : List (Nat × Oper)) (listed : Array Bool) (a : Act) (w : World), (∀ p ∈ l, ops[p.1]? = some p.2 ∧ p.1 < n) → HeadInv md ops n listed → setL (l.map (·.1)) listed = fin →
    ordTB md ops hs (l.map (·.1)) listed = true → S w → wpOrdT P ops Q S F hs l a w → wpAnyLH P md ops Q S n (fun listed' a' w' => listed' = fin ∧ F a' w') l.length listed a w
  | [], listed, a, w, _, _, hf, _, _, h => ⟨hf, h⟩
  | (k, o) :: l, listed, a, w, hl, inv, hf, hB, hS, h => by
    have h0 : ops[k]? = some o := (hl (k, o) (by simp)).1
    have hkn : k < n := (hl (k, o) (by simp)).2
    have hl' : ∀ p ∈ l, ops[p.1]? = some p.2 ∧ p.1 < n := fun p hp => hl p (by simp [hp])
    simp only [List.map_cons, ordTB, Bool.and_eq_true] at hB
    simp only [List.map_cons, setL] at hf
    simp only [wpOrdT] at h
    by_cases hk : hs.contains k = true
    · rw [if_pos hk] at hB h
      have hr : Region.ready md ops listed = [k] := by simpa using hB.1
      have hkr : k ∈ Region.ready md ops listed := by rw [hr]; simp
      refine ⟨by rw [hr]; simp, fun i hi => ?_⟩
      rw [hr] at hi
      obtain rfl : i = k := by simpa using hi
      refine ⟨hkn, wpOp_step h0 (fun K hK => ?_)⟩
      exact h K (fun a' w' hS' hW => hK a' w' ⟨hS', ordLH_of hsel hQ hsk hc hfin l _ a' w' hl' (inv.set hkr hkn) hf hB.2 hS' (hW hS')⟩)
    · rw [if_neg hk] at hB h
      have hB1 := hB.1
      simp only [Bool.and_eq_true] at hB1
      obtain ⟨v, hy, hh⟩ := h
      have hkr : k ∈ Region.ready md ops listed := by simpa using hB1.1
      exact anyLH_first h0 (Region.noSelect_spec hsel) (fun c a w => hQ c a o.dst v w) hsk hc hkn (fun listed' a' w' hL => by rw [hL.1]; exact hfin) l.length listed a w inv (Region.free_spec h0 hB1.2) hkr hy hS
        (ordLH_of hsel hQ hsk hc hfin l _ _ w hl' (inv.set hkr hkn) hf hB.2 hS hh)

/-- The last operation, alone. -/
def wpLast (P : Program) (Q : Exit → Act → World → Prop) (o : Option Oper) (a : Act) (w : World) : Prop := match o with
  | some o => ∀ K : Act → World → Prop, (∀ a w, Q .normal a w → K a w) → o.wp P a w K Q
  | none => False

def tailB (l : List Oper) (hs ord : List Nat) : Bool :=
  Region.noSelect l.toArray && decide (ord.length + 1 = l.length) && ord.all (fun k => decide (k < l.length - 1)) && Region.sinkB .any l.toArray (l.length - 1) && afterB .any l.toArray (l.length - 1) && (match l[l.length - 1]? with | some o => o.guard.isNone | none => false) &&
  ordTB .any l.toArray hs ord (Array.replicate l.length false) && decide (Region.ready .any l.toArray (setL ord (Array.replicate l.length false)) = [l.length - 1]) && (Region.ready .any l.toArray ((setL ord (Array.replicate l.length false)).setIfInBounds (l.length - 1) true)).isEmpty

theorem wp_region_tail {id : Nat} {a : Act} {w : World} {l : List Oper} (S : World → Prop) (hs : List Nat) (ord : List Nat) (hm : P.follows .mixedOrders = true) (hB : tailB l hs ord = true)
    (hQ : ∀ c a d v w, Q (.panic c) (Act.put a d v) w → Q (.panic c) a w) (hS : S w.drew)
    (h : wpOrdT P l.toArray Q S (fun a w => wpLast P Q l[l.length - 1]? a w) hs (ord.filterMap fun k => (l[k]?).map fun o => (k, o)) a w.drew) : (Code.region id l.toArray true).wp P Q a w := by
  simp only [tailB, Bool.and_eq_true, decide_eq_true_eq, List.all_eq_true, List.isEmpty_iff] at hB
  obtain ⟨⟨⟨⟨⟨⟨⟨⟨h1, h2⟩, h3⟩, h4⟩, h5⟩, h6⟩, h7⟩, h8⟩, h9⟩ := hB
  have hpos : l.length - 1 < l.length := by omega
  obtain ⟨ol, hol⟩ : ∃ o, l[l.length - 1]? = some o := ⟨_, List.getElem?_eq_getElem hpos⟩
  have hmap : ∀ ks : List Nat, (∀ k ∈ ks, k < l.length - 1) → (ks.filterMap fun k => (l[k]?).map fun o => (k, o)).map (·.1) = ks := by
    intro ks
    induction ks with
    | nil => intro _; rfl
    | cons k r ih =>
      intro hk
      obtain ⟨o, ho⟩ : ∃ o, l[k]? = some o := ⟨_, List.getElem?_eq_getElem (by have := hk k (by simp); omega)⟩
      simp only [List.filterMap_cons, ho, Option.map_some, List.map_cons, ih (fun k' hk' => hk k' (by simp [hk']))]
  have hm2 := hmap ord h3
  have hlen : (ord.filterMap fun k => (l[k]?).map fun o => (k, o)).length = ord.length := by
    conv => rhs; rw [← hm2]
    simp
  have inv0 : HeadInv .any l.toArray (l.length - 1) (Array.replicate l.length false) :=
    ⟨by simp, fun j oj _ hl => (by rw [getD_replicate_false] at hl; cases hl), fun t _ ht => getD_in (by simpa using ht) (getD_replicate_false _ _)⟩
  have H := ordLH_of (P := P) (Q := Q) (S := S) (md := .any) (n := l.length - 1) (fin := setL ord (Array.replicate l.length false)) h1 hQ (fun _ => h4) h5 (by rw [h8]; intro j hj; simp at hj; omega) (ord.filterMap fun k => (l[k]?).map fun o => (k, o)) (Array.replicate l.length false) a w.drew (fun p hp => by
    obtain ⟨k, hk1, hk⟩ := List.mem_filterMap.1 hp
    obtain ⟨o, ho, rfl⟩ := Option.map_eq_some_iff.1 hk
    exact ⟨by simpa using ho, h3 k hk1⟩) inv0 (by rw [hm2]) (by rw [hm2]; exact h7) hS h
  refine wp_region_any hm ?_
  have := any_of_LH (P := P) (Q := Q) (g := 1) (fun listed' a' w' hL => by
    obtain ⟨rfl, hF⟩ := hL
    rw [hol] at hF h6
    refine ⟨fun he => (by rw [h8] at he; cases he), fun i hi => ?_⟩
    rw [h8] at hi
    obtain rfl : i = l.length - 1 := by simpa using hi
    refine wpOp_step (o := ol) (by simpa using hol) (fun K hK => ?_)
    have hg : ol.guard = none := by simpa using h6
    rw [if_pos (show Region.wanted ol (yielded l.toArray a'.tmps) = true by simp [Region.wanted, hg])]
    exact hF K (fun a'' w'' hq => hK a'' w'' ⟨h9, hq⟩)) _ _ _ _ H
  rw [hlen, h2] at this
  simpa using this

theorem ordt_take {F : Act → World → Prop} {hs : List Nat} {k : Nat} {o : Oper} {rest : List (Nat × Oper)} {a : Act} {w : World} {v : Value} (hk : hs.contains k = false) (hw : Region.wanted o (yielded ops a.tmps) = true) (hy : ∀ w, S w → (execOp a.eval o).run P w = .ok (.value v) w)
    (h : wpOrdT P ops Q S F hs rest (a.put o.dst v) w) : wpOrdT P ops Q S F hs ((k, o) :: rest) a w := by
  simp only [wpOrdT]
  rw [if_neg (by rw [hk]; simp)]
  exact ⟨v, .inl ⟨hw, hy⟩, h⟩
theorem ordt_hard {F : Act → World → Prop} {hs : List Nat} {k : Nat} {o : Oper} {rest : List (Nat × Oper)} {a : Act} {w : World} (hk : hs.contains k = true)
    (h : ∀ K : Act → World → Prop, Shut (∀ a w, S w → (S w → wpOrdT P ops Q S F hs rest a w) → K a w) → if Region.wanted o (yielded ops a.tmps) = true then o.wp P a w K Q else K (a.put o.dst undef) w) : wpOrdT P ops Q S F hs ((k, o) :: rest) a w := by
  simp only [wpOrdT]
  rw [if_pos hk]
  exact h
theorem ordt_hardb {F : Act → World → Prop} {hs : List Nat} {k : Nat} {o : Oper} {rest : List (Nat × Oper)} {a : Act} {w : World} (hk : hs.contains k = true) (hg : o.guard = none)
    (h : ∀ K : Act → World → Prop, Shut (∀ a w, S w → (S w → wpOrdT P ops Q S F hs rest a w) → K a w) → o.wp P a w K Q) : wpOrdT P ops Q S F hs ((k, o) :: rest) a w :=
  ordt_hard hk (fun K hK => by rw [if_pos (show Region.wanted o (yielded ops a.tmps) = true by simp [Region.wanted, hg])]; exact h K hK)
theorem ordt_end {F : Act → World → Prop} {hs : List Nat} {a : Act} {w : World} (h : F a w) : wpOrdT P ops Q S F hs [] a w := h
theorem last_step {o : Oper} {a : Act} {w : World} (h : ∀ K : Act → World → Prop, (∀ a w, Q .normal a w → K a w) → o.wp P a w K Q) : wpLast P Q (some o) a w := h
end
end Go.Proofs.Ytoglclmaacjdaaa.mix
