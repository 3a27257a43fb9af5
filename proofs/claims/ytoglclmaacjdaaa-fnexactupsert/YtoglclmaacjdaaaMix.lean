/-
  A REGION THAT DRAWS ITS ORDER, IN WHICH SOME OPERATIONS (calls that make memory) STAND AT NARROW PLACES: all that stands ahead of one in the text is ahead of it in every order, all behind it behind it. Then every order comes to the order of the text, where what lies between two such operations only reads.
-/
import Derived.StillTailTactics
namespace Go.Proofs.Ytoglclmaacjdaaa.mix
open Go

section
variable {P : Program} {ops : Array Oper} {md : Region.Mode} {w : World}

/-- Each operation behind n waits for one from n on. -/
def afterB (md : Region.Mode) (ops : Array Oper) (n : Nat) : Bool :=
  (List.range ops.size).all fun t => decide (t ≤ n) || (List.range t).any fun j => decide (n ≤ j) && Region.waitsFor md ops t j

theorem waits {n : Nat} {listed : Array Bool} (hs : n < ops.size → Region.sinkB md ops n = true) (hc : afterB md ops n = true) (inv : HeadInv md ops n listed) :
    ∀ (d i : Nat), n - i = d → i < n → listed.getD i true = false → ∀ t, n ≤ t → t ∉ Region.ready md ops listed := by
  intro d
  induction d using Nat.strongRecOn with
  | _ d ih =>
    intro i hd hi hun t ht hr
    obtain ⟨_, ot, hot, hall⟩ := mem_ready.1 hr
    have htlt : t < ops.size := (Array.getElem?_eq_some_iff.1 hot).1
    by_cases htn : t = n
    · subst htn
      have h1 := List.all_eq_true.1 (hs htlt) i (List.mem_range.2 hi)
      obtain ⟨j, hj, hj2⟩ := List.any_eq_true.1 h1
      simp only [Bool.and_eq_true, decide_eq_true_eq] at hj2
      obtain ⟨oj, hoj, e, he, hb, hon⟩ := Region.waitsFor_spec hj2.2
      have hjle : j ≤ t := by have := List.mem_range.1 hj; omega
      by_cases hjt : j = t
      · subst hjt
        have : oj = ot := Option.some.inj (hoj.symm.trans hot)
        subst this
        have h2 := hall e he hb
        rw [hon, getD_both hun] at h2
        cases h2
      · cases hl : listed.getD j false with
        | true =>
          have h2 := inv.closed j oj hoj hl e he hb
          rw [hon, getD_both hun] at h2
          cases h2
        | false =>
          have hjs : j < listed.size := by rw [inv.size]; omega
          exact ih (t - j) (by omega) j rfl (by omega) (getD_in hjs hl) t (Nat.le_refl _) hr
    · have h1 := List.all_eq_true.1 hc t (List.mem_range.2 htlt)
      simp only [Bool.or_eq_true, decide_eq_true_eq] at h1
      rcases h1 with h1 | h1
      · omega
      · obtain ⟨j, hj, hj2⟩ := List.any_eq_true.1 h1
        simp only [Bool.and_eq_true, decide_eq_true_eq] at hj2
        obtain ⟨o', ho', e, he, hb, hon⟩ := Region.waitsFor_spec hj2.2
        have : o' = ot := Option.some.inj (ho'.symm.trans hot)
        subst this
        have h2 := hall e he hb
        have hjt := List.mem_range.1 hj
        rw [hon, getD_both (inv.tail j hj2.1 (by omega))] at h2
        cases h2

theorem anyL_first {n i : Nat} {oi : Oper} {v : Value} {L : Array Bool → Act → Prop} (hi : ops[i]? = some oi) (hsel : ∀ (j : Nat) (o : Oper) cs b, ops[j]? = some o → o.op ≠ .select cs b)
    (hs : n < ops.size → Region.sinkB md ops n = true) (hc : afterB md ops n = true) (hin : i < n)
    (hdone : ∀ listed a, L listed a → ∀ j ∈ Region.ready md ops listed, n ≤ j) :
    ∀ (f : Nat) (listed : Array Bool) (a : Act), HeadInv md ops n listed →
      (∀ j oj, ops[j]? = some oj → j ≠ i → listed.getD j true = false → (∀ e ∈ oj.after, Region.binds md e = true → e.on ≠ i) → oi.apart ops oj = true) →
      i ∈ Region.ready md ops listed → YieldsAt P ops w oi v a →
      wpAnyL P md ops w n L f (listed.setIfInBounds i true) (a.put oi.dst v) → wpAnyL P md ops w n L (f + 1) listed a := by
  intro f
  induction f with
  | zero =>
    intro listed a inv _ hr hy H
    have hun := (mem_ready.1 hr).1
    refine ⟨fun h => (by rw [h] at hr; cases hr), fun j hj => ?_⟩
    have hjn : j < n := by
      rcases Nat.lt_or_ge j n with h | h
      · exact h
      · exact absurd hj (waits hs hc inv _ i rfl hin hun j h)
    refine ⟨hjn, ?_⟩
    by_cases hji : j = i
    · subst hji; exact hy.stOp hi H
    · have := hdone _ _ H j (ready_mono hj hji)
      omega
  | succ f ih =>
    intro listed a inv hfree hr hy H
    have hun := (mem_ready.1 hr).1
    refine ⟨fun h => (by rw [h] at hr; cases hr), fun j hj => ?_⟩
    have hjn : j < n := by
      rcases Nat.lt_or_ge j n with h | h
      · exact h
      · exact absurd hj (waits hs hc inv _ i rfl hin hun j h)
    refine ⟨hjn, ?_⟩
    by_cases hji : j = i
    · subst hji; exact hy.stOp hi H
    · have h1 := (H.2 j (ready_mono hj hji)).2
      obtain ⟨hjun, oj, hoj, hall⟩ := mem_ready.1 hj
      have hnot : ∀ e ∈ oj.after, Region.binds md e = true → e.on ≠ i := fun e he hb heq => by
        have h1 := hall e he hb
        rw [heq, getD_both hun] at h1
        cases h1
      have h2 := stOp_put hoj (hfree j oj hoj hji hjun hnot) (fun cs b => hsel i oi cs b hi) (fun cs b => hsel j oj cs b hoj) hy h1
      have hfree' : ∀ k ok, ops[k]? = some ok → k ≠ i → (listed.setIfInBounds j true).getD k true = false →
          (∀ e ∈ ok.after, Region.binds md e = true → e.on ≠ i) → oi.apart ops ok = true := fun k ok hk hki hun hno => by
        refine hfree k ok hk hki ?_ hno
        by_cases hjk : j = k
        · subst hjk; exact hjun
        · rw [getD_set_ne true hjk] at hun; exact hun
      refine stOp_mono (fun a' h3 => ih (listed.setIfInBounds j true) a' (inv.set hj hjn) hfree' (ready_mono hr (Ne.symm hji)) h3.1 ?_) h2
      rw [Array.setIfInBounds_comm _ _ hji]
      exact h3.2

/-- What is listed when f operations from k on are. -/
def setN : Nat → Nat → Array Bool → Array Bool
  | 0, _, listed => listed
  | f + 1, k, listed => setN f (k + 1) (listed.setIfInBounds k true)
def segB (md : Region.Mode) (ops : Array Oper) : Nat → Nat → Array Bool → Bool
  | 0, _, _ => true
  | f + 1, k, listed => (Region.ready md ops listed).contains k && Region.free md ops listed k && segB md ops f (k + 1) (listed.setIfInBounds k true)

theorem anyL_lex {n : Nat} {Lq : Act → Prop} {fin : Array Bool} (hsel : Region.noSelect ops = true) (hs : n < ops.size → Region.sinkB md ops n = true) (hc : afterB md ops n = true) (hfin : ∀ j ∈ Region.ready md ops fin, n ≤ j) :
    ∀ (l : List Oper) (k : Nat) (listed : Array Bool) (a : Act), (∀ j, j < l.length → l[j]? = ops[k + j]?) → k + l.length = n → HeadInv md ops n listed → setN l.length k listed = fin →
    segB md ops l.length k listed = true → wpStill P ops w Lq l a →
    wpAnyL P md ops w n (fun listed' a' => listed' = fin ∧ Lq a') l.length listed a
  | [], k, listed, a, _, hk, _, hf, hB, h => ⟨hf, h⟩
  | o :: l, k, listed, a, hl, hk, inv, hf, hB, h => by
    have h0 : ops[k]? = some o := by simpa using (hl 0 (by simp)).symm
    simp only [List.length_cons, segB, Bool.and_eq_true] at hB
    obtain ⟨⟨hr, hfr⟩, hB'⟩ := hB
    have hkn : k < n := by simp only [List.length_cons] at hk; omega
    have hr' : k ∈ Region.ready md ops listed := by simpa using hr
    have hst : stOp P ops w k (wpStill P ops w Lq l) a := by unfold stOp; simp only [h0]; exact h
    obtain ⟨v, hy, hK⟩ := yieldsAt_of_stOp h0 hst
    exact anyL_first h0 (Region.noSelect_spec hsel) hs hc hkn (fun listed' a' hL => by rw [hL.1]; exact hfin) l.length listed a inv (Region.free_spec h0 hfr) hr' hy
      (anyL_lex hsel hs hc hfin l (k + 1) _ _ (fun j hj => by have := hl (j + 1) (by simp; omega); simpa [Nat.add_assoc, Nat.add_comm 1 j] using this) (by simp only [List.length_cons] at hk; omega) (inv.set hr' hkn) hf hB' hK)

/-- The check: hs are the narrow places, in order. -/
def mixB (md : Region.Mode) (ops : Array Oper) : List Nat → Nat → Array Bool → Bool
  | [], k, listed => decide (k ≤ ops.size) && afterB md ops ops.size && segB md ops (ops.size - k) k listed && (Region.ready md ops (setN (ops.size - k) k listed)).isEmpty
  | n :: hs, k, listed => decide (k ≤ n) && decide (n < ops.size) && Region.sinkB md ops n && afterB md ops n && segB md ops (n - k) k listed && decide (Region.ready md ops (setN (n - k) k listed) = [n]) && mixB md ops hs (n + 1) ((setN (n - k) k listed).setIfInBounds n true)

/-- The narrow operation at the head, then what F says. -/
def wpAt (P : Program) (ops : Array Oper) (Q : Exit → Act → World → Prop) (F : List Oper → Act → World → Prop) : List Oper → Act → World → Prop
  | [], _, _ => False
  | o :: rest, a, w => ∀ K : Act → World → Prop, (∀ a w, F rest a w → K a w) → if Region.wanted o (yielded ops a.tmps) then o.wp P a w K Q else K (a.put o.dst undef) w
def wpMix (P : Program) (ops : Array Oper) (Q : Exit → Act → World → Prop) : List Nat → Nat → List Oper → Act → World → Prop
  | [], _, l, a, w => wpStill P ops w (fun a' => Q .normal a' w) l a
  | n :: hs, k, l, a, w => wpStill P ops w (fun a' => wpAt P ops Q (wpMix P ops Q hs (n + 1)) (l.drop (n - k)) a' w) (l.take (n - k)) a

/-- Closed; nothing from k on is listed. -/
structure Upto (md : Region.Mode) (ops : Array Oper) (k : Nat) (listed : Array Bool) : Prop where
  size : listed.size = ops.size
  closed : ∀ j oj, ops[j]? = some oj → listed.getD j false = true → ∀ e ∈ oj.after, Region.binds md e = true → listed.getD e.on false = true
  tail : ∀ t, k ≤ t → t < ops.size → listed.getD t true = false
theorem Upto.head {k n : Nat} {listed : Array Bool} (h : Upto md ops k listed) (hkn : k ≤ n) : HeadInv md ops n listed := ⟨h.size, h.closed, fun t ht => h.tail t (Nat.le_trans hkn ht)⟩
theorem Upto.set {k : Nat} {listed : Array Bool} (h : Upto md ops k listed) (hk : k ∈ Region.ready md ops listed) : Upto md ops (k + 1) (listed.setIfInBounds k true) := by
  have := (h.head (Nat.le_succ k)).set hk (Nat.lt_succ_self k)
  exact ⟨this.size, this.closed, this.tail⟩
theorem Upto.setN : ∀ (f k : Nat) (listed : Array Bool), Upto md ops k listed → segB md ops f k listed = true → Upto md ops (k + f) (setN f k listed)
  | 0, _, _, h, _ => h
  | f + 1, k, listed, h, hB => by
    simp only [segB, Bool.and_eq_true] at hB
    have := Upto.setN f (k + 1) _ (h.set (by simpa using hB.1.1)) hB.2
    rw [show k + (f + 1) = k + 1 + f by omega]
    exact this

theorem any_mix {Q : Exit → Act → World → Prop} (hsel : Region.noSelect ops = true) : ∀ (hs : List Nat) (k : Nat) (l : List Oper) (listed : Array Bool) (a : Act) (w : World), (∀ j, l[j]? = ops[k + j]?) → k + l.length = ops.size → Upto md ops k listed →
    mixB md ops hs k listed = true → wpMix P ops Q hs k l a w → wpAny P md ops Q l.length listed a w
  | [], k, l, listed, a, w, hl, hk, inv, hB, h => by
    simp only [mixB, Bool.and_eq_true, decide_eq_true_eq, List.isEmpty_iff] at hB
    obtain ⟨⟨⟨h1, h2⟩, h3⟩, h4⟩ := hB
    have hlen : l.length = ops.size - k := by omega
    have H := anyL_lex (P := P) (w := w) (Lq := fun a' => Q .normal a' w) hsel (fun h => absurd h (Nat.lt_irrefl _)) h2 (fin := setN (ops.size - k) k listed) (by rw [h4]; intro j hj; cases hj) l k listed a (fun j _ => hl j) hk (inv.head h1) (by rw [hlen]) (by rw [hlen]; exact h3) h
    have := wpAny_of_head (P := P) (Q' := Q) (g := 0) (fun listed' a' hL => by
      obtain ⟨rfl, hq⟩ := hL
      exact ⟨h4, hq⟩) _ _ _ H
    simpa using this
  | n :: hs, k, l, listed, a, w, hl, hk, inv, hB, h => by
    simp only [mixB, Bool.and_eq_true, decide_eq_true_eq] at hB
    obtain ⟨⟨⟨⟨⟨⟨h1, h2⟩, h3⟩, h4⟩, h5⟩, h6⟩, h7⟩ := hB
    have htl : (l.take (n - k)).length = n - k := by simp; omega
    have hsplit : l.length = (l.take (n - k)).length + (l.drop (n - k)).length := by simp; omega
    have H := anyL_lex (P := P) (w := w) hsel (fun _ => h3) h4 (fin := setN (n - k) k listed) (by rw [h6]; intro j hj; simp at hj; omega) (l.take (n - k)) k listed a (fun j hj => by
      rw [htl] at hj
      rw [List.getElem?_take, if_pos hj]; exact hl j) (by rw [htl]; omega) (inv.head h1) (by rw [htl]) (by rw [htl]; exact h5) h
    have inv2 := inv.setN (n - k) k listed h5
    rw [show k + (n - k) = n by omega] at inv2
    have hdl : ∀ j, (l.drop (n - k))[j]? = ops[n + j]? := fun j => by
      rw [List.getElem?_drop, hl]; congr 1; omega
    rw [hsplit]
    refine wpAny_of_head (P := P) (Q' := Q) (fun listed' a' hL => ?_) _ _ _ H
    obtain ⟨rfl, hq⟩ := hL
    have hlenr : n + (l.drop (n - k)).length = ops.size := by simp; omega
    generalize l.drop (n - k) = r at *
    cases r with
    | nil => simp at hlenr; omega
    | cons o rest =>
      have h0 : ops[n]? = some o := by simpa using (hdl 0).symm
      refine ⟨fun he => (by rw [h6] at he; cases he), fun i hi => ?_⟩
      rw [h6] at hi
      have hin : i = n := by simpa using hi
      subst hin
      have hnr : i ∈ Region.ready md ops (setN (i - k) k listed) := by rw [h6]; simp
      unfold wpOp
      simp only [h0]
      have hq' := hq (wpAny P md ops Q rest.length ((setN (i - k) k listed).setIfInBounds i true)) (fun a'' w'' hm =>
        any_mix hsel hs (i + 1) rest _ a'' w'' (fun j => by have := hdl (j + 1); simpa [Nat.add_assoc, Nat.add_comm 1 j] using this) (by simp at hlenr; omega) (inv2.set hnr) h7 hm)
      split
      · rename_i hw
        rw [if_pos hw] at hq'
        exact .inl hq'
      · rename_i hw
        rw [if_neg hw] at hq'
        exact hq'

theorem wp_region_mix {id : Nat} {Q : Exit → Act → World → Prop} {a : Act} {w : World} {l : List Oper} (hs : List Nat) (hm : P.follows .mixedOrders = true) (hB : (Region.noSelect l.toArray && mixB .any l.toArray hs 0 (Array.replicate l.length false)) = true)
    (h : wpMix P l.toArray Q hs 0 l a w.drew) : (Code.region id l.toArray true).wp P Q a w := by
  simp only [Bool.and_eq_true] at hB
  refine wp_region_any hm ?_
  have inv0 : Upto .any l.toArray 0 (Array.replicate l.length false) :=
    ⟨by simp, fun j oj _ hl => (by rw [getD_replicate_false] at hl; cases hl), fun t _ ht => getD_in (by simpa using ht) (getD_replicate_false _ _)⟩
  have := any_mix (P := P) (Q := Q) (md := .any) hB.1 hs 0 l _ a w.drew (fun j => by simp) (by simp) inv0 hB.2 h
  simpa using this

theorem mix_seg {Q : Exit → Act → World → Prop} {n k : Nat} {hs : List Nat} {l : List Oper} {a : Act} (m : Nat) (hm : n - k = m) (h : wpStill P ops w (fun a' => wpAt P ops Q (wpMix P ops Q hs (n + 1)) (l.drop m) a' w) (l.take m) a) : wpMix P ops Q (n :: hs) k l a w := by
  subst hm; exact h
theorem mix_end {Q : Exit → Act → World → Prop} {k : Nat} {l : List Oper} {a : Act} (h : wpStill P ops w (fun a' => Q .normal a' w) l a) : wpMix P ops Q [] k l a w := h
theorem at_cons {Q : Exit → Act → World → Prop} {F : List Oper → Act → World → Prop} {o : Oper} {rest : List Oper} {a : Act} (h : ∀ K : Act → World → Prop, (∀ a w, F rest a w → K a w) → if Region.wanted o (yielded ops a.tmps) then o.wp P a w K Q else K (a.put o.dst undef) w) : wpAt P ops Q F (o :: rest) a w := h
end
end Go.Proofs.Ytoglclmaacjdaaa.mix
