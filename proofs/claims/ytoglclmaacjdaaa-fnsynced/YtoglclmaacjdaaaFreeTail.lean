/-
  A REGION THAT DRAWS ITS ORDER, ITS FIRST n0 OPERATIONS IN WHATEVER ORDER (as in Free), THE OTHERS BEHIND THEM IN ONE ORDER.
-/
import Derived.Test.YtoglclmaacjdaaaFree
import Derived.Test.YtoglclmaacjdaaaMix
namespace Go.Proofs.Ytoglclmaacjdaaa.mix
open Go

section
variable {P : Program} {Q : Exit → Act → World → Prop} {l : List Oper}

/-- V of an operation: of its temporary, or (where it has none) of whatever. -/
def Vd (V : Nat → World → Value → Prop) (i : Nat) (d : Option Nat) (w : World) (a : Act) : Prop := match d with
  | some t => V i w (a.tmps.getD t undef)
  | none => ∃ v, V i w v
def Vf (V : Nat → World → Value → Prop) (i : Nat) (d : Option Nat) (w : World) (f : Nat → Value) : Prop := match d with
  | some t => V i w (f t)
  | none => ∃ v, V i w v
/-- What operation i of the head asks, and leaves. -/
def StepT (P : Program) (Q : Exit → Act → World → Prop) (l : List Oper) (n0 : Nat) (a0 : Act) (V : Nat → World → Value → Prop) (G : Nat → World → Prop) (i : Nat) (o : Oper) : Prop :=
  ∀ n a w, n < n0 → G n w → Like (l.take n0) a0 a → (∀ j, Region.waitsFor .any l.toArray i j = true → ∀ p, l[j]? = some p → Vd V j p.dst w a) →
    ∀ K : Act → World → Prop, (∀ v w', V i w' v → G (n + 1) w' → (∀ j u, V j w u → V j w' u) → K (a.put o.dst v) w') → o.wp P a w K Q
def StepsT (P : Program) (Q : Exit → Act → World → Prop) (l : List Oper) (n0 : Nat) (a0 : Act) (V : Nat → World → Value → Prop) (G : Nat → World → Prop) : Nat → List Oper → Prop
  | _, [] => True
  | k, o :: r => StepT P Q l n0 a0 V G k o ∧ StepsT P Q l n0 a0 V G (k + 1) r
theorem StepsT.get {n0 : Nat} {a0 : Act} {V : Nat → World → Value → Prop} {G : Nat → World → Prop} : ∀ {r : List Oper} {k i : Nat} {o : Oper}, StepsT P Q l n0 a0 V G k r → r[i]? = some o → StepT P Q l n0 a0 V G (k + i) o
  | [], _, _, _, _, hi => by simp at hi
  | p :: r, k, 0, o, h, hi => by simp at hi; subst hi; exact h.1
  | p :: r, k, i + 1, o, h, hi => by
    have := StepsT.get (i := i) h.2 (by simpa using hi)
    rwa [show k + 1 + i = k + (i + 1) by omega] at this

structure InvT (l : List Oper) (n0 : Nat) (a0 : Act) (V : Nat → World → Value → Prop) (G : Nat → World → Prop) (listed : Array Bool) (n : Nat) (a : Act) (w : World) : Prop where
  like : Like (l.take n0) a0 a
  head : HeadInv .any l.toArray n0 listed
  count : listed.toList.count true = n
  g : G n w
  v : ∀ i o, i < n0 → l[i]? = some o → listed.getD i false = true → Vd V i o.dst w a

def freeTB (l : List Oper) (n0 N : Nat) : Bool :=
  decide (n0 < l.length) && freeB (l.take n0) N && Region.sinkB .any l.toArray n0 && afterB .any l.toArray n0 && Region.seqB .any l.toArray (l.length - n0) n0 (setN n0 0 (Array.replicate l.length false))

theorem setN_get : ∀ (f k : Nat) (listed : Array Bool) (i : Nat), (setN f k listed)[i]? = if k ≤ i ∧ i < k + f ∧ i < listed.size then some true else listed[i]?
  | 0, k, listed, i => by simp only [setN]; rw [if_neg (by omega)]
  | f + 1, k, listed, i => by
    simp only [setN]
    rw [setN_get f (k + 1)]
    simp only [Array.size_setIfInBounds]
    by_cases h1 : i = k
    · subst h1
      rw [if_neg (by omega)]
      by_cases h2 : i < listed.size
      · rw [if_pos ⟨Nat.le_refl _, by omega, h2⟩]; simp [h2]
      · rw [if_neg (by omega)]; simp [h2]
    · rw [Array.getElem?_setIfInBounds_ne (fun e => h1 e.symm)]
      by_cases h2 : k + 1 ≤ i ∧ i < k + 1 + f ∧ i < listed.size
      · rw [if_pos h2, if_pos (by omega)]
      · rw [if_neg h2, if_neg (by omega)]

theorem free_tail_any {a0 : Act} {V : Nat → World → Value → Prop} {G : Nat → World → Prop} {n0 N : Nat} (hN : a0.tmps.size = N) (hB : freeTB l n0 N = true) (hS : StepsT P Q l n0 a0 V G 0 (l.take n0))
    (hend : ∀ a w, G n0 w → Like (l.take n0) a0 a → (∀ i o, i < n0 → l[i]? = some o → Vd V i o.dst w a) → wpList P l.toArray Q (l.drop n0) a w) :
    ∀ (fuel n : Nat) (listed : Array Bool) (a : Act) (w : World), n + fuel = n0 → InvT l n0 a0 V G listed n a w → wpAny P .any l.toArray Q (fuel + (l.length - n0)) listed a w := by
  simp only [freeTB, freeB, Bool.and_eq_true, decide_eq_true_eq] at hB
  obtain ⟨⟨⟨⟨hn0, hB1, hB2⟩, hsk⟩, haf⟩, hseq⟩ := hB
  have htl : (l.take n0).length = n0 := by simp; omega
  have hget : ∀ {i : Nat}, i < n0 → (l.take n0)[i]? = l[i]? := fun hi => by rw [List.getElem?_take, if_pos hi]
  have hop : ∀ {i : Nat} {o : Oper}, i < n0 → l[i]? = some o → o.guard = none ∧ (∀ e ∈ o.after, Region.binds .any e = true → e.on < i) ∧ ∀ t, o.dst = some t → t < N := by
    intro i o hi ho
    have h1 := List.all_eq_true.1 hB1 i (List.mem_range.2 (by rw [htl]; exact hi))
    simp only [hget hi, ho, Bool.and_eq_true] at h1
    refine ⟨by simpa using h1.1.1, fun e he hb => ?_, fun t ht => ?_⟩
    · have h2 := Array.all_eq_true'.1 h1.1.2 e he
      simpa [hb] using h2
    · have h2 := h1.2
      rw [ht] at h2
      simpa using h2
  have hsplit : ∀ {listed : Array Bool}, HeadInv .any l.toArray n0 listed → listed.toList.count true = (listed.toList.take n0).count true := by
    intro listed inv
    conv => lhs; rw [← List.take_append_drop n0 listed.toList]
    rw [List.count_append]
    have : (listed.toList.drop n0).count true = 0 := by
      rw [List.count_eq_zero]
      intro hm
      obtain ⟨i, hi, he⟩ := List.getElem_of_mem hm
      have hsz : listed.size = l.length := by have := inv.size; simpa using this
      have hlt : n0 + i < l.length := by simp at hi; omega
      have := inv.tail (n0 + i) (by omega) (by simpa using hlt)
      rw [List.getElem_drop] at he
      have hl2 : n0 + i < listed.size := by omega
      simp [hl2] at this
      simp only [Array.getElem_toList] at he
      rw [this] at he
      cases he
    omega
  have hlen : ∀ {listed : Array Bool}, HeadInv .any l.toArray n0 listed → (listed.toList.take n0).length = n0 := fun inv => by
    have := inv.size
    simp at this ⊢; omega
  have hall : ∀ {listed : Array Bool}, HeadInv .any l.toArray n0 listed → listed.toList.count true = n0 → ∀ i, i < n0 → listed.getD i false = true := by
    intro listed inv hc i hi
    have h1 := List.count_eq_length.1 (show (listed.toList.take n0).count true = (listed.toList.take n0).length by rw [← hsplit inv, hc, hlen inv])
    have hsz : listed.size = l.length := by have := inv.size; simpa using this
    have hi' : i < listed.size := by omega
    have h2 := h1 listed[i] (by
      rw [List.mem_take_iff_getElem]
      exact ⟨i, by simp; omega, by simp⟩)
    simp [hi', ← h2]
  have hready : ∀ {listed : Array Bool}, HeadInv .any l.toArray n0 listed → (∀ i ∈ Region.ready .any l.toArray listed, n0 ≤ i) → ∀ i, i < n0 → listed.getD i false = true := by
    intro listed inv hr i
    have hsz : listed.size = l.length := by have := inv.size; simpa using this
    induction i using Nat.strongRecOn with
    | _ i ih =>
      intro hi
      cases hc : listed.getD i false with
      | true => rfl
      | false =>
        obtain ⟨o, ho⟩ : ∃ o, l[i]? = some o := ⟨_, List.getElem?_eq_getElem (by omega)⟩
        have hm : i ∈ Region.ready .any l.toArray listed := mem_ready.2 ⟨getD_in (by omega) hc, o, by simpa using ho, fun e he hb => ih _ ((hop hi ho).2.1 e he hb) (Nat.lt_trans ((hop hi ho).2.1 e he hb) hi)⟩
        have := hr i hm
        omega
  have hcount : ∀ {listed : Array Bool}, HeadInv .any l.toArray n0 listed → (∀ i, i < n0 → listed.getD i false = true) → listed.toList.count true = n0 := by
    intro listed inv h
    rw [hsplit inv]
    have hsz : listed.size = l.length := by have := inv.size; simpa using this
    rw [show n0 = (listed.toList.take n0).length from (hlen inv).symm]
    rw [hlen inv]
    have := List.count_eq_length (a := true) (l := listed.toList.take n0)
    rw [hlen inv] at this
    refine this.2 (fun b hb => ?_)
    obtain ⟨i, hi, rfl⟩ := List.getElem_of_mem hb
    rw [hlen inv] at hi
    have h1 := h i hi
    have hi' : i < listed.size := by omega
    simp [hi'] at h1
    simp [h1]
  intro fuel
  induction fuel with
  | zero =>
    intro n listed a w hn inv
    obtain rfl : n = n0 := by omega
    have hA := hall inv.head inv.count
    have hsz : listed.size = l.length := by have := inv.head.size; simpa using this
    have hfin : listed = setN n 0 (Array.replicate l.length false) := by
      apply Array.ext_getElem?
      intro i
      rw [setN_get]
      simp only [Nat.zero_le, true_and, Nat.zero_add, Array.size_replicate]
      by_cases h1 : i < n
      · have := hA i h1
        have hi' : i < listed.size := by omega
        simp [hi'] at this
        rw [if_pos ⟨h1, by omega⟩, Array.getElem?_eq_getElem hi', this]
      · rw [if_neg (by omega)]
        by_cases h2 : i < l.length
        · have := inv.head.tail i (by omega) (by simpa using h2)
          have hi' : i < listed.size := by omega
          simp [hi'] at this
          rw [Array.getElem?_eq_getElem hi', this]
          simp [h2]
        · rw [Array.getElem?_eq_none (by omega)]; simp [h2]
    have hdl : (l.drop n).length = l.length - n := by simp
    rw [Nat.zero_add, ← hdl]
    refine wpAny_of_seq (l.drop n) n listed a w (fun j => by simp [List.getElem?_drop]) (by rw [hdl, hfin]; exact hseq) ?_
    exact hend a w inv.g inv.like (fun i o hi ho => inv.v i o hi ho (hA i hi))
  | succ fuel ih =>
    intro n listed a w hn inv
    obtain ⟨i0, hi0, hun0⟩ : ∃ i, i < n0 ∧ listed.getD i false = false := by
      apply Classical.byContradiction
      intro hno
      have : listed.toList.count true = n0 := hcount inv.head (fun i hi => by
        cases hc : listed.getD i false with
        | true => rfl
        | false => exact absurd ⟨i, hi, hc⟩ hno)
      have := inv.count
      omega
    have hsz : listed.size = l.length := by have := inv.head.size; simpa using this
    have hlow : ∀ i ∈ Region.ready .any l.toArray listed, i < n0 := fun i hi => by
      rcases Nat.lt_or_ge i n0 with h | h
      · exact h
      · exact absurd hi (waits (fun _ => hsk) haf inv.head _ i0 rfl hi0 (getD_in (by omega) hun0) i h)
    rw [show fuel + 1 + (l.length - n0) = (fuel + (l.length - n0)) + 1 by omega]
    refine ⟨fun hr => ?_, fun i hi => ?_⟩
    · have := hready inv.head (by rw [hr]; intro i hi; cases hi) i0 hi0
      rw [this] at hun0
      cases hun0
    · have hin := hlow i hi
      obtain ⟨hun, o, ho, hpre⟩ := mem_ready.1 hi
      have ho' : l[i]? = some o := by simpa using ho
      have hst := StepsT.get hS ((hget hin).trans ho')
      rw [Nat.zero_add] at hst
      unfold wpOp
      simp only [ho]
      have hw : Region.wanted o (yielded l.toArray a.tmps) = true := by simp [Region.wanted, (hop hin ho').1]
      rw [if_pos hw]
      refine .inl (hst n a w (by omega) inv.g inv.like (fun j hj p hp => ?_) _ (fun v w' hv hg hk => ?_))
      · obtain ⟨oi, hoi, e, he, hb, hon⟩ := Region.waitsFor_spec hj
        have : oi = o := Option.some.inj (hoi.symm.trans ho)
        subst this
        have h1 := hpre e he hb
        have h2 := (hop hin ho').2.1 e he hb
        rw [hon] at h1 h2
        exact inv.v j p (by omega) hp h1
      · have hlt : i < listed.size := by omega
        have hfalse : listed[i] = false := by simpa [hlt] using hun
        refine ih (n + 1) _ _ w' (by omega) ⟨inv.like.put (List.mem_of_getElem? ((hget hin).trans ho')) v, inv.head.set hi hin, ?_, hg, ?_⟩
        · have h1 : (listed.setIfInBounds i true).toList = listed.toList.set i true := by simp
          rw [h1, List.count_set (by simpa using hlt)]
          have h2 : listed.toList[i]'(by simpa using hlt) = false := by simpa using hfalse
          rw [inv.count, h2]
          simp
        · intro j p hjn hp hlj
          by_cases hji : j = i
          · subst hji
            rw [ho'] at hp
            cases hp
            cases hd : o.dst with
            | none => exact ⟨v, hv⟩
            | some t =>
              show V j w' ((a.put (some t) v).tmps.getD t undef)
              rw [getD_put_eq (by rw [inv.like.size, hN]; exact (hop hin ho').2.2 t hd)]
              exact hv
          · have hold := inv.v j p hjn hp (by rwa [getD_set_ne false (Ne.symm hji)] at hlj)
            cases hd : p.dst with
            | none =>
              rw [hd] at hold
              obtain ⟨u, hu⟩ := hold
              exact ⟨u, hk j u hu⟩
            | some t =>
              rw [hd] at hold
              show V j w' ((a.put o.dst v).tmps.getD t undef)
              rw [getD_put_ne (dst_ne hB2 ((hget hjn).trans hp) ((hget hin).trans ho') hji hd)]
              exact hk j _ hold

theorem wp_region_free_tail {id : Nat} {a0 : Act} {w0 : World} (V : Nat → World → Value → Prop) (G : Nat → World → Prop) (n0 N : Nat) (D : List Nat) (hN : a0.tmps.size = N) (hm : P.follows .mixedOrders = true) (hB : freeTB l n0 N = true) (hD : (l.take n0).filterMap (·.dst) = D) (hG : G 0 w0.drew) (hS : StepsT P Q l n0 a0 V G 0 (l.take n0))
    (hend : ∀ w (f : Nat → Value), G n0 w → (∀ i o, i < n0 → l[i]? = some o → Vf V i o.dst w f) → wpList P l.toArray Q (l.drop n0) (lit D a0 f) w) : (Code.region id l.toArray true).wp P Q a0 w0 := by
  refine wp_region_any hm ?_
  have hn0 : n0 < l.length := by
    simp only [freeTB, Bool.and_eq_true, decide_eq_true_eq] at hB
    exact hB.1.1.1.1
  have := free_tail_any hN hB hS (fun a w hg hl hv => by
    rw [hl.lit, hD]
    exact hend w _ hg (fun i o hi ho => by have := hv i o hi ho; unfold Vd at this; unfold Vf; exact this)) n0 0 (Array.replicate l.length false) a0 w0.drew (by omega) ⟨Like.refl _ a0, ⟨by simp, fun j oj _ hl => (by rw [getD_replicate_false] at hl; cases hl), fun t _ ht => getD_in (by simpa using ht) (getD_replicate_false _ _)⟩, by simp [List.count_replicate], hG, fun i o _ _ h => by rw [getD_replicate_false] at h; cases h⟩
  rw [show n0 + (l.length - n0) = l.length by omega] at this
  simpa using this
end
end Go.Proofs.Ytoglclmaacjdaaa.mix
