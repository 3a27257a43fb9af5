/-
  A REGION THAT DRAWS ITS ORDER, BY WHAT EACH OPERATION'S VALUE IS: V i says of operation i's value what holds from then on, G of the world what holds behind so many operations. Where each operation makes its V out of those it waits for, all V hold in the end, whatever the order.
-/
import Derived.StillTail
namespace Go.Proofs.Ytoglclmaacjdaaa.mix
open Go

section
variable {P : Program} {Q : Exit → Act → World → Prop} {l : List Oper}

/-- But for the region's own temporaries, a is a0. -/
structure Like (l : List Oper) (a0 a : Act) : Prop where
  size : a.tmps.size = a0.tmps.size
  defers : a.defers = a0.defers
  same : ∀ t, (∀ o ∈ l, o.dst ≠ some t) → a.tmps.getD t undef = a0.tmps.getD t undef
theorem Like.refl (l : List Oper) (a : Act) : Like l a a := ⟨rfl, rfl, fun _ _ => rfl⟩
theorem getD_put_ne {a : Act} {d : Option Nat} {t : Nat} {v : Value} (h : d ≠ some t) : (a.put d v).tmps.getD t undef = a.tmps.getD t undef := by
  cases d with
  | none => rfl
  | some d =>
    have : d ≠ t := fun e => h (by rw [e])
    simp [Act.put, Array.getElem?_setIfInBounds_ne this]
theorem getD_put_eq {a : Act} {t : Nat} {v : Value} (h : t < a.tmps.size) : (a.put (some t) v).tmps.getD t undef = v := by
  simp [Act.put, h]
theorem Like.put {a0 a : Act} (h : Like l a0 a) {o : Oper} (ho : o ∈ l) (v : Value) : Like l a0 (a.put o.dst v) := by
  refine ⟨?_, ?_, fun t ht => (getD_put_ne (ht o ho)).trans (h.same t ht)⟩
  · rw [← h.size]; cases o.dst <;> simp [Act.put]
  · rw [← h.defers]; cases o.dst <;> rfl

def freeB (l : List Oper) (N : Nat) : Bool :=
  (List.range l.length).all (fun i => match l[i]? with
    | some o => o.guard.isNone && o.after.all (fun e => !Region.binds .any e || decide (e.on < i)) && (match o.dst with | some t => decide (t < N) | none => true)
    | none => true) && decide (l.filterMap (·.dst)).Nodup

theorem dst_ne : ∀ {l : List Oper} {i j : Nat} {o p : Oper} {t : Nat}, (l.filterMap (·.dst)).Nodup → l[i]? = some o → l[j]? = some p → i ≠ j → o.dst = some t → p.dst ≠ some t
  | [], i, j, o, p, t, _, hi, _, _, _ => by simp at hi
  | q :: r, i, j, o, p, t, hn, hi, hj, hne, ho => by
    intro hp
    have hmem : ∀ {k : Nat} {z : Oper}, r[k]? = some z → z.dst = some t → t ∈ r.filterMap (·.dst) := fun hk hz => List.mem_filterMap.2 ⟨_, List.mem_of_getElem? hk, hz⟩
    have hr : (r.filterMap (·.dst)).Nodup := by
      rw [List.filterMap_cons] at hn
      split at hn
      · exact hn
      · exact (List.nodup_cons.1 hn).2
    cases i with
    | zero =>
      simp at hi
      subst hi
      cases j with
      | zero => exact hne rfl
      | succ j =>
        rw [List.filterMap_cons, ho] at hn
        exact (List.nodup_cons.1 hn).1 (hmem (by simpa using hj) hp)
    | succ i =>
      cases j with
      | zero =>
        simp at hj
        subst hj
        rw [List.filterMap_cons, hp] at hn
        exact (List.nodup_cons.1 hn).1 (hmem (by simpa using hi) ho)
      | succ j => exact dst_ne hr (by simpa using hi) (by simpa using hj) (by omega) ho hp

/-- What operation i asks, and leaves. -/
def Step (P : Program) (Q : Exit → Act → World → Prop) (l : List Oper) (a0 : Act) (V : Nat → World → Value → Prop) (G : Nat → World → Prop) (i : Nat) (o : Oper) : Prop :=
  ∀ n a w, n < l.length → G n w → Like l a0 a → (∀ j, Region.waitsFor .any l.toArray i j = true → ∀ p t, l[j]? = some p → p.dst = some t → V j w (a.tmps.getD t undef)) →
    ∀ K : Act → World → Prop, (∀ v w', V i w' v → G (n + 1) w' → (∀ j u, V j w u → V j w' u) → K (a.put o.dst v) w') → o.wp P a w K Q
def Steps (P : Program) (Q : Exit → Act → World → Prop) (l : List Oper) (a0 : Act) (V : Nat → World → Value → Prop) (G : Nat → World → Prop) : Nat → List Oper → Prop
  | _, [] => True
  | k, o :: r => Step P Q l a0 V G k o ∧ Steps P Q l a0 V G (k + 1) r
theorem Steps.get {a0 : Act} {V : Nat → World → Value → Prop} {G : Nat → World → Prop} : ∀ {r : List Oper} {k i : Nat} {o : Oper}, Steps P Q l a0 V G k r → r[i]? = some o → Step P Q l a0 V G (k + i) o
  | [], _, _, _, _, hi => by simp at hi
  | p :: r, k, 0, o, h, hi => by simp at hi; subst hi; exact h.1
  | p :: r, k, i + 1, o, h, hi => by
    have := Steps.get (i := i) h.2 (by simpa using hi)
    rwa [show k + 1 + i = k + (i + 1) by omega] at this

structure Inv (l : List Oper) (a0 : Act) (V : Nat → World → Value → Prop) (G : Nat → World → Prop) (listed : Array Bool) (n : Nat) (a : Act) (w : World) : Prop where
  like : Like l a0 a
  size : listed.size = l.length
  count : listed.toList.count true = n
  g : G n w
  v : ∀ i o t, l[i]? = some o → listed.getD i false = true → o.dst = some t → V i w (a.tmps.getD t undef)

theorem free_any {a0 : Act} {V : Nat → World → Value → Prop} {G : Nat → World → Prop} {N : Nat} (hN : a0.tmps.size = N) (hB : freeB l N = true) (hS : Steps P Q l a0 V G 0 l)
    (hend : ∀ n a w, n ≤ l.length → G n w → Like l a0 a → (∀ i o t, l[i]? = some o → o.dst = some t → V i w (a.tmps.getD t undef)) → Q .normal a w) :
    ∀ (fuel n : Nat) (listed : Array Bool) (a : Act) (w : World), n + fuel = l.length → Inv l a0 V G listed n a w → wpAny P .any l.toArray Q fuel listed a w := by
  simp only [freeB, Bool.and_eq_true, decide_eq_true_eq] at hB
  obtain ⟨hB1, hB2⟩ := hB
  have hop : ∀ {i : Nat} {o : Oper}, l[i]? = some o → o.guard = none ∧ (∀ e ∈ o.after, Region.binds .any e = true → e.on < i) ∧ ∀ t, o.dst = some t → t < N := by
    intro i o ho
    have h1 := List.all_eq_true.1 hB1 i (List.mem_range.2 (List.getElem?_eq_some_iff.1 ho).1)
    simp only [ho, Bool.and_eq_true] at h1
    refine ⟨by simpa using h1.1.1, fun e he hb => ?_, fun t ht => ?_⟩
    · have h2 := Array.all_eq_true'.1 h1.1.2 e he
      simpa [hb] using h2
    · have h2 := h1.2
      rw [ht] at h2
      simpa using h2
  have hall : ∀ {listed : Array Bool}, listed.size = l.length → listed.toList.count true = l.length → ∀ i, i < l.length → listed.getD i true = true := by
    intro listed hs hc i hi
    have h1 := List.count_eq_length.1 (show listed.toList.count true = listed.toList.length by rw [hc]; simp [hs])
    have h2 := h1 listed[i] (by simp)
    have hi' : i < listed.size := by omega
    simp [hi', ← h2]
  have hready : ∀ {listed : Array Bool}, listed.size = l.length → Region.ready .any l.toArray listed = [] → ∀ i, i < l.length → listed.getD i false = true := by
    intro listed hs hr i
    induction i using Nat.strongRecOn with
    | _ i ih =>
      intro hi
      cases hc : listed.getD i false with
      | true => rfl
      | false =>
        obtain ⟨o, ho⟩ : ∃ o, l[i]? = some o := ⟨_, List.getElem?_eq_getElem hi⟩
        have hm : i ∈ Region.ready .any l.toArray listed := mem_ready.2 ⟨getD_in (by omega) hc, o, by simpa using ho, fun e he hb => ih _ ((hop ho).2.1 e he hb) (Nat.lt_trans ((hop ho).2.1 e he hb) hi)⟩
        rw [hr] at hm
        cases hm
  intro fuel
  induction fuel with
  | zero =>
    intro n listed a w hn inv
    have hr : Region.ready .any l.toArray listed = [] := by
      rw [List.eq_nil_iff_forall_not_mem]
      intro i hi
      obtain ⟨hun, o, ho, _⟩ := mem_ready.1 hi
      have := hall inv.size (by rw [inv.count]; omega) i (by have := (Array.getElem?_eq_some_iff.1 ho).1; simpa using this)
      rw [this] at hun
      cases hun
    exact ⟨hr, hend n a w (by omega) inv.g inv.like (fun i o t ho hd => inv.v i o t ho (hready inv.size hr i (List.getElem?_eq_some_iff.1 ho).1) hd)⟩
  | succ fuel ih =>
    intro n listed a w hn inv
    refine ⟨fun hr => hend n a w (by omega) inv.g inv.like (fun i o t ho hd => inv.v i o t ho (hready inv.size hr i (List.getElem?_eq_some_iff.1 ho).1) hd), fun i hi => ?_⟩
    obtain ⟨hun, o, ho, hpre⟩ := mem_ready.1 hi
    have ho' : l[i]? = some o := by simpa using ho
    have hil := (List.getElem?_eq_some_iff.1 ho').1
    have hst := Steps.get hS ho'
    rw [Nat.zero_add] at hst
    unfold wpOp
    simp only [ho]
    have hw : Region.wanted o (yielded l.toArray a.tmps) = true := by simp [Region.wanted, (hop ho').1]
    rw [if_pos hw]
    refine .inl (hst n a w (by omega) inv.g inv.like (fun j hj p t hp hd => ?_) _ (fun v w' hv hg hk => ?_))
    · obtain ⟨oi, hoi, e, he, hb, hon⟩ := Region.waitsFor_spec hj
      have : oi = o := Option.some.inj (hoi.symm.trans ho)
      subst this
      have h1 := hpre e he hb
      rw [hon] at h1
      exact inv.v j p t hp h1 hd
    · have hlt : i < listed.size := by rw [inv.size]; exact hil
      have hfalse : listed[i] = false := by simpa [hlt] using hun
      refine ih (n + 1) _ _ w' (by omega) ⟨inv.like.put (List.mem_of_getElem? ho') v, by simp [inv.size], ?_, hg, ?_⟩
      · have h1 : (listed.setIfInBounds i true).toList = listed.toList.set i true := by simp
        rw [h1, List.count_set (by simpa using hlt)]
        have h2 : listed.toList[i]'(by simpa using hlt) = false := by simpa using hfalse
        rw [inv.count, h2]
        simp
      · intro j p t hp hlj hd
        by_cases hji : j = i
        · subst hji
          rw [ho'] at hp
          cases hp
          rw [hd, getD_put_eq (by rw [inv.like.size, hN]; exact (hop ho').2.2 t hd)]
          exact hv
        · rw [getD_put_ne (dst_ne hB2 hp ho' hji hd)]
          refine hk j _ (inv.v j p t hp ?_ hd)
          rwa [getD_set_ne false (Ne.symm hji)] at hlj

/-- a0 with the region's own temporaries as f says. -/
def lit (D : List Nat) (a0 : Act) (f : Nat → Value) : Act := ⟨(a0.tmps.toList.zipIdx.map fun p => if D.contains p.2 then f p.2 else p.1).toArray, a0.defers⟩
theorem Like.lit {a0 a : Act} (h : Like l a0 a) : a = lit (l.filterMap (·.dst)) a0 (fun t => a.tmps.getD t undef) := by
  obtain ⟨tm, df⟩ := a
  have h1 := h.size
  have h2 := h.defers
  have h3 := h.same
  simp only at h1 h2 h3
  unfold mix.lit
  congr 1
  apply Array.ext
  · simp [h1]
  · intro i hi hi2
    simp only [List.getElem_toArray, List.getElem_map, List.getElem_zipIdx, Array.getElem_toList, Nat.zero_add]
    have hi0 : i < a0.tmps.size := by omega
    split
    · simp
    · rename_i hc
      have := h3 i (fun o ho hd => hc (by
        rw [List.contains_eq_mem, decide_eq_true_eq]
        exact List.mem_filterMap.2 ⟨o, ho, hd⟩))
      simpa [hi, hi0] using this

theorem wp_region_free {id : Nat} {a0 : Act} {w0 : World} (V : Nat → World → Value → Prop) (G : Nat → World → Prop) (N : Nat) (D : List Nat) (hN : a0.tmps.size = N) (hm : P.follows .mixedOrders = true) (hB : freeB l N = true) (hD : l.filterMap (·.dst) = D) (hG : G 0 w0.drew) (hS : Steps P Q l a0 V G 0 l)
    (hend : ∀ n w (f : Nat → Value), n ≤ l.length → G n w → (∀ i o t, l[i]? = some o → o.dst = some t → V i w (f t)) → Q .normal (lit D a0 f) w) : (Code.region id l.toArray true).wp P Q a0 w0 := by
  refine wp_region_any hm ?_
  have := free_any hN hB hS (fun n a w hn hg hl hv => by
    rw [hl.lit, hD]
    exact hend n w _ hn hg hv) l.length 0 (Array.replicate l.length false) a0 w0.drew (by omega) ⟨Like.refl l a0, by simp, by simp [List.count_replicate], hG, fun i o t _ h => by rw [getD_replicate_false] at h; cases h⟩
  simpa using this
end
end Go.Proofs.Ytoglclmaacjdaaa.mix
