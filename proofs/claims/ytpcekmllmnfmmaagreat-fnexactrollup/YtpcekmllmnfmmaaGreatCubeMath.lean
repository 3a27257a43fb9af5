/-
  THE MATHEMATICS OF CUBES: panes that rise by PaneCmp are just as good as what is asked of them by their names; to put one to them.
-/
import Derived.Test.YtpcekmllmnfmmaaGreatPaneAt
import Derived.Test.YtpcekmllmnfmmaaGreatKeyOf
import Derived.Test.YtpcekmllmnfmmaaGreatPanesOk
namespace Go.Proofs.YtpcekmllmnfmmaaGreat.dat
open Go.RowKit Go.Proofs.YtpcekmllmnfmmaaGreat.win

/-! ### the order -/
theorem lexC_lt : ∀ {a b : List Int}, lexC a b < 0 ↔ (∃ y b', a = [] ∧ b = y :: b') ∨ ∃ x a' y b', a = x :: a' ∧ b = y :: b' ∧ (x < y ∨ x = y ∧ lexC a' b' < 0)
  | [], [] => by simp [lexC]
  | [], y :: b => by simp [lexC]
  | x :: a, [] => by simp [lexC]
  | x :: a, y :: b => by
    simp only [lexC, sgn_zero]
    constructor
    · intro h
      refine .inr ⟨x, a, y, b, rfl, rfl, ?_⟩
      by_cases e : x = y
      · rw [if_pos e] at h; exact .inr ⟨e, h⟩
      · rw [if_neg e] at h
        by_cases h1 : x < y
        · exact .inl h1
        · rw [sgn_gt (by omega)] at h; omega
    · rintro (⟨_, _, e, _⟩ | ⟨x', a', y', b', e1, e2, h⟩)
      · cases e
      · cases e1
        cases e2
        rcases h with h | ⟨rfl, h⟩
        · rw [if_neg (by omega), sgn_lt h]; decide
        · rw [if_pos rfl]; exact h
theorem lexC_trans : ∀ {a b d : List Int}, lexC a b < 0 → lexC b d < 0 → lexC a d < 0
  | [], b, [], h1, h2 => by
    rcases lexC_lt.1 h2 with ⟨_, _, _, e⟩ | ⟨_, _, _, _, _, e, _⟩ <;> cases e
  | [], b, y :: d, _, _ => by simp [lexC]
  | x :: a, b, d, h1, h2 => by
    rcases lexC_lt.1 h1 with ⟨_, _, e, _⟩ | ⟨x1, a1, y1, b1, e1, rfl, h3⟩
    · cases e
    · cases e1
      rcases lexC_lt.1 h2 with ⟨_, _, e, _⟩ | ⟨y2, b2, z2, d2, e2, rfl, h4⟩
      · cases e
      · cases e2
        refine lexC_lt.2 (.inr ⟨_, _, _, _, rfl, rfl, ?_⟩)
        rcases h3 with h3 | ⟨rfl, h3⟩
        · rcases h4 with h4 | ⟨rfl, _⟩
          · left; omega
          · left; exact h3
        · rcases h4 with h4 | ⟨rfl, h4⟩
          · left; exact h4
          · exact .inr ⟨rfl, lexC_trans h3 h4⟩
theorem lexC_neg : ∀ (a b : List Int), lexC b a = - lexC a b
  | [], [] => rfl
  | [], _ :: _ => rfl
  | _ :: _, [] => rfl
  | x :: a, y :: b => by
    simp only [lexC, sgn_zero]
    by_cases h : x = y
    · rw [if_pos h, if_pos h.symm, lexC_neg a b]
    · rw [if_neg h, if_neg (fun e => h e.symm)]
      by_cases h1 : x < y
      · rw [sgn_lt h1, sgn_gt h1]; rfl
      · rw [sgn_gt (a := x) (b := y) (by omega), sgn_lt (a := y) (b := x) (by omega)]
/-- A pane's name. -/
structure IdD where
  win : Int
  mask : Int
  start : Int
  key : List Int
theorem IdD.eq_iff (a b : IdD) : (a.win = b.win ∧ a.mask = b.mask ∧ a.start = b.start ∧ a.key = b.key) ↔ a = b := by
  cases a; cases b; simp
instance : DecidableEq IdD := fun a b => decidable_of_iff _ (IdD.eq_iff a b)
theorem AggD.eq_iff (a b : AggD) : (a.n = b.n ∧ a.sm = b.sm ∧ a.mn = b.mn ∧ a.mx = b.mx) ↔ a = b := by
  cases a; cases b; simp
instance : DecidableEq AggD := fun a b => decidable_of_iff _ (AggD.eq_iff a b)
def PaneD.id (p : PaneD) : IdD := ⟨p.win, p.mask, p.start, p.key⟩
def idC (p q : IdD) : Int := if sgn p.win q.win ≠ 0 then sgn p.win q.win else if sgn p.mask q.mask ≠ 0 then sgn p.mask q.mask else if sgn p.start q.start ≠ 0 then sgn p.start q.start else lexC p.key q.key
theorem paneC_id (p q : PaneD) : paneC p q = idC p.id q.id := rfl
theorem sgn_neg (a b : Int) : sgn b a = - sgn a b := by
  by_cases h1 : a < b
  · rw [sgn_lt h1, sgn_gt h1]; rfl
  · by_cases h2 : b < a
    · rw [sgn_gt h2, sgn_lt h2]
    · rw [sgn_eq (show a = b by omega), sgn_eq (show b = a by omega)]; rfl
theorem idC_neg (p q : IdD) : idC q p = - idC p q := by
  unfold idC
  rw [sgn_neg p.win, sgn_neg p.mask, sgn_neg p.start, lexC_neg p.key]
  by_cases h1 : sgn p.win q.win = 0
  · by_cases h2 : sgn p.mask q.mask = 0
    · by_cases h3 : sgn p.start q.start = 0
      · simp [h1, h2, h3]
      · simp [h1, h2, h3]
    · simp [h1, h2]
  · simp [h1]
theorem sgn_neg_lt {a b : Int} : sgn a b < 0 ↔ a < b := by
  constructor
  · intro h
    unfold sgn at h
    split at h
    · assumption
    · split at h
      · omega
      · omega
  · intro h; rw [sgn_lt h]; decide
theorem idC_lt {p q : IdD} : idC p q < 0 ↔ p.win < q.win ∨ p.win = q.win ∧ (p.mask < q.mask ∨ p.mask = q.mask ∧ (p.start < q.start ∨ p.start = q.start ∧ lexC p.key q.key < 0)) := by
  unfold idC
  by_cases h1 : p.win = q.win
  · rw [if_neg (by simp [sgn_zero, h1])]
    by_cases h2 : p.mask = q.mask
    · rw [if_neg (by simp [sgn_zero, h2])]
      by_cases h3 : p.start = q.start
      · rw [if_neg (by simp [sgn_zero, h3])]
        simp [h1, h2, h3]
      · rw [if_pos (by simp [sgn_zero, h3]), sgn_neg_lt]
        simp [h1, h2, h3]
    · rw [if_pos (by simp [sgn_zero, h2]), sgn_neg_lt]
      simp [h1, h2]
  · rw [if_pos (by simp [sgn_zero, h1]), sgn_neg_lt]
    simp [h1]
theorem idC_trans {p q r : IdD} (h1 : idC p q < 0) (h2 : idC q r < 0) : idC p r < 0 := by
  rw [idC_lt] at *
  rcases h1 with h1 | ⟨e1, h1⟩
  · rcases h2 with h2 | ⟨e2, _⟩
    · left; omega
    · left; omega
  · rcases h2 with h2 | ⟨e2, h2⟩
    · left; omega
    · refine .inr ⟨e1.trans e2, ?_⟩
      rcases h1 with h1 | ⟨e3, h1⟩
      · rcases h2 with h2 | ⟨e4, _⟩
        · left; omega
        · left; omega
      · rcases h2 with h2 | ⟨e4, h2⟩
        · left; omega
        · refine .inr ⟨e3.trans e4, ?_⟩
          rcases h1 with h1 | ⟨e5, h1⟩
          · rcases h2 with h2 | ⟨e6, _⟩
            · left; omega
            · left; omega
          · rcases h2 with h2 | ⟨e6, h2⟩
            · left; omega
            · exact .inr ⟨e5.trans e6, lexC_trans h1 h2⟩
theorem idC_zero {p q : IdD} : idC p q = 0 ↔ p = q := by
  have := paneC_zero (p := ⟨p.win, p.mask, p.start, p.key, ⟨0, 0, 0, 0⟩⟩) (q := ⟨q.win, q.mask, q.start, q.key, ⟨0, 0, 0, 0⟩⟩)
  rw [paneC_id] at this
  refine this.trans ⟨fun ⟨h1, h2, h3, h4⟩ => ?_, fun h => by subst h; exact ⟨rfl, rfl, rfl, rfl⟩⟩
  cases p; cases q; simp only at h1 h2 h3 h4; subst h1 h2 h3 h4; rfl
theorem idC_irrefl (p : IdD) : ¬ idC p p < 0 := by rw [idC_zero.2 rfl]; omega
theorem idC_gt {p q : IdD} (h1 : ¬ idC p q < 0) (h2 : idC p q ≠ 0) : idC q p < 0 := by rw [idC_neg]; omega

/-! ### lists that rise -/
def Rise (l : List PaneD) : Prop := l.Pairwise fun p q => idC p.id q.id < 0
theorem rise_of_B : ∀ {l : List PaneD}, riseB l = true → Rise l
  | [], _ => .nil
  | [x], _ => by unfold Rise; simp
  | x :: y :: r, h => by
    simp only [riseB, Bool.and_eq_true, paneC_id] at h
    obtain ⟨h1, h2⟩ := h
    have h1 := of_decide_eq_true h1
    have ih := rise_of_B h2
    refine List.pairwise_cons.2 ⟨fun q hq => ?_, ih⟩
    rcases List.mem_cons.1 hq with rfl | hq
    · exact h1
    · exact idC_trans h1 ((List.pairwise_cons.1 ih).1 q hq)
/-- What stands at a name. -/
def look (l : List PaneD) (i : IdD) : Option AggD := (l.find? fun p => decide (p.id = i)).map (·.a)
theorem look_nil (i : IdD) : look [] i = none := rfl
theorem look_cons (p : PaneD) (l : List PaneD) (i : IdD) : look (p :: l) i = if p.id = i then some p.a else look l i := by
  unfold look
  rw [List.find?_cons]
  by_cases h : p.id = i <;> simp [h]
theorem look_none_of_lt {l : List PaneD} {i : IdD} (h : ∀ q ∈ l, idC i q.id < 0) : look l i = none := by
  induction l with
  | nil => rfl
  | cons p r ih =>
    rw [look_cons, if_neg (fun e => by have := h p (by simp); rw [e] at this; exact idC_irrefl _ this), ih (fun q hq => h q (by simp [hq]))]
theorem look_some_mem {l : List PaneD} {i : IdD} {a : AggD} (h : look l i = some a) : ∃ p ∈ l, p.id = i ∧ p.a = a := by
  unfold look at h
  obtain ⟨p, hp, rfl⟩ := Option.map_eq_some_iff.1 h
  have := List.find?_some hp
  exact ⟨p, List.mem_of_find?_eq_some hp, by simpa using this, rfl⟩
theorem look_of_mem {l : List PaneD} (hR : Rise l) {p : PaneD} (hp : p ∈ l) : look l p.id = some p.a := by
  induction l with
  | nil => simp at hp
  | cons x r ih =>
    obtain ⟨h1, h2⟩ := List.pairwise_cons.1 hR
    rw [look_cons]
    rcases List.mem_cons.1 hp with rfl | hp
    · rw [if_pos rfl]
    · rw [if_neg (fun e => by have := h1 p hp; rw [e] at this; exact idC_irrefl _ this), ih h2 hp]
theorem pane_ext {p q : PaneD} (h : p.id = q.id) (ha : p.a = q.a) : p = q := by
  cases p; cases q
  simp only [PaneD.id, IdD.mk.injEq] at h
  obtain ⟨h1, h2, h3, h4⟩ := h
  simp only at ha
  subst h1 h2 h3 h4 ha
  rfl
/-- Two that rise and answer alike are one. -/
theorem rise_ext : ∀ {l m : List PaneD}, Rise l → Rise m → (∀ i, look l i = look m i) → l = m
  | [], [], _, _, _ => rfl
  | [], y :: m, _, hm, h => by
    have := h y.id
    rw [look_of_mem hm (by simp)] at this
    cases this
  | x :: l, [], hl, _, h => by
    have := h x.id
    rw [look_of_mem hl (by simp)] at this
    cases this
  | x :: l, y :: m, hl, hm, h => by
    obtain ⟨l1, l2⟩ := List.pairwise_cons.1 hl
    obtain ⟨m1, m2⟩ := List.pairwise_cons.1 hm
    have hx : look (y :: m) x.id = some x.a := by rw [← h, look_of_mem hl (by simp)]
    have hy : look (x :: l) y.id = some y.a := by rw [h, look_of_mem hm (by simp)]
    have e : x = y := by
      obtain ⟨p, hp, hpi, hpa⟩ := look_some_mem hx
      obtain ⟨q, hq, hqi, hqa⟩ := look_some_mem hy
      rcases List.mem_cons.1 hp with rfl | hp
      · exact pane_ext hpi.symm hpa.symm
      · rcases List.mem_cons.1 hq with rfl | hq
        · exact pane_ext hqi hqa
        · have a1 := m1 p hp
          have a2 := l1 q hq
          rw [hpi] at a1
          rw [hqi] at a2
          exact absurd (idC_trans a1 a2) (idC_irrefl _)
    subst e
    rw [rise_ext l2 m2 fun i => ?_]
    have := h i
    rw [look_cons, look_cons] at this
    by_cases hi : x.id = i
    · subst hi
      rw [look_none_of_lt l1, look_none_of_lt m1]
    · simpa [hi] using this
/-- A list in any order, no name twice, sorted: THE rising one. -/
theorem rise_perm_look {l m : List PaneD} (hm : Rise m) (hp : m.Perm l) (i : IdD) (hn : (l.map (·.id)).Nodup) : look m i = look l i := by
  cases h : look m i with
  | some a =>
    obtain ⟨p, hpm, rfl, rfl⟩ := look_some_mem h
    have hpl := hp.mem_iff.1 hpm
    clear h
    induction l generalizing m with
    | nil => simp at hpl
    | cons x r ih =>
      rw [look_cons]
      by_cases e : x.id = p.id
      · rw [if_pos e]
        rcases List.mem_cons.1 hpl with rfl | hpr
        · rfl
        · exfalso
          rw [List.map_cons, List.nodup_cons] at hn
          exact hn.1 (by rw [e]; exact List.mem_map.2 ⟨p, hpr, rfl⟩)
      · rw [if_neg e]
        have hpr : p ∈ r := by
          rcases List.mem_cons.1 hpl with rfl | hpr
          · exact absurd rfl e
          · exact hpr
        rw [List.map_cons, List.nodup_cons] at hn
        clear ih
        have : ∀ (s : List PaneD), (s.map (·.id)).Nodup → p ∈ s → some p.a = look s p.id := by
          intro s
          induction s with
          | nil => intro _ h; simp at h
          | cons y t ih =>
            intro hs hps
            rw [List.map_cons, List.nodup_cons] at hs
            rw [look_cons]
            by_cases e2 : y.id = p.id
            · rw [if_pos e2]
              rcases List.mem_cons.1 hps with rfl | hpt
              · rfl
              · exact absurd (by rw [e2]; exact List.mem_map.2 ⟨p, hpt, rfl⟩) hs.1
            · rw [if_neg e2]
              rcases List.mem_cons.1 hps with rfl | hpt
              · exact absurd rfl e2
              · exact ih hs.2 hpt
        exact this r hn.2 hpr
  | none =>
    cases h2 : look l i with
    | none => rfl
    | some a =>
      obtain ⟨p, hpl, rfl, rfl⟩ := look_some_mem h2
      rw [look_of_mem hm (hp.mem_iff.2 hpl)] at h
      cases h

/-! ### to put one to them -/
def AggD.q (a : AggD) : agg.Q := ⟨a.n, a.sm, a.mn, a.mx⟩
def ofQ (a : agg.Q) : AggD := ⟨a.n, a.s, a.mn, a.mx⟩
/-- AggJoin. -/
def joinA (a b : AggD) : AggD := ofQ (agg.joinQ a.q b.q)
def joinOk (a b : AggD) : Bool := agg.joinB a.q b.q
/-- l04Put. -/
def putL (p : PaneD) : List PaneD → List PaneD
  | [] => [p]
  | x :: r => if idC x.id p.id < 0 then x :: putL p r else if x.id = p.id then ⟨p.win, p.mask, p.start, p.key, joinA x.a p.a⟩ :: r else p :: x :: r
def putB (p : PaneD) (l : List PaneD) : Bool := match look l p.id with
  | some a => joinOk a p.a
  | none => true
theorem mem_putL {p q : PaneD} : ∀ {l : List PaneD}, q ∈ putL p l → q.id = p.id ∨ q ∈ l
  | [], h => by simp [putL] at h; left; rw [h]
  | x :: r, h => by
    simp only [putL] at h
    split at h
    · rcases List.mem_cons.1 h with rfl | h
      · right; simp
      · rcases mem_putL h with h | h
        · exact .inl h
        · right; simp [h]
    · split at h
      · rename_i e
        rcases List.mem_cons.1 h with rfl | h
        · left; rfl
        · right; simp [h]
      · rcases List.mem_cons.1 h with rfl | h
        · left; rfl
        · right; exact h
theorem rise_putL {p : PaneD} : ∀ {l : List PaneD}, Rise l → Rise (putL p l)
  | [], _ => by unfold Rise; simp [putL]
  | x :: r, h => by
    obtain ⟨h1, h2⟩ := List.pairwise_cons.1 h
    simp only [putL]
    split
    · rename_i hlt
      refine List.pairwise_cons.2 ⟨fun q hq => ?_, rise_putL h2⟩
      rcases mem_putL hq with e | hq
      · rw [e]; exact hlt
      · exact h1 q hq
    · rename_i hlt
      split
      · rename_i e
        refine List.pairwise_cons.2 ⟨fun q hq => ?_, h2⟩
        have := h1 q hq
        rw [e] at this
        exact this
      · rename_i hne
        have hpx : idC p.id x.id < 0 := idC_gt hlt (fun e => hne (idC_zero.1 e))
        refine List.pairwise_cons.2 ⟨fun q hq => ?_, h⟩
        rcases List.mem_cons.1 hq with rfl | hq
        · exact hpx
        · exact idC_trans hpx (h1 q hq)
/-- What stands where one is put. -/
def plus (o : Option AggD) (a : AggD) : AggD := match o with
  | some b => joinA b a
  | none => a
theorem look_putL {p : PaneD} (i : IdD) : ∀ {l : List PaneD}, Rise l → look (putL p l) i = if p.id = i then some (plus (look l i) p.a) else look l i
  | [], _ => by
    simp only [putL, look_cons, look_nil]
    by_cases h : p.id = i <;> simp [h, plus]
  | x :: r, h => by
    obtain ⟨h1, h2⟩ := List.pairwise_cons.1 h
    simp only [putL]
    split
    · rename_i hlt
      rw [look_cons, look_cons, look_putL i h2]
      by_cases hx : x.id = i
      · subst hx
        have : ¬ p.id = x.id := fun e => by rw [e] at hlt; exact idC_irrefl _ hlt
        simp [this]
      · simp [hx]
    · rename_i hlt
      split
      · rename_i e
        rw [look_cons, look_cons]
        by_cases hx : x.id = i
        · subst hx
          rw [if_pos (show (⟨p.win, p.mask, p.start, p.key, joinA x.a p.a⟩ : PaneD).id = x.id from e.symm), if_pos e.symm, if_pos rfl]
          rfl
        · have hp : ¬ p.id = i := fun e2 => hx (e.trans e2)
          rw [if_neg (show ¬ (⟨p.win, p.mask, p.start, p.key, joinA x.a p.a⟩ : PaneD).id = i from hp), if_neg hp, if_neg hx]
      · rename_i hne
        have hpx : idC p.id x.id < 0 := idC_gt hlt (fun e => hne (idC_zero.1 e))
        rw [look_cons]
        by_cases hp : p.id = i
        · rw [if_pos hp, if_pos hp]
          have : look (x :: r) i = none := by
            rw [← hp]
            refine look_none_of_lt fun q hq => ?_
            rcases List.mem_cons.1 hq with rfl | hq
            · exact hpx
            · exact idC_trans hpx (h1 q hq)
          rw [this]; rfl
        · rw [if_neg hp, if_neg hp]
/-- The two ways of l04Put. -/
theorem putL_found {p : PaneD} : ∀ {l : List PaneD}, Rise l → ∀ {n : Nat} {x : PaneD}, l[n]? = some x → x.id = p.id → putL p l = l.set n ⟨p.win, p.mask, p.start, p.key, joinA x.a p.a⟩
  | [], _, n, x, hx, _ => by simp at hx
  | y :: r, h, 0, x, hx, e => by
    simp at hx; subst hx
    simp only [putL]
    rw [if_neg (by rw [e]; exact idC_irrefl _), if_pos e]; rfl
  | y :: r, h, n + 1, x, hx, e => by
    obtain ⟨h1, h2⟩ := List.pairwise_cons.1 h
    have hm : x ∈ r := List.mem_of_getElem? (by simpa using hx)
    simp only [putL]
    rw [if_pos (by have := h1 x hm; rwa [e] at this), putL_found h2 (n := n) (by simpa using hx) e]; rfl
theorem putL_new {p : PaneD} : ∀ {l : List PaneD} (n : Nat), (∀ q ∈ l.take n, idC q.id p.id < 0) → (∀ q, l[n]? = some q → ¬ idC q.id p.id < 0) → (∀ q ∈ l, q.id ≠ p.id) → n ≤ l.length → putL p l = l.take n ++ p :: l.drop n
  | [], n, _, _, _, hn => by simp at hn; subst hn; simp [putL]
  | x :: r, 0, _, h2, h3, _ => by
    simp only [putL]
    rw [if_neg (h2 x rfl), if_neg (h3 x (by simp))]; rfl
  | x :: r, n + 1, h1, h2, h3, hn => by
    simp only [putL]
    rw [if_pos (h1 x (by simp)), putL_new n (fun q hq => h1 q (by simp [hq])) (fun q hq => h2 q (by simpa using hq)) (fun q hq => h3 q (by simp [hq])) (by simpa using hn)]; rfl
end Go.Proofs.YtpcekmllmnfmmaaGreat.dat
