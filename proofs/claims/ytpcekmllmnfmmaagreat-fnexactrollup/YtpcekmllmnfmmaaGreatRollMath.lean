/-
  THE MATHEMATICS OF ROLLING UP: the program's map of cells and the model's list that rises go side by side; what the map tells in the end is the list.
-/
import Derived.Test.YtpcekmllmnfmmaaGreatRollUp
namespace Go.Proofs.YtpcekmllmnfmmaaGreat.dat
open Go.RowKit Go.Proofs.YtpcekmllmnfmmaaGreat.win

/-! ### the names of cells -/
def dims3 (x : CellD) : List Int := [x.d0, x.d1, x.d2]
/-- A cell that some dimensions make. -/
def Good (c : ConfD) (x : CellD) : Prop := inB c.d (maskOf c x) = true ∧ ∃ l : List Int, l.length = c.d.toNat ∧ x = cellD (maskOf c x) x.win x.mask x.start l
def idOf (c : ConfD) (x : CellD) : IdD := ⟨x.win, x.mask, x.start, keyTo (maskOf c x) (dims3 x) c.d.toNat⟩
theorem dims3_at (x : CellD) {m : Int} {win mask start : Int} {l : List Int} (h : x = cellD m win mask start l) {j : Nat} (hj : j < 3) : (dims3 x)[j]? = some (dimAt m l j) := by
  subst h
  have : j = 0 ∨ j = 1 ∨ j = 2 := by omega
  rcases this with rfl | rfl | rfl <;> rfl
theorem keyTo_at {m : Int} {l : List Int} (x : CellD) {win mask start : Int} (h : x = cellD m win mask start l) : ∀ j, j ≤ 3 → j ≤ l.length → keyTo m (dims3 x) j = keyTo m l j
  | 0, _, _ => rfl
  | j + 1, h3, hl => by
    simp only [keyTo]
    rw [keyTo_at x h j (by omega) (by omega), dims3_at x h (by omega)]
    unfold dimAt
    cases hb : bitB m j
    · simp
    · rw [List.getElem?_eq_getElem (show j < l.length by omega)]
      simp
theorem keyTo_inj {m : Int} {l l' : List Int} : ∀ n, n ≤ l.length → n ≤ l'.length → keyTo m l n = keyTo m l' n → ∀ j, j < n → dimAt m l j = dimAt m l' j
  | 0, _, _, _, j, hj => by omega
  | n + 1, h1, h2, h, j, hj => by
    simp only [keyTo] at h
    have e1 : l[n]? = some l[n] := List.getElem?_eq_getElem (by omega)
    have e2 : l'[n]? = some l'[n] := List.getElem?_eq_getElem (by omega)
    rw [e1, e2] at h
    have hlen : (if bitB m n then (some l[n]).toList else []).length = (if bitB m n then (some l'[n]).toList else []).length := by split <;> rfl
    obtain ⟨q1, q2⟩ := List.append_inj' h hlen
    by_cases hjn : j = n
    · subst hjn
      unfold dimAt
      rw [e1, e2]
      cases hb : bitB m j
      · simp
      · rw [hb] at q2
        simpa using q2
    · exact keyTo_inj n (by omega) (by omega) q1 j (by omega)
theorem good_inj {c : ConfD} (hd : 0 ≤ c.d ∧ c.d ≤ 3) {x y : CellD} (hx : Good c x) (hy : Good c y) (h : idOf c x = idOf c y) : x = y := by
  obtain ⟨_, l, hl, ex⟩ := hx
  obtain ⟨_, l', hl', ey⟩ := hy
  unfold idOf at h
  simp only [IdD.mk.injEq] at h
  obtain ⟨h1, h2, h3, h4⟩ := h
  have hm : maskOf c x = maskOf c y := by unfold maskOf; rw [h2]
  rw [keyTo_at x ex _ (by omega) (by omega), keyTo_at y ey _ (by omega) (by omega), hm] at h4
  have hall : ∀ j, j < 3 → dimAt (maskOf c y) l j = dimAt (maskOf c y) l' j := by
    intro j hj
    by_cases hjn : j < c.d.toNat
    · exact keyTo_inj _ (by omega) (by omega) h4 j hjn
    · unfold dimAt
      rw [List.getElem?_eq_none (by omega), List.getElem?_eq_none (by omega)]
  rw [hm] at ex
  have e : cellD (maskOf c y) x.win x.mask x.start l = cellD (maskOf c y) y.win y.mask y.start l' := by
    unfold cellD
    rw [hall 0 (by omega), hall 1 (by omega), hall 2 (by omega), h1, h2, h3]
  exact ex.trans (e.trans ey.symm)
theorem pn_id {c : ConfD} (hok : confD c = true) (F : CellD → Option AggD) {x : CellD} (hx : Good c x) : (pnOf c F x).id = idOf c x := by
  have hd := conf_dims hok
  unfold pnOf paneOf PaneD.id idOf
  have e : ([x.d0, x.d1, x.d2].take c.d.toNat).length = c.d.toNat := by simp; omega
  have hk : keyOk c (maskOf c x) ([x.d0, x.d1, x.d2].take c.d.toNat) = true := by
    unfold keyOk
    rw [hok, hx.1, e]
    simp only [Bool.true_and, beq_iff_eq]
    omega
  have : keyD c (maskOf c x) ([x.d0, x.d1, x.d2].take c.d.toNat) = keyTo (maskOf c x) (dims3 x) c.d.toNat := by
    unfold keyD
    rw [if_pos hk, e]
    have : ∀ j, j ≤ c.d.toNat → keyTo (maskOf c x) ([x.d0, x.d1, x.d2].take c.d.toNat) j = keyTo (maskOf c x) (dims3 x) j := by
      intro j
      induction j with
      | zero => intro _; rfl
      | succ j ih =>
        intro hj
        simp only [keyTo]
        have e2 : ([x.d0, x.d1, x.d2].take c.d.toNat)[j]? = (dims3 x)[j]? := by
          rw [List.getElem?_take, if_pos (by omega)]
          rfl
        rw [ih (by omega), e2]
    exact this _ (Nat.le_refl _)
  simp only [this]

/-! ### aggregates of something -/
def Full (a : AggD) : Prop := agg.okB a.n a.sm a.mn a.mx = true ∧ 0 < a.n
theorem full_p {a : AggD} (h : Full a) : agg.OkP a.n a.sm a.mn a.mx ∧ 0 < a.n ∧ a.n ≤ 1000 := by
  have h1 := (agg.okB_iff _ _ _ _).1 h.1
  refine ⟨h1, h.2, ?_⟩
  rcases h1 with ⟨e, _⟩ | ⟨e, _⟩ | ⟨_, e, _⟩ <;> omega
theorem full_ne {a : AggD} (h : Full a) : a ≠ zeroA := fun e => by have := h.2; rw [e] at this; exact absurd this (by decide)
theorem join_zero {a : AggD} (h : Full a) : joinOk zeroA a = true ∧ joinA zeroA a = a := by
  have hp := full_p h
  have hj : agg.JoinP zeroA.q a.q := ⟨.inl ⟨rfl, rfl, rfl, rfl⟩, hp.1, by show (0 : Int) + a.n ≤ 1000; omega⟩
  have hb : agg.joinB zeroA.q a.q = true := by unfold agg.joinB; exact decide_eq_true hj
  refine ⟨hb, ?_⟩
  unfold joinA agg.joinQ
  rw [if_pos hb]
  rfl
theorem join_full {b a : AggD} (hb : Full b) (ha : Full a) (h : joinOk b a = true) (hok : ∀ x y : agg.Q, agg.joinB x y = true → agg.OkP (agg.joinQ x y).n (agg.joinQ x y).s (agg.joinQ x y).mn (agg.joinQ x y).mx) : Full (joinA b a) := by
  have h1 := hok _ _ h
  refine ⟨(agg.okB_iff _ _ _ _).2 h1, ?_⟩
  show 0 < (agg.joinQ b.q a.q).n
  unfold agg.joinQ
  rw [if_pos (show agg.joinB b.q a.q = true from h)]
  unfold agg.wth
  have h2 := hb.2
  have h3 := ha.2
  show 0 < (if b.n = 0 then a.q else if a.n = 0 then b.q else (⟨b.n + a.n, b.sm + a.sm, min b.mn a.mn, max b.mx a.mx⟩ : agg.Q)).n
  rw [if_neg (by omega), if_neg (by omega)]
  show 0 < b.n + a.n
  omega

/-! ### a map, and a list that rises -/
structure Sim (c : ConfD) (F : CellD → Option AggD) (m : List PaneD) : Prop where
  rise : Rise m
  good : ∀ x a, F x = some a → Good c x ∧ Full a
  fwd : ∀ x a, F x = some a → look m (idOf c x) = some a
  bwd : ∀ i a, look m i = some a → ∃ x, F x = some a ∧ idOf c x = i
theorem Sim.start (c : ConfD) : Sim c (fun _ => none) [] := ⟨List.Pairwise.nil, fun _ _ h => (by cases h), fun _ _ h => (by cases h), fun i a h => (by rw [look_nil] at h; cases h)⟩
theorem Sim.at {c : ConfD} (hd : 0 ≤ c.d ∧ c.d ≤ 3) {F : CellD → Option AggD} {m : List PaneD} (h : Sim c F m) {x : CellD} (hx : Good c x) : look m (idOf c x) = F x := by
  cases e : F x with
  | some a => exact h.fwd x a e
  | none =>
    cases e2 : look m (idOf c x) with
    | none => rfl
    | some a =>
      obtain ⟨y, hy, hi⟩ := h.bwd _ _ e2
      rw [good_inj hd (h.good y a hy).1 hx hi, e] at hy
      cases hy
theorem Sim.ok {c : ConfD} (hd : 0 ≤ c.d ∧ c.d ≤ 3) {F : CellD → Option AggD} {m : List PaneD} (h : Sim c F m) {x : CellD} (hx : Good c x) {p : PaneD} (hp : p.id = idOf c x) (hf : Full p.a) : putB p m = joinOk ((F x).getD zeroA) p.a := by
  unfold putB
  rw [hp, h.at hd hx]
  cases e : F x with
  | some a => rfl
  | none => exact (join_zero hf).1.symm
theorem Sim.step {c : ConfD} (hd : 0 ≤ c.d ∧ c.d ≤ 3) {F : CellD → Option AggD} {m : List PaneD} (h : Sim c F m) {x : CellD} (hx : Good c x) {p : PaneD} (hp : p.id = idOf c x) (hf : Full p.a) (hj : joinOk ((F x).getD zeroA) p.a = true)
    (hok : ∀ x y : agg.Q, agg.joinB x y = true → agg.OkP (agg.joinQ x y).n (agg.joinQ x y).s (agg.joinQ x y).mn (agg.joinQ x y).mx) : Sim c (upd F x (joinC (F x) p.a)) (putL p m) := by
  have hJ : Full (joinA ((F x).getD zeroA) p.a) := by
    cases e : F x with
    | some b => rw [e] at hj; exact join_full (h.good x b e).2 hf hj hok
    | none => rw [show (none : Option AggD).getD zeroA = zeroA from rfl, (join_zero hf).2]; exact hf
  have hC : joinC (F x) p.a = some (joinA ((F x).getD zeroA) p.a) := by unfold joinC; rw [if_neg (full_ne hJ)]
  have hP : plus (look m (idOf c x)) p.a = joinA ((F x).getD zeroA) p.a := by
    rw [h.at hd hx]
    cases e : F x with
    | some b => rfl
    | none => exact (join_zero hf).2.symm
  rw [hC]
  refine ⟨rise_putL h.rise, ?_, ?_, ?_⟩
  · intro y a hy
    unfold upd at hy
    split at hy
    · rename_i e
      cases hy
      rw [e]
      exact ⟨hx, hJ⟩
    · exact h.good y a hy
  · intro y a hy
    unfold upd at hy
    rw [look_putL _ h.rise]
    split at hy
    · rename_i e
      cases hy
      rw [e, if_pos hp, hP]
    · rename_i e
      rw [if_neg (fun e2 => e (good_inj hd (h.good y a hy).1 hx (by rw [← e2, hp])))]
      exact h.fwd y a hy
  · intro i a hi
    rw [look_putL _ h.rise] at hi
    split at hi
    · rename_i e
      cases hi
      refine ⟨x, ?_, by rw [← e, hp]⟩
      unfold upd
      rw [if_pos rfl, ← e, hp, hP]
    · rename_i e
      obtain ⟨y, hy, hi2⟩ := h.bwd i a hi
      refine ⟨y, ?_, hi2⟩
      unfold upd
      rw [if_neg (fun e2 => e (by rw [hp, ← e2, hi2]))]
      exact hy
/-- What panes tells is the list. -/
theorem Sim.told {c : ConfD} (hok : confD c = true) {F : CellD → Option AggD} {m : List PaneD} (h : Sim c F m) {L : List PaneD} {xs : List CellD} (hn : xs.Nodup) (hx : ∀ x, x ∈ xs ↔ F x ≠ none) (hp : L.Perm (xs.map (pnOf c F))) (hs : L.Pairwise (fun x y => ¬ paneC y x < 0)) : L = m := by
  have hd := conf_dims hok
  have hg : ∀ x ∈ xs, Good c x := fun x hm => by
    cases e : F x with
    | none => exact absurd e ((hx x).1 hm)
    | some a => exact (h.good x a e).1
  have hnd : (L.map (·.id)).Nodup := by
    refine (hp.map (·.id)).nodup_iff.2 ?_
    rw [List.map_map]
    refine List.pairwise_map.2 (hn.imp_of_mem fun hxm hym hne e => hne ?_)
    simp only [Function.comp] at e
    rw [pn_id hok F (hg _ hxm), pn_id hok F (hg _ hym)] at e
    exact good_inj hd (hg _ hxm) (hg _ hym) e
  have hR : Rise L := by
    have h2 : L.Pairwise fun p q => p.id ≠ q.id := List.pairwise_map.1 hnd
    refine (hs.and h2).imp ?_
    rintro p q ⟨a1, a2⟩
    rw [paneC_id] at a1
    exact idC_gt a1 (fun e => a2 (idC_zero.1 e).symm)
  refine rise_ext hR h.rise fun i => ?_
  have key : ∀ a, look L i = some a ↔ look m i = some a := by
    intro a
    constructor
    · intro h1
      obtain ⟨p, hpm, rfl, rfl⟩ := look_some_mem h1
      obtain ⟨x, hxm, rfl⟩ := List.mem_map.1 (hp.mem_iff.1 hpm)
      rw [pn_id hok F (hg x hxm), h.at hd (hg x hxm)]
      cases e : F x with
      | none => exact absurd e ((hx x).1 hxm)
      | some a => unfold pnOf paneOf; rw [e]; rfl
    · intro h1
      obtain ⟨x, hxa, rfl⟩ := h.bwd i a h1
      have hxm : x ∈ xs := (hx x).2 (by rw [hxa]; simp)
      have := look_of_mem hR (hp.mem_iff.2 (List.mem_map.2 ⟨x, hxm, rfl⟩))
      rw [pn_id hok F (hg x hxm)] at this
      rw [this]
      unfold pnOf paneOf
      rw [hxa]
      rfl
  cases e1 : look L i with
  | some a => exact ((key a).1 e1).symm
  | none =>
    cases e2 : look m i with
    | none => rfl
    | some a => rw [(key a).2 e2] at e1; cases e1

/-! ### what is rolled up -/
/-- The numbers of a key that a coarser mask keeps. -/
def keyR (mf mt : Int) (key : List Int) : Nat → List Int
  | 0 => []
  | j + 1 => keyR mf mt key j ++ (if bitB mf j && bitB mt j then key[rank mf j]?.toList else [])
theorem keyR_dims {mf mt : Int} {key : List Int} {n : Nat} (hn : n ≤ 3) (hk : (key.length : Int) = ones mf) (hs : ∀ i, i < 3 → bitB mt i = true → bitB mf i = true) : ∀ j, j ≤ n → keyTo mt (dimsD mf key n) j = keyR mf mt key j
  | 0, _ => rfl
  | j + 1, hj => by
    simp only [keyTo, keyR]
    rw [keyR_dims hn hk hs j (by omega)]
    congr 1
    have e : (dimsD mf key n)[j]? = some (dimV mf key j) := by
      unfold dimsD
      rw [List.getElem?_map, List.getElem?_range (by omega)]
      rfl
    rw [e]
    cases hb : bitB mt j
    · simp
    · have hf := hs j (by omega) hb
      have hr := rank_lt (by omega) hf
      have ho := rank_ones mf
      unfold dimV
      rw [hf, List.getElem?_eq_getElem (show rank mf j < key.length by omega)]
      simp
def rollP (c : ConfD) (fr tt : Int) (p : PaneD) : PaneD := ⟨p.win, tt, p.start, keyR (maskN c fr) (maskN c tt) p.key c.d.toNat, p.a⟩
/-- The model's loop. -/
def rollS (c : ConfD) (fr tt : Int) : List PaneD → List PaneD → Option (List PaneD)
  | [], m => some m
  | p :: r, m => if p.mask = fr then (if putB (rollP c fr tt p) m = true then rollS c fr tt r (putL (rollP c fr tt p) m) else none) else rollS c fr tt r m
/-- RollUp. -/
def rollD (c : ConfD) (l : List PaneD) (fr tt : Int) : List PaneD := (if panesB c l && rollsB c fr tt then rollS c fr tt l [] else none).getD []
theorem sub_bits {mf mt : Int} (h : maskB mt mf = true) (h0 : 0 ≤ mt) (h8 : mt < 8) (f0 : 0 ≤ mf) (f8 : mf < 8) : ∀ i, i < 3 → bitB mt i = true → bitB mf i = true := by
  have h1 : mt = 0 ∨ mt = 1 ∨ mt = 2 ∨ mt = 3 ∨ mt = 4 ∨ mt = 5 ∨ mt = 6 ∨ mt = 7 := by omega
  have h2 : mf = 0 ∨ mf = 1 ∨ mf = 2 ∨ mf = 3 ∨ mf = 4 ∨ mf = 5 ∨ mf = 6 ∨ mf = 7 := by omega
  clear h0 h8 f0 f8
  intro i hi
  have h3 : i = 0 ∨ i = 1 ∨ i = 2 := by omega
  clear hi
  rcases h1 with rfl | rfl | rfl | rfl | rfl | rfl | rfl | rfl <;> rcases h2 with rfl | rfl | rfl | rfl | rfl | rfl | rfl | rfl <;> first
    | (exfalso; revert h; decide)
    | (rcases h3 with rfl | rfl | rfl <;> decide)

theorem good_R {c : ConfD} {fr tt : Int} {p : PaneD} (hm : inB c.d (maskN c tt) = true) : Good c (cellR c fr tt p) :=
  ⟨hm, dimsD (maskN c fr) p.key c.d.toNat, by unfold dimsD; simp, rfl⟩
theorem id_R {c : ConfD} (hd : 0 ≤ c.d ∧ c.d ≤ 3) {fr tt : Int} {p : PaneD} (hk : (p.key.length : Int) = ones (maskN c fr)) (hs : ∀ i, i < 3 → bitB (maskN c tt) i = true → bitB (maskN c fr) i = true) : (rollP c fr tt p).id = idOf c (cellR c fr tt p) := by
  have e1 := keyTo_at (cellR c fr tt p) (m := maskN c tt) (l := dimsD (maskN c fr) p.key c.d.toNat) rfl c.d.toNat (by omega) (by unfold dimsD; simp)
  have e2 := keyR_dims (key := p.key) (n := c.d.toNat) (by omega) hk hs c.d.toNat (Nat.le_refl _)
  show (⟨p.win, tt, p.start, keyR (maskN c fr) (maskN c tt) p.key c.d.toNat⟩ : IdD) = ⟨p.win, tt, p.start, keyTo (maskN c tt) (dims3 (cellR c fr tt p)) c.d.toNat⟩
  rw [e1, e2]
/-- The two loops go side by side. -/
theorem roll_sim {c : ConfD} (hd : 0 ≤ c.d ∧ c.d ≤ 3) {fr tt : Int} (hm : inB c.d (maskN c tt) = true) (hs : ∀ i, i < 3 → bitB (maskN c tt) i = true → bitB (maskN c fr) i = true)
    (hok : ∀ x y : agg.Q, agg.joinB x y = true → agg.OkP (agg.joinQ x y).n (agg.joinQ x y).s (agg.joinQ x y).mn (agg.joinQ x y).mx) :
    ∀ (l : List PaneD) (F : CellD → Option AggD) (m : List PaneD), (∀ p ∈ l, p.mask = fr → (p.key.length : Int) = ones (maskN c fr) ∧ Full p.a) → Sim c F m →
      (∃ F' m', rollGo c fr tt l F = some F' ∧ rollS c fr tt l m = some m' ∧ Sim c F' m') ∨ (rollGo c fr tt l F = none ∧ rollS c fr tt l m = none)
  | [], F, m, _, h => .inl ⟨F, m, rfl, rfl, h⟩
  | p :: r, F, m, hp, h => by
    have ih := fun F m => roll_sim hd hm hs hok r F m (fun q hq => hp q (by simp [hq]))
    simp only [rollGo, rollS]
    by_cases e : p.mask = fr
    · obtain ⟨hk, hf⟩ := hp p (by simp) e
      rw [if_pos e, if_pos e]
      have h1 := h.ok hd (good_R (fr := fr) (p := p) hm) (p := rollP c fr tt p) (id_R hd hk hs) hf
      rw [show (rollP c fr tt p).a = p.a from rfl] at h1
      rw [h1]
      cases hj : joinOk ((F (cellR c fr tt p)).getD zeroA) p.a
      · exact .inr ⟨rfl, rfl⟩
      · rw [if_pos rfl, if_pos rfl]
        exact ih _ _ (h.step hd (good_R hm) (p := rollP c fr tt p) (id_R hd hk hs) hf hj hok)
    · rw [if_neg e, if_neg e]
      exact ih _ _ h
end Go.Proofs.YtpcekmllmnfmmaaGreat.dat
