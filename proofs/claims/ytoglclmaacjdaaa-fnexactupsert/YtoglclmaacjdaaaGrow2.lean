/-
  A ROW THAT IS APPENDED TO: one element more, for an operation alone (in a region whose order is drawn).
-/
import Derived.Test.YtoglclmaacjdaaaGrow
import Derived.Test.YtoglclmaacjdaaaDataInts
namespace Go.Proofs.Ytoglclmaacjdaaa.dat
open Go.RowKit Go.Proofs.Ytoglclmaacjdaaa.win

/-- One element more, for an operation alone: its cells lie in a block g1 of one element (what 'append(s, x)' builds); its own blocks are younger than the row as it was in wr. -/
theorem push_wp {P : Program} {α : Type} {k : Nat} {R : Rel α} {e : TypeId} {base : Nat} {wr w : World} {v : Value} {l : List α} {o : Oper} {a : Act} {K : Act → World → Prop} {Q : Exit → Act → World → Prop}
    (hR : Local R) (s x : Operand) (t : TypeId) (ho : o.op = .call { callee := .builtin .append, args := #[s, x], argTypes := #[t, t] })
    (i : TypeInfo) (z : Value) (bytes : Nat) (ht : P.underlying t = some (.slice e)) (hi : P.info? e = some i) (hz : i.zero = some z) (hsize : i.size = k) (hby : i.bytes = bytes) (hzs : z.cells.size = k) (hk0 : 0 < k)
    (hs : a.eval s = v) (hG : Grows k R e base wr v l) (hb : Below wr.heap.size wr w) (g1 c1 : Nat) (hx : a.eval x = .slice (some ⟨g1, 0, none⟩) 1 c1)
    (cs : List Value) (hcs : cs.length = k) (hone : ∀ u ∈ cs, u.oneCell' = true) (hblk : ∀ j u, cs[j]? = some u → w.cell? ⟨g1, j, none⟩ = some u)
    (y : α) (f : List Nat) (hr : R w cs y f) (hf : Own wr.heap.size w f) (hlen : (l.length + 1) * bytes ≤ 140737488355328) (hl63 : l.length + 1 ≤ maxLen) (hbase : base ≤ wr.heap.size)
    (h : ∀ v' w', Grows k R e base w' v' (l ++ [y]) → Below base w w' → (∀ b, b < w.heap.size → v.ownBlock ≠ some b → w'.heap[b]? = w.heap[b]?) → (v'.ownBlock = v.ownBlock ∨ v'.ownBlock = some w.heap.size) → K (a.put o.dst v') w') : o.wp P a w K Q := by
  have hG' := hG.below hR hb
  obtain ⟨css, F, h1, h2, h3, h4, h5, h6, hown⟩ := hG'.ex
  have hFlt : ∀ b ∈ F.flatten, b < wr.heap.size ∨ True := fun _ _ => .inr trivial
  obtain ⟨css0, F0, g1', g2, g3, g4, g5, g6, gown⟩ := hG.ex
  have hnews : ∀ j u, cs[j]? = some u → w.cell? ((⟨g1, 0, none⟩ : Addr).add j) = some u := fun j u hj => by
    rw [Go.WideShapes.add_plain, Nat.zero_add]; exact hblk j u hj
  -- the row's elements in the elder world: their blocks are below wr
  have hown0 : w.ownsRow base e k v l.length css0.flatten := by
    refine ⟨gown.1, ?_⟩
    rcases gown.2 with hn | ⟨g, cap, cur, hv, hg, hh, r⟩
    · exact .inl hn
    · exact .inr ⟨g, cap, cur, hv, hg, (hb.block g (Array.getElem?_eq_some_iff.1 hh).1).trans hh, r⟩
  obtain ⟨v', w', hrun, hw1, hw2, hw3⟩ := run_append_own (P := P) w base t o.type e i z k bytes ht hi hz hsize hby hzs hk0 v l.length css0.flatten hown0 ⟨g1, 0, none⟩ 1 c1 cs (by rw [hcs, Nat.one_mul]) hnews hone hl63 hlen (Nat.le_trans hbase hb.size)
  have hwhere := run_append_where (P := P) w base t o.type e i z k bytes ht hi hz hsize hby hk0 v l.length css0.flatten hown0 ⟨g1, 0, none⟩ 1 c1 cs (by rw [hcs, Nat.one_mul]) hnews hone hl63 hlen (by omega) hrun
  have hvlt : ∀ b, v.ownBlock = some b → base ≤ b ∧ b < wr.heap.size := fun b hb' => hG.lt b hb'
  have hkeep : ∀ b, b < w.heap.size → v.ownBlock ≠ some b → w'.heap[b]? = w.heap[b]? := fun b hb1 hb2 => hw2.block b hb1 (fun e => hb2 e.symm)
  unfold Oper.wp execOp
  simp only [ho, resolve, invoke, builtin, Sem.run_bind, Sem.run_pure, Result.andThen_ok, List.map_toArray, List.map_cons, List.map_nil, hs, hx, hrun]
  refine (h v' w' ⟨css0 ++ [cs], F0 ++ [f], by simp [g1'], by simp [g2], ?_, ?_, ?_, ?_, ?_⟩ ((Below.refl _ _).grown hw2 (Nat.le_trans hbase hb.size) (fun b hb' => (hvlt b hb').1)) hkeep hwhere)
  · intro c hc
    rcases List.mem_append.1 hc with hc | hc
    · exact g3 c hc
    · simp at hc; rw [hc]; exact hcs
  · intro j u c q hu hc hq
    by_cases hj : j < l.length
    · rw [List.getElem?_append_left hj] at hu
      rw [List.getElem?_append_left (by omega)] at hc hq
      refine hR.keep (g4 j u c q hu hc hq) (fun b hb' => ?_)
      have hq' := g6 b (mem_flatten_of hq hb')
      rw [hkeep b (Nat.lt_of_lt_of_le hq'.2.1.lt hb.size) hq'.2.2, hb.block b hq'.2.1.lt]
    · have hj' : j = l.length := by
        have := (List.getElem?_eq_some_iff.1 hu).1
        simp at this; omega
      subst hj'
      rw [List.getElem?_append_right (by omega)] at hu hc hq
      simp at hu
      simp [g1'] at hc
      simp [g2] at hq
      subst hu hc hq
      refine hR.keep hr (fun b hb' => ?_)
      have hq' := hf.2 b hb'
      exact hkeep b hq'.2.lt (fun e => by have := hvlt b e; omega)
  · rw [List.flatten_append, List.nodup_append]
    refine ⟨g5, by simpa using hf.1, ?_⟩
    intro p hp q hq e
    have a1 := (g6 p hp).2.1.lt
    have a2 := (hf.2 q (by simpa using hq)).1
    omega
  · intro b hb'
    rw [List.flatten_append, List.mem_append] at hb'
    rcases hb' with hb' | hb'
    · have hq' := g6 b hb'
      have hblt := hq'.2.1.lt
      refine ⟨hq'.1, ?_, ?_⟩
      · exact (hq'.2.1.same (hb.block b hblt)).same (hkeep b (Nat.lt_of_lt_of_le hblt hb.size) hq'.2.2)
      · rcases hwhere with e | e
        · rw [e]; exact hq'.2.2
        · rw [e]; intro e'; cases e'; have := hb.size; omega
    · have hb'' : b ∈ f := by simpa using hb'
      have hq' := hf.2 b hb''
      refine ⟨by omega, hq'.2.same (hkeep b hq'.2.lt (fun e => by have := hvlt b e; omega)), ?_⟩
      rcases hwhere with e | e
      · rw [e]; intro e'; have := hvlt b e'; omega
      · rw [e]; intro e'; cases e'; have := hq'.2.lt; omega
  · have : (l ++ [y]).length = l.length + 1 := by simp
    rw [this, List.flatten_append]
    simpa using hw1

/-- .. in a list of operations. -/
theorem push2 {P : Program} {α : Type} {k : Nat} {R : Rel α} {e : TypeId} {base : Nat} {wr w : World} {v : Value} {l : List α} {ops : Array Oper} {rest : List Oper} {o : Oper} {a : Act} {Q : Exit → Act → World → Prop}
    (hR : Local R) (hgd : o.guard = none) (s x : Operand) (t : TypeId) (ho : o.op = .call { callee := .builtin .append, args := #[s, x], argTypes := #[t, t] })
    (i : TypeInfo) (z : Value) (bytes : Nat) (ht : P.underlying t = some (.slice e)) (hi : P.info? e = some i) (hz : i.zero = some z) (hsize : i.size = k) (hby : i.bytes = bytes) (hzs : z.cells.size = k) (hk0 : 0 < k)
    (hs : a.eval s = v) (hG : Grows k R e base wr v l) (hb : Below wr.heap.size wr w) (g1 c1 : Nat) (hx : a.eval x = .slice (some ⟨g1, 0, none⟩) 1 c1)
    (cs : List Value) (hcs : cs.length = k) (hone : ∀ u ∈ cs, u.oneCell' = true) (hblk : ∀ j u, cs[j]? = some u → w.cell? ⟨g1, j, none⟩ = some u)
    (y : α) (f : List Nat) (hr : R w cs y f) (hf : Own wr.heap.size w f) (hlen : (l.length + 1) * bytes ≤ 140737488355328) (hl63 : l.length + 1 ≤ maxLen) (hbase : base ≤ wr.heap.size)
    (h : ∀ v' w', Grows k R e base w' v' (l ++ [y]) → Below base w w' → (∀ b, b < w.heap.size → v.ownBlock ≠ some b → w'.heap[b]? = w.heap[b]?) → (v'.ownBlock = v.ownBlock ∨ v'.ownBlock = some w.heap.size) → wpList P ops Q rest (a.put o.dst v') w') : wpList P ops Q (o :: rest) a w :=
  wpList_plain hgd fun _ hK => push_wp hR s x t ho i z bytes ht hi hz hsize hby hzs hk0 hs hG hb g1 c1 hx cs hcs hone hblk y f hr hf hlen hl63 hbase (fun v' w' h1 h2 h3 h4 => hK _ _ (h v' w' h1 h2 h3 h4))

/-- Elements that own no blocks: the row's own block is all. -/
theorem Grows.plain {α : Type} {k : Nat} {R : Rel α} {e : TypeId} {base : Nat} {w : World} {v : Value} {l : List α} (hf : ∀ w c x f, R w c x f → f = []) (h : Grows k R e base w v l) :
    ∃ (a : Option Addr) (cap : Nat) (fp : List Nat), v = .slice a l.length cap ∧ GRow k R w a l.length l fp ∧ l.length ≤ cap ∧ cap ≤ 9223372036854775807 ∧ Own base w fp ∧ ∀ b ∈ fp, v.ownBlock = some b := by
  obtain ⟨css, F, h1, h2, h3, h4, h5, h6, ho⟩ := h.ex
  obtain ⟨a, cap, fp, hv, hg, q1, q2, q3⟩ := h.done
  refine ⟨a, cap, fp, hv, hg, q1, q2, q3, fun b hb => ?_⟩
  obtain ⟨hl, ⟨_, rfl⟩ | ⟨b0, off, F0, ea, hb0, rfl, hF0, hx⟩⟩ := hg
  · simp at hb
  rcases List.mem_cons.1 hb with rfl | hb
  · rw [hv, ea]; rfl
  · obtain ⟨f, hf0, hbf⟩ := List.mem_flatten.1 hb
    obtain ⟨i, hi, rfl⟩ := List.getElem_of_mem hf0
    obtain ⟨cs, _, hR, _⟩ := hx i l[i] F0[i] (List.getElem?_eq_getElem (by omega)) (List.getElem?_eq_getElem hi)
    rw [hf _ _ _ _ hR] at hbf
    simp at hbf
/-- What leaves the row's own block as it is leaves such a row. -/
theorem Grows.stay {α : Type} {k : Nat} {R : Rel α} {e : TypeId} {base : Nat} {w w' : World} {v : Value} {l : List α} (hR : Local R) (hf : ∀ w c x f, R w c x f → f = []) (h : Grows k R e base w v l) (hk : ∀ b, v.ownBlock = some b → w'.heap[b]? = w.heap[b]?) : Grows k R e base w' v l := by
  obtain ⟨css, F, h1, h2, h3, h4, h5, h6, ho⟩ := h.ex
  have hF : ∀ (i : Nat) f, F[i]? = some f → f = [] := fun i f hi => by
    have hi' := (List.getElem?_eq_some_iff.1 hi).1
    exact hf _ _ _ _ (h4 i l[i] css[i] f (List.getElem?_eq_getElem (by omega)) (List.getElem?_eq_getElem (by omega)) hi)
  have hF2 : F.flatten = [] := by
    rw [List.flatten_eq_nil_iff]
    intro f hm
    obtain ⟨i, hi, rfl⟩ := List.getElem_of_mem hm
    exact hF i _ (List.getElem?_eq_getElem hi)
  refine ⟨css, F, h1, h2, h3, fun i x c f hx hc hf' => ?_, h5, fun b hb => ?_, ?_⟩
  · have hn := hF i f hf'
    subst hn
    exact hR.keep (h4 i x c [] hx hc hf') (fun b hb => by simp at hb)
  · rw [hF2] at hb; simp at hb
  · refine ⟨ho.1, ?_⟩
    rcases ho.2 with hn | ⟨g, cap, cur, hv, hg, hh, r⟩
    · exact .inl hn
    · exact .inr ⟨g, cap, cur, hv, hg, (hk g (by rw [hv]; rfl)).trans hh, r⟩
/-- append(v, v...), its elements owning no blocks. -/
theorem push_self {P : Program} {α : Type} {k : Nat} {R : Rel α} {e : TypeId} {base : Nat} {w : World} {v : Value} {l : List α} {ops : Array Oper} {rest : List Oper} {o : Oper} {a : Act} {Q : Exit → Act → World → Prop}
    (hR : Local R) (hf : ∀ w c x f, R w c x f → f = []) (hgd : o.guard = none) (s x : Operand) (t : TypeId) (ho : o.op = .call { callee := .builtin .append, args := #[s, x], argTypes := #[t, t] })
    (i : TypeInfo) (z : Value) (bytes : Nat) (ht : P.underlying t = some (.slice e)) (hi : P.info? e = some i) (hz : i.zero = some z) (hsize : i.size = k) (hby : i.bytes = bytes) (hzs : z.cells.size = k) (hk0 : 0 < k)
    (hs : a.eval s = v) (hx : a.eval x = v) (hG : Grows k R e base w v l) (h0 : 0 < l.length) (hone : ∀ w c x f, R w c x f → ∀ u ∈ c, u.oneCell' = true) (hlen : (l.length + l.length) * bytes ≤ 140737488355328) (hl63 : l.length + l.length ≤ maxLen) (hbase : base ≤ w.heap.size)
    (h : ∀ v' w', Grows k R e base w' v' (l ++ l) → Below base w w' → (∀ b, b < w.heap.size → v.ownBlock ≠ some b → w'.heap[b]? = w.heap[b]?) → (v'.ownBlock = v.ownBlock ∨ v'.ownBlock = some w.heap.size) → wpList P ops Q rest (a.put o.dst v') w') : wpList P ops Q (o :: rest) a w := by
  refine wpList_plain hgd fun K hK => ?_
  obtain ⟨css, F, h1, h2, h3, h4, h5, h6, ho'⟩ := hG.ex
  have hFn : ∀ (i : Nat) f, F[i]? = some f → f = [] := fun i f hi => by
    have hi' := (List.getElem?_eq_some_iff.1 hi).1
    exact hf _ _ _ _ (h4 i l[i] css[i] f (List.getElem?_eq_getElem (by omega)) (List.getElem?_eq_getElem (by omega)) hi)
  obtain ⟨g, cap, cur, hv, hg⟩ : ∃ g cap cur, v = .slice (some ⟨g, 0, none⟩) l.length cap ∧ w.heap[g]? = some (.cells cur e (0, 0)) := by
    rcases ho'.2 with ⟨_, hn⟩ | ⟨g, cap, cur, hv, _, hg, _⟩
    · omega
    · exact ⟨g, cap, cur, hv, hg⟩
  have hfl : css.flatten.length = l.length * k := by rw [flat_len h3, h1]
  have hnews : ∀ j u, css.flatten[j]? = some u → w.cell? ((⟨g, 0, none⟩ : Addr).add j) = some u := ho'.cells (g := g) (by rw [hv]; rfl)
  have h1c : ∀ u ∈ css.flatten, u.oneCell' = true := by
    intro u hu
    obtain ⟨c, hc, huc⟩ := List.mem_flatten.1 hu
    obtain ⟨j, hj, rfl⟩ := List.getElem_of_mem hc
    exact hone _ _ _ _ (h4 j l[j] css[j] F[j] (List.getElem?_eq_getElem (by omega)) (List.getElem?_eq_getElem hj) (List.getElem?_eq_getElem (by omega))) u huc
  obtain ⟨v', w', hrun, hw1, hw2, hw3⟩ := run_append_own (P := P) w base t o.type e i z k bytes ht hi hz hsize hby hzs hk0 v l.length css.flatten ho' ⟨g, 0, none⟩ l.length cap css.flatten hfl hnews h1c hl63 hlen hbase
  have hwhere := run_append_where (P := P) w base t o.type e i z k bytes ht hi hz hsize hby hk0 v l.length css.flatten ho' ⟨g, 0, none⟩ l.length cap css.flatten hfl hnews h1c hl63 hlen h0 hrun
  have hvlt : ∀ b, v.ownBlock = some b → base ≤ b ∧ b < w.heap.size := hG.lt
  have hkeep : ∀ b, b < w.heap.size → v.ownBlock ≠ some b → w'.heap[b]? = w.heap[b]? := fun b hb1 hb2 => hw2.block b hb1 (fun e => hb2 e.symm)
  unfold Oper.wp execOp
  have hx' : a.eval x = .slice (some ⟨g, 0, none⟩) l.length cap := hx.trans hv
  simp only [ho, resolve, invoke, builtin, Sem.run_bind, Sem.run_pure, Result.andThen_ok, List.map_toArray, List.map_cons, List.map_nil, hs, hx', hrun]
  refine hK _ _ (h v' w' ⟨css ++ css, F ++ F, by simp [h1], by simp [h2], ?_, ?_, ?_, ?_, ?_⟩ ((Below.refl _ _).grown hw2 hbase (fun b hb' => (hvlt b hb').1)) hkeep hwhere)
  · intro c hc
    rcases List.mem_append.1 hc with hc | hc <;> exact h3 c hc
  · intro j u c q hu hc hq
    have hqn : q = [] := by
      by_cases hj : j < F.length
      · rw [List.getElem?_append_left hj] at hq; exact hFn _ _ hq
      · rw [List.getElem?_append_right (by omega)] at hq; exact hFn _ _ hq
    subst hqn
    have key : ∀ (i : Nat) x c, l[i]? = some x → css[i]? = some c → R w c x [] := fun i x c hx hc => by
      have hi' := (List.getElem?_eq_some_iff.1 hx).1
      have hFi : F[i]? = some F[i] := List.getElem?_eq_getElem (by omega)
      have := h4 i x c F[i] hx hc hFi
      rwa [hFn i _ hFi] at this
    refine hR.keep (w := w) ?_ (fun b hb => by simp at hb)
    by_cases hj : j < l.length
    · rw [List.getElem?_append_left hj] at hu
      rw [List.getElem?_append_left (by omega)] at hc
      exact key j u c hu hc
    · rw [List.getElem?_append_right (by omega)] at hu hc
      rw [h1] at hc
      exact key _ u c hu hc
  · have hn : (F ++ F).flatten = [] := by
      rw [List.flatten_eq_nil_iff]
      intro f hm
      rcases List.mem_append.1 hm with hm | hm <;> (obtain ⟨i, hi, rfl⟩ := List.getElem_of_mem hm; exact hFn i _ (List.getElem?_eq_getElem hi))
    rw [hn]; exact List.nodup_nil
  · intro b hb
    obtain ⟨f, hm, hbf⟩ := List.mem_flatten.1 hb
    have hfn : f = [] := by rcases List.mem_append.1 hm with hm | hm <;> (obtain ⟨i, hi, rfl⟩ := List.getElem_of_mem hm; exact hFn i _ (List.getElem?_eq_getElem hi))
    rw [hfn] at hbf; simp at hbf
  · have : (l ++ l).length = l.length + l.length := by simp
    rw [this, List.flatten_append]
    exact hw1
theorem one_win : ∀ w c x f, RWin w c x f → ∀ u ∈ c, u.oneCell' = true := fun _ c x f h u hu => by
  rw [h.1] at hu; simp [Win.list] at hu; rcases hu with rfl | rfl <;> rfl
theorem Grows.lower {α : Type} {k : Nat} {R : Rel α} {e : TypeId} {base base' : Nat} {w : World} {v : Value} {l : List α} (h : Grows k R e base w v l) (hb : base' ≤ base) : Grows k R e base' w v l := by
  obtain ⟨css, F, h1, h2, h3, h4, h5, h6, ho⟩ := h.ex
  refine ⟨css, F, h1, h2, h3, h4, h5, fun b hb' => ⟨Nat.le_trans hb (h6 b hb').1, (h6 b hb').2⟩, ho.1, ?_⟩
  rcases ho.2 with hn | ⟨g, cap, cur, hv, hg, r⟩
  · exact .inl hn
  · exact .inr ⟨g, cap, cur, hv, Nat.le_trans hb hg, r⟩
theorem plain_int : ∀ w c x f, RInt w c x f → f = [] := fun _ _ _ _ h => h.2
theorem plain_win : ∀ w c x f, RWin w c x f → f = [] := fun _ _ _ _ h => h.2
end Go.Proofs.Ytoglclmaacjdaaa.dat
