/-
  A ROW THAT IS APPENDED TO: its elements as data, all in blocks of the call's own; one element more; what it is in the end.
-/
import Derived.Test.YtoglclmaacjdaaaData
import Derived.Maps.AppendAt
namespace Go.Proofs.Ytoglclmaacjdaaa.dat
open Go.RowKit Go.Proofs.Ytoglclmaacjdaaa.win

/-- Where the row lies behind an append: where it lay, or in a new block. -/
theorem run_append_where {P : Program} (w : World) (base : Nat) (t ty e : TypeId) (i : TypeInfo) (z : Value) (size bytes : Nat) (ht : P.underlying t = some (.slice e)) (hi : P.info? e = some i) (hz : i.zero = some z)
    (hsize : i.size = size) (hby : i.bytes = bytes) (hsz : 0 < size)
    (v : Value) (n : Nat) (xs : List Value) (hown : w.ownsRow base e size v n xs)
    (a : Addr) (m c : Nat) (news : List Value) (hl : news.length = m * size) (hnews : ∀ j u, news[j]? = some u → w.cell? (a.add j) = some u) (h1 : ∀ u ∈ news, u.oneCell' = true)
    (h63 : n + m ≤ maxLen) (hbytes : (n + m) * bytes ≤ 140737488355328) (hm : 0 < m)
    {v' : Value} {w' : World} (hr : (Builtin.append_ #[t, t] ty #[v, .slice (some a) m c]).run P w = .ok v' w') : v'.ownBlock = v.ownBlock ∨ v'.ownBlock = some w.heap.size := by
  subst hsize
  subst hby
  have hsmall : n + m ≤ 9223372036854775807 := by simp only [maxLen] at h63; omega
  rcases hown.2 with ⟨rfl, rfl⟩ | ⟨g, cap, cur, rfl, hbg, hg, hnc, hcm, hcs, htake⟩
  · have h := run_append_nil (P := P) w t ty e i z ht hi hz a m c news hl hnews (by omega) (by omega) (by have hb := hbytes; simp only [Nat.zero_add] at hb; omega)
    rw [h] at hr
    cases hr
    exact .inr rfl
  · by_cases hroom : n + m ≤ cap
    · have hfit : n * i.size + news.length ≤ cur.size := by rw [hl, hcs, ← Nat.add_mul]; exact Nat.mul_le_mul_right _ hroom
      have h := run_append_room (P := P) w t ty e i ht hi g n cap cur hg a m c news hl hnews h1 hroom hfit
      rw [h] at hr
      cases hr
      exact .inl rfl
    · have holds : ∀ j u, xs[j]? = some u → w.cell? ((⟨g, 0, none⟩ : Addr).add j) = some u := hown.cells (g := g) rfl
      have h := run_append_grow (P := P) w t ty e i z ht hi hz ⟨g, 0, none⟩ n cap xs hown.1 holds a m c news hl hnews (by omega) (by omega) (growslice_fits (by omega) hbytes)
      rw [h] at hr
      cases hr
      exact .inr rfl

/-- A row of the call's own, from base on, whose elements are these data. -/
structure Grows {α : Type} (k : Nat) (R : Rel α) (e : TypeId) (base : Nat) (w : World) (v : Value) (l : List α) : Prop where
  ex : ∃ (css : List (List Value)) (F : List (List Nat)), css.length = l.length ∧ F.length = l.length ∧ (∀ c ∈ css, c.length = k) ∧ (∀ (i : Nat) x c f, l[i]? = some x → css[i]? = some c → F[i]? = some f → R w c x f) ∧
    F.flatten.Nodup ∧ (∀ b ∈ F.flatten, base ≤ b ∧ Wr w b ∧ v.ownBlock ≠ some b) ∧ w.ownsRow base e k v l.length css.flatten
theorem Grows.nil {α : Type} {k : Nat} {R : Rel α} {e : TypeId} {base : Nat} {w : World} : Grows k R e base w (.slice none 0 0) ([] : List α) :=
  ⟨[], [], rfl, rfl, by simp, by simp, by simp, by simp, World.ownsRow_nil w base e k⟩
/-- make([]T, 0, c); []T{}. -/
theorem Grows.made {α : Type} {k : Nat} {R : Rel α} {e : TypeId} {base : Nat} {w : World} (cur : Array Value) (cap : Nat) (hb : base ≤ w.heap.size) (hm : cap ≤ maxLen) (hs : cur.size = cap * k) :
    Grows k R e base (w.alloc (.cells cur e)) (.slice (some ⟨w.heap.size, 0, none⟩) 0 cap) ([] : List α) :=
  ⟨[], [], rfl, rfl, by simp, by simp, by simp, by simp, World.ownsRow_made w cur cap hb hm hs⟩
/-- []T{x, y ..}, T of one cell. -/
theorem Grows.built {α : Type} {R : Rel α} {e : TypeId} {base : Nat} {w : World} (g : Nat) (l : List α) (cs : List Value) (hl : cs.length = l.length) (hR : ∀ (i : Nat) x c, l[i]? = some x → cs[i]? = some c → R w [c] x []) (hb : base ≤ g) (hblk : Blk w g e cs) (hm : l.length ≤ maxLen) :
    Grows 1 R e base w (.slice (some ⟨g, 0, none⟩) l.length l.length) l := by
  have hfl : (cs.map fun c => [c]).flatten = cs := by
    clear hR hblk hl
    induction cs with
    | nil => rfl
    | cons c r ih => simp [ih]
  have hF : (List.replicate l.length ([] : List Nat)).flatten = [] := by simp
  refine ⟨cs.map (fun c => [c]), List.replicate l.length [], by simp [hl], by simp, by simp, ?_, by rw [hF]; simp, by rw [hF]; simp, ?_⟩
  · intro i x c f hx hc hf
    rw [List.getElem?_map] at hc
    obtain ⟨c', hc', rfl⟩ := Option.map_eq_some_iff.1 hc
    obtain rfl : f = [] := (List.mem_replicate.1 (List.mem_of_getElem? hf)).2
    exact hR i x c' hx hc'
  · rw [hfl]
    exact ⟨by rw [hl, Nat.mul_one], .inr ⟨g, l.length, cs.toArray, rfl, hb, hblk, Nat.le_refl _, hm, by simp [hl], by simp [← hl]⟩⟩
theorem Grows.lt {α : Type} {k : Nat} {R : Rel α} {e : TypeId} {base : Nat} {w : World} {v : Value} {l : List α} (h : Grows k R e base w v l) : ∀ b, v.ownBlock = some b → base ≤ b ∧ b < w.heap.size := by
  obtain ⟨css, F, _, _, _, _, _, _, ho⟩ := h.ex
  exact ho.lt
theorem Grows.keep {α : Type} {k : Nat} {R : Rel α} {e : TypeId} {base : Nat} {w w' : World} {v : Value} {l : List α} (hR : Local R) (h : Grows k R e base w v l) (hk : ∀ b, base ≤ b → b < w.heap.size → w'.heap[b]? = w.heap[b]?) : Grows k R e base w' v l := by
  obtain ⟨css, F, h1, h2, h3, h4, h5, h6, ho⟩ := h.ex
  refine ⟨css, F, h1, h2, h3, fun i x c f hx hc hf => hR.keep (h4 i x c f hx hc hf) (fun b hb => ?_), h5, fun b hb => ?_, ?_⟩
  · have := h6 b (mem_flatten_of hf hb)
    exact hk b this.1 this.2.1.lt
  · have := h6 b hb
    exact ⟨this.1, this.2.1.same (hk b this.1 this.2.1.lt), this.2.2⟩
  · refine ⟨ho.1, ?_⟩
    rcases ho.2 with hn | ⟨g, cap, cur, hv, hg, hh, r⟩
    · exact .inl hn
    · exact .inr ⟨g, cap, cur, hv, hg, (hk g hg (Array.getElem?_eq_some_iff.1 hh).1).trans hh, r⟩
theorem Grows.below {α : Type} {k : Nat} {R : Rel α} {e : TypeId} {base : Nat} {w w' : World} {v : Value} {l : List α} (hR : Local R) (h : Grows k R e base w v l) (hb : Below w.heap.size w w') : Grows k R e base w' v l := h.keep hR fun b _ hlt => hb.block b hlt
theorem Grows.slice {α : Type} {k : Nat} {R : Rel α} {e : TypeId} {base : Nat} {w : World} {v : Value} {l : List α} (h : Grows k R e base w v l) : ∃ a cap, v = .slice a l.length cap := by
  obtain ⟨css, F, _, _, _, _, _, _, ho⟩ := h.ex
  rcases ho.2 with ⟨rfl, h0⟩ | ⟨g, cap, cur, rfl, _⟩
  · exact ⟨none, 0, by rw [h0]⟩
  · exact ⟨_, cap, rfl⟩

theorem flat_get {css : List (List Value)} {k : Nat} (hk : ∀ c ∈ css, c.length = k) : ∀ {i : Nat} {c : List Value}, css[i]? = some c → ∀ j, j < k → css.flatten[i * k + j]? = c[j]? := by
  induction css with
  | nil => intro i c h; simp at h
  | cons d r ih =>
    intro i c h j hj
    have hd := hk d (by simp)
    rw [List.flatten_cons]
    cases i with
    | zero =>
      simp at h
      subst h
      rw [Nat.zero_mul, Nat.zero_add, List.getElem?_append_left (by omega)]
    | succ i =>
      rw [List.getElem?_append_right (by rw [Nat.succ_mul]; omega), show (i + 1) * k + j - d.length = i * k + j by rw [Nat.succ_mul]; omega]
      exact ih (fun c hc => hk c (by simp [hc])) (by simpa using h) j hj

/-- In the end it is a row of its own. -/
theorem Grows.done {α : Type} {k : Nat} {R : Rel α} {e : TypeId} {base : Nat} {w : World} {v : Value} {l : List α} (h : Grows k R e base w v l) :
    ∃ (a : Option Addr) (cap : Nat) (fp : List Nat), v = .slice a l.length cap ∧ GRow k R w a l.length l fp ∧ l.length ≤ cap ∧ cap ≤ 9223372036854775807 ∧ Own base w fp := by
  obtain ⟨css, F, h1, h2, h3, h4, h5, h6, ho⟩ := h.ex
  rcases ho.2 with ⟨rfl, h0⟩ | ⟨g, cap, cur, rfl, hb, hg, hnc, hcm, hcs, htake⟩
  · obtain rfl : l = [] := List.length_eq_zero_iff.1 h0
    exact ⟨none, 0, [], rfl, GRow.nil, Nat.le_refl _, Nat.zero_le _, Own.nil⟩
  have hcm' : cap ≤ 9223372036854775807 := by simp only [maxLen] at hcm; omega
  by_cases h0 : l.length = 0
  · obtain rfl : l = [] := List.length_eq_zero_iff.1 h0
    exact ⟨some ⟨g, 0, none⟩, cap, [], rfl, GRow.nil, hnc, hcm', Own.nil⟩
  refine ⟨some ⟨g, 0, none⟩, cap, g :: F.flatten, rfl, ⟨rfl, .inr ⟨g, 0, F, rfl, (Array.getElem?_eq_some_iff.1 hg).1, rfl, h2, ?_⟩⟩, hnc, hcm', ?_, ?_⟩
  · intro i x f hx hf
    have hi : i < l.length := (List.getElem?_eq_some_iff.1 hx).1
    have hc : css[i]? = some css[i] := List.getElem?_eq_getElem (by omega)
    refine ⟨css[i], h3 _ (List.getElem_mem _), h4 i x _ f hx hc hf, fun j hj => ?_⟩
    have hlt : i * k + j < l.length * k := by
      have : (i + 1) * k ≤ l.length * k := Nat.mul_le_mul_right k hi
      rw [Nat.succ_mul] at this
      omega
    rw [Go.Joins.cell_of_block hg, ← flat_get h3 hc j hj, ← htake, List.getElem?_take, if_pos hlt, Nat.zero_add]
    simp
  · rw [List.nodup_cons]
    exact ⟨fun hm => (h6 g hm).2.2 rfl, h5⟩
  · intro b hb'
    rcases List.mem_cons.1 hb' with rfl | hb'
    · exact ⟨hb, cur, e, hg⟩
    · exact ⟨(h6 b hb').1, (h6 b hb').2.1⟩

/-- One element more: its cells lie in a block g1 of one element (what 'append(s, x)' builds); its own blocks are younger than the row as it was in wr. -/
theorem push {P : Program} {α : Type} {k : Nat} {R : Rel α} {e : TypeId} {base : Nat} {wr w : World} {v : Value} {l : List α} {ops : Array Oper} {rest : List Oper} {o : Oper} {a : Act} {Q : Exit → Act → World → Prop}
    (hR : Local R) (hgd : o.guard = none) (s x : Operand) (t : TypeId) (ho : o.op = .call { callee := .builtin .append, args := #[s, x], argTypes := #[t, t] })
    (i : TypeInfo) (z : Value) (bytes : Nat) (ht : P.underlying t = some (.slice e)) (hi : P.info? e = some i) (hz : i.zero = some z) (hsize : i.size = k) (hby : i.bytes = bytes) (hzs : z.cells.size = k) (hk0 : 0 < k)
    (hs : a.eval s = v) (hG : Grows k R e base wr v l) (hb : Below wr.heap.size wr w) (g1 c1 : Nat) (hx : a.eval x = .slice (some ⟨g1, 0, none⟩) 1 c1)
    (cs : List Value) (hcs : cs.length = k) (hone : ∀ u ∈ cs, u.oneCell' = true) (hblk : ∀ j u, cs[j]? = some u → w.cell? ⟨g1, j, none⟩ = some u)
    (y : α) (f : List Nat) (hr : R w cs y f) (hf : Own wr.heap.size w f) (hlen : (l.length + 1) * bytes ≤ 140737488355328) (hl63 : l.length + 1 ≤ maxLen) (hbase : base ≤ wr.heap.size)
    (h : ∀ v' w', Grows k R e base w' v' (l ++ [y]) → Below base w w' → wpList P ops Q rest (a.put o.dst v') w') : wpList P ops Q (o :: rest) a w := by
  have hG' := hG.below hR hb
  obtain ⟨css, F, h1, h2, h3, h4, h5, h6, hown⟩ := hG'.ex
  have hFlt : ∀ b ∈ F.flatten, b < wr.heap.size ∨ True := fun _ _ => .inr trivial
  obtain ⟨css0, F0, g1', g2, g3, g4, g5, g6, gown⟩ := hG.ex
  refine wpList_plain hgd fun K hK => ?_
  have hnews : ∀ j u, cs[j]? = some u → w.cell? ((⟨g1, 0, none⟩ : Addr).add j) = some u := fun j u hj => by
    rw [Go.WideShapes.add_plain, Nat.zero_add]; exact hblk j u hj
  -- the row's elements in the elder world: their blocks are below wr
  have hown0 : w.ownsRow base e k v l.length css0.flatten := by
    refine ⟨gown.1, ?_⟩
    rcases gown.2 with hn | ⟨g, cap, cur, hv, hg, hh, r⟩
    · exact .inl hn
    · exact .inr ⟨g, cap, cur, hv, hg, (hb.block g (Array.getElem?_eq_some_iff.1 hh).1).trans hh, r⟩
  obtain ⟨v', w', hrun, hw1, hw2, hw3⟩ := run_append_own (P := P) w base t o.type e i z k bytes ht hi hz hsize hby hzs hk0 v l.length css0.flatten hown0 ⟨g1, 0, none⟩ 1 c1 cs (by rw [hcs, Nat.one_mul]) hnews hone hl63 hlen (Nat.le_trans hbase hb.size)
  have hwhere := run_append_where (P := P) w base t o.type e i z k bytes ht hi hz hsize hby hk0 v l.length css0.flatten hown0 ⟨g1, 0, none⟩ 1 c1 cs (by rw [hcs, Nat.one_mul]) hnews hone hl63 hlen (by omega) hrun
  have hvlt : ∀ b, v.ownBlock = some b → base ≤ b ∧ b < wr.heap.size := fun b hb' => hG.lt b hb'
  have hkeep : ∀ b, b < w.heap.size → v.ownBlock ≠ some b → w'.heap[b]? = w.heap[b]? := fun b hb1 hb2 => hw2.block b hb1 (fun e => hb2 e.symm)
  unfold Oper.wp execOp
  simp only [ho, resolve, invoke, builtin, Sem.run_bind, Sem.run_pure, Result.andThen_ok, List.map_toArray, List.map_cons, List.map_nil, hs, hx, hrun]
  refine hK _ _ (h v' w' ⟨css0 ++ [cs], F0 ++ [f], by simp [g1'], by simp [g2], ?_, ?_, ?_, ?_, ?_⟩ ((Below.refl _ _).grown hw2 (Nat.le_trans hbase hb.size) (fun b hb' => (hvlt b hb').1)))
  · intro c hc
    rcases List.mem_append.1 hc with hc | hc
    · exact g3 c hc
    · simp at hc; rw [hc]; exact hcs
  · intro j u c q hu hc hq
    by_cases hj : j < l.length
    · rw [List.getElem?_append_left hj] at hu
      rw [List.getElem?_append_left (by omega)] at hc hq
      refine hR.keep (g4 j u c q hu hc hq) (fun b hb' => ?_)
      have hq' := g6 b (mem_flatten_of hq hb')
      rw [hkeep b (Nat.lt_of_lt_of_le hq'.2.1.lt hb.size) hq'.2.2, hb.block b hq'.2.1.lt]
    · have hj' : j = l.length := by
        have := (List.getElem?_eq_some_iff.1 hu).1
        simp at this; omega
      subst hj'
      rw [List.getElem?_append_right (by omega)] at hu hc hq
      simp at hu
      simp [g1'] at hc
      simp [g2] at hq
      subst hu hc hq
      refine hR.keep hr (fun b hb' => ?_)
      have hq' := hf.2 b hb'
      exact hkeep b hq'.2.lt (fun e => by have := hvlt b e; omega)
  · rw [List.flatten_append, List.nodup_append]
    refine ⟨g5, by simpa using hf.1, ?_⟩
    intro p hp q hq e
    have a1 := (g6 p hp).2.1.lt
    have a2 := (hf.2 q (by simpa using hq)).1
    omega
  · intro b hb'
    rw [List.flatten_append, List.mem_append] at hb'
    rcases hb' with hb' | hb'
    · have hq' := g6 b hb'
      have hblt := hq'.2.1.lt
      refine ⟨hq'.1, ?_, ?_⟩
      · exact (hq'.2.1.same (hb.block b hblt)).same (hkeep b (Nat.lt_of_lt_of_le hblt hb.size) hq'.2.2)
      · rcases hwhere with e | e
        · rw [e]; exact hq'.2.2
        · rw [e]; intro e'; cases e'; have := hb.size; omega
    · have hb'' : b ∈ f := by simpa using hb'
      have hq' := hf.2 b hb''
      refine ⟨by omega, hq'.2.same (hkeep b hq'.2.lt (fun e => by have := hvlt b e; omega)), ?_⟩
      rcases hwhere with e | e
      · rw [e]; intro e'; have := hvlt b e'; omega
      · rw [e]; intro e'; cases e'; have := hq'.2.lt; omega
  · have : (l ++ [y]).length = l.length + 1 := by simp
    rw [this, List.flatten_append]
    simpa using hw1
end Go.Proofs.Ytoglclmaacjdaaa.dat
