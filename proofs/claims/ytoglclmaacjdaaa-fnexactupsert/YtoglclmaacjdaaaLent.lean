/-
  ROWS OF PANES WHOSE KEYS ARE ANOTHER'S: notions, and append(s, t...) of them.
-/
import Derived.Test.YtoglclmaacjdaaaDataPanes
import Derived.Test.YtoglclmaacjdaaaGrow2
namespace Go.Proofs.Ytoglclmaacjdaaa.dat
open Go.RowKit Go.Proofs.Ytoglclmaacjdaaa.win

/-- Elements whose blocks are another's, as they lie in W0. -/
def RLent (W0 : World) : Rel PaneD := fun _ cs x f => ∃ h g, cs = Pane.list x h ∧ Pane.Is W0 x h g ∧ f = []
theorem local_lent (W0 : World) : Local (RLent W0) := ⟨fun h _ => h, fun ⟨_, _, _, _, e⟩ b hb => by rw [e] at hb; simp at hb⟩
theorem GRow.conv {α : Type} {k : Nat} {R R' : Rel α} {w : World} {a : Option Addr} {len : Nat} {l : List α} {fp : List Nat} (h : GRow k R w a len l fp) (hc : ∀ cs x f, R w cs x f → ∃ f', R' w cs x f') : ∃ fp', GRow k R' w a len l fp' := by
  obtain ⟨hl, ⟨h0, rfl⟩ | ⟨b, off, F, ha, hb, rfl, hF, hx⟩⟩ := h
  · exact ⟨[], hl, .inl ⟨h0, rfl⟩⟩
  have : ∀ i : Fin l.length, ∃ f', El k R' w b (off + i * k) l[i] f' := by
    intro i
    have hi := i.2
    obtain ⟨cs, h1, h2, h3⟩ := hx i l[i] (F[i.val]'(by omega)) (List.getElem?_eq_getElem hi) (List.getElem?_eq_getElem (by omega))
    obtain ⟨f', h4⟩ := hc _ _ _ h2
    exact ⟨f', cs, h1, h4, h3⟩
  obtain ⟨g, hg⟩ : ∃ g : Fin l.length → List Nat, ∀ i : Fin l.length, El k R' w b (off + i * k) l[i] (g i) := ⟨fun i => Classical.choose (this i), fun i => Classical.choose_spec (this i)⟩
  refine ⟨b :: (List.ofFn g).flatten, hl, .inr ⟨b, off, List.ofFn g, ha, hb, rfl, by simp [hl], fun i x f hxi hfi => ?_⟩⟩
  obtain ⟨h1, rfl⟩ := List.getElem?_eq_some_iff.1 hxi
  rw [List.getElem?_ofFn, dif_pos h1] at hfi
  cases hfi
  exact hg ⟨i, h1⟩
theorem lent_row {W0 w : World} {a : Option Addr} {len : Nat} {l : List PaneD} {fp : List Nat} (h : GRow 8 (RLent W0) w a len l fp) (hb : Below W0.heap.size W0 w) : ∃ fp', GRow 8 RPane w a len l fp' :=
  h.conv fun _ _ _ ⟨h, g, e, hi, _⟩ => ⟨g, h, e, hi.below hb⟩

/-- The cells of a row, element by element. -/
theorem GRow.cells {α : Type} {k : Nat} {R : Rel α} {w : World} {b off len : Nat} {l : List α} {fp : List Nat} (h : GRow k R w (some ⟨b, off, none⟩) len l fp) : ∃ css : List (List Value), css.length = len ∧ (∀ c ∈ css, c.length = k) ∧ (∀ (i : Nat) x c, l[i]? = some x → css[i]? = some c → ∃ f, R w c x f) ∧ ∀ (i : Nat) c, css[i]? = some c → ∀ j, j < k → w.cell? ⟨b, off + i * k + j, none⟩ = c[j]? := by
  have hat : ∀ i : Fin len, ∃ cs x f, l[i.val]? = some x ∧ cs.length = k ∧ R w cs x f ∧ ∀ j, j < k → w.cell? ⟨b, off + i * k + j, none⟩ = cs[j]? := by
    intro i
    obtain ⟨b', off', x, f, cs, ha, hbl, hx, hcl, hR, hc⟩ := h.at i.2
    cases ha
    exact ⟨cs, x, f, hx, hcl, hR, hc⟩
  obtain ⟨g, hg⟩ : ∃ g : Fin len → List Value, ∀ i : Fin len, ∃ x f, l[i.val]? = some x ∧ (g i).length = k ∧ R w (g i) x f ∧ ∀ j, j < k → w.cell? ⟨b, off + i * k + j, none⟩ = (g i)[j]? := ⟨fun i => Classical.choose (hat i), fun i => Classical.choose_spec (hat i)⟩
  refine ⟨List.ofFn g, by simp, ?_, ?_, ?_⟩
  · intro c hc
    obtain ⟨i, rfl⟩ := List.mem_ofFn.1 hc
    obtain ⟨_, _, _, h2, _⟩ := hg i
    exact h2
  · intro i x c hx hc
    rw [List.getElem?_ofFn] at hc
    split at hc
    · rename_i hi
      cases hc
      obtain ⟨y, f, h1, _, h3, _⟩ := hg ⟨i, hi⟩
      rw [hx] at h1
      cases h1
      exact ⟨f, h3⟩
    · cases hc
  · intro i c hc j hj
    rw [List.getElem?_ofFn] at hc
    split at hc
    · rename_i hi
      cases hc
      obtain ⟨_, _, _, _, _, h4⟩ := hg ⟨i, hi⟩
      exact h4 j hj
    · cases hc

/-- append(s, t...): a row of elements that own no blocks, and a whole row behind it. -/
theorem pushAll {α : Type} {k : Nat} {R : Rel α} {wr w : World} {e : TypeId} {base : Nat} {v : Value} {l l2 : List α} {ops : Array Oper} {rest : List Oper} {o : Oper} {a : Act} {Q : Exit → Act → World → Prop}
    (hk0 : 0 < k) (hf : ∀ {w c x f}, R w c x f → f = []) (hind : ∀ {w w' : World} {c x f}, R w c x f → R w' c x f) (h1 : ∀ {w c x f}, R w c x f → ∀ u ∈ c, u.oneCell' = true)
    (hgd : o.guard = none) (s x : Operand) (t : TypeId) (ho : o.op = .call { callee := .builtin .append, args := #[s, x], argTypes := #[t, t] })
    (i : TypeInfo) (z : Value) (bytes : Nat) (ht : Try.prog.underlying t = some (.slice e)) (hi : Try.prog.info? e = some i) (hz : i.zero = some z) (hsize : i.size = k) (hby : i.bytes = bytes) (hzs : z.cells.size = k)
    (hs : a.eval s = v) (hG : Grows k R e base wr v l) (hb : Below wr.heap.size wr w) (b off m c1 : Nat) (fp : List Nat) (hx : a.eval x = .slice (some ⟨b, off, none⟩) m c1) (hrow : GRow k R w (some ⟨b, off, none⟩) m l2 fp)
    (hlen : (l.length + m) * bytes ≤ 140737488355328) (hl63 : l.length + m ≤ maxLen) (hbase : base ≤ wr.heap.size)
    (h : ∀ v' w', Grows k R e base w' v' (l ++ l2) → Below base w w' → (∀ q, q < w.heap.size → v.ownBlock ≠ some q → w'.heap[q]? = w.heap[q]?) → wpList Try.prog ops Q rest (a.put o.dst v') w') : wpList Try.prog ops Q (o :: rest) a w := by
  obtain ⟨css0, F0, g1', g2, g3, g4, g5, g6, gown⟩ := hG.ex
  obtain ⟨css2, k1, k2, k3, k4⟩ := hrow.cells
  have hm : l2.length = m := hrow.1
  refine wpList_plain hgd fun K hK => ?_
  have hlen2 : css2.flatten.length = m * k := by rw [flat_len k2, k1]
  have hnews : ∀ j u, css2.flatten[j]? = some u → w.cell? ((⟨b, off, none⟩ : Addr).add j) = some u := fun j u hj => by
    rw [Go.WideShapes.add_plain]
    have hj' : j < m * k := by rw [← hlen2]; exact (List.getElem?_eq_some_iff.1 hj).1
    have hq : j / k < css2.length := by rw [k1]; exact Nat.div_lt_of_lt_mul (by rw [Nat.mul_comm]; exact hj')
    have hjk : j / k * k + j % k = j := by rw [Nat.mul_comm]; exact Nat.div_add_mod j k
    have e1 := flat_get k2 (List.getElem?_eq_getElem hq) (j % k) (Nat.mod_lt _ hk0)
    rw [hjk, hj] at e1
    have e2 := k4 (j / k) _ (List.getElem?_eq_getElem hq) (j % k) (Nat.mod_lt _ hk0)
    rw [Nat.add_assoc, hjk] at e2
    rw [e2, ← e1]
  have hone : ∀ u ∈ css2.flatten, u.oneCell' = true := by
    intro u hu
    obtain ⟨c, hc, hcu⟩ := List.mem_flatten.1 hu
    obtain ⟨q, hq, rfl⟩ := List.getElem_of_mem hc
    obtain ⟨f, hR⟩ := k3 q (l2[q]'(by omega)) _ (List.getElem?_eq_getElem (by omega)) (List.getElem?_eq_getElem hq)
    exact h1 hR u hcu
  have hown0 : w.ownsRow base e k v l.length css0.flatten := by
    refine ⟨gown.1, ?_⟩
    rcases gown.2 with hn | ⟨g, cap, cur, hv, hg, hh, r⟩
    · exact .inl hn
    · exact .inr ⟨g, cap, cur, hv, hg, (hb.block g (Array.getElem?_eq_some_iff.1 hh).1).trans hh, r⟩
  obtain ⟨v', w', hrun, hw1, hw2, hw3⟩ := run_append_own (P := Try.prog) w base t o.type e i z k bytes ht hi hz hsize hby hzs hk0 v l.length css0.flatten hown0 ⟨b, off, none⟩ m c1 css2.flatten hlen2 hnews hone hl63 hlen (Nat.le_trans hbase hb.size)
  have hfl : (List.replicate (l ++ l2).length ([] : List Nat)).flatten = [] := by simp
  unfold Oper.wp execOp
  simp only [ho, resolve, invoke, builtin, Sem.run_bind, Sem.run_pure, Result.andThen_ok, List.map_toArray, List.map_cons, List.map_nil, hs, hx, hrun]
  refine hK _ _ (h v' w' ⟨css0 ++ css2, List.replicate (l ++ l2).length [], by simp [g1', k1, hm], by simp, ?_, ?_, by rw [hfl]; simp, by rw [hfl]; simp, ?_⟩ ((Below.refl _ _).grown hw2 (Nat.le_trans hbase hb.size) (fun q hq => (hG.lt q hq).1)) (fun q hq hne => hw2.block q hq (fun e => hne e.symm)))
  · intro c hc
    rcases List.mem_append.1 hc with hc | hc
    · exact g3 c hc
    · exact k2 c hc
  · intro q u c f hu hc hff
    obtain rfl : f = [] := (List.mem_replicate.1 (List.mem_of_getElem? hff)).2
    by_cases hq : q < l.length
    · rw [List.getElem?_append_left hq] at hu
      rw [List.getElem?_append_left (by omega)] at hc
      have hR := g4 q u c (F0[q]'(by omega)) hu hc (List.getElem?_eq_getElem (by omega))
      have e1 := hf hR
      rw [e1] at hR
      exact hind hR
    · rw [List.getElem?_append_right (by omega)] at hu
      rw [List.getElem?_append_right (by omega), g1'] at hc
      obtain ⟨f', hR⟩ := k3 _ u c hu hc
      have e1 := hf hR
      rw [e1] at hR
      exact hind hR
  · have e1 : (l ++ l2).length = l.length + m := by simp [hm]
    rw [e1, List.flatten_append]
    exact hw1
theorem lent_f {W0 w : World} {c : List Value} {x : PaneD} {f : List Nat} (h : RLent W0 w c x f) : f = [] := h.choose_spec.choose_spec.2.2
theorem lent_ind {W0 w w' : World} {c : List Value} {x : PaneD} {f : List Nat} (h : RLent W0 w c x f) : RLent W0 w' c x f := h
theorem lent_one {W0 w : World} {c : List Value} {x : PaneD} {f : List Nat} (h : RLent W0 w c x f) : ∀ u ∈ c, u.oneCell' = true := by
  obtain ⟨hh, gg, rfl, _⟩ := h
  intro u hu
  simp [Pane.list] at hu
  rcases hu with rfl | rfl | rfl | rfl | rfl | rfl | rfl | rfl <;> rfl
theorem int_one {w : World} {c : List Value} {x : Int} {f : List Nat} (h : RInt w c x f) : ∀ u ∈ c, u.oneCell' = true := by
  obtain ⟨rfl, _⟩ := h
  intro u hu
  simp at hu
  subst hu
  rfl
end Go.Proofs.Ytoglclmaacjdaaa.dat
