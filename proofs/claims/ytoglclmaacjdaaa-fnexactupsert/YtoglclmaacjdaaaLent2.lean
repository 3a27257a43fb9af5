/-
  ROWS OF PANES OF WHOSE CELLS SOMETHING IS SAID; append(s, t...) of any row; the first and the last elements of a row.
-/
import Derived.Test.YtoglclmaacjdaaaLent
namespace Go.Proofs.Ytoglclmaacjdaaa.dat
open Go.RowKit Go.Proofs.Ytoglclmaacjdaaa.win

/-- Elements of whose cells S is said. -/
def RS (S : PaneD → PaneH → Prop) : Rel PaneD := fun _ cs x f => ∃ h, cs = Pane.list x h ∧ S x h ∧ f = []
theorem local_rs (S : PaneD → PaneH → Prop) : Local (RS S) := ⟨fun h _ => h, fun ⟨_, _, _, e⟩ b hb => by rw [e] at hb; simp at hb⟩
theorem rs_f {S : PaneD → PaneH → Prop} {w : World} {c : List Value} {x : PaneD} {f : List Nat} (h : RS S w c x f) : f = [] := h.choose_spec.2.2
theorem rs_ind {S : PaneD → PaneH → Prop} {w w' : World} {c : List Value} {x : PaneD} {f : List Nat} (h : RS S w c x f) : RS S w' c x f := h
theorem rs_one {S : PaneD → PaneH → Prop} {w : World} {c : List Value} {x : PaneD} {f : List Nat} (h : RS S w c x f) : ∀ u ∈ c, u.oneCell' = true := by
  obtain ⟨hh, rfl, _⟩ := h
  intro u hu
  simp [Pane.list] at hu
  rcases hu with rfl | rfl | rfl | rfl | rfl | rfl | rfl | rfl <;> rfl
theorem rs_of {S : PaneD → PaneH → Prop} {w : World} {a : Option Addr} {len : Nat} {l : List PaneD} {fp : List Nat} (h : GRow 8 RPane w a len l fp) (hS : ∀ x h g, Pane.Is w x h g → S x h) : ∃ fp', GRow 8 (RS S) w a len l fp' :=
  h.conv fun _ x f ⟨hh, e, hi⟩ => ⟨[], hh, e, hS x hh f hi, rfl⟩
theorem rs_row {S : PaneD → PaneH → Prop} {w : World} {a : Option Addr} {len : Nat} {l : List PaneD} {fp : List Nat} (h : GRow 8 (RS S) w a len l fp) (hS : ∀ x h, S x h → ∃ g, Pane.Is w x h g) : ∃ fp', GRow 8 RPane w a len l fp' :=
  h.conv fun _ x _ ⟨hh, e, hs, _⟩ => by obtain ⟨g, hg⟩ := hS x hh hs; exact ⟨g, hh, e, hg⟩

theorem GRow.take {α : Type} {k : Nat} {R : Rel α} {w : World} {a : Option Addr} {len : Nat} {l : List α} {fp : List Nat} (h : GRow k R w a len l fp) {t : Nat} (ht : t ≤ len) : ∃ fp', GRow k R w a t (l.take t) fp' := by
  obtain ⟨hl, ⟨h0, rfl⟩ | ⟨b, off, F, ha, hb, rfl, hF, hx⟩⟩ := h
  · exact ⟨[], by simp; omega, .inl ⟨by omega, rfl⟩⟩
  · refine ⟨b :: (F.take t).flatten, by simp; omega, .inr ⟨b, off, F.take t, ha, hb, rfl, by simp; omega, fun i x f hxi hfi => ?_⟩⟩
    rw [List.getElem?_take] at hxi hfi
    split at hxi
    · rename_i hi
      rw [if_pos hi] at hfi
      exact hx i x f hxi hfi
    · cases hxi
theorem GRow.drop {α : Type} {k : Nat} {R : Rel α} {w : World} {b off len : Nat} {l : List α} {fp : List Nat} (h : GRow k R w (some ⟨b, off, none⟩) len l fp) {t : Nat} (ht : t ≤ len) : ∃ fp', GRow k R w (some ⟨b, off + t * k, none⟩) (len - t) (l.drop t) fp' := by
  obtain ⟨hl, ⟨h0, rfl⟩ | ⟨b', off', F, ha, hb, rfl, hF, hx⟩⟩ := h
  · exact ⟨[], by simp; omega, .inl ⟨by omega, rfl⟩⟩
  · cases ha
    refine ⟨b :: (F.drop t).flatten, by simp; omega, .inr ⟨b, off + t * k, F.drop t, rfl, hb, rfl, by simp; omega, fun i x f hxi hfi => ?_⟩⟩
    rw [List.getElem?_drop] at hxi hfi
    have := hx (t + i) x f hxi hfi
    rw [Nat.add_mul, ← Nat.add_assoc] at this
    exact this
theorem GRow.empty {α : Type} {k : Nat} {R : Rel α} {w : World} {a : Option Addr} {fp : List Nat} {l : List α} (h : GRow k R w a 0 l fp) (a' : Option Addr) : GRow k R w a' 0 l [] := by
  obtain ⟨hl, _⟩ := h
  exact ⟨hl, .inl ⟨rfl, rfl⟩⟩

theorem run_append_zero {P : Program} (w : World) (t ty e : TypeId) (i : TypeInfo) (ht : P.underlying t = some (.slice e)) (hi : P.info? e = some i) (b : Option Addr) (n c : Nat) (hnc : n ≤ c) (a : Option Addr) (c1 : Nat) :
    (Builtin.append_ #[t, t] ty #[.slice b n c, .slice a 0 c1]).run P w = .ok (.slice b n c) w := by
  cases a <;> cases b <;> simp [Builtin.append_, run_underlying ht, sizeOf, typeInfo, hi, Builtin.lenOf, hnc, Builtin.firstCells, loadCells, loadCellsFrom, storeCells]

/-- append(s, t...): a row of elements that own no blocks, and any whole row behind it. -/
theorem pushAny {α : Type} {k : Nat} {R : Rel α} {wr w : World} {e : TypeId} {base : Nat} {v : Value} {l l2 : List α} {ops : Array Oper} {rest : List Oper} {o : Oper} {a : Act} {Q : Exit → Act → World → Prop}
    (hk0 : 0 < k) (hR : Local R) (hf : ∀ {w c x f}, R w c x f → f = []) (hind : ∀ {w w' : World} {c x f}, R w c x f → R w' c x f) (h1 : ∀ {w c x f}, R w c x f → ∀ u ∈ c, u.oneCell' = true)
    (hgd : o.guard = none) (s x : Operand) (t : TypeId) (ho : o.op = .call { callee := .builtin .append, args := #[s, x], argTypes := #[t, t] })
    (i : TypeInfo) (z : Value) (bytes : Nat) (ht : Try.prog.underlying t = some (.slice e)) (hi : Try.prog.info? e = some i) (hz : i.zero = some z) (hsize : i.size = k) (hby : i.bytes = bytes) (hzs : z.cells.size = k)
    (hs : a.eval s = v) (hG : Grows k R e base wr v l) (hb : Below wr.heap.size wr w) (aa : Option Addr) (m c1 : Nat) (fp : List Nat) (hx : a.eval x = .slice aa m c1) (hrow : GRow k R w aa m l2 fp)
    (hlen : (l.length + m) * bytes ≤ 140737488355328) (hl63 : l.length + m ≤ maxLen) (hbase : base ≤ wr.heap.size)
    (h : ∀ v' w', Grows k R e base w' v' (l ++ l2) → Below base w w' → (∀ q, q < w.heap.size → v.ownBlock ≠ some q → w'.heap[q]? = w.heap[q]?) → wpList Try.prog ops Q rest (a.put o.dst v') w') : wpList Try.prog ops Q (o :: rest) a w := by
  by_cases hm : m = 0
  · subst hm
    have hl2 : l2 = [] := List.length_eq_zero_iff.1 hrow.1
    subst hl2
    rw [List.append_nil] at h
    obtain ⟨b, c, hv⟩ := hG.slice
    have hnc : l.length ≤ c := by
      obtain ⟨a0, cap, _, e1, _, h2, _⟩ := hG.done
      rw [hv] at e1
      cases e1
      exact h2
    have hrun := run_append_zero (P := Try.prog) w t o.type e i ht hi b l.length c hnc aa c1
    refine wpList_plain hgd fun K hK => ?_
    unfold Oper.wp execOp
    rw [hv] at hs
    simp only [ho, resolve, invoke, builtin, Sem.run_bind, Sem.run_pure, Result.andThen_ok, List.map_toArray, List.map_cons, List.map_nil, hs, hx, hrun]
    rw [← hv]
    exact hK _ _ (h v w (hG.below hR hb) (Below.refl _ _) (fun _ _ _ => rfl))
  · obtain ⟨b, off, F, rfl, _⟩ : ∃ (b off : Nat) (F : List (List Nat)), aa = some ⟨b, off, none⟩ ∧ True := by
      obtain ⟨_, ⟨h0, _⟩ | ⟨b, off, F, ha, _⟩⟩ := hrow
      · exact absurd h0 hm
      · exact ⟨b, off, F, ha, trivial⟩
    exact pushAll (R := R) (l2 := l2) hk0 hf hind h1 hgd s x t ho i z bytes ht hi hz hsize hby hzs hs hG hb b off m c1 fp hx hrow hlen hl63 hbase h
end Go.Proofs.Ytoglclmaacjdaaa.dat
