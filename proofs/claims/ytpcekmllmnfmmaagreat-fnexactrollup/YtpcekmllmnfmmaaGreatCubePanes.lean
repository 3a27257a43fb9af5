/-
  THE CONTRACT OF THE CUBE'S panes: what it holds as panes in new memory, in an order by PaneCmp; nothing that was there is written.
-/
import Derived.Test.YtpcekmllmnfmmaaGreatCubePane
import Derived.Test.YtpcekmllmnfmmaaGreatSortRow
import Derived.Test.YtpcekmllmnfmmaaGreatGrow2
import Derived.Test.YtpcekmllmnfmmaaGreatShelf
namespace Go.Proofs.YtpcekmllmnfmmaaGreat.dat
open Go.RowKit Go.Proofs.YtpcekmllmnfmmaaGreat.win Go.Sort

def maskOf (c : ConfD) (x : CellD) : Int := (c.ms[x.mask.toNat]?).getD 0
def pnOf (c : ConfD) (F : CellD → Option AggD) (x : CellD) : PaneD := paneOf c (maskOf c x) x ((F x).getD zeroA)
/-- make([]Pane, 0, m). -/
theorem run_makeQ (m : Nat) (hm : m ≤ 9000000) (w : World) :
    (Instr.makeSlice 29 (.int .i64 0) (.int .i64 (m : Int))).run Tryz.prog w = .ok (.slice (some ⟨w.heap.size, 0, none⟩) 0 m) (w.alloc (.cells (madeCells #[.int .i64 0, .int .i64 0, .int .i64 0, .slice none 0 0, .int .i64 0, .int .i64 0, .int .i64 0, .int .i64 0] (m * 8)) 62)) := by
  obtain ⟨i, hi, hzz⟩ := Option.map_eq_some_iff.1 info_Pane
  simp only [Prod.mk.injEq] at hzz
  obtain ⟨hz, hs, hb⟩ := hzz
  have hr := run_make (P := Tryz.prog) w 29 62 i _ Tryz.underlying29 hi hz .i64 .i64 0 m (Int.le_refl _) (by omega) (by rw [hb]; omega) (by omega)
  simp only [Int.toNat_zero, Int.toNat_natCast, hs] at hr
  exact hr
/-- What is no row may be written: the row stays. -/
theorem Grows.but {α : Type} {k : Nat} {R : Rel α} {e : TypeId} {base r : Nat} {w w' : World} {v : Value} {l : List α} (hR : Local R) (h : Grows k R e base w v l) (hr : ¬ Wr w r) (hk : ∀ b, b < w.heap.size → b ≠ r → w'.heap[b]? = w.heap[b]?) : Grows k R e base w' v l := by
  obtain ⟨css, F, h1, h2, h3, h4, h5, h6, ho⟩ := h.ex
  have hw : ∀ b, Wr w b → w'.heap[b]? = w.heap[b]? := fun b hb => hk b hb.lt (fun e => hr (e ▸ hb))
  refine ⟨css, F, h1, h2, h3, fun i x c f hx hc hf => hR.keep (h4 i x c f hx hc hf) (fun b hb => hw b (h6 b (mem_flatten_of hf hb)).2.1), h5, fun b hb => ⟨(h6 b hb).1, (h6 b hb).2.1.same (hw b (h6 b hb).2.1), (h6 b hb).2.2⟩, ho.1, ?_⟩
  rcases ho.2 with hn | ⟨g, cap, cur, hv, hg, hh, rest⟩
  · exact .inl hn
  · exact .inr ⟨g, cap, cur, hv, hg, (hw g ⟨cur, e, hh⟩).trans hh, rest⟩
theorem MapRange.notWr {ε : Type} {M : MapK ε} {w : World} {b r n : Nat} {F : CellD → Option ε} {left : CellD → Bool} {cnt : Nat} (h : MapRange M w b r n F left cnt) : ¬ Wr w r := by
  obtain ⟨D, lf, ⟨es, clock, since, seen, c0, hb, F1, hs, hD, hr, rest⟩, t⟩ := h
  rintro ⟨arr, t, e⟩
  rw [hr] at e
  cases e
theorem Grows.own_lt {α : Type} {k : Nat} {R : Rel α} {e : TypeId} {base : Nat} {w : World} {v : Value} {l : List α} (h : Grows k R e base w v l) {r : Nat} (hr : ¬ Wr w r) : v.ownBlock ≠ some r := by
  obtain ⟨css, F, h1, h2, h3, h4, h5, h6, ho⟩ := h.ex
  rcases ho.2 with ⟨rfl, _⟩ | ⟨g, cap, cur, rfl, hg, hh, rest⟩
  · intro e; cases e
  · intro e1
    have : g = r := by simpa [Value.ownBlock] using e1
    exact hr (this ▸ ⟨cur, e, hh⟩)
/-- How far the walk over the map has come: xs were met. -/
structure Met (F : CellD → Option AggD) (left : CellD → Bool) (xs : List CellD) : Prop where
  nd : xs.Nodup
  wf : ∀ x ∈ xs, Cell.Wf x
  iff : ∀ x, Cell.Wf x → (x ∈ xs ↔ (F x).isSome = true ∧ left x = false)
theorem Met.start (F : CellD → Option AggD) : Met F (fun x => (F x).isSome) [] := ⟨by simp, by simp, fun x _ => by cases h : (F x).isSome <;> simp⟩
theorem Met.step {F : CellD → Option AggD} {left : CellD → Bool} {xs : List CellD} (h : Met F left xs) {x : CellD} {a : AggD} (hw : Cell.Wf x) (hl : left x = true) (hF : F x = some a) : Met F (fun y => left y && !decide (y = x)) (xs ++ [x]) := by
  refine ⟨?_, ?_, ?_⟩
  · rw [List.nodup_append]
    refine ⟨h.nd, by simp, fun y hy z hz e => ?_⟩
    simp at hz
    subst hz
    subst e
    have := ((h.iff y hw).1 hy).2
    rw [hl] at this
    cases this
  · intro y hy
    rcases List.mem_append.1 hy with hy | hy
    · exact h.wf y hy
    · simp at hy; rw [hy]; exact hw
  · intro y hy
    rw [List.mem_append, h.iff y hy]
    by_cases e : y = x
    · subst e; simp [hF]
    · simp [e]
theorem Met.done {F : CellD → Option AggD} {left : CellD → Bool} {xs : List CellD} (h : Met F left xs) (h0 : ∀ x, Cell.Wf x → left x = false) (hF : ∀ x, F x ≠ none → Cell.Wf x) (x : CellD) : x ∈ xs ↔ F x ≠ none := by
  constructor
  · intro hx
    have := ((h.iff x (h.wf x hx)).1 hx).1
    intro e
    rw [e] at this
    cases this
  · intro hx
    exact (h.iff x (hF x hx)).2 ⟨by cases e : F x with | none => exact absurd e hx | some a => rfl, h0 x (hF x hx)⟩

theorem swo_pane : SWO (ltOf paneC) where
  irrefl x := decide_eq_false (idC_irrefl x.id)
  trans x y z h1 h2 := decide_eq_true (idC_trans (p := x.id) (q := y.id) (r := z.id) (of_decide_eq_true h1) (of_decide_eq_true h2))
  ntrans x y z h1 h2 := by
    have h1 : ¬ idC x.id y.id < 0 := of_decide_eq_false h1
    have h2 : ¬ idC y.id z.id < 0 := of_decide_eq_false h2
    refine decide_eq_false (fun h => ?_)
    have h : idC x.id z.id < 0 := h
    by_cases e1 : idC x.id y.id = 0
    · rw [idC_zero.1 e1] at h; exact h2 h
    · exact h2 (idC_trans (idC_gt h1 e1) h)
theorem pane_one {w : World} {cs : List Value} {p : PaneD} {f : List Nat} (h : RPane w cs p f) : cs.length = 8 ∧ ∀ v ∈ cs, v.oneCell' = true := by
  obtain ⟨hh, rfl, _⟩ := h
  refine ⟨rfl, fun v hv => ?_⟩
  simp [Pane.list] at hv
  rcases hv with rfl | rfl | rfl | rfl | rfl | rfl | rfl | rfl <;> rfl

/-- slices.SortFunc(list, PaneCmp). -/
theorem sortPanes {base : Nat} {W : World} {v : Value} {l : List PaneD} (hG : Grows 8 RPane 62 base W v l) (hv : v.ownBlock ≠ none) (hok : ∀ x ∈ l, Pane.sz x ≤ 2000000) (hlen : l.length < 4611686018427387904) :
    Calls Tryz.prog 77 #[v, .func (.func 78) #[] #[]] W fun r w' => r = .returned (.tuple #[]) ∧ ∃ l' : List PaneD, l'.Perm l ∧ l'.Pairwise (fun x y => ¬ paneC y x < 0) ∧ Grows 8 RPane 62 base w' v l' ∧ Below base W w' :=
  sortRow (k := 8) (R := RPane) Tryz.sort_f77 (by decide) (fun w => by kernel_rfl) (fun w => by kernel_rfl) local_Pane pane_one paneC swo_pane (fun p => Pane.sz p ≤ 2000000) ⟨0, 0, 0, [], zeroA⟩ (Pane.list ⟨0, 0, 0, [], zeroA⟩ ⟨none, 0, 0⟩) (fun w => ⟨_, rfl, [], rfl, GRow.nil, Nat.le_refl _, Nat.zero_le _⟩) (by simp [Pane.sz]) 78 (enters_of Tryz.func78 (by kernel_rfl) rfl)
    (fun {W x cx fx y cy fy} hx hy ox oy => by
      obtain ⟨h1, rfl, i1⟩ := hx
      obtain ⟨h2, rfl, i2⟩ := hy
      exact (impl_PaneCmp_grow x h1 fx y h2 fy W i1 i2 ox oy).mono fun _ _ h => ⟨h.1, h.2.1, 1, h.2.2⟩) hG hv hok hlen
end Go.Proofs.YtpcekmllmnfmmaaGreat.dat
