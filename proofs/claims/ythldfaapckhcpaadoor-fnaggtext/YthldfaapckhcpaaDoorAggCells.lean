/-
  CELLS THAT HOLD AN AGGREGATE OR A ROW OF NUMBERS: what a call leaves of them ('Below').
-/
import Derived.Test.YthldfaapckhcpaaDoorAggJoin
import Derived.Test.YthldfaapckhcpaaDoorAggListMath
namespace Go.Proofs.YthldfaapckhcpaaDoor.agg
open Go.RowKit

/-- A block's first four cells hold an aggregate. -/
def Box4 (w : World) (g : Nat) (a : Q) : Prop :=
  w.cell? ⟨g, 0, none⟩ = some (.int .i64 a.n) ∧ w.cell? ⟨g, 1, none⟩ = some (.int .i64 a.s) ∧ w.cell? ⟨g, 2, none⟩ = some (.int .i64 a.mn) ∧ w.cell? ⟨g, 3, none⟩ = some (.int .i64 a.mx)

theorem Box4.below {B : Nat} {w w' : World} {g : Nat} {a : Q} (h : Box4 w g a) (hb : Below B w w') (hg : g < B) : Box4 w' g a :=
  ⟨(hb.cell (p := ⟨g, 0, none⟩) hg).trans h.1, (hb.cell (p := ⟨g, 1, none⟩) hg).trans h.2.1, (hb.cell (p := ⟨g, 2, none⟩) hg).trans h.2.2.1, (hb.cell (p := ⟨g, 3, none⟩) hg).trans h.2.2.2⟩

theorem box_alloc (w : World) (q : Q) (t : TypeId) : Box4 (w.alloc (.cells #[.int .i64 q.n, .int .i64 q.s, .int .i64 q.mn, .int .i64 q.mx] t)) w.heap.size q := by
  refine ⟨?_, ?_, ?_, ?_⟩ <;> simp [go_sem]

theorem box_set {w : World} {g : Nat} (q x : Q) (h : Box4 w g x) :
    Box4 ((((w.setCell ⟨g, 0, none⟩ (.int .i64 q.n)).setCell ⟨g, 1, none⟩ (.int .i64 q.s)).setCell ⟨g, 2, none⟩ (.int .i64 q.mn)).setCell ⟨g, 3, none⟩ (.int .i64 q.mx)) g q := by
  obtain ⟨h0, h1, h2, h3⟩ := h
  refine ⟨?_, ?_, ?_, ?_⟩ <;> simp [go_sem, h0, h1, h2, h3]

/-- .. and may be written. -/
def Own4 (w : World) (g : Nat) (a : Q) : Prop := Box4 w g a ∧ ∀ j, w.frozen? ⟨g, j, none⟩ = false

theorem Own4.below {B : Nat} {w w' : World} {g : Nat} {a : Q} (h : Own4 w g a) (hb : Below B w w') (hg : g < B) : Own4 w' g a :=
  ⟨h.1.below hb hg, fun j => (hb.frozen (p := ⟨g, j, none⟩) hg).trans (h.2 j)⟩

theorem own_alloc (w : World) (q : Q) (t : TypeId) : Own4 (w.alloc (.cells #[.int .i64 q.n, .int .i64 q.s, .int .i64 q.mn, .int .i64 q.mx] t)) w.heap.size q :=
  ⟨box_alloc w q t, fun j => by simp [go_sem]⟩

theorem own_set {w : World} {g : Nat} (q x : Q) (h : Own4 w g x) :
    Own4 ((((w.setCell ⟨g, 0, none⟩ (.int .i64 q.n)).setCell ⟨g, 1, none⟩ (.int .i64 q.s)).setCell ⟨g, 2, none⟩ (.int .i64 q.mn)).setCell ⟨g, 3, none⟩ (.int .i64 q.mx)) g q :=
  ⟨box_set q x h.1, fun j => by simp only [World.frozen?_setCell]; exact h.2 j⟩

/-- Stores into one block leave all others. -/
theorem below_set4 {w : World} {g : Nat} (a b c d : Value) : Below g w ((((w.setCell ⟨g, 0, none⟩ a).setCell ⟨g, 1, none⟩ b).setCell ⟨g, 2, none⟩ c).setCell ⟨g, 3, none⟩ d) :=
  Below.setCell (p := ⟨g, 3, none⟩) (Below.setCell (p := ⟨g, 2, none⟩) (Below.setCell (p := ⟨g, 1, none⟩) (Below.setCell (p := ⟨g, 0, none⟩) (Below.refl g w) (Nat.le_refl g) a) (Nat.le_refl g) b) (Nat.le_refl g) c) (Nat.le_refl g) d

/-- What a statement 'x, ok := AggJoin(..)' leaves behind, in a world W before it. -/
def JoinLeft (W : World) (sa sb : Value) (wx : World) (q : Q) (t : Bool) : Prop :=
  ∃ g : Nat, sa = .pointer (some ⟨g, 0, none⟩) ∧ sb = .bool t ∧ Below W.heap.size W wx ∧ W.heap.size ≤ g ∧ g < wx.heap.size ∧ Box4 wx g q

/-- A slice value's elements are these numbers (nothing is said of an empty one). -/
def Row (w : World) (a : Option Addr) (len : Nat) (l : List Int) : Prop :=
  l.length = len ∧ (0 < len → ∃ b off, a = some ⟨b, off, none⟩ ∧ b < w.heap.size ∧ ∀ i, i < len → w.cell? ⟨b, off + i, none⟩ = some (.int .i64 (l.getD i 0)))

theorem Row.below {w w' : World} {a : Option Addr} {len : Nat} {l : List Int} (h : Row w a len l) (hb : Below w.heap.size w w') : Row w' a len l :=
  ⟨h.1, fun h0 => by
    obtain ⟨b, off, e, hlt, hc⟩ := h.2 h0
    exact ⟨b, off, e, Nat.lt_of_lt_of_le hlt hb.size, fun i hi => (hb.cell (p := ⟨b, off + i, none⟩) hlt).trans (hc i hi)⟩⟩

theorem Row.nil (w : World) (a : Option Addr) : Row w a 0 [] := ⟨rfl, fun h => absurd h (by omega)⟩

/-- A slice of numbers as a row's reading finds it: nil, or a row of 'cap' cells of which the first 'len' are its elements. -/
def IsRow (k : IntKind) (w : World) (a : Option Addr) (len cap : Nat) (zs : List Int) : Prop :=
  (a = none ∧ len = 0 ∧ cap = 0 ∧ zs = []) ∨
  ∃ x, a = some x ∧ len ≤ cap ∧ cap ≤ maxLen ∧ zs.length = cap ∧ (∀ i, i < zs.length → w.cell? (x.add i) = some (.int k (zs.getD i 0))) ∧ ∀ n ∈ zs, (Lit.int k n).wf = true

theorem IsRow.row {w : World} {a : Option Addr} {len cap : Nat} {zs : List Int} (h : IsRow .i64 w a len cap zs) : Row w a len (zs.take len) := by
  rcases h with ⟨rfl, rfl, rfl, rfl⟩ | ⟨x, rfl, hl, hm, hz, hc, hw⟩
  · exact Row.nil w _
  · refine ⟨by rw [List.length_take]; omega, fun h0 => ?_⟩
    obtain ⟨b, off, spot⟩ := x
    have h1 := hc 0 (by omega)
    have hspot : spot = none := by simpa [Addr.add] using World.cell?_spot h1
    subst hspot
    have hb : b < w.heap.size := by
      apply Classical.byContradiction
      intro hn
      have : w.heap[b]? = none := by simp; omega
      simp [World.cell?, Addr.add, this] at h1
    refine ⟨b, off, rfl, hb, fun i hi => ?_⟩
    have h2 := hc i (by omega)
    have e : (⟨b, off, none⟩ : Addr).add i = ⟨b, off + i, none⟩ := by
      by_cases h0 : i = 0
      · subst h0; rfl
      · simp [Addr.add, h0]
    rw [e] at h2
    rw [List.getD_eq_getElem?_getD, List.getElem?_take, if_pos hi, ← List.getD_eq_getElem?_getD]
    exact h2

end Go.Proofs.YthldfaapckhcpaaDoor.agg
