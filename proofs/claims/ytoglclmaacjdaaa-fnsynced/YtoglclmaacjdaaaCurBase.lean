/-
  THE DRAWS' GROUND: a code as an argument, big, l01Open; two cells of the call's own.
  Condition: the code is a slice of bytes, at most 2,000,000 of them.
-/
import Derived.Test.YtoglclmaacjdaaaCur2
namespace Go.Proofs.Ytoglclmaacjdaaa.cur
open Go.RowKit

/-- As Curs.below, over any bound above the cursor's block. -/
theorem Curs.belowB {g B : Nat} {a : Option Addr} {len cap m : Nat} {w w' : World} (h : Curs g a len cap m w) (hb : Below B w w') (hg : g < B) : Curs g a len cap m w' := by
  obtain ⟨pos, seed, h1, h2, h3, h4, h5, h6, c0, c1, c2, hf, hB⟩ := h
  refine ⟨pos, seed, h1, h2, h3, h4, Nat.lt_of_lt_of_le h5 hb.size, h6, (hb.cell (p := ⟨g, 0, none⟩) hg).trans c0, (hb.cell (p := ⟨g, 1, none⟩) hg).trans c1, (hb.cell (p := ⟨g, 2, none⟩) hg).trans c2, fun j => (hb.frozen (p := ⟨g, j, none⟩) hg).trans (hf j), fun h0 => ?_⟩
  obtain ⟨b, off, e, k1, k2, k3⟩ := hB h0
  refine ⟨b, off, e, k1, Nat.lt_of_lt_of_le k2 hb.size, fun i hi => ?_⟩
  obtain ⟨v, v0, v1, hc⟩ := k3 i hi
  exact ⟨v, v0, v1, (hb.cell (p := ⟨b, off + i, none⟩) (by show b < B; omega)).trans hc⟩

theorem Curs.lt {g : Nat} {a : Option Addr} {len cap m : Nat} {w : World} (h : Curs g a len cap m w) : g < w.heap.size := by
  obtain ⟨pos, seed, h1, h2, h3, h4, h5, -⟩ := h; exact h5

theorem Only.then_below {g B : Nat} {a b c : World} (h : Only g a b) (hb : Below B b c) (hB : a.heap.size ≤ B) : Only g a c :=
  ⟨hb.os.trans h.os, hb.tape.trans h.tape, hb.output.trans h.output, Nat.le_trans h.size hb.size, fun k hk hn => (hb.block k (by omega)).trans (h.block k hk hn)⟩

theorem cell_lt {w : World} {b o : Nat} {v : Value} (h : w.cell? ⟨b, o, none⟩ = some v) : b < w.heap.size := by
  apply Classical.byContradiction
  intro hn
  have : w.heap[b]? = none := by simp; omega
  simp [World.cell?, this] at h

/-- A slice of numbers as a row's reading finds it: nil, or a row of 'cap' cells of which the first 'len' are its elements. -/
def IsRow (k : IntKind) (w : World) (a : Option Addr) (len cap : Nat) (zs : List Int) : Prop :=
  (a = none ∧ len = 0 ∧ cap = 0 ∧ zs = []) ∨
  ∃ x, a = some x ∧ len ≤ cap ∧ cap ≤ maxLen ∧ zs.length = cap ∧ (∀ i, i < zs.length → w.cell? (x.add i) = some (.int k (zs.getD i 0))) ∧ ∀ n ∈ zs, (Lit.int k n).wf = true

/-- A code as an argument: a slice value whose elements are bytes. -/
def Code (w : World) (a : Option Addr) (len : Nat) : Prop :=
  0 < len → ∃ b off, a = some ⟨b, off, none⟩ ∧ b < w.heap.size ∧ ∀ i, i < len → ∃ v : Int, 0 ≤ v ∧ v ≤ 255 ∧ w.cell? ⟨b, off + i, none⟩ = some (.int .u8 v)

theorem Code.below {w w' : World} {a : Option Addr} {len : Nat} (h : Code w a len) (hb : Below w.heap.size w w') : Code w' a len := fun h0 => by
  obtain ⟨b, off, e, h1, h2⟩ := h h0
  refine ⟨b, off, e, Nat.lt_of_lt_of_le h1 hb.size, fun i hi => ?_⟩
  obtain ⟨v, v0, v1, hc⟩ := h2 i hi
  exact ⟨v, v0, v1, (hb.cell (p := ⟨b, off + i, none⟩) h1).trans hc⟩

theorem code_of_row {w : World} {a : Option Addr} {len cap : Nat} {zs : List Int} (h : IsRow .u8 w a len cap zs) : Code w a len := by
  rcases h with ⟨rfl, rfl, rfl, rfl⟩ | ⟨x, rfl, hl, hm, hz, hc, hw⟩
  · exact fun h0 => absurd h0 (by omega)
  · intro h0
    obtain ⟨b, off, spot⟩ := x
    have h1 := hc 0 (by omega)
    have hspot : spot = none := by simpa [Addr.add] using World.cell?_spot h1
    subst hspot
    have hb : b < w.heap.size := by
      have h2 : w.cell? ⟨b, off, none⟩ = some (.int .u8 (zs.getD 0 0)) := by simpa [Addr.add] using h1
      exact cell_lt h2
    refine ⟨b, off, rfl, hb, fun i hi => ?_⟩
    have h2 := hc i (by omega)
    have e : (⟨b, off, none⟩ : Addr).add i = ⟨b, off + i, none⟩ := by
      by_cases h0 : i = 0
      · subst h0; rfl
      · simp [Addr.add, h0]
    rw [e] at h2
    have hwf := hw (zs.getD i 0) (by rw [List.getD_eq_getElem?_getD, List.getElem?_eq_getElem (by omega)]; simp)
    have hbd : 0 ≤ zs.getD i 0 ∧ zs.getD i 0 ≤ 255 := by simpa [Lit.wf, IntKind.min, IntKind.max, IntKind.signed, IntKind.bits] using hwf
    exact ⟨_, hbd.1, hbd.2, h2⟩

set_option maxRecDepth 100000 in
set_option maxHeartbeats 400000 in
theorem big_yes (a : Option Addr) (len cap : Nat) (w : World) (h : 1048576 < len) : Calls Try.prog 9 #[.slice a len cap] w fun e w' => e = .returned (.bool true) ∧ w = w' := by
  have hd : decide ((1048576 : Int) < (len : Int)) = true := by simp; omega
  go_enter Try.func9, Try.ntmps9
  go_wp2
  go_ret
  exact ⟨rfl, rfl⟩

set_option maxRecDepth 100000 in
set_option maxHeartbeats 400000 in
theorem big_no (a : Option Addr) (len cap : Nat) (w : World) (h : ¬ 1048576 < len) : Calls Try.prog 9 #[.slice a len cap] w fun e w' => e = .returned (.bool false) ∧ w = w' := by
  have hd : decide ((1048576 : Int) < (len : Int)) = false := by simp; omega
  go_enter Try.func9, Try.ntmps9
  go_wp2
  go_ret
  exact ⟨rfl, rfl⟩

set_option maxRecDepth 100000 in
set_option maxHeartbeats 400000 in
theorem l01Open_any (a : Option Addr) (len cap : Nat) (w : World) (hle : len ≤ 2000000) :
    Calls Try.prog 46 #[.slice a len cap] w fun e w' => e = .returned (.pointer (some ⟨w.heap.size, 0, none⟩)) ∧ w.alloc (.cells #[.slice a len cap, .int .i64 0, .int .i64 (71 + (len : Int) % 1000)] 149) = w' := by
  go_enter Try.func46, Try.ntmps46
  go_wp2
  go_ret
  exact ⟨rfl, rfl⟩

theorem curs_open {a : Option Addr} {len cap : Nat} {w : World} (hle : len ≤ 2000000) (hc : Code w a len) :
    Curs w.heap.size a len cap 0 (w.alloc (.cells #[.slice a len cap, .int .i64 0, .int .i64 (71 + (len : Int) % 1000)] 149)) := by
  refine ⟨0, 71 + (len : Int) % 1000, by omega, by omega, by omega, by omega, by simp, hle, by simp [go_sem], by simp [go_sem], by simp [go_sem], fun j => by simp [go_sem], fun h0 => ?_⟩
  obtain ⟨b, off, e, h1, h2⟩ := hc h0
  refine ⟨b, off, e, h1, by simp; omega, fun i hi => ?_⟩
  obtain ⟨v, v0, v1, hv⟩ := h2 i hi
  exact ⟨v, v0, v1, by rw [World.cell?_alloc_past _ _ _ h1]; exact hv⟩

/-- l01Open: a cursor that has been asked nothing, in new memory. -/
theorem l01Open_cur (a : Option Addr) (len cap : Nat) (w : World) (hle : len ≤ 2000000) (hc : Code w a len) :
    Calls Try.prog 46 #[.slice a len cap] w fun e w' => e = .returned (.pointer (some ⟨w.heap.size, 0, none⟩)) ∧ Curs w.heap.size a len cap 0 w' ∧ Below w.heap.size w w' :=
  (l01Open_any a len cap w hle).mono (by rintro e w' ⟨rfl, rfl⟩; exact ⟨rfl, curs_open hle hc, (Below.refl _ _).alloc (Nat.le_refl _) _⟩)

/-- A block's first two cells hold two numbers and may be written. -/
def Own2 (w : World) (g : Nat) (z l : Int) : Prop := (w.cell? ⟨g, 0, none⟩ = some (.int .i64 z) ∧ w.cell? ⟨g, 1, none⟩ = some (.int .i64 l)) ∧ ∀ j, w.frozen? ⟨g, j, none⟩ = false
theorem Own2.below {B : Nat} {w w' : World} {g : Nat} {z l : Int} (h : Own2 w g z l) (hb : Below B w w') (hg : g < B) : Own2 w' g z l :=
  ⟨⟨(hb.cell (p := ⟨g, 0, none⟩) hg).trans h.1.1, (hb.cell (p := ⟨g, 1, none⟩) hg).trans h.1.2⟩, fun j => (hb.frozen (p := ⟨g, j, none⟩) hg).trans (h.2 j)⟩
theorem Own2.only {g k : Nat} {w w' : World} {z l : Int} (h : Own2 w k z l) (ho : Only g w w') (hk : k < w.heap.size) (hn : k ≠ g) : Own2 w' k z l :=
  ⟨⟨(ho.cell hk hn).trans h.1.1, (ho.cell hk hn).trans h.1.2⟩, fun j => (ho.frozen hk hn).trans (h.2 j)⟩
theorem own2_alloc (w : World) (z l : Int) (t : TypeId) : Own2 (w.alloc (.cells #[.int .i64 z, .int .i64 l] t)) w.heap.size z l :=
  ⟨⟨by simp [go_sem], by simp [go_sem]⟩, fun j => by simp [go_sem]⟩
theorem own2_set0 {w : World} {x : Nat} {z l : Int} (e : Int) (h : Own2 w x z l) : Own2 (w.setCell ⟨x, 0, none⟩ (.int .i64 e)) x e l := by
  obtain ⟨⟨h0, h1⟩, hf⟩ := h
  exact ⟨⟨by simp [go_sem, h0], by simp [go_sem, h1]⟩, fun j => by rw [World.frozen?_setCell]; exact hf j⟩
theorem own2_set1 {w : World} {x : Nat} {z l : Int} (e : Int) (h : Own2 w x z l) : Own2 (w.setCell ⟨x, 1, none⟩ (.int .i64 e)) x z e := by
  obtain ⟨⟨h0, h1⟩, hf⟩ := h
  exact ⟨⟨by simp [go_sem, h0], by simp [go_sem, h1]⟩, fun j => by rw [World.frozen?_setCell]; exact hf j⟩
theorem below_set {w : World} {x o : Nat} (v : Value) : Below x w (w.setCell ⟨x, o, none⟩ v) := Below.setCell (p := ⟨x, o, none⟩) (Below.refl x w) (Nat.le_refl x) v
end Go.Proofs.Ytoglclmaacjdaaa.cur
