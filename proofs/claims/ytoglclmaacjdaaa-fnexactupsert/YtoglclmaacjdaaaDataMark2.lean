/-
  MARKS OF ELEMENTS THAT HOLD A ROW: what stores into one stretch of a block leave.
-/
import Derived.Test.YtoglclmaacjdaaaDataMark
namespace Go.Proofs.Ytoglclmaacjdaaa.dat
open Go.RowKit Go.Proofs.Ytoglclmaacjdaaa.win

/-- Stores into the stretch lo .. hi of block b. -/
structure Wrote (b lo hi : Nat) (w W : World) : Prop where
  ap : Apart [b] w W
  cell : ∀ o, o < lo ∨ hi ≤ o → W.cell? ⟨b, o, none⟩ = w.cell? ⟨b, o, none⟩
  own : ∀ l fp, Own l w fp → Own l W fp
theorem Wrote.refl (b lo hi : Nat) (w : World) : Wrote b lo hi w w := ⟨Apart.refl _ _, fun _ _ => rfl, fun _ _ h => h⟩
theorem Wrote.set {b lo hi : Nat} {w W : World} (h : Wrote b lo hi w W) {o : Nat} (v : Value) (h1 : lo ≤ o) (h2 : o < hi) : Wrote b lo hi w (W.setCell ⟨b, o, none⟩ v) :=
  ⟨Apart.setCell h.ap (by simp) _ _, fun q hq => (cell_setCell_other _ _ _ _ _ (by omega)).trans (h.cell q hq), fun l fp ho => Own.set (h.own l fp ho) _ _ _⟩
theorem Wrote.block {b lo hi : Nat} {w W : World} (h : Wrote b lo hi w W) {c : Nat} (hc : c < w.heap.size) (hne : c ≠ b) : W.heap[c]? = w.heap[c]? := h.ap.block c hc (by simpa using hne)
theorem Own.over {lo : Nat} {w w' : World} {fp fq : List Nat} (h : Own lo w fp) (ha : Apart fq w w') (hq : Own lo w' fq) : Own lo w' fp :=
  ⟨h.1, fun c hc => ⟨(h.2 c hc).1, by by_cases hm : c ∈ fq; exact (hq.2 c hm).2; exact (h.2 c hc).2.same (ha.block c (h.2 c hc).2.lt hm)⟩⟩
end Go.Proofs.Ytoglclmaacjdaaa.dat
