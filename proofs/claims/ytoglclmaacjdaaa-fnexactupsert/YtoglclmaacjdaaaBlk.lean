/-
  A BLOCK THAT IS KNOWN WHOLE: its cells, that it may be written; what a call, a store, a new block leave of it. A call's world under one name.
-/
import Derived.Test.YtoglclmaacjdaaaRows
import Derived.WalkKit
import Derived.WalkSpells
import Derived.WalkLawsBesides
import Derived.Lib.Hide
import Derived.Lib.SmallJoins
import Derived.Deep.OwnRows
import Derived.Below
namespace Go.Proofs.Ytoglclmaacjdaaa.win
open Go.RowKit

def Blk (w : World) (g : Nat) (t : TypeId) (vs : List Value) : Prop := w.heap[g]? = some (.cells vs.toArray t (0, 0))

theorem Blk.cell {w : World} {g : Nat} {t : TypeId} {vs : List Value} (h : Blk w g t vs) (i : Nat) : w.cell? ⟨g, i, none⟩ = vs[i]? := by
  have := Go.Joins.cell_of_block h i
  simpa using this
theorem Blk.frozen {w : World} {g : Nat} {t : TypeId} {vs : List Value} (h : Blk w g t vs) : ∀ i, w.frozen? ⟨g, i, none⟩ = false := fun i => Go.Joins.unfrozen_of_block h i
theorem Blk.lt {w : World} {g : Nat} {t : TypeId} {vs : List Value} (h : Blk w g t vs) : g < w.heap.size := (Array.getElem?_eq_some_iff.1 h).1
theorem Blk.below {B : Nat} {w w' : World} {g : Nat} {t : TypeId} {vs : List Value} (h : Blk w g t vs) (hb : Below B w w') (hg : g < B) : Blk w' g t vs := (hb.block g hg).trans h
theorem Blk.alloc {w : World} {g : Nat} {t : TypeId} {vs : List Value} (h : Blk w g t vs) (o : Obj) : Blk (w.alloc o) g t vs := (Below.heap_alloc w o g h.lt).trans h
theorem Blk.drew {w : World} {g : Nat} {t : TypeId} {vs : List Value} (h : Blk w g t vs) : Blk w.drew g t vs := h
theorem Blk.set {w : World} {g : Nat} {t : TypeId} {vs : List Value} (h : Blk w g t vs) (i : Nat) (v : Value) : Blk (w.setCell ⟨g, i, none⟩ v) g t (vs.set i v) := by
  have := Go.Joins.block_setCell (i := i) h v
  simpa [Blk] using this
theorem Blk.setOther {w : World} {g : Nat} {t : TypeId} {vs : List Value} (h : Blk w g t vs) {a : Addr} (ha : g ≠ a.block) (v : Value) : Blk (w.setCell a v) g t vs := (Below.heap_setCell w a v g ha).trans h
theorem Blk.other {w : World} {g : Nat} {t : TypeId} {vs : List Value} {a : Addr} {v : Value} (ha : g ≠ a.block) (h : Blk w g t vs) : Blk (w.setCell a v) g t vs := h.setOther ha v
theorem blk_new (w : World) (t : TypeId) (vs : List Value) : Blk (w.alloc (.cells vs.toArray t)) w.heap.size t vs := Go.Deep.blk_alloc_new _ _
theorem blk_new_at (w : World) (g : Nat) (t : TypeId) (vs : List Value) (hg : g = w.heap.size) : Blk (w.alloc (.cells vs.toArray t)) g t vs := by subst hg; exact Go.Deep.blk_alloc_new _ _
theorem Blk.of_eq {w : World} {g : Nat} {t : TypeId} {vs us : List Value} (h : Blk w g t vs) (e : vs = us) : Blk w g t us := e ▸ h

/-- A call's world under one name. -/
theorem calls_gen {P : Program} {f : FuncId} {args : Array Value} {K : Ending → World → Prop} (F : World → Prop) {W : World} (h : F W) (k : ∀ W', F W' → Calls P f args W' K) : Calls P f args W K := k W h
/-- .. a walk's. -/
theorem wp_gen {P : Program} {c : Code} {Q : Exit → Act → World → Prop} {a : Act} (F : World → Prop) {W : World} (h : F W) (k : ∀ W', F W' → Code.wp P c Q a W') : Code.wp P c Q a W := k W h
theorem body_gen {P : Program} {fn : Func} {R : Ending → World → Prop} {x : Exit} {a : Act} (F : World → Prop) {W : World} (h : F W) (k : ∀ W', F W' → bodyPost P fn R x a W') : bodyPost P fn R x a W := k W h
end Go.Proofs.Ytoglclmaacjdaaa.win
