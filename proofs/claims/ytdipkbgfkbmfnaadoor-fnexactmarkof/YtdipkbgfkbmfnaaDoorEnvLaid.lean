/-
  WHAT THE WALKS ASK OF THE LIBRARY's VARIABLES, out of the row's list of what they hold.
-/
import Derived.Test.YtdipkbgfkbmfnaaDoorNumRead
import Derived.Stop.LaidErr
import Derived.LaidLaws
namespace Go.Proofs.YtdipkbgfkbmfnaaDoor.num
open Go.RowKit

theorem star : "*" ++ "errors.errorString" = "*errors.errorString" := by decide
/-- The one type of that name. -/
theorem errRow (u : TypeId) (h : Tryd.prog.typeName? 3 u = some "*errors.errorString") : u = 111 :=
  typeName_ptr_named (nm := "errors.errorString") (by rw [star]; kernel_rfl) (by kernel_rfl) (by decide) u (by rw [star]; exact h)

theorem var_lt {w : World} {n : String} {g : Nat} {v : Value} (hg : Tryd.prog.globalNamed n = some g) (h : w.var? Tryd.prog n = some #[v]) : g < w.heap.size :=
  World.block_lt_of_cell? w ⟨g, 0, none⟩ (u := v) (by simpa using World.var?_cell hg h 0)

/-- The seven listed variables. -/
theorem env_of_laid {W : World} {x0 x1 x3 x6 : String × DataW Unit} {t4 t5 : List UInt8} (h : laidMet Tryd.prog [x0, x1, ("internal/strconv.uint64pow10", Lib.tabData .u64 Lib.pow10Tab), x3, ("strconv.ErrRange", .iface "*errors.errorString" (.ptr (.agg [.lit (.string t4)]))), ("strconv.ErrSyntax", .iface "*errors.errorString" (.ptr (.agg [.lit (.string t5)]))), x6] W) : Env W := by
  obtain ⟨a4, s4, hv4, -⟩ := laid_sentinel (g := 1) h.tail.tail.tail.tail (by kernel_rfl) (by kernel_rfl) Tryd.underlying88 errRow Tryd.underlying111 Tryd.underlying113 rfl rfl Tryd.underlying9 (by kernel_rfl) (by kernel_rfl)
  obtain ⟨a5, s5, hv5, -⟩ := laid_sentinel (g := 0) h.tail.tail.tail.tail.tail (by kernel_rfl) (by kernel_rfl) Tryd.underlying88 errRow Tryd.underlying111 Tryd.underlying113 rfl rfl Tryd.underlying9 (by kernel_rfl) (by kernel_rfl)
  exact ⟨pow_of_laid h, ⟨_, _, hv5⟩, ⟨_, _, hv4⟩, var_lt gSyn hv5, var_lt gRan hv4⟩
/-- Where five are listed. -/
theorem env_of_laid5 {W : World} {x0 x1 : String × DataW Unit} {t4 t5 : List UInt8} (h : laidMet Tryd.prog [x0, x1, ("internal/strconv.uint64pow10", Lib.tabData .u64 Lib.pow10Tab), ("strconv.ErrRange", .iface "*errors.errorString" (.ptr (.agg [.lit (.string t4)]))), ("strconv.ErrSyntax", .iface "*errors.errorString" (.ptr (.agg [.lit (.string t5)])))] W) : Env W := by
  obtain ⟨a4, s4, hv4, -⟩ := laid_sentinel (g := 1) h.tail.tail.tail (by kernel_rfl) (by kernel_rfl) Tryd.underlying88 errRow Tryd.underlying111 Tryd.underlying113 rfl rfl Tryd.underlying9 (by kernel_rfl) (by kernel_rfl)
  obtain ⟨a5, s5, hv5, -⟩ := laid_sentinel (g := 0) h.tail.tail.tail.tail (by kernel_rfl) (by kernel_rfl) Tryd.underlying88 errRow Tryd.underlying111 Tryd.underlying113 rfl rfl Tryd.underlying9 (by kernel_rfl) (by kernel_rfl)
  exact ⟨pow_of_laid h, ⟨_, _, hv5⟩, ⟨_, _, hv4⟩, var_lt gSyn hv5, var_lt gRan hv4⟩
end Go.Proofs.YtdipkbgfkbmfnaaDoor.num
