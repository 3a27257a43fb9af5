/-
  THE CONTRACT OF THE PROGRAM's NumText (strconv.Itoa), AND THE WALK OF THE LAW FnExactNumText: it answers true, and nothing that was there is written.
  Condition: the library's table of powers of ten holds what its text lays.
-/
import Derived.Test.YtemefahhogdoaaaDoorNumSpec
import Derived.Test.YtemefahhogdoaaaDoorShelf
import Derived.Lib.AppendIntMem
import Derived.WalkSmall
import Derived.Lib.LaidTab
import Derived.Stop.LaidErr
namespace Go.Proofs.YtemefahhogdoaaaDoor.num
open Go.RowKit

theorem gPow : Tryd.prog.globalNamed "internal/strconv.uint64pow10" = some 1 := by kernel_rfl

/-- The table of powers of ten is as the library lays it. -/
def Pow (w : World) : Prop := Lib.TabIs Tryd.prog w "internal/strconv.uint64pow10" .u64 Lib.pow10Tab ∧ 1 < w.heap.size

theorem Pow.below {B : Nat} {w w' : World} (h : Pow w) (hb : Below B w w') (hB : 1 < B) : Pow w' :=
  ⟨var?_below hb gPow hB h.1, Nat.lt_of_lt_of_le h.2 hb.size⟩

theorem NumText_spec (n : Int) (w : World) (h1 : -9223372036854775808 ≤ n) (h2 : n ≤ 9223372036854775807) : Calls Tryd.prog 13 #[.int .i64 n] w (Texted (Lib.itoa n) w) := by
  by_cases h : n = 0
  · subst h; exact NumText_zero w
  · exact NumText_any n w h h1 h2

set_option maxHeartbeats 400000 in
theorem NumText_impl (n : Int) (w : World) (h1 : -9223372036854775808 ≤ n) (h2 : n ≤ 9223372036854775807) (hp : Pow w) : Calls Tryd.prog 32 #[.int .i64 n] w (Texted (Lib.itoa n) w) := by
  have H1 := Lib.hid h1
  have H2 := Lib.hid h2
  have HP := Lib.hid hp
  clear h1 h2 hp
  go_enter Tryd.func32, Tryd.ntmps32
  go_wp2_with fail
  refine (Any.strconv_Itoa Tryd.laysM171 n H1.out H2.out _ HP.out.1).mono ?_
  rintro e w1 ⟨rfl, k, os, rfl⟩
  have HB := Lib.hid (Lib.below_grow w.heap.size w (Nat.le_refl _) k os)
  generalize Sort.grow (w.drewN k) os = w1 at *
  go_wp2_with fail
  go_ret
  exact ⟨rfl, HB.out⟩

theorem pow_lt {w : World} (h : Lib.TabIs Tryd.prog w "internal/strconv.uint64pow10" .u64 Lib.pow10Tab) : Pow w := by
  refine ⟨h, ?_⟩
  have hc := h.cell gPow 0 (by rw [Lib.pow10Tab_length]; omega)
  apply Classical.byContradiction
  intro hn
  have : w.heap[1]? = none := by simp; omega
  simp [World.cell?, this] at hc

/-- The third of the listed variables, where no listed one is a handle. -/
theorem pow_of_laid {W : World} {x y : String × DataW Unit} {rest : List (String × DataW Unit)} (h : laidMet Tryd.prog (x :: y :: ("internal/strconv.uint64pow10", Lib.tabData .u64 Lib.pow10Tab) :: rest) W) : Pow W :=
  pow_lt (Lib.tabIs_of_head gPow (by kernel_rfl) Tryd.underlying83 Tryd.underlying76 (by kernel_rfl) (by kernel_rfl) h.tail.tail)
end Go.Proofs.YtemefahhogdoaaaDoor.num
