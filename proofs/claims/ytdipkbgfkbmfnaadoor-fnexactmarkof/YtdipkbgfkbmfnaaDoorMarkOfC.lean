/-
  THE CONTRACTS OF MarkOf, in the shape that the law's walk takes.
-/
import Derived.Test.YtdipkbgfkbmfnaaDoorMarkOf
namespace Go.Proofs.YtdipkbgfkbmfnaaDoor.dat
open Go.RowKit Go.Proofs.YtdipkbgfkbmfnaaDoor.win
theorem spec_MarkOf (c : ConfD) (ch : ConfigH) (cf : List Nat) (x : PartD) (h : PartH) (f : List Nat) (n : Int) (w : World) (hc : Config.Is w c ch cf) (hx : Part.Is w x h f) (_ : (Lit.int .i64 n).wf = true) (_ : Config.sz c ≤ 2000000) (zx : Part.sz x ≤ 2000000) :
    Calls Tryd.prog 6 #[.agg (Config.list c ch).toArray, .agg (Part.list x h).toArray, .int .i64 n] w fun e w' => e = .returned (.int .i64 (markD c x n)) ∧ Below w.heap.size w w' := spec_MarkOf_any c ch cf x h f n w hc hx zx
theorem impl_MarkOf (c : ConfD) (ch : ConfigH) (cf : List Nat) (x : PartD) (h : PartH) (f : List Nat) (n : Int) (w : World) (hc : Config.Is w c ch cf) (hx : Part.Is w x h f) (_ : (Lit.int .i64 n).wf = true) (_ : Config.sz c ≤ 2000000) (zx : Part.sz x ≤ 2000000) (hE : num.Env w) :
    Calls Tryd.prog 9 #[.agg (Config.list c ch).toArray, .agg (Part.list x h).toArray, .int .i64 n] w fun e w' => e = .returned (.int .i64 (markD c x n)) ∧ Below w.heap.size w w' := impl_MarkOf_any c ch cf x h f n w hc hx zx hE
end Go.Proofs.YtdipkbgfkbmfnaaDoor.dat
