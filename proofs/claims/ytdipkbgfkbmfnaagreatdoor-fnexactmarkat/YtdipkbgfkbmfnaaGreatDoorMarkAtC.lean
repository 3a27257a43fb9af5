/-
  THE CONTRACTS OF MarkAt, in the shape that the law's walk takes.
-/
import Derived.Test.YtdipkbgfkbmfnaaGreatDoorMarkAtAll
namespace Go.Proofs.YtdipkbgfkbmfnaaGreatDoor.dat
open Go.RowKit Go.Proofs.YtdipkbgfkbmfnaaGreatDoor.win
theorem spec_MarkAt (c : ConfD) (ch : ConfigH) (cf : List Nat) (a : Option Addr) (len cap : Nat) (L : List PartD) (fp : List Nat) (n : Int) (w : World) (hc : Config.Is w c ch cf) (hrow : GRow 1 RPart w a len L fp) (u1 : len ≤ cap) (u2 : cap ≤ 9223372036854775807) (_ : (Lit.int .i64 n).wf = true) (_ : Config.sz c ≤ 2000000) (zl : szL Part.sz L ≤ 2000000) :
    Calls Tryz.prog 25 #[.agg (Config.list c ch).toArray, .slice a len cap, .int .i64 n] w fun e w' => e = .returned (.int .i64 (markAtD c L n)) ∧ Below w.heap.size w w' := spec_MarkAt_any c ch cf a len cap L fp n w hc hrow u1 u2 zl
theorem impl_MarkAt (c : ConfD) (ch : ConfigH) (cf : List Nat) (a : Option Addr) (len cap : Nat) (L : List PartD) (fp : List Nat) (n : Int) (w : World) (hc : Config.Is w c ch cf) (hrow : GRow 1 RPart w a len L fp) (u1 : len ≤ cap) (u2 : cap ≤ 9223372036854775807) (_ : (Lit.int .i64 n).wf = true) (_ : Config.sz c ≤ 2000000) (zl : szL Part.sz L ≤ 2000000) (hE : num.Env w) :
    Calls Tryz.prog 26 #[.agg (Config.list c ch).toArray, .slice a len cap, .int .i64 n] w fun e w' => e = .returned (.int .i64 (markAtD c L n)) ∧ Below w.heap.size w w' := impl_MarkAt_any c ch cf a len cap L fp n w hc hrow u1 u2 zl hE
end Go.Proofs.YtdipkbgfkbmfnaaGreatDoor.dat
