/-
  THE CONTRACTS OF EventRead, in the shape that the law's walk takes.
-/
import Derived.Test.YtdipkbgfkbmfnaaDoorImplEvRead
namespace Go.Proofs.YtdipkbgfkbmfnaaDoor.dat
open Go.RowKit Go.Proofs.YtdipkbgfkbmfnaaDoor.win
theorem spec_EventRead (c : ConfD) (ch : ConfigH) (cf : List Nat) (s : ByteArray) (w : World) (hc : Config.Is w c ch cf) (hs : s.size ≤ 9223372036854775807) :
    Calls Tryd.prog 16 #[.agg (Config.list c ch).toArray, .string s] w fun r w' => ∃ (h : EventH) (f : List Nat), r = .returned (.tuple #[.agg (Event.list (evRD c s.data.toList) h).toArray, .bool (evR c s.data.toList).isSome]) ∧ Event.Is w' (evRD c s.data.toList) h f ∧ Below w.heap.size w w' := spec_EventRead_any c ch cf s w hc hs
theorem impl_EventRead (c : ConfD) (ch : ConfigH) (cf : List Nat) (s : ByteArray) (w : World) (hc : Config.Is w c ch cf) (_ : s.size ≤ 9223372036854775807) (hE : s.size ≤ 1048576 ∧ num.Env w) :
    Calls Tryd.prog 31 #[.agg (Config.list c ch).toArray, .string s] w fun r w' => ∃ (h : EventH) (f : List Nat), r = .returned (.tuple #[.agg (Event.list (evRD c s.data.toList) h).toArray, .bool (evR c s.data.toList).isSome]) ∧ Event.Is w' (evRD c s.data.toList) h f ∧ Own w.heap.size w' f ∧ Below w.heap.size w w' := impl_EventRead_any c ch cf s w hc (by omega) hE.2
/-- No more Dims than a text has bytes. -/
theorem evRD_sz (c : ConfD) (s : List UInt8) : Event.sz (evRD c s) ≤ 2000000 := by
  unfold evRD
  cases h : evR c s with
  | none => simp [Event.sz]
  | some e =>
    unfold evR at h
    split at h
    · rename_i hx
      cases h
      have := (ev_bounds (Classical.choose_spec hx).1).2.1
      simp only [Option.getD_some, Event.sz]
      omega
    · cases h
end Go.Proofs.YtdipkbgfkbmfnaaDoor.dat
