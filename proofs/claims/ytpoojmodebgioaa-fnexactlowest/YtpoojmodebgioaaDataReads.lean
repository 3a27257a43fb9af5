/-
  DATA: []int, []string, Win, []Win, Config, Event, Part, []Part: the notions; THE CONTRACTS OF the laws' own functions (copies, sizes, equality) over them. Written by tools/gendata.py.
-/
import Derived.Test.YtpoojmodebgioaaDataEvents
import Derived.Test.YtpoojmodebgioaaDataRead
namespace Go.Proofs.Ytpoojmodebgioaa.dat
open Go.RowKit Go.Proofs.Ytpoojmodebgioaa.win
set_option linter.unusedVariables false

theorem rd_IntS {W : World} {cs : List Value} (h : Rd W 25 cs) : ∃ a len cap l fp, cs = [.slice a len cap] ∧ GRow 1 RInt W a len l fp ∧ len ≤ cap ∧ cap ≤ 9223372036854775807 :=
  rd_slice (k := 1) (R := RInt) Try.underlying25 (by kernel_rfl) (by decide) (fun _ h => rd_int h) h
set_option maxRecDepth 100000 in
theorem arg_IntS {W : World} {r : Reach} {b0 : Nat} {v : Value} {H : Type} {enc : TypeId × Value → H} {d : DataW H} {p : List MemPlace} (hv : Value.okWide Try.prog W r b0 25 v) (h : DataW.Trod enc Try.prog W 0 (fun _ => true) true 25 v d p) : ∃ (a : Option Addr) (len cap : Nat) (l : List Int) (fp : List Nat), v = .slice a len cap ∧ GRow 1 RInt W a len l fp ∧ len ≤ cap ∧ cap ≤ 9223372036854775807 := by
  obtain ⟨h1, _⟩ := rd_arg_slice Try.underlying25 hv h
  obtain ⟨a, len, cap, l, fp, e, g⟩ := rd_IntS h1
  exact ⟨a, len, cap, l, fp, by simpa using e, g⟩

end Go.Proofs.Ytpoojmodebgioaa.dat
