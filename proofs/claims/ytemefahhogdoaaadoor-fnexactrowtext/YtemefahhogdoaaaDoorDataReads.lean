/-
  DATA: []int, []string, Win, []Win, Config, Event, Part, []Part: the notions; THE CONTRACTS OF the laws' own functions (copies, sizes, equality) over them. Written by tools/gendata.py.
-/
import Derived.Test.YtemefahhogdoaaaDoorDataEvents
import Derived.Test.YtemefahhogdoaaaDoorDataRead
namespace Go.Proofs.YtemefahhogdoaaaDoor.dat
open Go.RowKit Go.Proofs.YtemefahhogdoaaaDoor.win
set_option linter.unusedVariables false

theorem rd_IntS {W : World} {cs : List Value} (h : Rd W 22 cs) : ∃ a len cap l fp, cs = [.slice a len cap] ∧ GRow 1 RInt W a len l fp ∧ len ≤ cap ∧ cap ≤ 9223372036854775807 :=
  rd_slice (k := 1) (R := RInt) Tryd.underlying22 (by kernel_rfl) (by decide) (fun _ h => rd_int h) h
set_option maxRecDepth 100000 in
theorem arg_IntS {W : World} {r : Reach} {b0 : Nat} {v : Value} {H : Type} {enc : TypeId × Value → H} {d : DataW H} {p : List MemPlace} (hv : Value.okWide Tryd.prog W r b0 22 v) (h : DataW.Trod enc Tryd.prog W 0 (fun _ => true) true 22 v d p) : ∃ (a : Option Addr) (len cap : Nat) (l : List Int) (fp : List Nat), v = .slice a len cap ∧ GRow 1 RInt W a len l fp ∧ len ≤ cap ∧ cap ≤ 9223372036854775807 := by
  obtain ⟨h1, _⟩ := rd_arg_slice Tryd.underlying22 hv h
  obtain ⟨a, len, cap, l, fp, e, g⟩ := rd_IntS h1
  exact ⟨a, len, cap, l, fp, by simpa using e, g⟩

theorem rd_StringS {W : World} {cs : List Value} (h : Rd W 56 cs) : ∃ a len cap l fp, cs = [.slice a len cap] ∧ GRow 1 RStr W a len l fp ∧ len ≤ cap ∧ cap ≤ 9223372036854775807 :=
  rd_slice (k := 1) (R := RStr) Tryd.underlying56 (by kernel_rfl) (by decide) (fun _ h => rd_string h) h
set_option maxRecDepth 100000 in
theorem arg_StringS {W : World} {r : Reach} {b0 : Nat} {v : Value} {H : Type} {enc : TypeId × Value → H} {d : DataW H} {p : List MemPlace} (hv : Value.okWide Tryd.prog W r b0 56 v) (h : DataW.Trod enc Tryd.prog W 0 (fun _ => true) true 56 v d p) : ∃ (a : Option Addr) (len cap : Nat) (l : List ByteArray) (fp : List Nat), v = .slice a len cap ∧ GRow 1 RStr W a len l fp ∧ len ≤ cap ∧ cap ≤ 9223372036854775807 := by
  obtain ⟨h1, _⟩ := rd_arg_slice Tryd.underlying56 hv h
  obtain ⟨a, len, cap, l, fp, e, g⟩ := rd_StringS h1
  exact ⟨a, len, cap, l, fp, by simpa using e, g⟩

end Go.Proofs.YtemefahhogdoaaaDoor.dat
