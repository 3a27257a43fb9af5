/-
  DATA: Agg, Pane, []Pane: the notions; THE CONTRACTS OF the laws' own functions (copies, sizes, equality) over them. Written by tools/gendata.py.
-/
import Derived.Test.YtoglclmaacjdaaaDataPanes
import Derived.Test.YtoglclmaacjdaaaDataReads
namespace Go.Proofs.Ytoglclmaacjdaaa.dat
open Go.RowKit Go.Proofs.Ytoglclmaacjdaaa.win
set_option linter.unusedVariables false

set_option maxRecDepth 100000 in
theorem rd_Agg {W : World} {cs : List Value} (h : Rd W 135 cs) : ∃ x f, RAgg W cs x f := by
  obtain ⟨hl, hf⟩ := rd_struct Try.underlying135 h
  have hl' : cs.length = 4 := hl.trans (by kernel_rfl)
  obtain ⟨c0, c1, c2, c3, rfl⟩ : ∃ c0 c1 c2 c3, cs = [c0, c1, c2, c3] := by
    match cs, hl' with
    | [c0, c1, c2, c3], _ => exact ⟨_, _, _, _, rfl⟩
  have h0 := hf 0 _ rfl
  obtain ⟨z0, e0, _⟩ := rd_intw h0
  have h1 := hf 1 _ rfl
  obtain ⟨z1, e1, _⟩ := rd_intw h1
  have h2 := hf 2 _ rfl
  obtain ⟨z2, e2, _⟩ := rd_intw h2
  have h3 := hf 3 _ rfl
  obtain ⟨z3, e3, _⟩ := rd_intw h3
  have k0 : Try.prog.cellsOf 3 = 1 := by kernel_rfl
  simp [k0] at e0 e1 e2 e3
  subst e0; subst e1; subst e2; subst e3
  exact ⟨⟨z0, z1, z2, z3⟩, [], rfl, rfl⟩
set_option maxRecDepth 100000 in
theorem arg_Agg {W : World} {r : Reach} {b0 : Nat} {v : Value} {H : Type} {enc : TypeId × Value → H} {d : DataW H} {p : List MemPlace} (hv : Value.okWide Try.prog W r b0 135 v) (h : DataW.Trod enc Try.prog W 0 (fun _ => true) true 135 v d p) : ∃ (x : AggD), v = .agg (Agg.list x).toArray := by
  obtain ⟨cs, rfl, h1⟩ := rd_arg_struct Try.underlying135 hv h
  obtain ⟨x, f, rfl, _⟩ := rd_Agg h1
  exact ⟨x, rfl⟩

end Go.Proofs.Ytoglclmaacjdaaa.dat
