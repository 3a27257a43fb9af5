/-
  DATA: Row, []Row, State: the notions; THE CONTRACTS OF the laws' own functions (copies, sizes, equality) over them. Written by tools/gendata.py.
-/
import Derived.Test.YtoglclmaacjdaaaDataStates
import Derived.Test.YtoglclmaacjdaaaDataPaneReads
namespace Go.Proofs.Ytoglclmaacjdaaa.dat
open Go.RowKit Go.Proofs.Ytoglclmaacjdaaa.win
set_option linter.unusedVariables false

set_option maxRecDepth 100000 in
theorem rd_Row {W : World} {cs : List Value} (h : Rd W 137 cs) : ∃ x f, RRow W cs x f := by
  obtain ⟨hl, hf⟩ := rd_struct Try.underlying137 h
  have hl' : cs.length = 9 := hl.trans (by kernel_rfl)
  obtain ⟨c0, c1, c2, c3, c4, c5, c6, c7, c8, rfl⟩ : ∃ c0 c1 c2 c3 c4 c5 c6 c7 c8, cs = [c0, c1, c2, c3, c4, c5, c6, c7, c8] := by
    match cs, hl' with
    | [c0, c1, c2, c3, c4, c5, c6, c7, c8], _ => exact ⟨_, _, _, _, _, _, _, _, _, rfl⟩
  have h0 := hf 0 _ rfl
  obtain ⟨z0, e0, _⟩ := rd_intw h0
  have h1 := hf 1 _ rfl
  obtain ⟨z1, e1, _⟩ := rd_intw h1
  have h2 := hf 2 _ rfl
  obtain ⟨z2, e2, _⟩ := rd_intw h2
  have h3 := hf 3 _ rfl
  obtain ⟨a3, n3, m3, l3, g3, e3, w3, x3, y3⟩ := rd_IntS h3
  have h4 := hf 4 _ rfl
  obtain ⟨z4, g4, e4, _⟩ := rd_Agg h4
  have h5 := hf 5 _ rfl
  obtain ⟨z5, e5, _⟩ := rd_intw h5
  have k0 : Try.prog.cellsOf 3 = 1 := by kernel_rfl
  have k1 : Try.prog.cellsOf 29 = 1 := by kernel_rfl
  have k2 : Try.prog.cellsOf 135 = 4 := by kernel_rfl
  simp [k0, k1, k2, Agg.list] at e0 e1 e2 e3 e4 e5
  subst e0; subst e1; subst e2; subst e3; obtain ⟨rfl, rfl, rfl, rfl⟩ := e4; subst e5
  exact ⟨⟨z0, z1, z2, l3, z4, z5⟩, _, ⟨a3, n3, m3⟩, rfl, g3, rfl, w3, x3, y3⟩
set_option maxRecDepth 100000 in
theorem arg_Row {W : World} {r : Reach} {b0 : Nat} {v : Value} {H : Type} {enc : TypeId × Value → H} {d : DataW H} {p : List MemPlace} (hv : Value.okWide Try.prog W r b0 137 v) (h : DataW.Trod enc Try.prog W 0 (fun _ => true) true 137 v d p) : ∃ (x : RowD) (h : RowH) (fp : List Nat), v = .agg (Row.list x h).toArray ∧ Row.Is W x h fp := by
  obtain ⟨cs, rfl, h1⟩ := rd_arg_struct Try.underlying137 hv h
  obtain ⟨x, f, q, rfl, hi⟩ := rd_Row h1
  exact ⟨x, q, f, rfl, hi⟩

theorem rd_RowS {W : World} {cs : List Value} (h : Rd W 55 cs) : ∃ a len cap l fp, cs = [.slice a len cap] ∧ GRow 9 RRow W a len l fp ∧ len ≤ cap ∧ cap ≤ 9223372036854775807 :=
  rd_slice (k := 9) (R := RRow) Try.underlying55 (by kernel_rfl) (by decide) (fun _ h => rd_Row h) h
set_option maxRecDepth 100000 in
theorem arg_RowS {W : World} {r : Reach} {b0 : Nat} {v : Value} {H : Type} {enc : TypeId × Value → H} {d : DataW H} {p : List MemPlace} (hv : Value.okWide Try.prog W r b0 55 v) (h : DataW.Trod enc Try.prog W 0 (fun _ => true) true 55 v d p) : ∃ (a : Option Addr) (len cap : Nat) (l : List RowD) (fp : List Nat), v = .slice a len cap ∧ GRow 9 RRow W a len l fp ∧ len ≤ cap ∧ cap ≤ 9223372036854775807 := by
  obtain ⟨h1, _⟩ := rd_arg_slice Try.underlying55 hv h
  obtain ⟨a, len, cap, l, fp, e, g⟩ := rd_RowS h1
  exact ⟨a, len, cap, l, fp, by simpa using e, g⟩

end Go.Proofs.Ytoglclmaacjdaaa.dat
