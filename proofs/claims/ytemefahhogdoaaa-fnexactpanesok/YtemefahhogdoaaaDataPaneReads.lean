/-
  DATA: Agg, Pane, []Pane: the notions; THE CONTRACTS OF the laws' own functions (copies, sizes, equality) over them. Written by tools/gendata.py.
-/
import Derived.Test.YtemefahhogdoaaaDataPanes
import Derived.Test.YtemefahhogdoaaaDataReads
namespace Go.Proofs.Ytemefahhogdoaaa.dat
open Go.RowKit Go.Proofs.Ytemefahhogdoaaa.win
set_option linter.unusedVariables false

set_option maxRecDepth 100000 in
theorem rd_Agg {W : World} {cs : List Value} (h : Rd W 123 cs) : ∃ x f, RAgg W cs x f := by
  obtain ⟨hl, hf⟩ := rd_struct Try.underlying123 h
  have hl' : cs.length = 4 := hl.trans (by kernel_rfl)
  obtain ⟨c0, c1, c2, c3, rfl⟩ : ∃ c0 c1 c2 c3, cs = [c0, c1, c2, c3] := by
    match cs, hl' with
    | [c0, c1, c2, c3], _ => exact ⟨_, _, _, _, rfl⟩
  have h0 := hf 0 _ rfl
  obtain ⟨z0, e0, _⟩ := rd_intw h0
  have h1 := hf 1 _ rfl
  obtain ⟨z1, e1, _⟩ := rd_intw h1
  have h2 := hf 2 _ rfl
  obtain ⟨z2, e2, _⟩ := rd_intw h2
  have h3 := hf 3 _ rfl
  obtain ⟨z3, e3, _⟩ := rd_intw h3
  have k0 : Try.prog.cellsOf 3 = 1 := by kernel_rfl
  simp [k0] at e0 e1 e2 e3
  subst e0; subst e1; subst e2; subst e3
  exact ⟨⟨z0, z1, z2, z3⟩, [], rfl, rfl⟩
set_option maxRecDepth 100000 in
theorem arg_Agg {W : World} {r : Reach} {b0 : Nat} {v : Value} {H : Type} {enc : TypeId × Value → H} {d : DataW H} {p : List MemPlace} (hv : Value.okWide Try.prog W r b0 123 v) (h : DataW.Trod enc Try.prog W 0 (fun _ => true) true 123 v d p) : ∃ (x : AggD), v = .agg (Agg.list x).toArray := by
  obtain ⟨cs, rfl, h1⟩ := rd_arg_struct Try.underlying123 hv h
  obtain ⟨x, f, rfl, _⟩ := rd_Agg h1
  exact ⟨x, rfl⟩

set_option maxRecDepth 100000 in
theorem rd_Pane {W : World} {cs : List Value} (h : Rd W 125 cs) : ∃ x f, RPane W cs x f := by
  obtain ⟨hl, hf⟩ := rd_struct Try.underlying125 h
  have hl' : cs.length = 8 := hl.trans (by kernel_rfl)
  obtain ⟨c0, c1, c2, c3, c4, c5, c6, c7, rfl⟩ : ∃ c0 c1 c2 c3 c4 c5 c6 c7, cs = [c0, c1, c2, c3, c4, c5, c6, c7] := by
    match cs, hl' with
    | [c0, c1, c2, c3, c4, c5, c6, c7], _ => exact ⟨_, _, _, _, _, _, _, _, rfl⟩
  have h0 := hf 0 _ rfl
  obtain ⟨z0, e0, _⟩ := rd_intw h0
  have h1 := hf 1 _ rfl
  obtain ⟨z1, e1, _⟩ := rd_intw h1
  have h2 := hf 2 _ rfl
  obtain ⟨z2, e2, _⟩ := rd_intw h2
  have h3 := hf 3 _ rfl
  obtain ⟨a3, n3, m3, l3, g3, e3, w3, x3, y3⟩ := rd_IntS h3
  have h4 := hf 4 _ rfl
  obtain ⟨z4, g4, e4, _⟩ := rd_Agg h4
  have k0 : Try.prog.cellsOf 3 = 1 := by kernel_rfl
  have k1 : Try.prog.cellsOf 40 = 1 := by kernel_rfl
  have k2 : Try.prog.cellsOf 123 = 4 := by kernel_rfl
  simp [k0, k1, k2, Agg.list] at e0 e1 e2 e3 e4
  subst e0; subst e1; subst e2; subst e3; obtain ⟨rfl, rfl, rfl, rfl⟩ := e4
  exact ⟨⟨z0, z1, z2, l3, z4⟩, _, ⟨a3, n3, m3⟩, rfl, g3, rfl, w3, x3, y3⟩
set_option maxRecDepth 100000 in
theorem arg_Pane {W : World} {r : Reach} {b0 : Nat} {v : Value} {H : Type} {enc : TypeId × Value → H} {d : DataW H} {p : List MemPlace} (hv : Value.okWide Try.prog W r b0 125 v) (h : DataW.Trod enc Try.prog W 0 (fun _ => true) true 125 v d p) : ∃ (x : PaneD) (h : PaneH) (fp : List Nat), v = .agg (Pane.list x h).toArray ∧ Pane.Is W x h fp := by
  obtain ⟨cs, rfl, h1⟩ := rd_arg_struct Try.underlying125 hv h
  obtain ⟨x, f, q, rfl, hi⟩ := rd_Pane h1
  exact ⟨x, q, f, rfl, hi⟩

theorem rd_PaneS {W : World} {cs : List Value} (h : Rd W 65 cs) : ∃ a len cap l fp, cs = [.slice a len cap] ∧ GRow 8 RPane W a len l fp ∧ len ≤ cap ∧ cap ≤ 9223372036854775807 :=
  rd_slice (k := 8) (R := RPane) Try.underlying65 (by kernel_rfl) (by decide) (fun _ h => rd_Pane h) h
set_option maxRecDepth 100000 in
theorem arg_PaneS {W : World} {r : Reach} {b0 : Nat} {v : Value} {H : Type} {enc : TypeId × Value → H} {d : DataW H} {p : List MemPlace} (hv : Value.okWide Try.prog W r b0 65 v) (h : DataW.Trod enc Try.prog W 0 (fun _ => true) true 65 v d p) : ∃ (a : Option Addr) (len cap : Nat) (l : List PaneD) (fp : List Nat), v = .slice a len cap ∧ GRow 8 RPane W a len l fp ∧ len ≤ cap ∧ cap ≤ 9223372036854775807 := by
  obtain ⟨h1, _⟩ := rd_arg_slice Try.underlying65 hv h
  obtain ⟨a, len, cap, l, fp, e, g⟩ := rd_PaneS h1
  exact ⟨a, len, cap, l, fp, by simpa using e, g⟩

end Go.Proofs.Ytemefahhogdoaaa.dat
