/-
  DATA: Frame, []Frame: the notions; THE CONTRACTS OF the laws' own functions (copies, sizes, equality) over them. Written by tools/gendata.py.
-/
import Derived.Test.YtoglclmaacjdaaaDataFrames
import Derived.Test.YtoglclmaacjdaaaDataStateReads
namespace Go.Proofs.Ytoglclmaacjdaaa.dat
open Go.RowKit Go.Proofs.Ytoglclmaacjdaaa.win
set_option linter.unusedVariables false

set_option maxRecDepth 100000 in
theorem rd_Frame {W : World} {cs : List Value} (h : Rd W 57 cs) : ∃ x f, RFrame W cs x f := by
  obtain ⟨hl, hf⟩ := rd_struct Try.underlying57 h
  have hl' : cs.length = 3 := hl.trans (by kernel_rfl)
  obtain ⟨c0, c1, c2, rfl⟩ : ∃ c0 c1 c2, cs = [c0, c1, c2] := by
    match cs, hl' with
    | [c0, c1, c2], _ => exact ⟨_, _, _, rfl⟩
  have h0 := hf 0 _ rfl
  obtain ⟨z0, e0, _⟩ := rd_intw h0
  have h1 := hf 1 _ rfl
  obtain ⟨z1, e1, _⟩ := rd_intw h1
  have h2 := hf 2 _ rfl
  obtain ⟨a2, n2, m2, l2, g2, e2, w2, x2, y2⟩ := rd_RowS h2
  have k0 : Try.prog.cellsOf 3 = 1 := by kernel_rfl
  have k1 : Try.prog.cellsOf 55 = 1 := by kernel_rfl
  simp [k0, k1] at e0 e1 e2
  subst e0; subst e1; subst e2
  exact ⟨⟨z0, z1, l2⟩, _, ⟨a2, n2, m2⟩, rfl, g2, rfl, w2, x2, y2⟩
set_option maxRecDepth 100000 in
theorem arg_Frame {W : World} {r : Reach} {b0 : Nat} {v : Value} {H : Type} {enc : TypeId × Value → H} {d : DataW H} {p : List MemPlace} (hv : Value.okWide Try.prog W r b0 57 v) (h : DataW.Trod enc Try.prog W 0 (fun _ => true) true 57 v d p) : ∃ (x : FrameD) (h : FrameH) (fp : List Nat), v = .agg (Frame.list x h).toArray ∧ Frame.Is W x h fp := by
  obtain ⟨cs, rfl, h1⟩ := rd_arg_struct Try.underlying57 hv h
  obtain ⟨x, f, q, rfl, hi⟩ := rd_Frame h1
  exact ⟨x, q, f, rfl, hi⟩

theorem rd_FrameS {W : World} {cs : List Value} (h : Rd W 73 cs) : ∃ a len cap l fp, cs = [.slice a len cap] ∧ GRow 3 RFrame W a len l fp ∧ len ≤ cap ∧ cap ≤ 9223372036854775807 :=
  rd_slice (k := 3) (R := RFrame) Try.underlying73 (by kernel_rfl) (by decide) (fun _ h => rd_Frame h) h
set_option maxRecDepth 100000 in
theorem arg_FrameS {W : World} {r : Reach} {b0 : Nat} {v : Value} {H : Type} {enc : TypeId × Value → H} {d : DataW H} {p : List MemPlace} (hv : Value.okWide Try.prog W r b0 73 v) (h : DataW.Trod enc Try.prog W 0 (fun _ => true) true 73 v d p) : ∃ (a : Option Addr) (len cap : Nat) (l : List FrameD) (fp : List Nat), v = .slice a len cap ∧ GRow 3 RFrame W a len l fp ∧ len ≤ cap ∧ cap ≤ 9223372036854775807 := by
  obtain ⟨h1, _⟩ := rd_arg_slice Try.underlying73 hv h
  obtain ⟨a, len, cap, l, fp, e, g⟩ := rd_FrameS h1
  exact ⟨a, len, cap, l, fp, by simpa using e, g⟩

end Go.Proofs.Ytoglclmaacjdaaa.dat
