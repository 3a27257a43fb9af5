/-
  DATA: File, []File, Disk: the notions; THE CONTRACTS OF the laws' own functions (copies, sizes, equality) over them. Written by tools/gendata.py.
-/
import Derived.Test.YtemefahhogdoaaaDataDisks
import Derived.Test.YtemefahhogdoaaaDataRead
namespace Go.Proofs.Ytemefahhogdoaaa.dat
open Go.RowKit Go.Proofs.Ytemefahhogdoaaa.win
set_option linter.unusedVariables false

set_option maxRecDepth 100000 in
theorem rd_File {W : World} {cs : List Value} (h : Rd W 47 cs) : ∃ x f, RFile W cs x f := by
  obtain ⟨hl, hf⟩ := rd_struct Try.underlying47 h
  have hl' : cs.length = 3 := hl.trans (by kernel_rfl)
  obtain ⟨c0, c1, c2, rfl⟩ : ∃ c0 c1 c2, cs = [c0, c1, c2] := by
    match cs, hl' with
    | [c0, c1, c2], _ => exact ⟨_, _, _, rfl⟩
  have h0 := hf 0 _ rfl
  obtain ⟨z0, g0, e0, s0, _⟩ := rd_string h0
  have h1 := hf 1 _ rfl
  obtain ⟨z1, g1, e1, s1, _⟩ := rd_string h1
  have h2 := hf 2 _ rfl
  obtain ⟨z2, g2, e2, s2, _⟩ := rd_string h2
  have k0 : Try.prog.cellsOf 9 = 1 := by kernel_rfl
  simp [k0] at e0 e1 e2
  subst e0; subst e1; subst e2
  exact ⟨⟨z0, z1, z2⟩, [], rfl, s0, s1, s2, rfl⟩
set_option maxRecDepth 100000 in
theorem arg_File {W : World} {r : Reach} {b0 : Nat} {v : Value} {H : Type} {enc : TypeId × Value → H} {d : DataW H} {p : List MemPlace} (hv : Value.okWide Try.prog W r b0 47 v) (h : DataW.Trod enc Try.prog W 0 (fun _ => true) true 47 v d p) : ∃ (x : FileD), v = .agg (File.list x).toArray ∧ x.name.size ≤ 9223372036854775807 ∧ x.safe.size ≤ 9223372036854775807 ∧ x.now.size ≤ 9223372036854775807 := by
  obtain ⟨cs, rfl, h1⟩ := rd_arg_struct Try.underlying47 hv h
  obtain ⟨x, f, rfl, s0, s1, s2, _⟩ := rd_File h1
  exact ⟨x, rfl, s0, s1, s2⟩

theorem rd_FileS {W : World} {cs : List Value} (h : Rd W 22 cs) : ∃ a len cap l fp, cs = [.slice a len cap] ∧ GRow 3 RFile W a len l fp ∧ len ≤ cap ∧ cap ≤ 9223372036854775807 :=
  rd_slice (k := 3) (R := RFile) Try.underlying22 (by kernel_rfl) (by decide) (fun _ h => rd_File h) h
set_option maxRecDepth 100000 in
theorem arg_FileS {W : World} {r : Reach} {b0 : Nat} {v : Value} {H : Type} {enc : TypeId × Value → H} {d : DataW H} {p : List MemPlace} (hv : Value.okWide Try.prog W r b0 22 v) (h : DataW.Trod enc Try.prog W 0 (fun _ => true) true 22 v d p) : ∃ (a : Option Addr) (len cap : Nat) (l : List FileD) (fp : List Nat), v = .slice a len cap ∧ GRow 3 RFile W a len l fp ∧ len ≤ cap ∧ cap ≤ 9223372036854775807 := by
  obtain ⟨h1, _⟩ := rd_arg_slice Try.underlying22 hv h
  obtain ⟨a, len, cap, l, fp, e, g⟩ := rd_FileS h1
  exact ⟨a, len, cap, l, fp, by simpa using e, g⟩

set_option maxRecDepth 100000 in
theorem rd_Disk {W : World} {cs : List Value} (h : Rd W 24 cs) : ∃ x f, RDisk W cs x f := by
  obtain ⟨hl, hf⟩ := rd_struct Try.underlying24 h
  have hl' : cs.length = 1 := hl.trans (by kernel_rfl)
  obtain ⟨c0, rfl⟩ : ∃ c0, cs = [c0] := by
    match cs, hl' with
    | [c0], _ => exact ⟨_, rfl⟩
  have h0 := hf 0 _ rfl
  obtain ⟨a0, n0, m0, l0, g0, e0, w0, x0, y0⟩ := rd_FileS h0
  have k0 : Try.prog.cellsOf 22 = 1 := by kernel_rfl
  simp [k0] at e0
  subst e0
  exact ⟨⟨l0⟩, _, ⟨a0, n0, m0⟩, rfl, g0, rfl, w0, x0, y0⟩
set_option maxRecDepth 100000 in
theorem arg_Disk {W : World} {r : Reach} {b0 : Nat} {v : Value} {H : Type} {enc : TypeId × Value → H} {d : DataW H} {p : List MemPlace} (hv : Value.okWide Try.prog W r b0 24 v) (h : DataW.Trod enc Try.prog W 0 (fun _ => true) true 24 v d p) : ∃ (x : DiskD) (h : DiskH) (fp : List Nat), v = .agg (Disk.list x h).toArray ∧ Disk.Is W x h fp := by
  obtain ⟨cs, rfl, h1⟩ := rd_arg_struct Try.underlying24 hv h
  obtain ⟨x, f, q, rfl, hi⟩ := rd_Disk h1
  exact ⟨x, q, f, rfl, hi⟩

end Go.Proofs.Ytemefahhogdoaaa.dat
