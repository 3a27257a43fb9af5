/-
  DATA: []int, []string, Win, []Win, Config, Event, Part, []Part: the notions; THE CONTRACTS OF the laws' own functions (copies, sizes, equality) over them. Written by tools/gendata.py.
-/
import Derived.Test.YtoglclmaacjdaaaDataEvents
import Derived.Test.YtoglclmaacjdaaaDataRead
namespace Go.Proofs.Ytoglclmaacjdaaa.dat
open Go.RowKit Go.Proofs.Ytoglclmaacjdaaa.win
set_option linter.unusedVariables false

theorem rd_IntS {W : World} {cs : List Value} (h : Rd W 29 cs) : ∃ a len cap l fp, cs = [.slice a len cap] ∧ GRow 1 RInt W a len l fp ∧ len ≤ cap ∧ cap ≤ 9223372036854775807 :=
  rd_slice (k := 1) (R := RInt) Try.underlying29 (by kernel_rfl) (by decide) (fun _ h => rd_int h) h
set_option maxRecDepth 100000 in
theorem arg_IntS {W : World} {r : Reach} {b0 : Nat} {v : Value} {H : Type} {enc : TypeId × Value → H} {d : DataW H} {p : List MemPlace} (hv : Value.okWide Try.prog W r b0 29 v) (h : DataW.Trod enc Try.prog W 0 (fun _ => true) true 29 v d p) : ∃ (a : Option Addr) (len cap : Nat) (l : List Int) (fp : List Nat), v = .slice a len cap ∧ GRow 1 RInt W a len l fp ∧ len ≤ cap ∧ cap ≤ 9223372036854775807 := by
  obtain ⟨h1, _⟩ := rd_arg_slice Try.underlying29 hv h
  obtain ⟨a, len, cap, l, fp, e, g⟩ := rd_IntS h1
  exact ⟨a, len, cap, l, fp, by simpa using e, g⟩

theorem rd_StringS {W : World} {cs : List Value} (h : Rd W 114 cs) : ∃ a len cap l fp, cs = [.slice a len cap] ∧ GRow 1 RStr W a len l fp ∧ len ≤ cap ∧ cap ≤ 9223372036854775807 :=
  rd_slice (k := 1) (R := RStr) Try.underlying114 (by kernel_rfl) (by decide) (fun _ h => rd_string h) h
set_option maxRecDepth 100000 in
theorem arg_StringS {W : World} {r : Reach} {b0 : Nat} {v : Value} {H : Type} {enc : TypeId × Value → H} {d : DataW H} {p : List MemPlace} (hv : Value.okWide Try.prog W r b0 114 v) (h : DataW.Trod enc Try.prog W 0 (fun _ => true) true 114 v d p) : ∃ (a : Option Addr) (len cap : Nat) (l : List ByteArray) (fp : List Nat), v = .slice a len cap ∧ GRow 1 RStr W a len l fp ∧ len ≤ cap ∧ cap ≤ 9223372036854775807 := by
  obtain ⟨h1, _⟩ := rd_arg_slice Try.underlying114 hv h
  obtain ⟨a, len, cap, l, fp, e, g⟩ := rd_StringS h1
  exact ⟨a, len, cap, l, fp, by simpa using e, g⟩

set_option maxRecDepth 100000 in
theorem rd_Win {W : World} {cs : List Value} (h : Rd W 166 cs) : ∃ x f, RWin W cs x f := by
  obtain ⟨hl, hf⟩ := rd_struct Try.underlying166 h
  have hl' : cs.length = 2 := hl.trans (by kernel_rfl)
  obtain ⟨c0, c1, rfl⟩ : ∃ c0 c1, cs = [c0, c1] := by
    match cs, hl' with
    | [c0, c1], _ => exact ⟨_, _, rfl⟩
  have h0 := hf 0 _ rfl
  obtain ⟨z0, e0, _⟩ := rd_intw h0
  have h1 := hf 1 _ rfl
  obtain ⟨z1, e1, _⟩ := rd_intw h1
  have k0 : Try.prog.cellsOf 3 = 1 := by kernel_rfl
  simp [k0] at e0 e1
  subst e0; subst e1
  exact ⟨(z0, z1), [], rfl, rfl⟩
set_option maxRecDepth 100000 in
theorem arg_Win {W : World} {r : Reach} {b0 : Nat} {v : Value} {H : Type} {enc : TypeId × Value → H} {d : DataW H} {p : List MemPlace} (hv : Value.okWide Try.prog W r b0 166 v) (h : DataW.Trod enc Try.prog W 0 (fun _ => true) true 166 v d p) : ∃ (x : Int × Int), v = .agg (Win.list x).toArray := by
  obtain ⟨cs, rfl, h1⟩ := rd_arg_struct Try.underlying166 hv h
  obtain ⟨x, f, rfl, _⟩ := rd_Win h1
  exact ⟨x, rfl⟩

theorem rd_WinS {W : World} {cs : List Value} (h : Rd W 52 cs) : ∃ a len cap l fp, cs = [.slice a len cap] ∧ GRow 2 RWin W a len l fp ∧ len ≤ cap ∧ cap ≤ 9223372036854775807 :=
  rd_slice (k := 2) (R := RWin) Try.underlying52 (by kernel_rfl) (by decide) (fun _ h => rd_Win h) h
set_option maxRecDepth 100000 in
theorem arg_WinS {W : World} {r : Reach} {b0 : Nat} {v : Value} {H : Type} {enc : TypeId × Value → H} {d : DataW H} {p : List MemPlace} (hv : Value.okWide Try.prog W r b0 52 v) (h : DataW.Trod enc Try.prog W 0 (fun _ => true) true 52 v d p) : ∃ (a : Option Addr) (len cap : Nat) (l : List (Int × Int)) (fp : List Nat), v = .slice a len cap ∧ GRow 2 RWin W a len l fp ∧ len ≤ cap ∧ cap ≤ 9223372036854775807 := by
  obtain ⟨h1, _⟩ := rd_arg_slice Try.underlying52 hv h
  obtain ⟨a, len, cap, l, fp, e, g⟩ := rd_WinS h1
  exact ⟨a, len, cap, l, fp, by simpa using e, g⟩

set_option maxRecDepth 100000 in
theorem rd_Config {W : World} {cs : List Value} (h : Rd W 54 cs) : ∃ x f, RConfig W cs x f := by
  obtain ⟨hl, hf⟩ := rd_struct Try.underlying54 h
  have hl' : cs.length = 5 := hl.trans (by kernel_rfl)
  obtain ⟨c0, c1, c2, c3, c4, rfl⟩ : ∃ c0 c1 c2 c3 c4, cs = [c0, c1, c2, c3, c4] := by
    match cs, hl' with
    | [c0, c1, c2, c3, c4], _ => exact ⟨_, _, _, _, _, rfl⟩
  have h0 := hf 0 _ rfl
  obtain ⟨z0, e0, _⟩ := rd_intw h0
  have h1 := hf 1 _ rfl
  obtain ⟨a1, n1, m1, l1, g1, e1, w1, x1, y1⟩ := rd_WinS h1
  have h2 := hf 2 _ rfl
  obtain ⟨a2, n2, m2, l2, g2, e2, w2, x2, y2⟩ := rd_IntS h2
  have h3 := hf 3 _ rfl
  obtain ⟨z3, e3, _⟩ := rd_intw h3
  have h4 := hf 4 _ rfl
  obtain ⟨z4, e4, _⟩ := rd_intw h4
  have k0 : Try.prog.cellsOf 3 = 1 := by kernel_rfl
  have k1 : Try.prog.cellsOf 52 = 1 := by kernel_rfl
  have k2 : Try.prog.cellsOf 29 = 1 := by kernel_rfl
  simp [k0, k1, k2] at e0 e1 e2 e3 e4
  subst e0; subst e1; subst e2; subst e3; subst e4
  exact ⟨⟨z0, l1, l2, z3, z4⟩, _, ⟨a1, n1, m1, a2, n2, m2⟩, rfl, g1, g2, rfl, w1, x1, y1, w2, x2, y2⟩
set_option maxRecDepth 100000 in
theorem arg_Config {W : World} {r : Reach} {b0 : Nat} {v : Value} {H : Type} {enc : TypeId × Value → H} {d : DataW H} {p : List MemPlace} (hv : Value.okWide Try.prog W r b0 54 v) (h : DataW.Trod enc Try.prog W 0 (fun _ => true) true 54 v d p) : ∃ (x : ConfD) (h : ConfigH) (fp : List Nat), v = .agg (Config.list x h).toArray ∧ Config.Is W x h fp := by
  obtain ⟨cs, rfl, h1⟩ := rd_arg_struct Try.underlying54 hv h
  obtain ⟨x, f, q, rfl, hi⟩ := rd_Config h1
  exact ⟨x, q, f, rfl, hi⟩

end Go.Proofs.Ytoglclmaacjdaaa.dat
