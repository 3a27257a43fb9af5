/-
  JOINED BY tools/join.py: DataRead, DataReads, DataPaneReads, DataMarks, DataPaneMarks, SpecRollN, RollC, SpecRoll, RollUpLaw.
-/
import Derived.Test.YtpcekmllmnfmmaaGreatData
import Derived.ProofKit
import Derived.Deep.Slices
import Derived.Test.YtpcekmllmnfmmaaGreatDataEvents
import Derived.Test.YtpcekmllmnfmmaaGreatDataPanes
import Derived.Test.YtpcekmllmnfmmaaGreatDataMark
import Derived.Test.YtpcekmllmnfmmaaGreatDataMark2
import Derived.Test.YtpcekmllmnfmmaaGreatSpecRollM
import Derived.Test.YtpcekmllmnfmmaaGreatRollMath
import Derived.Test.YtpcekmllmnfmmaaGreatSpecRollY

/-
  WHAT CAN BE READ AS DATA IS DATA IN MEMORY: integers, strings, structs, slices of whatever elements.
-/
namespace Go.Proofs.YtpcekmllmnfmmaaGreat.dat
open Go.RowKit Go.Proofs.YtpcekmllmnfmmaaGreat.win

/-- These cells can be read as data of type t. -/
def Rd (W : World) (t : TypeId) (cs : List Value) : Prop := ∃ (H : Type) (enc : TypeId × Value → H) (n : Nat) (y : DataW H × List MemPlace), DataW.trod enc Tryz.prog W 0 (fun _ => true) true n t cs = some y
theorem Rd.of {H : Type} {enc : TypeId × Value → H} {W : World} {t : TypeId} {v : Value} {d : DataW H} {p : List MemPlace} (h : DataW.Trod enc Tryz.prog W 0 (fun _ => true) true t v d p) : Rd W t v.cells.toList := by
  obtain ⟨n, hn⟩ := h
  exact ⟨H, enc, n, _, hn⟩
theorem rd_int {W : World} {cs : List Value} (h : Rd W 3 cs) : ∃ z f, RInt W cs z f := by
  obtain ⟨H, enc, n, y, h⟩ := h
  obtain ⟨z, h1, _, h2⟩ := DataW.trod_int Tryz.underlying3 h
  exact ⟨z, [], h1, rfl⟩
theorem rd_intw {W : World} {cs : List Value} (h : Rd W 3 cs) : ∃ z, cs = [.int .i64 z] ∧ (Lit.int .i64 z).wf = true := by
  obtain ⟨H, enc, n, y, h⟩ := h
  obtain ⟨z, h1, _, h2⟩ := DataW.trod_int Tryz.underlying3 h
  exact ⟨z, h1, h2⟩
theorem rd_string {W : World} {cs : List Value} (h : Rd W 9 cs) : ∃ s f, RStr W cs s f := by
  obtain ⟨H, enc, n, y, h⟩ := h
  obtain ⟨z, h1, _, h2⟩ := DataW.trod_string Tryz.underlying9 h
  exact ⟨z, [], h1, by simp only [maxLen] at h2; omega, rfl⟩
theorem rd_struct {W : World} {t : TypeId} {fs : Array Field} {cs : List Value} (ht : Tryz.prog.underlying t = some (.struct fs)) (h : Rd W t cs) :
    cs.length = Tryz.prog.cellsOf t ∧ ∀ (i : Nat) (f : Field), fs[i]? = some f → Rd W f.type ((cs.drop f.offset).take (Tryz.prog.cellsOf f.type)) := by
  obtain ⟨H, enc, n, y, h⟩ := h
  obtain ⟨xs, m, _, _, hl, hlen, hf⟩ := DataW.trod_struct ht h
  refine ⟨hl, fun i f hi => ?_⟩
  have hi' : i < xs.length := by rw [hlen]; exact (Array.getElem?_eq_some_iff.1 hi).1
  have := hf i f hi
  rw [List.getElem?_eq_getElem hi'] at this
  exact ⟨H, enc, m, _, this⟩

theorem rd_slice {α : Type} {W : World} {t e : TypeId} {cs : List Value} {k : Nat} {R : Rel α} (ht : Tryz.prog.underlying t = some (.slice e)) (hk : Tryz.prog.cellsOf e = k) (hk0 : 0 < k)
    (hR : ∀ cs, Rd W e cs → ∃ x f, R W cs x f) (h : Rd W t cs) : ∃ a len cap l fp, cs = [.slice a len cap] ∧ GRow k R W a len l fp ∧ len ≤ cap ∧ cap ≤ 9223372036854775807 := by
  obtain ⟨H, enc, n, y, h⟩ := h
  rcases Go.Deep.open_slice ht h with ⟨rfl, _⟩ | ⟨a, len, cap, m, n', D, Pl, rfl, hb, hl, hm, hmm, _, hx⟩
  · exact ⟨none, 0, 0, [], [], rfl, GRow.nil, Nat.le_refl _, Nat.zero_le _⟩
  have hm' : cap ≤ 9223372036854775807 := by simp only [maxLen] at hm; omega
  simp only [if_true] at hmm
  subst hmm
  by_cases h0 : 0 < len
  case neg =>
    obtain rfl : len = 0 := by omega
    exact ⟨some a, 0, m, [], [], rfl, GRow.nil, hl, hm'⟩
  have hel : ∀ i, i < len → ∃ xf : α × List Nat, ∃ cs', cs'.length = k ∧ R W cs' xf.1 xf.2 ∧ ∀ j, j < k → W.cell? ((a.add (i * k)).add j) = cs'[j]? := by
    intro i hi
    obtain ⟨cs', h1, h2⟩ := hx i (by omega)
    rw [hk] at h1
    obtain ⟨_, h3, h4⟩ := World.cells?_some h1
    obtain ⟨x, f, hRx⟩ := hR cs' ⟨H, enc, n', _, h2⟩
    exact ⟨(x, f), cs', h3, hRx, h4⟩
  obtain ⟨x0, _⟩ := hel 0 h0
  haveI : Inhabited (α × List Nat) := ⟨x0⟩
  obtain ⟨G, hG⟩ := Go.Deep.choose_lt hel
  have hspot : a.spot = none := by
    obtain ⟨cs', h3, _, h4⟩ := hG 0 h0
    have h5 := h4 0 hk0
    rw [List.getElem?_eq_getElem (by omega)] at h5
    have := World.cell?_spot h5
    simpa [Addr.add] using this
  obtain ⟨b, off, spot⟩ := a
  simp only at hspot
  subst hspot
  refine ⟨_, len, m, (List.range len).map (fun i => (G i).1), b :: ((List.range len).map (fun i => (G i).2)).flatten, rfl, ⟨by simp, .inr ⟨b, off, (List.range len).map (fun i => (G i).2), rfl, ?_, rfl, by simp, ?_⟩⟩, hl, hm'⟩
  · obtain ⟨cs', h3, _, h4⟩ := hG 0 h0
    have h5 := h4 0 hk0
    rw [List.getElem?_eq_getElem (by omega)] at h5
    have := World.block_lt_of_cell? _ _ h5
    simpa [Addr.add] using this
  · intro i x f hx' hf'
    have hi : i < len := by
      have := (List.getElem?_eq_some_iff.1 hx').1
      simpa using this
    obtain ⟨cs', h3, h4, h5⟩ := hG i hi
    simp [hi] at hx' hf'
    subst hx' hf'
    refine ⟨cs', h3, h4, fun j hj => ?_⟩
    have := h5 j hj
    rw [Go.WideShapes.add_plain, Go.WideShapes.add_plain] at this
    exact this
theorem agg_of {cs : Array Value} {l : List Value} (h : (Value.agg cs).cells.toList = l) : Value.agg cs = .agg l.toArray := by
  simp only [Value.cells] at h
  rw [← h]
set_option maxRecDepth 100000 in
/-- What an argument reads as, by its type's shape. -/
theorem rd_arg_struct {W : World} {r : Reach} {b0 : Nat} {t : TypeId} {fs : Array Field} {v : Value} {H : Type} {enc : TypeId × Value → H} {d : DataW H} {p : List MemPlace} (ht : Tryz.prog.underlying t = some (.struct fs)) (hv : Value.okWide Tryz.prog W r b0 t v) (h : DataW.Trod enc Tryz.prog W 0 (fun _ => true) true t v d p) : ∃ cs : List Value, v = .agg cs.toArray ∧ Rd W t cs := by
  obtain ⟨cs, rfl, _⟩ := Go.WideShapes.okWide_struct ht hv
  exact ⟨_, agg_of rfl, Rd.of h⟩
set_option maxRecDepth 100000 in
theorem rd_arg_slice {W : World} {r : Reach} {b0 : Nat} {t e : TypeId} {v : Value} {H : Type} {enc : TypeId × Value → H} {d : DataW H} {p : List MemPlace} (ht : Tryz.prog.underlying t = some (.slice e)) (hv : Value.okWide Tryz.prog W r b0 t v) (h : DataW.Trod enc Tryz.prog W 0 (fun _ => true) true t v d p) : Rd W t [v] ∧ ∃ a len cap, v = .slice a len cap := by
  obtain ⟨a, len, cap, rfl⟩ := Go.WideShapes.okWide_slice ht hv
  exact ⟨by simpa [Value.cells] using Rd.of h, a, len, cap, rfl⟩
end Go.Proofs.YtpcekmllmnfmmaaGreat.dat

/-
  DATA: []int, []string, Win, []Win, Config, Event, Part, []Part: the notions; THE CONTRACTS OF the laws' own functions (copies, sizes, equality) over them. Written by tools/gendata.py.
-/
namespace Go.Proofs.YtpcekmllmnfmmaaGreat.dat
open Go.RowKit Go.Proofs.YtpcekmllmnfmmaaGreat.win
set_option linter.unusedVariables false

theorem rd_IntS {W : World} {cs : List Value} (h : Rd W 23 cs) : ∃ a len cap l fp, cs = [.slice a len cap] ∧ GRow 1 RInt W a len l fp ∧ len ≤ cap ∧ cap ≤ 9223372036854775807 :=
  rd_slice (k := 1) (R := RInt) Tryz.underlying23 (by kernel_rfl) (by decide) (fun _ h => rd_int h) h
set_option maxRecDepth 100000 in
theorem arg_IntS {W : World} {r : Reach} {b0 : Nat} {v : Value} {H : Type} {enc : TypeId × Value → H} {d : DataW H} {p : List MemPlace} (hv : Value.okWide Tryz.prog W r b0 23 v) (h : DataW.Trod enc Tryz.prog W 0 (fun _ => true) true 23 v d p) : ∃ (a : Option Addr) (len cap : Nat) (l : List Int) (fp : List Nat), v = .slice a len cap ∧ GRow 1 RInt W a len l fp ∧ len ≤ cap ∧ cap ≤ 9223372036854775807 := by
  obtain ⟨h1, _⟩ := rd_arg_slice Tryz.underlying23 hv h
  obtain ⟨a, len, cap, l, fp, e, g⟩ := rd_IntS h1
  exact ⟨a, len, cap, l, fp, by simpa using e, g⟩

set_option maxRecDepth 100000 in
theorem rd_Win {W : World} {cs : List Value} (h : Rd W 104 cs) : ∃ x f, RWin W cs x f := by
  obtain ⟨hl, hf⟩ := rd_struct Tryz.underlying104 h
  have hl' : cs.length = 2 := hl.trans (by kernel_rfl)
  obtain ⟨c0, c1, rfl⟩ : ∃ c0 c1, cs = [c0, c1] := by
    match cs, hl' with
    | [c0, c1], _ => exact ⟨_, _, rfl⟩
  have h0 := hf 0 _ rfl
  obtain ⟨z0, e0, _⟩ := rd_intw h0
  have h1 := hf 1 _ rfl
  obtain ⟨z1, e1, _⟩ := rd_intw h1
  have k0 : Tryz.prog.cellsOf 3 = 1 := by kernel_rfl
  simp [k0] at e0 e1
  subst e0; subst e1
  exact ⟨(z0, z1), [], rfl, rfl⟩
set_option maxRecDepth 100000 in
theorem arg_Win {W : World} {r : Reach} {b0 : Nat} {v : Value} {H : Type} {enc : TypeId × Value → H} {d : DataW H} {p : List MemPlace} (hv : Value.okWide Tryz.prog W r b0 104 v) (h : DataW.Trod enc Tryz.prog W 0 (fun _ => true) true 104 v d p) : ∃ (x : Int × Int), v = .agg (Win.list x).toArray := by
  obtain ⟨cs, rfl, h1⟩ := rd_arg_struct Tryz.underlying104 hv h
  obtain ⟨x, f, rfl, _⟩ := rd_Win h1
  exact ⟨x, rfl⟩

theorem rd_WinS {W : World} {cs : List Value} (h : Rd W 22 cs) : ∃ a len cap l fp, cs = [.slice a len cap] ∧ GRow 2 RWin W a len l fp ∧ len ≤ cap ∧ cap ≤ 9223372036854775807 :=
  rd_slice (k := 2) (R := RWin) Tryz.underlying22 (by kernel_rfl) (by decide) (fun _ h => rd_Win h) h
set_option maxRecDepth 100000 in
theorem arg_WinS {W : World} {r : Reach} {b0 : Nat} {v : Value} {H : Type} {enc : TypeId × Value → H} {d : DataW H} {p : List MemPlace} (hv : Value.okWide Tryz.prog W r b0 22 v) (h : DataW.Trod enc Tryz.prog W 0 (fun _ => true) true 22 v d p) : ∃ (a : Option Addr) (len cap : Nat) (l : List (Int × Int)) (fp : List Nat), v = .slice a len cap ∧ GRow 2 RWin W a len l fp ∧ len ≤ cap ∧ cap ≤ 9223372036854775807 := by
  obtain ⟨h1, _⟩ := rd_arg_slice Tryz.underlying22 hv h
  obtain ⟨a, len, cap, l, fp, e, g⟩ := rd_WinS h1
  exact ⟨a, len, cap, l, fp, by simpa using e, g⟩

set_option maxRecDepth 100000 in
theorem rd_Config {W : World} {cs : List Value} (h : Rd W 25 cs) : ∃ x f, RConfig W cs x f := by
  obtain ⟨hl, hf⟩ := rd_struct Tryz.underlying25 h
  have hl' : cs.length = 5 := hl.trans (by kernel_rfl)
  obtain ⟨c0, c1, c2, c3, c4, rfl⟩ : ∃ c0 c1 c2 c3 c4, cs = [c0, c1, c2, c3, c4] := by
    match cs, hl' with
    | [c0, c1, c2, c3, c4], _ => exact ⟨_, _, _, _, _, rfl⟩
  have h0 := hf 0 _ rfl
  obtain ⟨z0, e0, _⟩ := rd_intw h0
  have h1 := hf 1 _ rfl
  obtain ⟨a1, n1, m1, l1, g1, e1, w1, x1, y1⟩ := rd_WinS h1
  have h2 := hf 2 _ rfl
  obtain ⟨a2, n2, m2, l2, g2, e2, w2, x2, y2⟩ := rd_IntS h2
  have h3 := hf 3 _ rfl
  obtain ⟨z3, e3, _⟩ := rd_intw h3
  have h4 := hf 4 _ rfl
  obtain ⟨z4, e4, _⟩ := rd_intw h4
  have k0 : Tryz.prog.cellsOf 3 = 1 := by kernel_rfl
  have k1 : Tryz.prog.cellsOf 22 = 1 := by kernel_rfl
  have k2 : Tryz.prog.cellsOf 23 = 1 := by kernel_rfl
  simp [k0, k1, k2] at e0 e1 e2 e3 e4
  subst e0; subst e1; subst e2; subst e3; subst e4
  exact ⟨⟨z0, l1, l2, z3, z4⟩, _, ⟨a1, n1, m1, a2, n2, m2⟩, rfl, g1, g2, rfl, w1, x1, y1, w2, x2, y2⟩
set_option maxRecDepth 100000 in
theorem arg_Config {W : World} {r : Reach} {b0 : Nat} {v : Value} {H : Type} {enc : TypeId × Value → H} {d : DataW H} {p : List MemPlace} (hv : Value.okWide Tryz.prog W r b0 25 v) (h : DataW.Trod enc Tryz.prog W 0 (fun _ => true) true 25 v d p) : ∃ (x : ConfD) (h : ConfigH) (fp : List Nat), v = .agg (Config.list x h).toArray ∧ Config.Is W x h fp := by
  obtain ⟨cs, rfl, h1⟩ := rd_arg_struct Tryz.underlying25 hv h
  obtain ⟨x, f, q, rfl, hi⟩ := rd_Config h1
  exact ⟨x, q, f, rfl, hi⟩

set_option maxRecDepth 100000 in
theorem rd_Event {W : World} {cs : List Value} (h : Rd W 88 cs) : ∃ x f, REvent W cs x f := by
  obtain ⟨hl, hf⟩ := rd_struct Tryz.underlying88 h
  have hl' : cs.length = 3 := hl.trans (by kernel_rfl)
  obtain ⟨c0, c1, c2, rfl⟩ : ∃ c0 c1 c2, cs = [c0, c1, c2] := by
    match cs, hl' with
    | [c0, c1, c2], _ => exact ⟨_, _, _, rfl⟩
  have h0 := hf 0 _ rfl
  obtain ⟨z0, e0, _⟩ := rd_intw h0
  have h1 := hf 1 _ rfl
  obtain ⟨a1, n1, m1, l1, g1, e1, w1, x1, y1⟩ := rd_IntS h1
  have h2 := hf 2 _ rfl
  obtain ⟨z2, e2, _⟩ := rd_intw h2
  have k0 : Tryz.prog.cellsOf 3 = 1 := by kernel_rfl
  have k1 : Tryz.prog.cellsOf 23 = 1 := by kernel_rfl
  simp [k0, k1] at e0 e1 e2
  subst e0; subst e1; subst e2
  exact ⟨⟨z0, l1, z2⟩, _, ⟨a1, n1, m1⟩, rfl, g1, rfl, w1, x1, y1⟩
set_option maxRecDepth 100000 in
theorem arg_Event {W : World} {r : Reach} {b0 : Nat} {v : Value} {H : Type} {enc : TypeId × Value → H} {d : DataW H} {p : List MemPlace} (hv : Value.okWide Tryz.prog W r b0 88 v) (h : DataW.Trod enc Tryz.prog W 0 (fun _ => true) true 88 v d p) : ∃ (x : EventD) (h : EventH) (fp : List Nat), v = .agg (Event.list x h).toArray ∧ Event.Is W x h fp := by
  obtain ⟨cs, rfl, h1⟩ := rd_arg_struct Tryz.underlying88 hv h
  obtain ⟨x, f, q, rfl, hi⟩ := rd_Event h1
  exact ⟨x, q, f, rfl, hi⟩

end Go.Proofs.YtpcekmllmnfmmaaGreat.dat

/-
  DATA: Agg, Pane, []Pane: the notions; THE CONTRACTS OF the laws' own functions (copies, sizes, equality) over them. Written by tools/gendata.py.
-/
namespace Go.Proofs.YtpcekmllmnfmmaaGreat.dat
open Go.RowKit Go.Proofs.YtpcekmllmnfmmaaGreat.win
set_option linter.unusedVariables false

set_option maxRecDepth 100000 in
theorem rd_Agg {W : World} {cs : List Value} (h : Rd W 54 cs) : ∃ x f, RAgg W cs x f := by
  obtain ⟨hl, hf⟩ := rd_struct Tryz.underlying54 h
  have hl' : cs.length = 4 := hl.trans (by kernel_rfl)
  obtain ⟨c0, c1, c2, c3, rfl⟩ : ∃ c0 c1 c2 c3, cs = [c0, c1, c2, c3] := by
    match cs, hl' with
    | [c0, c1, c2, c3], _ => exact ⟨_, _, _, _, rfl⟩
  have h0 := hf 0 _ rfl
  obtain ⟨z0, e0, _⟩ := rd_intw h0
  have h1 := hf 1 _ rfl
  obtain ⟨z1, e1, _⟩ := rd_intw h1
  have h2 := hf 2 _ rfl
  obtain ⟨z2, e2, _⟩ := rd_intw h2
  have h3 := hf 3 _ rfl
  obtain ⟨z3, e3, _⟩ := rd_intw h3
  have k0 : Tryz.prog.cellsOf 3 = 1 := by kernel_rfl
  simp [k0] at e0 e1 e2 e3
  subst e0; subst e1; subst e2; subst e3
  exact ⟨⟨z0, z1, z2, z3⟩, [], rfl, rfl⟩
set_option maxRecDepth 100000 in
theorem arg_Agg {W : World} {r : Reach} {b0 : Nat} {v : Value} {H : Type} {enc : TypeId × Value → H} {d : DataW H} {p : List MemPlace} (hv : Value.okWide Tryz.prog W r b0 54 v) (h : DataW.Trod enc Tryz.prog W 0 (fun _ => true) true 54 v d p) : ∃ (x : AggD), v = .agg (Agg.list x).toArray := by
  obtain ⟨cs, rfl, h1⟩ := rd_arg_struct Tryz.underlying54 hv h
  obtain ⟨x, f, rfl, _⟩ := rd_Agg h1
  exact ⟨x, rfl⟩

set_option maxRecDepth 100000 in
theorem rd_Pane {W : World} {cs : List Value} (h : Rd W 56 cs) : ∃ x f, RPane W cs x f := by
  obtain ⟨hl, hf⟩ := rd_struct Tryz.underlying56 h
  have hl' : cs.length = 8 := hl.trans (by kernel_rfl)
  obtain ⟨c0, c1, c2, c3, c4, c5, c6, c7, rfl⟩ : ∃ c0 c1 c2 c3 c4 c5 c6 c7, cs = [c0, c1, c2, c3, c4, c5, c6, c7] := by
    match cs, hl' with
    | [c0, c1, c2, c3, c4, c5, c6, c7], _ => exact ⟨_, _, _, _, _, _, _, _, rfl⟩
  have h0 := hf 0 _ rfl
  obtain ⟨z0, e0, _⟩ := rd_intw h0
  have h1 := hf 1 _ rfl
  obtain ⟨z1, e1, _⟩ := rd_intw h1
  have h2 := hf 2 _ rfl
  obtain ⟨z2, e2, _⟩ := rd_intw h2
  have h3 := hf 3 _ rfl
  obtain ⟨a3, n3, m3, l3, g3, e3, w3, x3, y3⟩ := rd_IntS h3
  have h4 := hf 4 _ rfl
  obtain ⟨z4, g4, e4, _⟩ := rd_Agg h4
  have k0 : Tryz.prog.cellsOf 3 = 1 := by kernel_rfl
  have k1 : Tryz.prog.cellsOf 23 = 1 := by kernel_rfl
  have k2 : Tryz.prog.cellsOf 54 = 4 := by kernel_rfl
  simp [k0, k1, k2, Agg.list] at e0 e1 e2 e3 e4
  subst e0; subst e1; subst e2; subst e3; obtain ⟨rfl, rfl, rfl, rfl⟩ := e4
  exact ⟨⟨z0, z1, z2, l3, z4⟩, _, ⟨a3, n3, m3⟩, rfl, g3, rfl, w3, x3, y3⟩
set_option maxRecDepth 100000 in
theorem arg_Pane {W : World} {r : Reach} {b0 : Nat} {v : Value} {H : Type} {enc : TypeId × Value → H} {d : DataW H} {p : List MemPlace} (hv : Value.okWide Tryz.prog W r b0 56 v) (h : DataW.Trod enc Tryz.prog W 0 (fun _ => true) true 56 v d p) : ∃ (x : PaneD) (h : PaneH) (fp : List Nat), v = .agg (Pane.list x h).toArray ∧ Pane.Is W x h fp := by
  obtain ⟨cs, rfl, h1⟩ := rd_arg_struct Tryz.underlying56 hv h
  obtain ⟨x, f, q, rfl, hi⟩ := rd_Pane h1
  exact ⟨x, q, f, rfl, hi⟩

theorem rd_PaneS {W : World} {cs : List Value} (h : Rd W 26 cs) : ∃ a len cap l fp, cs = [.slice a len cap] ∧ GRow 8 RPane W a len l fp ∧ len ≤ cap ∧ cap ≤ 9223372036854775807 :=
  rd_slice (k := 8) (R := RPane) Tryz.underlying26 (by kernel_rfl) (by decide) (fun _ h => rd_Pane h) h
set_option maxRecDepth 100000 in
theorem arg_PaneS {W : World} {r : Reach} {b0 : Nat} {v : Value} {H : Type} {enc : TypeId × Value → H} {d : DataW H} {p : List MemPlace} (hv : Value.okWide Tryz.prog W r b0 26 v) (h : DataW.Trod enc Tryz.prog W 0 (fun _ => true) true 26 v d p) : ∃ (a : Option Addr) (len cap : Nat) (l : List PaneD) (fp : List Nat), v = .slice a len cap ∧ GRow 8 RPane W a len l fp ∧ len ≤ cap ∧ cap ≤ 9223372036854775807 := by
  obtain ⟨h1, _⟩ := rd_arg_slice Tryz.underlying26 hv h
  obtain ⟨a, len, cap, l, fp, e, g⟩ := rd_PaneS h1
  exact ⟨a, len, cap, l, fp, by simpa using e, g⟩

end Go.Proofs.YtpcekmllmnfmmaaGreat.dat

/-
  DATA: []int, Win, []Win, Config, Event: the notions; THE CONTRACTS OF the laws' own functions (copies, sizes, equality) over them. Written by tools/gendata.py.
-/
namespace Go.Proofs.YtpcekmllmnfmmaaGreat.dat
open Go.RowKit Go.Proofs.YtpcekmllmnfmmaaGreat.win
set_option linter.unusedVariables false

set_option maxRecDepth 100000 in
set_option maxHeartbeats 1000000 in
theorem mark_IntS (a : Option Addr) (len cap : Nat) (l : List Int) (fp : List Nat) (m : Int) (lo : Nat) (w : World) (hmax : len ≤ 2000000) (hm0 : 0 ≤ m) (hm1 : m + (cntL cnInt l : Nat) ≤ 1099511627776) (hrow : GRow 1 RInt w a len l fp) (hown : Own lo w fp) :
    Calls Tryz.prog 46 #[.slice a len cap, .int .i64 m] w (Marked 1 RInt mkInt cnInt lo w a len l fp m) := by
  have HL := Lib.hid hrow.1
  have HR := Lib.hid hrow
  have HO := Lib.hid hown
  have HM := Lib.hid hm1
  clear hrow hown hm1
  go_enter Tryz.func46, Tryz.ntmps46
  go_wp2_with fail
  go_loopg [1, 5] len (fun r sk i wr => ∃ j : Nat, j + r = len ∧ sk = .int .i64 (m + (cntL cnInt (l.take j) : Nat)) ∧ i = .int .i64 j ∧ GRow 1 RInt wr a len (markH mkInt cnInt m l j) fp ∧ Own lo wr fp ∧ Apart fp w wr)
  case atStart => exact ⟨0, by omega, by simp [cntL], rfl, by rw [markH_zero]; exact HR.out, HO.out, Apart.refl _ _⟩
  case round =>
    obtain ⟨j, hj, rfl, rfl, hG, hown, hap⟩ := hrel
    clear HR HO
    obtain ⟨q, hq⟩ : ∃ q : Int, m + (cntL cnInt (l.take j) : Nat) = q := ⟨_, rfl⟩
    have hq0 : 0 ≤ q := by omega
    have HQ := Lib.hid hq
    rw [hq]
    by_cases hlt : j < len
    · have hlt2 : (j : Int) < (len : Int) := by omega
      have h02 : (0 : Int) ≤ (j : Int) := by omega
      obtain ⟨b, off, f, x, rfl, hx, hb, hbf, hf, hfn, ⟨cs, hcl, hR, hc⟩, hup⟩ := hG.update local_int hown.1 hlt
      rw [markH_at _ _ _ _ (by rw [HL.out]; omega)] at hx
      obtain ⟨rfl, rfl⟩ := hR
      have c0 : wr.cell? ⟨b, off + j, none⟩ = some (.int .i64 x) := by have := hc 0 (by omega); simpa using this
      have g0 : wr.frozen? ⟨b, off + j, none⟩ = false := ((hown.2 b hbf).2).frozen _
      have hq1 : q + 1 ≤ 1099511627776 := by have h1 := cntL_take_succ cnInt l hx; have h2 := cntL_take_le cnInt l (j + 1); have h3 := HM.out; have h4 : cnInt x = 1 := rfl; omega
      have HX := Lib.hid hx
      have HU := Lib.hid hup
      have HO := Lib.hid hown
      have HA := Lib.hid hap
      have HB := Lib.hid hb
      have HF := Lib.hid hbf
      have C0 := Lib.hid c0
      clear hx hup hown hap hG hc hq hb hbf hf hfn hcl
      go_wp2_with fail
      go_roundg (len - (j + 1))
      case measure => omega
      case rel =>
        refine ⟨j + 1, by omega, ?_, by go_num, ?_, ?_, ?_⟩
        · rw [cntL_take_succ cnInt l HX.out, ← HQ.out, show cnInt x = 1 from rfl]
          apply congrArg (Value.int IntKind.i64)
          omega
        · rw [← markH_succ mkInt cnInt m l HX.out, HQ.out]
          refine HU.out _ _ ?_ ?_ ?_ ?_
          · intro c _ hcb _
            rw [Below.heap_setCell _ _ _ c (by simpa using hcb)]
          · intro o ho
            rw [cell_setCell_other _ _ _ _ _ (by omega)]
          · have := HB.out
            simpa using this
          · refine ⟨[.int .i64 q], rfl, ⟨rfl, rfl⟩, ?_⟩
            intro i hi
            have : i = 0 := by omega
            rcases this with rfl
            · simp [go_sem, C0.out]
        · with_reducible (repeat (first | exact HO.out | refine Own.set ?_ _ _ _))
        · repeat (first | (with_reducible exact HA.out) | refine Apart.setCell ?_ HF.out _ _)
    · obtain rfl : j = len := by omega
      rw [markH_all _ _ _ _ (by rw [HL.out]; omega)] at hG
      have HE := Lib.hid (And.intro hG (And.intro hown hap))
      clear hG hown hap hq
      go_wp2_with fail
      go_ret
      exact ⟨ret_int (by rw [← HQ.out, cntL_all _ _ (by rw [HL.out]; omega)]), HE.out.1, HE.out.2.1, HE.out.2.2⟩

set_option maxRecDepth 100000 in
set_option maxHeartbeats 1000000 in
theorem held_IntS (a : Option Addr) (len cap : Nat) (l : List Int) (fp : List Nat) (m : Int) (w : World) (hmax : len ≤ 2000000) (hm0 : 0 ≤ m) (hm1 : m + (cntL cnInt l : Nat) ≤ 1099511627776) (hrow : GRow 1 RInt w a len (markL mkInt cnInt m l) fp) :
    Calls Tryz.prog 47 #[.slice a len cap, .int .i64 m] w fun e w' => e = .returned (.int .i64 (m + (cntL cnInt l : Nat))) ∧ Below w.heap.size w w' := by
  have HL := Lib.hid (show l.length = len by have := hrow.1; rwa [markL_length] at this)
  have HR := Lib.hid hrow
  have HM := Lib.hid hm1
  clear hrow hm1
  go_enter Tryz.func47, Tryz.ntmps47
  go_wp2_with fail
  go_loopg [1, 5] len (fun r sk i wr => ∃ j : Nat, j + r = len ∧ sk = .int .i64 (m + (cntL cnInt (l.take j) : Nat)) ∧ i = .int .i64 j ∧ Below w.heap.size w wr)
  case atStart => exact ⟨0, by omega, by simp [cntL], rfl, Below.refl _ _⟩
  case round =>
    obtain ⟨j, hj, rfl, rfl, hb⟩ := hrel
    have HB := Lib.hid hb
    obtain ⟨q, hq⟩ : ∃ q : Int, m + (cntL cnInt (l.take j) : Nat) = q := ⟨_, rfl⟩
    have hq0 : 0 ≤ q := by omega
    have HQ := Lib.hid hq
    rw [hq]
    by_cases hlt : j < len
    · have hlt2 : (j : Int) < (len : Int) := by omega
      have h02 : (0 : Int) ≤ (j : Int) := by omega
      obtain ⟨b, off, x', f, cs, rfl, hbl, hx', hcl, hR, hc⟩ := HR.out.at hlt
      obtain ⟨x, hx⟩ : ∃ x, l[j]? = some x := ⟨_, List.getElem?_eq_getElem (by rw [HL.out]; exact hlt)⟩
      rw [markL_at mkInt cnInt l m hx, HQ.out] at hx'
      obtain rfl : mkInt q x = x' := Option.some.inj hx'
      obtain ⟨rfl, rfl⟩ := hR
      have c0 : wr.cell? ⟨b, off + j, none⟩ = some (.int .i64 q) := by have := (hb.cell (p := ⟨b, off + j * 1 + 0, none⟩) hbl).trans (hc 0 (by omega)); simpa [mkInt] using this
      have hq1 : q + 1 ≤ 1099511627776 := by have h1 := cntL_take_succ cnInt l hx; have h2 := cntL_take_le cnInt l (j + 1); have h3 := HM.out; have h4 : cnInt x = 1 := rfl; omega
      have HX := Lib.hid hx
      clear hx hx' hb hc hq hcl
      go_wp2_with fail
      go_roundg (len - (j + 1))
      case measure => omega
      case rel =>
        refine ⟨j + 1, by omega, ?_, by go_num, HB.out⟩
        rw [cntL_take_succ cnInt l HX.out, ← HQ.out, show cnInt x = 1 from rfl]
        apply congrArg (Value.int IntKind.i64)
        omega
    · obtain rfl : j = len := by omega
      clear hb hq
      go_wp2_with fail
      go_ret
      exact ⟨ret_int (by rw [← HQ.out, cntL_all _ _ (by rw [HL.out]; omega)]), HB.out⟩

def mkWin (k : Int) (_ : Int × Int) : Int × Int := (k, (k + 1))
def cnWin (_ : Int × Int) : Nat := 2
theorem cn_le_Win (x : Int × Int) : cnWin x ≤ 8 := by unfold cnWin; omega

set_option maxRecDepth 100000 in
set_option maxHeartbeats 1000000 in
theorem mark_WinS (a : Option Addr) (len cap : Nat) (l : List (Int × Int)) (fp : List Nat) (m : Int) (lo : Nat) (w : World) (hmax : len ≤ 2000000) (hm0 : 0 ≤ m) (hm1 : m + (cntL cnWin l : Nat) ≤ 1099511627776) (hrow : GRow 2 RWin w a len l fp) (hown : Own lo w fp) :
    Calls Tryz.prog 45 #[.slice a len cap, .int .i64 m] w (Marked 2 RWin mkWin cnWin lo w a len l fp m) := by
  have HL := Lib.hid hrow.1
  have HR := Lib.hid hrow
  have HO := Lib.hid hown
  have HM := Lib.hid hm1
  clear hrow hown hm1
  go_enter Tryz.func45, Tryz.ntmps45
  go_wp2_with fail
  go_loopg [1, 5] len (fun r sk i wr => ∃ j : Nat, j + r = len ∧ sk = .int .i64 (m + (cntL cnWin (l.take j) : Nat)) ∧ i = .int .i64 j ∧ GRow 2 RWin wr a len (markH mkWin cnWin m l j) fp ∧ Own lo wr fp ∧ Apart fp w wr)
  case atStart => exact ⟨0, by omega, by simp [cntL], rfl, by rw [markH_zero]; exact HR.out, HO.out, Apart.refl _ _⟩
  case round =>
    obtain ⟨j, hj, rfl, rfl, hG, hown, hap⟩ := hrel
    clear HR HO
    obtain ⟨q, hq⟩ : ∃ q : Int, m + (cntL cnWin (l.take j) : Nat) = q := ⟨_, rfl⟩
    have hq0 : 0 ≤ q := by omega
    have HQ := Lib.hid hq
    rw [hq]
    by_cases hlt : j < len
    · have hlt2 : (j : Int) < (len : Int) := by omega
      have h02 : (0 : Int) ≤ (j : Int) := by omega
      obtain ⟨b, off, f, x, rfl, hx, hb, hbf, hf, hfn, ⟨cs, hcl, hR, hc⟩, hup⟩ := hG.update local_Win hown.1 hlt
      rw [markH_at _ _ _ _ (by rw [HL.out]; omega)] at hx
      obtain ⟨rfl, rfl⟩ := hR
      have c0 : wr.cell? ⟨b, off + j * 2, none⟩ = some (.int .i64 x.1) := by have := hc 0 (by omega); first | (simp [Win.list]; done) | simpa [Win.list] using this
      have g0 : wr.frozen? ⟨b, off + j * 2, none⟩ = false := ((hown.2 b hbf).2).frozen _
      have c1 : wr.cell? ⟨b, off + j * 2 + 1, none⟩ = some (.int .i64 x.2) := by have := hc 1 (by omega); first | (simp [Win.list]; done) | simpa [Win.list] using this
      have g1 : wr.frozen? ⟨b, off + j * 2 + 1, none⟩ = false := ((hown.2 b hbf).2).frozen _
      have hq1 : q + 2 ≤ 1099511627776 := by have h1 := cntL_take_succ cnWin l hx; have h2 := cntL_take_le cnWin l (j + 1); have h3 := HM.out; have h4 : cnWin x = 2 := rfl; omega
      have HX := Lib.hid hx
      have HU := Lib.hid hup
      have HO := Lib.hid hown
      have HA := Lib.hid hap
      have HB := Lib.hid hb
      have HF := Lib.hid hbf
      have C0 := Lib.hid c0
      have C1 := Lib.hid c1
      clear hx hup hown hap hG hc hq hb hbf hf hfn hcl
      go_wp2_with fail
      go_roundg (len - (j + 1))
      case measure => omega
      case rel =>
        refine ⟨j + 1, by omega, ?_, by go_num, ?_, ?_, ?_⟩
        · rw [cntL_take_succ cnWin l HX.out, ← HQ.out, show cnWin x = 2 from rfl]
          apply congrArg (Value.int IntKind.i64)
          omega
        · rw [← markH_succ mkWin cnWin m l HX.out, HQ.out]
          refine HU.out _ _ ?_ ?_ ?_ ?_
          · intro c _ hcb _
            rw [Below.heap_setCell _ _ _ c (by simpa using hcb)]; rw [Below.heap_setCell _ _ _ c (by simpa using hcb)]
          · intro o ho
            rw [cell_setCell_other _ _ _ _ _ (by omega)]; rw [cell_setCell_other _ _ _ _ _ (by omega)]
          · have := HB.out
            simpa using this
          · refine ⟨[.int .i64 q, .int .i64 (q + 1)], rfl, ⟨rfl, rfl⟩, ?_⟩
            intro i hi
            have : i = 0 ∨ i = 1 := by omega
            rcases this with rfl | rfl
            · simp [go_sem, C0.out]
            · simp [go_sem, C1.out]
        · with_reducible (repeat (first | exact HO.out | refine Own.set ?_ _ _ _))
        · repeat (first | (with_reducible exact HA.out) | refine Apart.setCell ?_ HF.out _ _)
    · obtain rfl : j = len := by omega
      rw [markH_all _ _ _ _ (by rw [HL.out]; omega)] at hG
      have HE := Lib.hid (And.intro hG (And.intro hown hap))
      clear hG hown hap hq
      go_wp2_with fail
      go_ret
      exact ⟨ret_int (by rw [← HQ.out, cntL_all _ _ (by rw [HL.out]; omega)]), HE.out.1, HE.out.2.1, HE.out.2.2⟩

def Config.markV (k : Int) (x : ConfD) : ConfD := { x with ws := markL mkWin cnWin (k) x.ws, ms := markL mkInt cnInt (k + (cntL cnWin x.ws : Nat)) x.ms }
def Config.cntV (x : ConfD) : Nat := cntL cnWin x.ws + cntL cnInt x.ms
theorem Config.cntV_le (x : ConfD) : Config.cntV x ≤ 8 * Config.sz x := by
  have h0 := cntL_le' cn_le_Win x.ws
  have h1 := cntL_le' cn_le_int x.ms
  unfold Config.cntV Config.sz
  omega

def MarkedConfig (lo : Nat) (w : World) (x : ConfD) (h : ConfigH) (fp : List Nat) (m : Int) (e : Ending) (w' : World) : Prop := e = .returned (.int .i64 (m + (Config.cntV x : Nat))) ∧ Config.Is w' (Config.markV m x) h fp ∧ Own lo w' fp ∧ Apart fp w w'
set_option maxRecDepth 100000 in
set_option maxHeartbeats 2000000 in
theorem mark_Config (x : ConfD) (h : ConfigH) (fp : List Nat) (m : Int) (lo : Nat) (w : World) (hmax : Config.sz x ≤ 2000000) (hm0 : 0 ≤ m) (hm1 : m + (Config.cntV x : Nat) ≤ 1099511627776) (hin : Config.Is w x h fp) (hown : Own lo w fp) : Calls Tryz.prog 14 #[.agg (Config.list x h).toArray, .int .i64 m] w (MarkedConfig lo w x h fp m) := by
  obtain ⟨f0, f1, rfl, r0, u0, v0, r1, u1, v1⟩ := hin
  have R0 := Lib.hid r0
  have U0 := Lib.hid (And.intro u0 v0)
  have R1 := Lib.hid r1
  have U1 := Lib.hid (And.intro u1 v1)
  have HN := Lib.hid (show w.heap.size ∉ f0 ++ f1 from fun hm => by have := (hown.2 _ hm).2.lt; omega)
  have HO := Lib.hid hown
  have HM := Lib.hid hmax
  have HK := Lib.hid hm1
  unfold Config.sz at HM
  unfold Config.cntV at HK
  clear hown hmax hm1 r0 u0 v0 r1 u1 v1
  simp only [Config.list]
  go_enter Tryz.func14, Tryz.ntmps14
  go_wp2_with fail
  refine calls_gen (fun W => Apart (f0 ++ f1) w W ∧ Own lo W (f0 ++ f1) ∧ Blk W w.heap.size 33 [.int .i64 x.d, .slice h.wsa h.wsl h.wsc, .slice h.msa h.msl h.msc, .int .i64 x.dl, .int .i64 x.lt] ∧ GRow 2 RWin W h.wsa h.wsl x.ws f0 ∧ GRow 1 RInt W h.msa h.msl x.ms f1) ?_ ?_
  · exact ⟨(Apart.refl _ _).alloc _, HO.out.below ((Below.refl _ _).alloc (Nat.le_refl _) _), by with_reducible (repeat (first | (refine blk_new_at _ _ _ _ ?_; first | rfl | (simp; done)) | refine Blk.alloc ?_ _ | apply Blk.drew | refine Blk.setOther ?_ (by first | (simp; done) | (simp; omega)) _)), R0.out.below local_Win ((Below.refl _ _).alloc (Nat.le_refl _) _), R1.out.below local_int ((Below.refl _ _).alloc (Nat.le_refl _) _)⟩
  clear HO R0 R1
  rintro W0 ⟨ap, ow, kk, q0, q1⟩
  have hnd := ow.1
  refine (mark_WinS h.wsa h.wsl h.wsc x.ws _ _ lo W0 (by have h1 := q0.1; have h2 := HM.out; omega) (by omega) (by have := HK.out; omega) q0 ow.left).mono ?_
  rintro e V0 ⟨rfl, row, own, apt⟩
  have B0 := Lib.hid (ap.trans (apt.mono (fun b hb => by simp [hb])))
  have KK : Blk V0 w.heap.size 33 [.int .i64 x.d, .slice h.wsa h.wsl h.wsc, .slice h.msa h.msl h.msc, .int .i64 x.dl, .int .i64 x.lt] := (apt.block w.heap.size kk.lt (fun hm => HN.out (by simp [hm]))).trans kk
  have Q0 := Lib.hid row
  have Q1 := Lib.hid (q1.keep local_int (fun b hb => apt.block b (q1.lt local_int b hb) (fun hm => (List.nodup_append.1 hnd).2.2 b hm b (by simp [hb]) rfl)))
  have OW := Lib.hid (show Own lo V0 (f0 ++ f1) from ⟨hnd, fun b hb => ⟨(ow.2 b hb).1, by by_cases hm : b ∈ f0; exact (own.2 b hm).2; exact (ow.2 b hb).2.same (apt.block b (ow.2 b hb).2.lt hm)⟩⟩)
  have KH := Lib.hid KK
  have c0_0 := KK.cell 0
  have c0_1 := KK.cell 1
  have c0_2 := KK.cell 2
  have c0_3 := KK.cell 3
  have c0_4 := KK.cell 4
  simp at c0_0 c0_1 c0_2 c0_3 c0_4
  clear ap ow kk q0 q1 row own apt hnd KK
  go_wp2_with fail
  refine calls_gen (fun W => Apart (f0 ++ f1) w W ∧ Own lo W (f0 ++ f1) ∧ Blk W w.heap.size 33 [.int .i64 x.d, .slice h.wsa h.wsl h.wsc, .slice h.msa h.msl h.msc, .int .i64 x.dl, .int .i64 x.lt] ∧ GRow 2 RWin W h.wsa h.wsl (markL mkWin cnWin (m) x.ws) f0 ∧ GRow 1 RInt W h.msa h.msl x.ms f1) ⟨B0.out, OW.out, KH.out, Q0.out, Q1.out⟩ ?_
  clear OW KH Q0 Q1 B0 c0_0 c0_1 c0_2 c0_3 c0_4
  rintro W1 ⟨ap, ow, kk, q0, q1⟩
  have hnd := ow.1
  refine (mark_IntS h.msa h.msl h.msc x.ms _ _ lo W1 (by have h1 := q1.1; have h2 := HM.out; omega) (by omega) (by have := HK.out; omega) q1 ow.right).mono ?_
  rintro e V1 ⟨rfl, row, own, apt⟩
  have B1 := Lib.hid (ap.trans (apt.mono (fun b hb => by simp [hb])))
  have KK : Blk V1 w.heap.size 33 [.int .i64 x.d, .slice h.wsa h.wsl h.wsc, .slice h.msa h.msl h.msc, .int .i64 x.dl, .int .i64 x.lt] := (apt.block w.heap.size kk.lt (fun hm => HN.out (by simp [hm]))).trans kk
  have Q0 := Lib.hid (q0.keep local_Win (fun b hb => apt.block b (q0.lt local_Win b hb) (fun hm => (List.nodup_append.1 hnd).2.2 b hb b (by simp [hm]) rfl)))
  have Q1 := Lib.hid row
  have OW := Lib.hid (show Own lo V1 (f0 ++ f1) from ⟨hnd, fun b hb => ⟨(ow.2 b hb).1, by by_cases hm : b ∈ f1; exact (own.2 b hm).2; exact (ow.2 b hb).2.same (apt.block b (ow.2 b hb).2.lt hm)⟩⟩)
  have KH := Lib.hid KK
  have c1_0 := KK.cell 0
  have c1_1 := KK.cell 1
  have c1_2 := KK.cell 2
  have c1_3 := KK.cell 3
  have c1_4 := KK.cell 4
  simp at c1_0 c1_1 c1_2 c1_3 c1_4
  clear ap ow kk q0 q1 row own apt hnd KK
  go_wp2_with fail
  go_ret
  exact ⟨ret_int (by unfold Config.cntV; omega), ⟨f0, f1, rfl, Q0.out, U0.out.1, U0.out.2, Q1.out, U1.out.1, U1.out.2⟩, OW.out, B1.out⟩

def Event.markV (k : Int) (x : EventD) : EventD := { x with ds := markL mkInt cnInt (k) x.ds }
def Event.cntV (x : EventD) : Nat := cntL cnInt x.ds
theorem Event.cntV_le (x : EventD) : Event.cntV x ≤ 8 * Event.sz x := by
  have h0 := cntL_le' cn_le_int x.ds
  unfold Event.cntV Event.sz
  omega

def MarkedEvent (lo : Nat) (w : World) (x : EventD) (h : EventH) (fp : List Nat) (m : Int) (e : Ending) (w' : World) : Prop := e = .returned (.int .i64 (m + (Event.cntV x : Nat))) ∧ Event.Is w' (Event.markV m x) h fp ∧ Own lo w' fp ∧ Apart fp w w'
end Go.Proofs.YtpcekmllmnfmmaaGreat.dat

/-
  DATA: Pane, []Pane: the notions; THE CONTRACTS OF the laws' own functions (copies, sizes, equality) over them. Written by tools/gendata.py.
-/
namespace Go.Proofs.YtpcekmllmnfmmaaGreat.dat
open Go.RowKit Go.Proofs.YtpcekmllmnfmmaaGreat.win
set_option linter.unusedVariables false

def mkPane (k : Int) (x : PaneD) : PaneD := { win := k, mask := k + 1, start := k + 2, key := markL mkInt cnInt (k + 3) x.key, a := { n := k + 3 + (cntL cnInt x.key : Nat), sm := k + 3 + (cntL cnInt x.key : Nat) + 1, mn := k + 3 + (cntL cnInt x.key : Nat) + 2, mx := k + 3 + (cntL cnInt x.key : Nat) + 3 } }
def cnPane (x : PaneD) : Nat := 7 + cntL cnInt x.key
theorem cn_le_Pane (x : PaneD) : cnPane x ≤ 8 * (Pane.sz x + 1) := by
  have h := cntL_le' cn_le_int x.key
  unfold cnPane Pane.sz
  omega

def Pane.markV (k : Int) (x : PaneD) : PaneD := { x with key := markL mkInt cnInt (k) x.key }
def Pane.cntV (x : PaneD) : Nat := cntL cnInt x.key
theorem Pane.cntV_le (x : PaneD) : Pane.cntV x ≤ 8 * Pane.sz x := by
  have h0 := cntL_le' cn_le_int x.key
  unfold Pane.cntV Pane.sz
  omega

def MarkedPane (lo : Nat) (w : World) (x : PaneD) (h : PaneH) (fp : List Nat) (m : Int) (e : Ending) (w' : World) : Prop := e = .returned (.int .i64 (m + (Pane.cntV x : Nat))) ∧ Pane.Is w' (Pane.markV m x) h fp ∧ Own lo w' fp ∧ Apart fp w w'
set_option maxRecDepth 100000 in
set_option maxHeartbeats 4000000 in
theorem mark_PaneS (a : Option Addr) (len cap : Nat) (l : List PaneD) (fp : List Nat) (m : Int) (lo : Nat) (w : World) (hmax : szL Pane.sz l ≤ 2000000) (hm0 : 0 ≤ m) (hm1 : m + (cntL cnPane l : Nat) ≤ 1099511627776) (hrow : GRow 8 RPane w a len l fp) (hown : Own lo w fp) :
    Calls Tryz.prog 15 #[.slice a len cap, .int .i64 m] w (Marked 8 RPane mkPane cnPane lo w a len l fp m) := by
  have hlm : len ≤ 2000000 := by rw [← hrow.1]; unfold szL at hmax; omega
  have HL := Lib.hid hrow.1
  have HR := Lib.hid hrow
  have HO := Lib.hid hown
  have HM := Lib.hid hm1
  have HZ := Lib.hid hmax
  clear hrow hown hm1 hmax
  go_enter Tryz.func15, Tryz.ntmps15
  go_wp2_with fail
  go_loopg [1, 5] len (fun r sk i wr => ∃ j : Nat, j + r = len ∧ sk = .int .i64 (m + (cntL cnPane (l.take j) : Nat)) ∧ i = .int .i64 j ∧ GRow 8 RPane wr a len (markH mkPane cnPane m l j) fp ∧ Own lo wr fp ∧ Apart fp w wr)
  case atStart => exact ⟨0, by omega, by simp [cntL], rfl, by rw [markH_zero]; exact HR.out, HO.out, Apart.refl _ _⟩
  case round =>
    obtain ⟨j, hj, rfl, rfl, hG, hown, hap⟩ := hrel
    clear HR HO
    obtain ⟨q, hq⟩ : ∃ q : Int, m + (cntL cnPane (l.take j) : Nat) = q := ⟨_, rfl⟩
    have hq0 : 0 ≤ q := by omega
    have HQ := Lib.hid hq
    rw [hq]
    by_cases hlt : j < len
    · have hlt2 : (j : Int) < (len : Int) := by omega
      have h02 : (0 : Int) ≤ (j : Int) := by omega
      obtain ⟨b, off, f, x, rfl, hx, hb, hbf, hf, hfn, ⟨cs, hcl, hR, hc⟩, hup⟩ := hG.update local_Pane hown.1 hlt
      rw [markH_at _ _ _ _ (by rw [HL.out]; omega)] at hx
      obtain ⟨h, rfl, hi⟩ := hR
      obtain ⟨f0, rfl, r0, u0, v0⟩ := hi
      have c0 : wr.cell? ⟨b, off + j * 8, none⟩ = some (.int .i64 x.win) := by have := hc 0 (by omega); first | (simp [Pane.list]; done) | simpa [Pane.list] using this
      have c1 : wr.cell? ⟨b, off + j * 8 + 1, none⟩ = some (.int .i64 x.mask) := by have := hc 1 (by omega); first | (simp [Pane.list]; done) | simpa [Pane.list] using this
      have c2 : wr.cell? ⟨b, off + j * 8 + 2, none⟩ = some (.int .i64 x.start) := by have := hc 2 (by omega); first | (simp [Pane.list]; done) | simpa [Pane.list] using this
      have c3 : wr.cell? ⟨b, off + j * 8 + 3, none⟩ = some (.slice h.keya h.keyl h.keyc) := by have := hc 3 (by omega); first | (simp [Pane.list]; done) | simpa [Pane.list] using this
      have c4 : wr.cell? ⟨b, off + j * 8 + 4, none⟩ = some (.int .i64 x.a.n) := by have := hc 4 (by omega); first | (simp [Pane.list]; done) | simpa [Pane.list] using this
      have c5 : wr.cell? ⟨b, off + j * 8 + 5, none⟩ = some (.int .i64 x.a.sm) := by have := hc 5 (by omega); first | (simp [Pane.list]; done) | simpa [Pane.list] using this
      have c6 : wr.cell? ⟨b, off + j * 8 + 6, none⟩ = some (.int .i64 x.a.mn) := by have := hc 6 (by omega); first | (simp [Pane.list]; done) | simpa [Pane.list] using this
      have c7 : wr.cell? ⟨b, off + j * 8 + 7, none⟩ = some (.int .i64 x.a.mx) := by have := hc 7 (by omega); first | (simp [Pane.list]; done) | simpa [Pane.list] using this
      have g0 : wr.frozen? ⟨b, off + j * 8, none⟩ = false := ((hown.2 b hbf).2).frozen _
      have g1 : wr.frozen? ⟨b, off + j * 8 + 1, none⟩ = false := ((hown.2 b hbf).2).frozen _
      have g2 : wr.frozen? ⟨b, off + j * 8 + 2, none⟩ = false := ((hown.2 b hbf).2).frozen _
      have hcnt : (cntL cnInt x.key : Nat) + 7 + q ≤ 1099511627776 := by have h1 := cntL_take_succ cnPane l hx; have h2 := cntL_take_le cnPane l (j + 1); have h3 := HM.out; have h4 : cnPane x = 7 + cntL cnInt x.key := rfl; omega
      have hq1 : q + 8 ≤ 2199023255552 := by omega
      have hkl : h.keyl ≤ 2000000 := by have h1 := sum_take_succ Pane.sz l hx; have h2 := sum_take_le Pane.sz l (j + 1); have h3 := HZ.out; have h5 := r0.1; unfold szL at h3; have h4 : Pane.sz x = x.key.length := rfl; omega
      have HX := Lib.hid hx
      have HU := Lib.hid hup
      have HO := Lib.hid hown
      have HA := Lib.hid hap
      have HB := Lib.hid hb
      have HF := Lib.hid hbf
      have HFF := Lib.hid hf
      have HFN := Lib.hid hfn
      have R0 := Lib.hid r0
      have U0 := Lib.hid (And.intro u0 v0)
      have HCN := Lib.hid hcnt
      have HKL := Lib.hid hkl
      have C0 := Lib.hid c0
      have C1 := Lib.hid c1
      have C2 := Lib.hid c2
      have C3 := Lib.hid c3
      have C4 := Lib.hid c4
      have C5 := Lib.hid c5
      have C6 := Lib.hid c6
      have C7 := Lib.hid c7
      clear hx hup hown hap hG hc hq hb hbf hf hfn hcl r0 u0 v0 hcnt hkl
      go_wp2_with fail
      refine calls_gen (fun W => Wrote b (off + j * 8) (off + j * 8 + 8) wr W ∧ W.cell? ⟨b, off + j * 8, none⟩ = some (.int .i64 q) ∧ W.cell? ⟨b, off + j * 8 + 1, none⟩ = some (.int .i64 (q + 1)) ∧ W.cell? ⟨b, off + j * 8 + 2, none⟩ = some (.int .i64 (q + 1 + 1)) ∧ W.cell? ⟨b, off + j * 8 + 3, none⟩ = some (.slice h.keya h.keyl h.keyc) ∧ W.cell? ⟨b, off + j * 8 + 4, none⟩ = some (.int .i64 x.a.n) ∧ W.cell? ⟨b, off + j * 8 + 5, none⟩ = some (.int .i64 x.a.sm) ∧ W.cell? ⟨b, off + j * 8 + 6, none⟩ = some (.int .i64 x.a.mn) ∧ W.cell? ⟨b, off + j * 8 + 7, none⟩ = some (.int .i64 x.a.mx)) ⟨(((Wrote.refl _ _ _ _).set _ (by omega) (by omega)).set _ (by omega) (by omega)).set _ (by omega) (by omega), (by simp [go_sem, C0.out] <;> omega), (by simp [go_sem, C1.out] <;> omega), (by simp [go_sem, C2.out] <;> omega), (by simp [go_sem, C3.out] <;> omega), (by simp [go_sem, C4.out] <;> omega), (by simp [go_sem, C5.out] <;> omega), (by simp [go_sem, C6.out] <;> omega), (by simp [go_sem, C7.out] <;> omega)⟩ ?_
      clear c0 c1 c2 c3 c4 c5 c6 c7 g0 g1 g2
      rintro W1 ⟨w1, d0, d1, d2, d3, d4, d5, d6, d7⟩
      have row1 := R0.out.keep (w' := W1) local_int (fun c hc => w1.block (R0.out.lt local_int c hc) (HFF.out c hc).2)
      have O1 := w1.own lo fp HO.out
      obtain ⟨q3, hq3⟩ : ∃ q3 : Int, (q + 1 + 1 + 1) = q3 := ⟨_, rfl⟩
      rw [hq3]
      refine (mark_IntS h.keya h.keyl h.keyc x.key f q3 lo W1 HKL.out (by omega) (by have := HCN.out; omega) row1 ⟨HFN.out, fun c hc => O1.2 c (HFF.out c hc).1⟩).mono ?_
      rintro e W2 ⟨rfl, row2, own2, ap2⟩
      have hbl1 : b < W1.heap.size := (O1.2 b HF.out).2.lt
      have hbs : W2.heap[b]? = W1.heap[b]? := ap2.block b hbl1 (fun hm => (HFF.out b hm).2 rfl)
      have O2 : Own lo W2 fp := O1.over ap2 own2
      obtain ⟨q2, hq2⟩ : ∃ q2 : Int, q3 + (cntL cnInt x.key : Nat) = q2 := ⟨_, rfl⟩
      have hq20 : 0 ≤ q2 := by omega
      have hq21 : q2 + 5 ≤ 2199023255552 := by have := HCN.out; omega
      rw [hq2]
      have HQ2 := Lib.hid (show q + 3 + (cntL cnInt x.key : Nat) = q2 by omega)
      have e0 : W2.cell? ⟨b, off + j * 8, none⟩ = some (.int .i64 q) := (cell_same hbs _).trans d0
      have e1 : W2.cell? ⟨b, off + j * 8 + 1, none⟩ = some (.int .i64 (q + 1)) := (cell_same hbs _).trans d1
      have e2 : W2.cell? ⟨b, off + j * 8 + 2, none⟩ = some (.int .i64 (q + 1 + 1)) := (cell_same hbs _).trans d2
      have e3 : W2.cell? ⟨b, off + j * 8 + 3, none⟩ = some (.slice h.keya h.keyl h.keyc) := (cell_same hbs _).trans d3
      have e4 : W2.cell? ⟨b, off + j * 8 + 4, none⟩ = some (.int .i64 x.a.n) := (cell_same hbs _).trans d4
      have e5 : W2.cell? ⟨b, off + j * 8 + 5, none⟩ = some (.int .i64 x.a.sm) := (cell_same hbs _).trans d5
      have e6 : W2.cell? ⟨b, off + j * 8 + 6, none⟩ = some (.int .i64 x.a.mn) := (cell_same hbs _).trans d6
      have e7 : W2.cell? ⟨b, off + j * 8 + 7, none⟩ = some (.int .i64 x.a.mx) := (cell_same hbs _).trans d7
      have g4 : W2.frozen? ⟨b, off + j * 8 + 4, none⟩ = false := ((O2.2 b HF.out).2).frozen _
      have g5 : W2.frozen? ⟨b, off + j * 8 + 5, none⟩ = false := ((O2.2 b HF.out).2).frozen _
      have g6 : W2.frozen? ⟨b, off + j * 8 + 6, none⟩ = false := ((O2.2 b HF.out).2).frozen _
      have g7 : W2.frozen? ⟨b, off + j * 8 + 7, none⟩ = false := ((O2.2 b HF.out).2).frozen _
      have E0 := Lib.hid e0
      have E1 := Lib.hid e1
      have E2 := Lib.hid e2
      have E3 := Lib.hid e3
      have E4 := Lib.hid e4
      have E5 := Lib.hid e5
      have E6 := Lib.hid e6
      have E7 := Lib.hid e7
      have W1W := Lib.hid w1
      have AP2 := Lib.hid ap2
      have RW2 := Lib.hid (show GRow 1 RInt W2 h.keya h.keyl (markL mkInt cnInt (q + 3) x.key) f by rw [show q + 3 = q3 by omega]; exact row2)
      have OO2 := Lib.hid O2
      have HBS := Lib.hid hbs
      have HBL1 := Lib.hid hbl1
      clear w1 d0 d1 d2 d3 d4 d5 d6 d7 row1 O1 row2 own2 ap2 hbl1 hbs O2 hq2 hq3
      go_wp2_with fail
      go_roundg (len - (j + 1))
      case measure => omega
      case rel =>
        have w2 := ((((Wrote.refl b (off + j * 8) (off + j * 8 + 8) W2).set (o := off + j * 8 + 4) (.int .i64 q2) (by omega) (by omega)).set (o := off + j * 8 + 5) (.int .i64 (q2 + 1)) (by omega) (by omega)).set (o := off + j * 8 + 6) (.int .i64 (q2 + 1 + 1)) (by omega) (by omega)).set (o := off + j * 8 + 7) (.int .i64 (q2 + 1 + 1 + 1)) (by omega) (by omega)
        refine ⟨j + 1, by omega, ?_, by go_num, ?_, ?_, ?_⟩
        · rw [cntL_take_succ cnPane l HX.out, ← HQ2.out, ← HQ.out, show cnPane x = 7 + cntL cnInt x.key from rfl]
          apply congrArg (Value.int IntKind.i64)
          omega
        · rw [← markH_succ mkPane cnPane m l HX.out, HQ.out]
          refine HU.out _ _ ?_ ?_ ?_ ?_
          · intro c hcf hcb hcn
            have hl := (HO.out.2 c hcf).2.lt
            have hl1 : c < W1.heap.size := Nat.lt_of_lt_of_le hl W1W.out.ap.size
            exact (w2.block (Nat.lt_of_lt_of_le hl1 AP2.out.size) hcb).trans ((AP2.out.block c hl1 hcn).trans (W1W.out.block hl hcb))
          · intro o ho
            exact (w2.cell o ho).trans ((cell_same HBS.out _).trans (W1W.out.cell o ho))
          · exact Nat.lt_of_lt_of_le (Nat.lt_of_lt_of_le HBL1.out AP2.out.size) w2.ap.size
          · refine ⟨Pane.list (mkPane q x) h, rfl, ⟨h, rfl, f, rfl, ?_, U0.out.1, U0.out.2⟩, ?_⟩
            · exact RW2.out.keep local_int (fun c hc => w2.block (RW2.out.lt local_int c hc) (HFF.out c hc).2)
            · intro i hi
              have : i = 0 ∨ i = 1 ∨ i = 2 ∨ i = 3 ∨ i = 4 ∨ i = 5 ∨ i = 6 ∨ i = 7 := by omega
              rcases this with rfl | rfl | rfl | rfl | rfl | rfl | rfl | rfl
              · simp [go_sem, E0.out, Pane.list, mkPane] <;> (have := HQ2.out; omega)
              · simp [go_sem, E1.out, Pane.list, mkPane] <;> (have := HQ2.out; omega)
              · simp [go_sem, E2.out, Pane.list, mkPane] <;> (have := HQ2.out; omega)
              · simp [go_sem, E3.out, Pane.list, mkPane] <;> (have := HQ2.out; omega)
              · simp [go_sem, E4.out, Pane.list, mkPane] <;> (have := HQ2.out; omega)
              · simp [go_sem, E5.out, Pane.list, mkPane] <;> (have := HQ2.out; omega)
              · simp [go_sem, E6.out, Pane.list, mkPane] <;> (have := HQ2.out; omega)
              · simp [go_sem, E7.out, Pane.list, mkPane] <;> (have := HQ2.out; omega)
        · exact w2.own lo fp OO2.out
        · exact HA.out.trans (((W1W.out.ap.mono (fun c hc => by simp at hc; rw [hc]; exact HF.out)).trans (AP2.out.mono (fun c hc => (HFF.out c hc).1))).trans (w2.ap.mono (fun c hc => by simp at hc; rw [hc]; exact HF.out)))
    · obtain rfl : j = len := by omega
      rw [markH_all _ _ _ _ (by rw [HL.out]; omega)] at hG
      have HE := Lib.hid (And.intro hG (And.intro hown hap))
      clear hG hown hap hq
      go_wp2_with fail
      go_ret
      exact ⟨ret_int (by rw [← HQ.out, cntL_all _ _ (by rw [HL.out]; omega)]), HE.out.1, HE.out.2.1, HE.out.2.2⟩

set_option maxRecDepth 100000 in
set_option maxHeartbeats 4000000 in
theorem held_PaneS (a : Option Addr) (len cap : Nat) (l : List PaneD) (fp : List Nat) (m : Int) (w : World) (hmax : szL Pane.sz l ≤ 2000000) (hm0 : 0 ≤ m) (hm1 : m + (cntL cnPane l : Nat) ≤ 1099511627776) (hrow : GRow 8 RPane w a len (markL mkPane cnPane m l) fp) :
    Calls Tryz.prog 16 #[.slice a len cap, .int .i64 m] w fun e w' => e = .returned (.int .i64 (m + (cntL cnPane l : Nat))) ∧ Below w.heap.size w w' := by
  have hl0 : l.length = len := by have := hrow.1; rwa [markL_length] at this
  have hlm : len ≤ 2000000 := by rw [← hl0]; unfold szL at hmax; omega
  have HL := Lib.hid hl0
  have HR := Lib.hid hrow
  have HM := Lib.hid hm1
  have HZ := Lib.hid hmax
  clear hrow hm1 hmax hl0
  go_enter Tryz.func16, Tryz.ntmps16
  go_wp2_with fail
  go_loopg [1, 5] len (fun r sk i wr => ∃ j : Nat, j + r = len ∧ sk = .int .i64 (m + (cntL cnPane (l.take j) : Nat)) ∧ i = .int .i64 j ∧ Below w.heap.size w wr)
  case atStart => exact ⟨0, by omega, by simp [cntL], rfl, Below.refl _ _⟩
  case round =>
    obtain ⟨j, hj, rfl, rfl, hb⟩ := hrel
    have HB := Lib.hid hb
    obtain ⟨q, hq⟩ : ∃ q : Int, m + (cntL cnPane (l.take j) : Nat) = q := ⟨_, rfl⟩
    have hq0 : 0 ≤ q := by omega
    have HQ := Lib.hid hq
    rw [hq]
    by_cases hlt : j < len
    · have hlt2 : (j : Int) < (len : Int) := by omega
      have h02 : (0 : Int) ≤ (j : Int) := by omega
      obtain ⟨b, off, x', f, cs, rfl, hbl, hx', hcl, hR, hc⟩ := HR.out.at hlt
      obtain ⟨x, hx⟩ : ∃ x, l[j]? = some x := ⟨_, List.getElem?_eq_getElem (by rw [HL.out]; exact hlt)⟩
      rw [markL_at mkPane cnPane l m hx, HQ.out] at hx'
      obtain rfl : mkPane q x = x' := Option.some.inj hx'
      obtain ⟨h, rfl, hi⟩ := hR
      obtain ⟨f0, rfl, r0, u0, v0⟩ := hi
      obtain ⟨q2, hq2⟩ : ∃ q2 : Int, q + 3 + (cntL cnInt x.key : Nat) = q2 := ⟨_, rfl⟩
      have c0 : wr.cell? ⟨b, off + j * 8, none⟩ = some (.int .i64 q) := by refine (show wr.cell? ⟨b, off + j * 8, none⟩ = _ from (hb.cell (p := ⟨b, off + j * 8 + 0, none⟩) hbl).trans (hc 0 (by omega))).trans ?_; simp [Pane.list, mkPane, hq2] <;> omega
      have c1 : wr.cell? ⟨b, off + j * 8 + 1, none⟩ = some (.int .i64 (q + 1)) := by refine (show wr.cell? ⟨b, off + j * 8 + 1, none⟩ = _ from (hb.cell (p := ⟨b, off + j * 8 + 1, none⟩) hbl).trans (hc 1 (by omega))).trans ?_; simp [Pane.list, mkPane, hq2] <;> omega
      have c2 : wr.cell? ⟨b, off + j * 8 + 2, none⟩ = some (.int .i64 (q + 1 + 1)) := by refine (show wr.cell? ⟨b, off + j * 8 + 2, none⟩ = _ from (hb.cell (p := ⟨b, off + j * 8 + 2, none⟩) hbl).trans (hc 2 (by omega))).trans ?_; simp [Pane.list, mkPane, hq2] <;> omega
      have c3 : wr.cell? ⟨b, off + j * 8 + 3, none⟩ = some (.slice h.keya h.keyl h.keyc) := by refine (show wr.cell? ⟨b, off + j * 8 + 3, none⟩ = _ from (hb.cell (p := ⟨b, off + j * 8 + 3, none⟩) hbl).trans (hc 3 (by omega))).trans ?_; simp [Pane.list, mkPane, hq2] <;> omega
      have c4 : wr.cell? ⟨b, off + j * 8 + 4, none⟩ = some (.int .i64 q2) := by refine (show wr.cell? ⟨b, off + j * 8 + 4, none⟩ = _ from (hb.cell (p := ⟨b, off + j * 8 + 4, none⟩) hbl).trans (hc 4 (by omega))).trans ?_; simp [Pane.list, mkPane, hq2] <;> omega
      have c5 : wr.cell? ⟨b, off + j * 8 + 5, none⟩ = some (.int .i64 (q2 + 1)) := by refine (show wr.cell? ⟨b, off + j * 8 + 5, none⟩ = _ from (hb.cell (p := ⟨b, off + j * 8 + 5, none⟩) hbl).trans (hc 5 (by omega))).trans ?_; simp [Pane.list, mkPane, hq2] <;> omega
      have c6 : wr.cell? ⟨b, off + j * 8 + 6, none⟩ = some (.int .i64 (q2 + 1 + 1)) := by refine (show wr.cell? ⟨b, off + j * 8 + 6, none⟩ = _ from (hb.cell (p := ⟨b, off + j * 8 + 6, none⟩) hbl).trans (hc 6 (by omega))).trans ?_; simp [Pane.list, mkPane, hq2] <;> omega
      have c7 : wr.cell? ⟨b, off + j * 8 + 7, none⟩ = some (.int .i64 (q2 + 1 + 1 + 1)) := by refine (show wr.cell? ⟨b, off + j * 8 + 7, none⟩ = _ from (hb.cell (p := ⟨b, off + j * 8 + 7, none⟩) hbl).trans (hc 7 (by omega))).trans ?_; simp [Pane.list, mkPane, hq2] <;> omega
      have hcnt : (cntL cnInt x.key : Nat) + 7 + q ≤ 1099511627776 := by have h1 := cntL_take_succ cnPane l hx; have h2 := cntL_take_le cnPane l (j + 1); have h3 := HM.out; have h4 : cnPane x = 7 + cntL cnInt x.key := rfl; omega
      have hq1 : q + 8 ≤ 2199023255552 := by omega
      have hq20 : 0 ≤ q2 := by omega
      have hq21 : q2 + 5 ≤ 2199023255552 := by omega
      have hkl : h.keyl ≤ 2000000 := by have h1 := sum_take_succ Pane.sz l hx; have h2 := sum_take_le Pane.sz l (j + 1); have h3 := HZ.out; have h5 : x.key.length = h.keyl := (by have := r0.1; rw [show (mkPane q x).key = markL mkInt cnInt (q + 3) x.key from rfl, markL_length] at this; exact this); unfold szL at h3; have h4 : Pane.sz x = x.key.length := rfl; omega
      have HX := Lib.hid hx
      have R0 := Lib.hid (show GRow 1 RInt w h.keya h.keyl (markL mkInt cnInt (q + 3) x.key) f from r0)
      have HCN := Lib.hid hcnt
      have HKL := Lib.hid hkl
      have HQ2 := Lib.hid hq2
      have HBL := Lib.hid hbl
      have C0 := Lib.hid c0
      have C1 := Lib.hid c1
      have C2 := Lib.hid c2
      have C3 := Lib.hid c3
      have C4 := Lib.hid c4
      have C5 := Lib.hid c5
      have C6 := Lib.hid c6
      have C7 := Lib.hid c7
      clear hx hx' hb hc hq hcl r0 u0 v0 hcnt hkl hq2 hbl
      go_wp2_with fail
      clear c0 c1 c2 c3 c4 c5 c6 c7
      obtain ⟨q3, hq3⟩ : ∃ q3 : Int, (q + 1 + 1 + 1) = q3 := ⟨_, rfl⟩
      rw [hq3]
      have R3 := Lib.hid (show GRow 1 RInt w h.keya h.keyl (markL mkInt cnInt q3 x.key) f by have := R0.out; rwa [show q + 3 = q3 by omega] at this)
      refine (held_IntS h.keya h.keyl h.keyc x.key f q3 wr HKL.out (by omega) (by have := HCN.out; omega) (R3.out.below local_int HB.out)).mono ?_
      rintro e w3 ⟨rfl, b3⟩
      rw [show q3 + ((cntL cnInt x.key : Nat) : Int) = q2 by have := HQ2.out; omega]
      have hlr : b < wr.heap.size := Nat.lt_of_lt_of_le HBL.out HB.out.size
      have e4 := (b3.cell (p := ⟨b, off + j * 8 + 4, none⟩) hlr).trans C4.out
      have e5 := (b3.cell (p := ⟨b, off + j * 8 + 5, none⟩) hlr).trans C5.out
      have e6 := (b3.cell (p := ⟨b, off + j * 8 + 6, none⟩) hlr).trans C6.out
      have e7 := (b3.cell (p := ⟨b, off + j * 8 + 7, none⟩) hlr).trans C7.out
      have B3 := Lib.hid (HB.out.trans (b3.mono HB.out.size))
      clear b3 hlr
      go_wp2_with fail
      go_roundg (len - (j + 1))
      case measure => omega
      case rel =>
        refine ⟨j + 1, by omega, ?_, by go_num, B3.out⟩
        rw [cntL_take_succ cnPane l HX.out, ← HQ2.out, ← HQ.out, show cnPane x = 7 + cntL cnInt x.key from rfl]
        apply congrArg (Value.int IntKind.i64)
        omega
    · obtain rfl : j = len := by omega
      clear hb hq
      go_wp2_with fail
      go_ret
      exact ⟨ret_int (by rw [← HQ.out, cntL_all _ _ (by rw [HL.out]; omega)]), HB.out⟩

end Go.Proofs.YtpcekmllmnfmmaaGreat.dat

/-
  THE CONTRACT OF RollUp of the model where nothing is rolled up.
-/
namespace Go.Proofs.YtpcekmllmnfmmaaGreat.dat
open Go.RowKit Go.Proofs.YtpcekmllmnfmmaaGreat.win
set_option maxRecDepth 100000 in
set_option maxHeartbeats 8000000 in
theorem spec_RollUp_no (c : ConfD) (ch : ConfigH) (cf : List Nat) (a : Option Addr) (len cap : Nat) (l : List PaneD) (fp : List Nat) (fr tt : Int) (w : World) (hc : Config.Is w c ch cf) (hrow : GRow 8 RPane w a len l fp) (hcap : len ≤ cap) (hcm : cap ≤ 9223372036854775807)
    (_ : (Lit.int .i64 fr).wf = true) (_ : (Lit.int .i64 tt).wf = true) (hzc : Config.sz c ≤ 2000000) (hmax : szL Pane.sz l ≤ 2000000) (hno : ¬ (panesB c l && rollsB c fr tt) = true) :
    Calls Tryz.prog 8 #[.agg (Config.list c ch).toArray, .slice a len cap, .int .i64 fr, .int .i64 tt] w (GiveP w (rollD c l fr tt)) := by
  obtain ⟨wsa, wsl, wsc, msa, msl, msc⟩ := ch
  have hml : c.ms.length = msl := by obtain ⟨f0, f1, _, r0, u0, v0, r1, u1, v1⟩ := hc; exact r1.1
  have hmb : msl ≤ 2000000 := by rw [← hml]; unfold Config.sz at hzc; omega
  have hlen : len ≤ 2000000 := by rw [← hrow.1]; unfold szL at hmax; omega
  have HC := Lib.hid hc
  have HG := Lib.hid hrow
  have HL := Lib.hid hrow.1
  have HU := Lib.hid (And.intro hcap hcm)
  have HZ := Lib.hid hzc
  have HM := Lib.hid hmax
  have HML := Lib.hid hml
  have HP := Lib.hid (fun W h1 h2 => spec_PanesOk c ⟨wsa, wsl, wsc, msa, msl, msc⟩ cf a len cap l fp W h1 h2 hcap hcm hzc hmax)
  clear hc hrow hcap hcm hzc hmax hml
  obtain ⟨pd, hpd⟩ : ∃ pd, rollD c l fr tt = pd := ⟨_, rfl⟩
  unfold rollD rollsB at hpd
  rw [HML.out] at hpd
  have HPD := Lib.hid hpd
  rw [show rollD c l fr tt = pd from by unfold rollD rollsB; rw [HML.out]; exact hpd]
  clear hpd
  simp only [Config.list] at *
  cases p1 : panesB c l with
  | false =>
    have P1 := Lib.hid p1
    clear p1
    go_enter Tryz.func8, Tryz.ntmps8
    go_wp2_with fail
    refine wp_gen (fun W => Below w.heap.size w W ∧ Blk W w.heap.size 33 [.int .i64 c.d, .slice wsa wsl wsc, .slice msa msl msc, .int .i64 c.dl, .int .i64 c.lt]) ⟨by repeat (first | exact Below.refl _ _ | refine Below.setCell ?_ (by first | omega | (simp; done) | (simp; omega)) _ | refine Below.alloc ?_ (by first | omega | (simp; done) | (simp; omega)) _ | apply Below.drew), by with_reducible (repeat (first | (refine blk_new_at _ _ _ _ ?_; first | rfl | (simp; done)) | refine Blk.alloc ?_ _ | apply Blk.drew | refine Blk.setOther ?_ (by first | (simp; done) | (simp; omega)) _))⟩ ?_
    rintro W1 ⟨b1, k1⟩
    have B1 := Lib.hid b1
    have K1 := Lib.hid k1
    have HMC := Lib.hid (fun w' (h : Below W1.heap.size W1 w') => keep5 (w' := w') k1 (h.block _ k1.lt))
    have S1 := HMC.out W1 (Below.refl _ _)
    clear k1 b1
    refine mix.wp_region_mixh (fun w' => w'.cell? ⟨w.heap.size, 0, none⟩ = some (.int .i64 c.d) ∧ w'.cell? ⟨w.heap.size, 1, none⟩ = some (.slice wsa wsl wsc) ∧ w'.cell? ⟨w.heap.size, 2, none⟩ = some (.slice msa msl msc) ∧ w'.cell? ⟨w.heap.size, 3, none⟩ = some (.int .i64 c.dl) ∧ w'.cell? ⟨w.heap.size, 4, none⟩ = some (.int .i64 c.lt)) [2,10,19,33] (by kernel_rfl) (by kernel_rfl) (fun _ _ d _ _ h => by cases d <;> exact h) S1 ?_
    clear S1
    (repeat (first | (apply mix.held_take; (· rfl); (· rfl); (· (intro w' hSw; (try dsimp only at hSw); go_simp; try with_reducible rfl)); (try simp only [Act.put, List.setIfInBounds_toArray, List.set_cons_zero, List.set_cons_succ])) | ((refine mix.held_pass rfl (by rfl) ?_); (try simp only [Act.put, List.setIfInBounds_toArray, List.set_cons_zero, List.set_cons_succ]))))
    refine mix.held_hard rfl (fun K hK => ?_); go_simp
    refine (HP.out _ (HC.out.below B1.out.drew) (HG.out.below local_Pane B1.out.drew)).mono ?_
    rintro e W2 ⟨rfl, b2⟩
    rw [P1.out]
    have hb2 : Below W1.heap.size W1 W2 := (Below.refl _ _).drew.trans b2
    have B2 := Lib.hid (B1.out.trans (hb2.mono B1.out.size))
    have K2 := Lib.hid (K1.out.below hb2 K1.out.lt)
    have S2 := Lib.hid (HMC.out W2 hb2)
    clear b2 hb2
    refine hK.out _ _ (S2.out) (fun hSw => ?_); clear hK K hSw; (try simp only [Act.put, List.setIfInBounds_toArray, List.set_cons_zero, List.set_cons_succ])
    (repeat (first | (apply mix.held_take; (· rfl); (· rfl); (· (intro w' hSw; (try dsimp only at hSw); go_simp; try with_reducible rfl)); (try simp only [Act.put, List.setIfInBounds_toArray, List.set_cons_zero, List.set_cons_succ])) | ((refine mix.held_pass rfl (by rfl) ?_); (try simp only [Act.put, List.setIfInBounds_toArray, List.set_cons_zero, List.set_cons_succ]))))
    refine mix.held_hard rfl (fun K hK => ?_); go_simp
    refine hK.out _ _ (S2.out) (fun hSw => ?_); clear hK K hSw; (try simp only [Act.put, List.setIfInBounds_toArray, List.set_cons_zero, List.set_cons_succ])
    (repeat (first | (apply mix.held_take; (· rfl); (· rfl); (· (intro w' hSw; (try dsimp only at hSw); go_simp; try with_reducible rfl)); (try simp only [Act.put, List.setIfInBounds_toArray, List.set_cons_zero, List.set_cons_succ])) | ((refine mix.held_pass rfl (by rfl) ?_); (try simp only [Act.put, List.setIfInBounds_toArray, List.set_cons_zero, List.set_cons_succ]))))
    refine mix.held_hard rfl (fun K hK => ?_); go_simp
    refine hK.out _ _ (S2.out) (fun hSw => ?_); clear hK K hSw; (try simp only [Act.put, List.setIfInBounds_toArray, List.set_cons_zero, List.set_cons_succ])
    (repeat (first | (apply mix.held_take; (· rfl); (· rfl); (· (intro w' hSw; (try dsimp only at hSw); go_simp; try with_reducible rfl)); (try simp only [Act.put, List.setIfInBounds_toArray, List.set_cons_zero, List.set_cons_succ])) | ((refine mix.held_pass rfl (by rfl) ?_); (try simp only [Act.put, List.setIfInBounds_toArray, List.set_cons_zero, List.set_cons_succ]))))
    refine mix.held_hard rfl (fun K hK => ?_); go_simp
    refine hK.out _ _ (S2.out) (fun hSw => ?_); clear hK K hSw; (try simp only [Act.put, List.setIfInBounds_toArray, List.set_cons_zero, List.set_cons_succ])
    (repeat (first | (apply mix.held_take; (· rfl); (· rfl); (· (intro w' hSw; (try dsimp only at hSw); go_simp; try with_reducible rfl)); (try simp only [Act.put, List.setIfInBounds_toArray, List.set_cons_zero, List.set_cons_succ])) | ((refine mix.held_pass rfl (by rfl) ?_); (try simp only [Act.put, List.setIfInBounds_toArray, List.set_cons_zero, List.set_cons_succ]))))
    refine mix.held_end ?_
    go_wp2_with fail
    go_ret
    rw [← HPD.out, P1.out]
    exact give_none B2.out
  | true =>
  have P1 := Lib.hid p1
  have hok : confD c = true := by unfold panesB at p1; simp only [Bool.and_eq_true] at p1; exact p1.1.1
  have HOK := Lib.hid hok
  clear p1 hok
  cases p2 : placeB msl fr with
  | false =>
    have P2 := Lib.hid p2
    have P2' := Lib.hid (between_place.trans p2)
    clear p2
    go_enter Tryz.func8, Tryz.ntmps8
    go_wp2_with fail
    refine wp_gen (fun W => Below w.heap.size w W ∧ Blk W w.heap.size 33 [.int .i64 c.d, .slice wsa wsl wsc, .slice msa msl msc, .int .i64 c.dl, .int .i64 c.lt]) ⟨by repeat (first | exact Below.refl _ _ | refine Below.setCell ?_ (by first | omega | (simp; done) | (simp; omega)) _ | refine Below.alloc ?_ (by first | omega | (simp; done) | (simp; omega)) _ | apply Below.drew), by with_reducible (repeat (first | (refine blk_new_at _ _ _ _ ?_; first | rfl | (simp; done)) | refine Blk.alloc ?_ _ | apply Blk.drew | refine Blk.setOther ?_ (by first | (simp; done) | (simp; omega)) _))⟩ ?_
    rintro W1 ⟨b1, k1⟩
    have B1 := Lib.hid b1
    have K1 := Lib.hid k1
    have HMC := Lib.hid (fun w' (h : Below W1.heap.size W1 w') => keep5 (w' := w') k1 (h.block _ k1.lt))
    have S1 := HMC.out W1 (Below.refl _ _)
    clear k1 b1
    refine mix.wp_region_mixh (fun w' => w'.cell? ⟨w.heap.size, 0, none⟩ = some (.int .i64 c.d) ∧ w'.cell? ⟨w.heap.size, 1, none⟩ = some (.slice wsa wsl wsc) ∧ w'.cell? ⟨w.heap.size, 2, none⟩ = some (.slice msa msl msc) ∧ w'.cell? ⟨w.heap.size, 3, none⟩ = some (.int .i64 c.dl) ∧ w'.cell? ⟨w.heap.size, 4, none⟩ = some (.int .i64 c.lt)) [2,10,19,33] (by kernel_rfl) (by kernel_rfl) (fun _ _ d _ _ h => by cases d <;> exact h) S1 ?_
    clear S1
    (repeat (first | (apply mix.held_take; (· rfl); (· rfl); (· (intro w' hSw; (try dsimp only at hSw); go_simp; try with_reducible rfl)); (try simp only [Act.put, List.setIfInBounds_toArray, List.set_cons_zero, List.set_cons_succ])) | ((refine mix.held_pass rfl (by rfl) ?_); (try simp only [Act.put, List.setIfInBounds_toArray, List.set_cons_zero, List.set_cons_succ]))))
    refine mix.held_hard rfl (fun K hK => ?_); go_simp
    refine (HP.out _ (HC.out.below B1.out.drew) (HG.out.below local_Pane B1.out.drew)).mono ?_
    rintro e W2 ⟨rfl, b2⟩
    rw [P1.out]
    have hb2 : Below W1.heap.size W1 W2 := (Below.refl _ _).drew.trans b2
    have B2 := Lib.hid (B1.out.trans (hb2.mono B1.out.size))
    have K2 := Lib.hid (K1.out.below hb2 K1.out.lt)
    have S2 := Lib.hid (HMC.out W2 hb2)
    clear b2 hb2
    refine hK.out _ _ (S2.out) (fun hSw => ?_); clear hK K hSw; (try simp only [Act.put, List.setIfInBounds_toArray, List.set_cons_zero, List.set_cons_succ])
    (repeat (first | (apply mix.held_take; (· rfl); (· rfl); (· (intro w' hSw; (try dsimp only at hSw); go_simp; try with_reducible rfl)); (try simp only [Act.put, List.setIfInBounds_toArray, List.set_cons_zero, List.set_cons_succ])) | ((refine mix.held_pass rfl (by rfl) ?_); (try simp only [Act.put, List.setIfInBounds_toArray, List.set_cons_zero, List.set_cons_succ]))))
    refine mix.held_hard rfl (fun K hK => ?_); go_simp
    rw [show IntKind.i64.wrap ((msl : Int) - 1) = (msl : Int) - 1 from IntWalk.i64_in _ (by omega)]
    refine (between_is P2'.out _).mono ?_
    rintro e W3 ⟨rfl, rfl⟩
    refine hK.out _ _ (S2.out) (fun hSw => ?_); clear hK K hSw; (try simp only [Act.put, List.setIfInBounds_toArray, List.set_cons_zero, List.set_cons_succ])
    (repeat (first | (apply mix.held_take; (· rfl); (· rfl); (· (intro w' hSw; (try dsimp only at hSw); go_simp; try with_reducible rfl)); (try simp only [Act.put, List.setIfInBounds_toArray, List.set_cons_zero, List.set_cons_succ])) | ((refine mix.held_pass rfl (by rfl) ?_); (try simp only [Act.put, List.setIfInBounds_toArray, List.set_cons_zero, List.set_cons_succ]))))
    refine mix.held_hard rfl (fun K hK => ?_); go_simp
    refine hK.out _ _ (S2.out) (fun hSw => ?_); clear hK K hSw; (try simp only [Act.put, List.setIfInBounds_toArray, List.set_cons_zero, List.set_cons_succ])
    (repeat (first | (apply mix.held_take; (· rfl); (· rfl); (· (intro w' hSw; (try dsimp only at hSw); go_simp; try with_reducible rfl)); (try simp only [Act.put, List.setIfInBounds_toArray, List.set_cons_zero, List.set_cons_succ])) | ((refine mix.held_pass rfl (by rfl) ?_); (try simp only [Act.put, List.setIfInBounds_toArray, List.set_cons_zero, List.set_cons_succ]))))
    refine mix.held_hard rfl (fun K hK => ?_); go_simp
    refine hK.out _ _ (S2.out) (fun hSw => ?_); clear hK K hSw; (try simp only [Act.put, List.setIfInBounds_toArray, List.set_cons_zero, List.set_cons_succ])
    (repeat (first | (apply mix.held_take; (· rfl); (· rfl); (· (intro w' hSw; (try dsimp only at hSw); go_simp; try with_reducible rfl)); (try simp only [Act.put, List.setIfInBounds_toArray, List.set_cons_zero, List.set_cons_succ])) | ((refine mix.held_pass rfl (by rfl) ?_); (try simp only [Act.put, List.setIfInBounds_toArray, List.set_cons_zero, List.set_cons_succ]))))
    refine mix.held_end ?_
    go_wp2_with fail
    go_ret
    rw [← HPD.out, P1.out, P2.out]
    exact give_none B2.out
  | true =>
  have P2 := Lib.hid p2
  have P2' := Lib.hid (between_place.trans p2)
  obtain ⟨i, rfl, hi⟩ := placeB_nat p2
  clear p2
  cases p3 : placeB msl tt with
  | false =>
    have P3 := Lib.hid p3
    have P3' := Lib.hid (between_place.trans p3)
    clear p3
    go_enter Tryz.func8, Tryz.ntmps8
    go_wp2_with fail
    refine wp_gen (fun W => Below w.heap.size w W ∧ Blk W w.heap.size 33 [.int .i64 c.d, .slice wsa wsl wsc, .slice msa msl msc, .int .i64 c.dl, .int .i64 c.lt]) ⟨by repeat (first | exact Below.refl _ _ | refine Below.setCell ?_ (by first | omega | (simp; done) | (simp; omega)) _ | refine Below.alloc ?_ (by first | omega | (simp; done) | (simp; omega)) _ | apply Below.drew), by with_reducible (repeat (first | (refine blk_new_at _ _ _ _ ?_; first | rfl | (simp; done)) | refine Blk.alloc ?_ _ | apply Blk.drew | refine Blk.setOther ?_ (by first | (simp; done) | (simp; omega)) _))⟩ ?_
    rintro W1 ⟨b1, k1⟩
    have B1 := Lib.hid b1
    have K1 := Lib.hid k1
    have HMC := Lib.hid (fun w' (h : Below W1.heap.size W1 w') => keep5 (w' := w') k1 (h.block _ k1.lt))
    have S1 := HMC.out W1 (Below.refl _ _)
    clear k1 b1
    refine mix.wp_region_mixh (fun w' => w'.cell? ⟨w.heap.size, 0, none⟩ = some (.int .i64 c.d) ∧ w'.cell? ⟨w.heap.size, 1, none⟩ = some (.slice wsa wsl wsc) ∧ w'.cell? ⟨w.heap.size, 2, none⟩ = some (.slice msa msl msc) ∧ w'.cell? ⟨w.heap.size, 3, none⟩ = some (.int .i64 c.dl) ∧ w'.cell? ⟨w.heap.size, 4, none⟩ = some (.int .i64 c.lt)) [2,10,19,33] (by kernel_rfl) (by kernel_rfl) (fun _ _ d _ _ h => by cases d <;> exact h) S1 ?_
    clear S1
    (repeat (first | (apply mix.held_take; (· rfl); (· rfl); (· (intro w' hSw; (try dsimp only at hSw); go_simp; try with_reducible rfl)); (try simp only [Act.put, List.setIfInBounds_toArray, List.set_cons_zero, List.set_cons_succ])) | ((refine mix.held_pass rfl (by rfl) ?_); (try simp only [Act.put, List.setIfInBounds_toArray, List.set_cons_zero, List.set_cons_succ]))))
    refine mix.held_hard rfl (fun K hK => ?_); go_simp
    refine (HP.out _ (HC.out.below B1.out.drew) (HG.out.below local_Pane B1.out.drew)).mono ?_
    rintro e W2 ⟨rfl, b2⟩
    rw [P1.out]
    have hb2 : Below W1.heap.size W1 W2 := (Below.refl _ _).drew.trans b2
    have B2 := Lib.hid (B1.out.trans (hb2.mono B1.out.size))
    have K2 := Lib.hid (K1.out.below hb2 K1.out.lt)
    have S2 := Lib.hid (HMC.out W2 hb2)
    clear b2 hb2
    refine hK.out _ _ (S2.out) (fun hSw => ?_); clear hK K hSw; (try simp only [Act.put, List.setIfInBounds_toArray, List.set_cons_zero, List.set_cons_succ])
    (repeat (first | (apply mix.held_take; (· rfl); (· rfl); (· (intro w' hSw; (try dsimp only at hSw); go_simp; try with_reducible rfl)); (try simp only [Act.put, List.setIfInBounds_toArray, List.set_cons_zero, List.set_cons_succ])) | ((refine mix.held_pass rfl (by rfl) ?_); (try simp only [Act.put, List.setIfInBounds_toArray, List.set_cons_zero, List.set_cons_succ]))))
    refine mix.held_hard rfl (fun K hK => ?_); go_simp
    rw [show IntKind.i64.wrap ((msl : Int) - 1) = (msl : Int) - 1 from IntWalk.i64_in _ (by omega)]
    refine (between_is P2'.out _).mono ?_
    rintro e W3 ⟨rfl, rfl⟩
    refine hK.out _ _ (S2.out) (fun hSw => ?_); clear hK K hSw; (try simp only [Act.put, List.setIfInBounds_toArray, List.set_cons_zero, List.set_cons_succ])
    (repeat (first | (apply mix.held_take; (· rfl); (· rfl); (· (intro w' hSw; (try dsimp only at hSw); go_simp; try with_reducible rfl)); (try simp only [Act.put, List.setIfInBounds_toArray, List.set_cons_zero, List.set_cons_succ])) | ((refine mix.held_pass rfl (by rfl) ?_); (try simp only [Act.put, List.setIfInBounds_toArray, List.set_cons_zero, List.set_cons_succ]))))
    refine mix.held_hard rfl (fun K hK => ?_); go_simp
    rw [show IntKind.i64.wrap ((msl : Int) - 1) = (msl : Int) - 1 from IntWalk.i64_in _ (by omega)]
    refine (between_is P3'.out _).mono ?_
    rintro e W3 ⟨rfl, rfl⟩
    refine hK.out _ _ (S2.out) (fun hSw => ?_); clear hK K hSw; (try simp only [Act.put, List.setIfInBounds_toArray, List.set_cons_zero, List.set_cons_succ])
    (repeat (first | (apply mix.held_take; (· rfl); (· rfl); (· (intro w' hSw; (try dsimp only at hSw); go_simp; try with_reducible rfl)); (try simp only [Act.put, List.setIfInBounds_toArray, List.set_cons_zero, List.set_cons_succ])) | ((refine mix.held_pass rfl (by rfl) ?_); (try simp only [Act.put, List.setIfInBounds_toArray, List.set_cons_zero, List.set_cons_succ]))))
    refine mix.held_hard rfl (fun K hK => ?_); go_simp
    refine hK.out _ _ (S2.out) (fun hSw => ?_); clear hK K hSw; (try simp only [Act.put, List.setIfInBounds_toArray, List.set_cons_zero, List.set_cons_succ])
    (repeat (first | (apply mix.held_take; (· rfl); (· rfl); (· (intro w' hSw; (try dsimp only at hSw); go_simp; try with_reducible rfl)); (try simp only [Act.put, List.setIfInBounds_toArray, List.set_cons_zero, List.set_cons_succ])) | ((refine mix.held_pass rfl (by rfl) ?_); (try simp only [Act.put, List.setIfInBounds_toArray, List.set_cons_zero, List.set_cons_succ]))))
    refine mix.held_end ?_
    go_wp2_with fail
    go_ret
    rw [← HPD.out, P1.out, P2.out, P3.out]
    exact give_none B2.out
  | true =>
  have P3 := Lib.hid p3
  have P3' := Lib.hid (between_place.trans p3)
  obtain ⟨j, rfl, hj⟩ := placeB_nat p3
  clear p3
  obtain ⟨mb, mo, hma, hmbl, ci, ui⟩ := cell_mask HC.out hi
  obtain ⟨mb', mo', hma', hmbl', cj, uj⟩ := cell_mask HC.out hj
  rw [hma] at hma'
  cases hma'
  have UI := Lib.hid (And.intro hi ui)
  have UJ := Lib.hid (And.intro hj uj)
  have hi2 : (i : Int) < (msl : Int) := by omega
  have hj2 : (j : Int) < (msl : Int) := by omega
  have hi0 : (0 : Int) ≤ (i : Int) := by omega
  have hj0 : (0 : Int) ≤ (j : Int) := by omega
  clear ui uj hi hj hmbl'
  subst hma
  cases p4 : maskB (maskN c j) (maskN c i) with
  | false =>
    have P4 := Lib.hid p4
    clear p4
    go_enter Tryz.func8, Tryz.ntmps8
    go_wp2_with fail
    refine wp_gen (fun W => Below w.heap.size w W ∧ Blk W w.heap.size 33 [.int .i64 c.d, .slice wsa wsl wsc, .slice (some ⟨mb, mo, none⟩) msl msc, .int .i64 c.dl, .int .i64 c.lt]) ⟨by repeat (first | exact Below.refl _ _ | refine Below.setCell ?_ (by first | omega | (simp; done) | (simp; omega)) _ | refine Below.alloc ?_ (by first | omega | (simp; done) | (simp; omega)) _ | apply Below.drew), by with_reducible (repeat (first | (refine blk_new_at _ _ _ _ ?_; first | rfl | (simp; done)) | refine Blk.alloc ?_ _ | apply Blk.drew | refine Blk.setOther ?_ (by first | (simp; done) | (simp; omega)) _))⟩ ?_
    rintro W1 ⟨b1, k1⟩
    have B1 := Lib.hid b1
    have K1 := Lib.hid k1
    have HMC := Lib.hid (fun w' (h : Below W1.heap.size W1 w') => keep7 (w' := w') k1 ((b1.cell (p := ⟨mb, mo + i, none⟩) hmbl).trans ci) ((b1.cell (p := ⟨mb, mo + j, none⟩) hmbl).trans cj) (h.block _ k1.lt) (h.block _ (Nat.lt_of_lt_of_le hmbl b1.size)))
    have S1 := HMC.out W1 (Below.refl _ _)
    clear k1 b1
    refine mix.wp_region_mixh (fun w' => w'.cell? ⟨w.heap.size, 0, none⟩ = some (.int .i64 c.d) ∧ w'.cell? ⟨w.heap.size, 1, none⟩ = some (.slice wsa wsl wsc) ∧ w'.cell? ⟨w.heap.size, 2, none⟩ = some (.slice (some ⟨mb, mo, none⟩) msl msc) ∧ w'.cell? ⟨w.heap.size, 3, none⟩ = some (.int .i64 c.dl) ∧ w'.cell? ⟨w.heap.size, 4, none⟩ = some (.int .i64 c.lt) ∧ w'.cell? ⟨mb, mo + i, none⟩ = some (.int .i64 (maskN c i)) ∧ w'.cell? ⟨mb, mo + j, none⟩ = some (.int .i64 (maskN c j))) [2,10,19,33] (by kernel_rfl) (by kernel_rfl) (fun _ _ d _ _ h => by cases d <;> exact h) S1 ?_
    clear S1
    (repeat (first | (apply mix.held_take; (· rfl); (· rfl); (· (intro w' hSw; (try dsimp only at hSw); go_simp; try with_reducible rfl)); (try simp only [Act.put, List.setIfInBounds_toArray, List.set_cons_zero, List.set_cons_succ])) | ((refine mix.held_pass rfl (by rfl) ?_); (try simp only [Act.put, List.setIfInBounds_toArray, List.set_cons_zero, List.set_cons_succ]))))
    refine mix.held_hard rfl (fun K hK => ?_); go_simp
    refine (HP.out _ (HC.out.below B1.out.drew) (HG.out.below local_Pane B1.out.drew)).mono ?_
    rintro e W2 ⟨rfl, b2⟩
    rw [P1.out]
    have hb2 : Below W1.heap.size W1 W2 := (Below.refl _ _).drew.trans b2
    have B2 := Lib.hid (B1.out.trans (hb2.mono B1.out.size))
    have K2 := Lib.hid (K1.out.below hb2 K1.out.lt)
    have S2 := Lib.hid (HMC.out W2 hb2)
    clear b2 hb2
    refine hK.out _ _ (S2.out) (fun hSw => ?_); clear hK K hSw; (try simp only [Act.put, List.setIfInBounds_toArray, List.set_cons_zero, List.set_cons_succ])
    (repeat (first | (apply mix.held_take; (· rfl); (· rfl); (· (intro w' hSw; (try dsimp only at hSw); go_simp; try with_reducible rfl)); (try simp only [Act.put, List.setIfInBounds_toArray, List.set_cons_zero, List.set_cons_succ])) | ((refine mix.held_pass rfl (by rfl) ?_); (try simp only [Act.put, List.setIfInBounds_toArray, List.set_cons_zero, List.set_cons_succ]))))
    refine mix.held_hard rfl (fun K hK => ?_); go_simp
    rw [show IntKind.i64.wrap ((msl : Int) - 1) = (msl : Int) - 1 from IntWalk.i64_in _ (by omega)]
    refine (between_is P2'.out _).mono ?_
    rintro e W3 ⟨rfl, rfl⟩
    refine hK.out _ _ (S2.out) (fun hSw => ?_); clear hK K hSw; (try simp only [Act.put, List.setIfInBounds_toArray, List.set_cons_zero, List.set_cons_succ])
    (repeat (first | (apply mix.held_take; (· rfl); (· rfl); (· (intro w' hSw; (try dsimp only at hSw); go_simp; try with_reducible rfl)); (try simp only [Act.put, List.setIfInBounds_toArray, List.set_cons_zero, List.set_cons_succ])) | ((refine mix.held_pass rfl (by rfl) ?_); (try simp only [Act.put, List.setIfInBounds_toArray, List.set_cons_zero, List.set_cons_succ]))))
    refine mix.held_hard rfl (fun K hK => ?_); go_simp
    rw [show IntKind.i64.wrap ((msl : Int) - 1) = (msl : Int) - 1 from IntWalk.i64_in _ (by omega)]
    refine (between_is P3'.out _).mono ?_
    rintro e W3 ⟨rfl, rfl⟩
    refine hK.out _ _ (S2.out) (fun hSw => ?_); clear hK K hSw; (try simp only [Act.put, List.setIfInBounds_toArray, List.set_cons_zero, List.set_cons_succ])
    (repeat (first | (apply mix.held_take; (· rfl); (· rfl); (· (intro w' hSw; (try dsimp only at hSw); go_simp; try with_reducible rfl)); (try simp only [Act.put, List.setIfInBounds_toArray, List.set_cons_zero, List.set_cons_succ])) | ((refine mix.held_pass rfl (by rfl) ?_); (try simp only [Act.put, List.setIfInBounds_toArray, List.set_cons_zero, List.set_cons_succ]))))
    refine mix.held_hard rfl (fun K hK => ?_); go_simp
    refine (spec_MaskIn _ _ _).mono ?_
    rintro e W3 ⟨rfl, rfl⟩
    rw [P4.out]
    refine hK.out _ _ (S2.out) (fun hSw => ?_); clear hK K hSw; (try simp only [Act.put, List.setIfInBounds_toArray, List.set_cons_zero, List.set_cons_succ])
    (repeat (first | (apply mix.held_take; (· rfl); (· rfl); (· (intro w' hSw; (try dsimp only at hSw); go_simp; try with_reducible rfl)); (try simp only [Act.put, List.setIfInBounds_toArray, List.set_cons_zero, List.set_cons_succ])) | ((refine mix.held_pass rfl (by rfl) ?_); (try simp only [Act.put, List.setIfInBounds_toArray, List.set_cons_zero, List.set_cons_succ]))))
    refine mix.held_end ?_
    go_wp2_with fail
    go_ret
    rw [← HPD.out, P1.out, P2.out, P3.out, P4.out]
    exact give_none B2.out
  | true => exact absurd (show (panesB c l && (placeB c.ms.length (i : Int) && placeB c.ms.length (j : Int) && maskB (maskN c j) (maskN c i))) = true by rw [P1.out, HML.out, P2.out, P3.out, p4]; rfl) (by simpa [rollsB] using hno)
end Go.Proofs.YtpcekmllmnfmmaaGreat.dat

/-
  THE CONTRACT OF RollUp of the program, in the shape that the law's walk takes: the list that the model tells, in memory of its own.
-/
namespace Go.Proofs.YtpcekmllmnfmmaaGreat.dat
open Go.RowKit Go.Proofs.YtpcekmllmnfmmaaGreat.win

theorem joinQ_ok (x y : agg.Q) (h : agg.joinB x y = true) : agg.OkP (agg.joinQ x y).n (agg.joinQ x y).s (agg.joinQ x y).mn (agg.joinQ x y).mx := by
  have hp : agg.JoinP x y := of_decide_eq_true h
  unfold agg.joinQ
  rw [if_pos h]
  exact agg.ok_with hp.1 hp.2.1 hp.2.2
theorem full_of {c : ConfD} {l : List PaneD} {p : PaneD} (hp : panesB c l = true) (hm : p ∈ l) : Full p.a := by
  unfold panesB at hp
  simp only [Bool.and_eq_true] at hp
  have hb := List.all_eq_true.1 hp.1.2 p hm
  unfold paneB at hb
  simp only [Bool.and_eq_true] at hb
  exact ⟨hb.1.2, of_decide_eq_true hb.2⟩
theorem roll_told {c : ConfD} {l : List PaneD} {fr tt : Int} (h : (panesB c l && rollsB c fr tt) = true) : (∃ F m, rollGo c fr tt l (fun _ => none) = some F ∧ rollS c fr tt l [] = some m ∧ Sim c F m) ∨ (rollGo c fr tt l (fun _ => none) = none ∧ rollS c fr tt l [] = none) := by
  simp only [Bool.and_eq_true] at h
  obtain ⟨hp, hr⟩ := h
  have hok : confD c = true := by unfold panesB at hp; simp only [Bool.and_eq_true] at hp; exact hp.1.1
  unfold rollsB at hr
  simp only [Bool.and_eq_true] at hr
  obtain ⟨⟨h1, h2⟩, h3⟩ := hr
  obtain ⟨i, rfl, hi⟩ := placeB_nat h1
  obtain ⟨j, rfl, hj⟩ := placeB_nat h2
  have ui : c.ms[i]? = some (maskN c i) := by unfold maskN; rw [Int.toNat_natCast, List.getElem?_eq_getElem hi]; rfl
  have uj : c.ms[j]? = some (maskN c j) := by unfold maskN; rw [Int.toNat_natCast, List.getElem?_eq_getElem hj]; rfl
  have hmi := conf_mask hok ui
  have hmj := conf_mask hok uj
  have hin : inB c.d (maskN c j) = true := by
    have hc := hok
    unfold confD masksB at hc
    simp only [Bool.and_eq_true] at hc
    exact List.all_eq_true.1 hc.1.1.2.1.2 _ (List.mem_of_getElem? uj)
  refine roll_sim (conf_dims hok) hin (sub_bits h3 hmj.1 hmj.2 hmi.1 hmi.2) joinQ_ok l _ _ (fun p hm e => ⟨pane_key hp hm e ui, full_of hp hm⟩) (Sim.start c)
/-- What the program hands back. -/
def GiveOwn (w : World) (L : List PaneD) (e : Ending) (w' : World) : Prop := ∃ (a : Option Addr) (n c : Nat) (f : List Nat), e = .returned (.slice a n c) ∧ GRow 8 RPane w' a n L f ∧ n ≤ c ∧ c ≤ 9223372036854775807 ∧ Own w.heap.size w' f ∧ Below w.heap.size w w'
theorem rolls_own {c : ConfD} {l : List PaneD} {fr tt : Int} {w : World} {e : Ending} {w' : World} (h : Rolls c l fr tt w e w') : GiveOwn w (rollD c l fr tt) e w' := by
  unfold Rolls at h
  unfold rollD
  cases hb : (panesB c l && rollsB c fr tt) with
  | false =>
    rw [hb] at h
    obtain ⟨rfl, hB⟩ := h
    exact ⟨none, 0, 0, [], rfl, GRow.nil, Nat.le_refl _, Nat.zero_le _, Own.nil, hB⟩
  | true =>
    rw [hb] at h
    have hok : confD c = true := by simp only [Bool.and_eq_true] at hb; have hp := hb.1; unfold panesB at hp; simp only [Bool.and_eq_true] at hp; exact hp.1.1
    rcases roll_told hb with ⟨F, m, h1, h2, hs⟩ | ⟨h1, h2⟩
    · rw [if_pos rfl, h1] at h
      rw [if_pos rfl, h2]
      obtain ⟨v, L, xs, rfl, hG, hB, hn, hx, hp, hst, _⟩ := h
      obtain rfl : L = m := hs.told hok hn hx hp hst
      obtain ⟨a, cap, fp, rfl, hg, hc1, hc2, ho⟩ := hG.done
      exact ⟨a, _, cap, fp, rfl, hg, hc1, hc2, ho, hB⟩
    · rw [if_pos rfl, h1] at h
      rw [if_pos rfl, h2]
      obtain ⟨rfl, hB⟩ := h
      exact ⟨none, 0, 0, [], rfl, GRow.nil, Nat.le_refl _, Nat.zero_le _, Own.nil, hB⟩
theorem impl_RollUp_own (c : ConfD) (ch : ConfigH) (cf : List Nat) (a : Option Addr) (len cap : Nat) (l : List PaneD) (fp : List Nat) (fr tt : Int) (w : World) (hc : Config.Is w c ch cf) (hrow : GRow 8 RPane w a len l fp) (hcap : len ≤ cap) (hcm : cap ≤ 9223372036854775807) (_ : (Lit.int .i64 fr).wf = true) (_ : (Lit.int .i64 tt).wf = true) (hzc : Config.sz c ≤ 2000000) (hmax : szL Pane.sz l ≤ 2000000) :
    Calls Tryz.prog 11 #[.agg (Config.list c ch).toArray, .slice a len cap, .int .i64 fr, .int .i64 tt] w (GiveOwn w (rollD c l fr tt)) :=
  (impl_RollUp c ch cf a len cap l fp fr tt w hc hrow hcap hcm hzc hmax).mono fun _ _ h => rolls_own h
theorem keyR_len2 (mf mt : Int) (key : List Int) : ∀ j, (keyR mf mt key j).length ≤ rank mf j
  | 0 => by simp [keyR]
  | j + 1 => by
    have := keyR_len2 mf mt key j
    simp only [keyR, rank, List.length_append]
    cases h1 : bitB mf j <;> cases h2 : bitB mt j <;> cases h3 : key[rank mf j]? <;> simp <;> omega
theorem sz_putL2 (p : PaneD) : ∀ (l : List PaneD), szL Pane.sz (putL p l) ≤ szL Pane.sz l + (1 + Pane.sz p)
  | [] => by simp [putL, szL]
  | x :: r => by
    have ih := sz_putL2 p r
    unfold szL at *
    simp only [putL]
    split
    · simp only [List.length_cons, List.map_cons, List.sum_cons]; omega
    · split
      · simp only [List.length_cons, List.map_cons, List.sum_cons]
        have : Pane.sz (⟨p.win, p.mask, p.start, p.key, joinA x.a p.a⟩ : PaneD) = Pane.sz p := rfl
        omega
      · simp only [List.length_cons, List.map_cons, List.sum_cons]; omega
theorem rollS_sz {c : ConfD} {fr tt : Int} : ∀ (l m : List PaneD) {r : List PaneD}, (∀ p ∈ l, p.mask = fr → Pane.sz (rollP c fr tt p) ≤ Pane.sz p) → rollS c fr tt l m = some r → szL Pane.sz r ≤ szL Pane.sz m + szL Pane.sz l
  | [], m, r, _, h => by simp only [rollS] at h; cases h; simp [szL]
  | p :: l, m, r, hp, h => by
    have hs : szL Pane.sz (p :: l) = 1 + Pane.sz p + szL Pane.sz l := by simp only [szL, List.length_cons, List.map_cons, List.sum_cons]; omega
    simp only [rollS] at h
    split at h
    · rename_i e
      split at h
      · have ih := rollS_sz l _ (fun q hq => hp q (by simp [hq])) h
        have h1 := sz_putL2 (rollP c fr tt p) m
        have h2 := hp p (by simp) e
        omega
      · cases h
    · have ih := rollS_sz l _ (fun q hq => hp q (by simp [hq])) h
      omega
theorem rollD_sz (c : ConfD) (l : List PaneD) (fr tt : Int) : szL Pane.sz (rollD c l fr tt) ≤ szL Pane.sz l := by
  unfold rollD
  cases hb : (panesB c l && rollsB c fr tt) with
  | false => simp [szL]
  | true =>
    rw [if_pos rfl]
    cases hr : rollS c fr tt l [] with
    | none => simp [szL]
    | some m =>
      simp only [Bool.and_eq_true] at hb
      have hp := hb.1
      have hok : confD c = true := by unfold panesB at hp; simp only [Bool.and_eq_true] at hp; exact hp.1.1
      have h2 := hb.2
      unfold rollsB at h2
      simp only [Bool.and_eq_true] at h2
      obtain ⟨i, rfl, hi⟩ := placeB_nat h2.1.1
      have ui : c.ms[i]? = some (maskN c i) := by unfold maskN; rw [Int.toNat_natCast, List.getElem?_eq_getElem hi]; rfl
      have := rollS_sz (c := c) l [] (fun p hm e => by
        have h3 := pane_key hp hm e ui
        have h4 := keyR_len2 (maskN c i) (maskN c tt) p.key c.d.toNat
        have h5 := rank_mono (maskN c i) (show c.d.toNat ≤ 3 by have := conf_dims hok; omega)
        have h6 : ((rank (maskN c i) 3 : Nat) : Int) = (p.key.length : Int) := (rank_ones (maskN c i)).trans h3.symm
        show (keyR (maskN c i) (maskN c tt) p.key c.d.toNat).length ≤ p.key.length
        omega) hr
      simpa [szL] using this
end Go.Proofs.YtpcekmllmnfmmaaGreat.dat

/-
  THE CONTRACT OF RollUp of the model; nothing that was there is written.
  Condition: panes of at most 2,000,000 numbers.
-/
namespace Go.Proofs.YtpcekmllmnfmmaaGreat.dat
open Go.RowKit Go.Proofs.YtpcekmllmnfmmaaGreat.win
set_option maxRecDepth 100000 in
set_option maxHeartbeats 8000000 in
theorem spec_RollUp (c : ConfD) (ch : ConfigH) (cf : List Nat) (a : Option Addr) (len cap : Nat) (l : List PaneD) (fp : List Nat) (fr tt : Int) (w : World) (hc : Config.Is w c ch cf) (hrow : GRow 8 RPane w a len l fp) (hcap : len ≤ cap) (hcm : cap ≤ 9223372036854775807)
    (hwf : (Lit.int .i64 fr).wf = true) (hwt : (Lit.int .i64 tt).wf = true) (hzc : Config.sz c ≤ 2000000) (hmax : szL Pane.sz l ≤ 2000000) :
    Calls Tryz.prog 8 #[.agg (Config.list c ch).toArray, .slice a len cap, .int .i64 fr, .int .i64 tt] w (GiveP w (rollD c l fr tt)) := by
  by_cases h : (panesB c l && rollsB c fr tt) = true
  · exact spec_RollUp_yes c ch cf a len cap l fp fr tt w hc hrow hcap hcm hwf hwt hzc hmax h
  · exact spec_RollUp_no c ch cf a len cap l fp fr tt w hc hrow hcap hcm hwf hwt hzc hmax h
end Go.Proofs.YtpcekmllmnfmmaaGreat.dat

/-
  THE WALK OF THE LAW FnExactRollUp out of the contracts: it answers true, and nothing that was there is written. Written by tools/genlaw.py.
-/
namespace Go.Proofs.YtpcekmllmnfmmaaGreat.dat
open Go.RowKit Go.Proofs.YtpcekmllmnfmmaaGreat.win
set_option linter.unusedVariables false

theorem keep_RollUp_5_5 {W w' : World} {p0 : Nat} {t0 : TypeId} {v0_0 v0_1 v0_2 v0_3 v0_4 : Value} (h0 : Blk W p0 t0 [v0_0, v0_1, v0_2, v0_3, v0_4]) {p1 : Nat} {t1 : TypeId} {v1_0 v1_1 v1_2 v1_3 v1_4 : Value} (h1 : Blk W p1 t1 [v1_0, v1_1, v1_2, v1_3, v1_4]) (h : Below W.heap.size W w') : w'.cell? ⟨p0, 0, none⟩ = some v0_0 ∧ w'.cell? ⟨p0, 1, none⟩ = some v0_1 ∧ w'.cell? ⟨p0, 2, none⟩ = some v0_2 ∧ w'.cell? ⟨p0, 3, none⟩ = some v0_3 ∧ w'.cell? ⟨p0, 4, none⟩ = some v0_4 ∧ w'.cell? ⟨p1, 0, none⟩ = some v1_0 ∧ w'.cell? ⟨p1, 1, none⟩ = some v1_1 ∧ w'.cell? ⟨p1, 2, none⟩ = some v1_2 ∧ w'.cell? ⟨p1, 3, none⟩ = some v1_3 ∧ w'.cell? ⟨p1, 4, none⟩ = some v1_4 := ⟨by have := (h0.below h h0.lt).cell 0; simpa using this, by have := (h0.below h h0.lt).cell 1; simpa using this, by have := (h0.below h h0.lt).cell 2; simpa using this, by have := (h0.below h h0.lt).cell 3; simpa using this, by have := (h0.below h h0.lt).cell 4; simpa using this, by have := (h1.below h h1.lt).cell 0; simpa using this, by have := (h1.below h h1.lt).cell 1; simpa using this, by have := (h1.below h h1.lt).cell 2; simpa using this, by have := (h1.below h h1.lt).cell 3; simpa using this, by have := (h1.below h h1.lt).cell 4; simpa using this⟩

set_option maxRecDepth 100000 in
set_option maxHeartbeats 8000000 in
theorem walk_RollUp (x0 : ConfD) (h0 : ConfigH) (f0 : List Nat) (a1 : Option Addr) (n1 c1 : Nat) (l1 : List PaneD) (f1 : List Nat) (a2 : Int) (a3 : Int) (w : World) (i0 : Config.Is w x0 h0 f0) (i1 : GRow 8 RPane w a1 n1 l1 f1) (u1 : n1 ≤ c1) (v1 : c1 ≤ 9223372036854775807) (i2 : (Lit.int .i64 a2).wf = true) (i3 : (Lit.int .i64 a3).wf = true)  :
    Calls Tryz.prog 3 #[.agg (Config.list x0 h0).toArray, .slice a1 n1 c1, .int .i64 a2, .int .i64 a3] w fun e w' => e = .returned (.bool true) ∧ Below w.heap.size w w' := by
  have I0 := Lib.hid i0
  have I1 := Lib.hid i1
  clear i0 i1
  simp only [Config.list]
  go_enter Tryz.func3, Tryz.ntmps3
  go_wp2_with fail
  refine calls_gen (fun W => Below w.heap.size w W ∧ Blk W w.heap.size 25 (Config.list x0 h0)) ⟨by repeat (first | exact Below.refl _ _ | refine Below.setCell ?_ (by first | omega | (simp; done) | (simp; omega)) _ | refine Below.alloc ?_ (by first | omega | (simp; done) | (simp; omega)) _ | apply Below.drew), by unfold Config.list; with_reducible (repeat (first | (refine blk_new_at _ _ _ _ ?_; first | rfl | (simp; done)) | refine Blk.alloc ?_ _ | apply Blk.drew | refine Blk.setOther ?_ (by first | (simp; done) | (simp; omega)) _))⟩ ?_
  rintro W0 ⟨b, k0⟩
  have K0 := Lib.hid k0
  clear k0
  have BB := Lib.hid b
  clear b
  refine (sz_Config x0 h0 f0 1048576 W0 (by omega) (by omega) (I0.out.below BB.out)).mono ?_
  rintro e W1 ⟨rfl, bel⟩
  have BB_ := Lib.hid (BB.out.trans (bel.mono BB.out.size))
  clear BB
  have BB := BB_
  clear BB_
  have K0_ := Lib.hid (K0.out.below bel K0.out.lt)
  clear K0
  have K0 := K0_
  clear K0_
  clear bel
  by_cases z0 : ((Config.sz x0 : Nat) : Int) ≤ 1048576
  case neg =>
    rw [if_neg z0]
    go_wp2_with fail
    go_ret
    exact ⟨rfl, BB.out⟩
  rw [if_pos z0]
  have k0_0 := K0.out.cell 0
  have k0_1 := K0.out.cell 1
  have k0_2 := K0.out.cell 2
  have k0_3 := K0.out.cell 3
  have k0_4 := K0.out.cell 4
  simp [Config.list] at k0_0 k0_1 k0_2 k0_3 k0_4
  have k0_l := K0.out.lt
  skip
  go_wp2_with fail
  clear k0_0 k0_1 k0_2 k0_3 k0_4 k0_l
  skip
  go_wp2_with fail
  refine (sz_PaneS a1 n1 c1 l1 f1 (1048576 - ((Config.sz x0 : Nat) : Int)) W1 (by omega) (by omega) u1 v1 (I1.out.below local_Pane BB.out)).mono ?_
  rintro e W2 ⟨rfl, bel⟩
  have BB_ := Lib.hid (BB.out.trans (bel.mono BB.out.size))
  clear BB
  have BB := BB_
  clear BB_
  have K0_ := Lib.hid (K0.out.below bel K0.out.lt)
  clear K0
  have K0 := K0_
  clear K0_
  clear bel
  by_cases z1 : ((szL Pane.sz l1 : Nat) : Int) ≤ (1048576 - ((Config.sz x0 : Nat) : Int))
  case neg =>
    rw [if_neg z1]
    go_wp2_with fail
    go_ret
    exact ⟨rfl, BB.out⟩
  rw [if_pos z1]
  have k0_0 := K0.out.cell 0
  have k0_1 := K0.out.cell 1
  have k0_2 := K0.out.cell 2
  have k0_3 := K0.out.cell 3
  have k0_4 := K0.out.cell 4
  simp [Config.list] at k0_0 k0_1 k0_2 k0_3 k0_4
  have k0_l := K0.out.lt
  skip
  go_wp2_with fail
  have y0 : Config.sz x0 ≤ 2000000 := by omega
  have y1 : szL Pane.sz l1 ≤ 2000000 := by omega
  have Z0 := Lib.hid z0
  have Z1 := Lib.hid z1
  have Y0 := Lib.hid y0
  have Y1 := Lib.hid y1
  clear z0 z1 y0 y1
  clear k0_0 k0_1 k0_2 k0_3 k0_4 k0_l
  refine (to_Config x0 h0 f0 _ Y0.out (I0.out.below (BB.out))).mono ?_
  rintro e W3 ⟨sh0, sf0, rfl, sis0, sow0, bel⟩
  have BB_ := Lib.hid (BB.out.trans (bel.mono BB.out.size))
  clear BB
  have BB := BB_
  clear BB_
  have K0_ := Lib.hid (K0.out.below bel K0.out.lt)
  clear K0
  have K0 := K0_
  clear K0_
  clear bel
  have sI0 := Lib.hid sis0
  have sO0 := Lib.hid sow0
  clear sis0 sow0
  simp only [Config.list]
  go_wp2_with fail
  refine (to_PaneS a1 n1 c1 l1 f1 _ Y1.out (I1.out.below local_Pane (BB.out))).mono ?_
  rintro e W4 ⟨sg1, sf1, rfl, sis1, sow1, bel⟩
  have BB_ := Lib.hid (BB.out.trans (bel.mono BB.out.size))
  clear BB
  have BB := BB_
  clear BB_
  have K0_ := Lib.hid (K0.out.below bel K0.out.lt)
  clear K0
  have K0 := K0_
  clear K0_
  have sI0_ := Lib.hid (sI0.out.below bel)
  clear sI0
  have sI0 := sI0_
  clear sI0_
  have sO0_ := Lib.hid (sO0.out.below bel)
  clear sO0
  have sO0 := sO0_
  clear sO0_
  clear bel
  have sI1 := Lib.hid sis1
  have sO1 := Lib.hid sow1
  clear sis1 sow1
  go_wp2_with fail
  refine (spec_RollUp x0 sh0 sf0 (some ⟨sg1, 0, none⟩) n1 n1 l1 sf1 a2 a3 _ sI0.out sI1.out (Nat.le_refl _) (Nat.le_trans u1 v1) i2 i3 Y0.out Y1.out).mono ?_
  rintro e W5 ⟨sra0, srn0, src0, srf0, rfl, srrow0, srle0, srmx0, bel⟩
  have BB_ := Lib.hid (BB.out.trans (bel.mono BB.out.size))
  clear BB
  have BB := BB_
  clear BB_
  have K0_ := Lib.hid (K0.out.below bel K0.out.lt)
  clear K0
  have K0 := K0_
  clear K0_
  have sI0_ := Lib.hid (sI0.out.below bel)
  clear sI0
  have sI0 := sI0_
  clear sI0_
  have sO0_ := Lib.hid (sO0.out.below bel)
  clear sO0
  have sO0 := sO0_
  clear sO0_
  have sI1_ := Lib.hid (sI1.out.below local_Pane bel)
  clear sI1
  have sI1 := sI1_
  clear sI1_
  have sO1_ := Lib.hid (sO1.out.below bel)
  clear sO1
  have sO1 := sO1_
  clear sO1_
  clear bel
  have srR0 := Lib.hid srrow0
  clear srrow0
  clear sI0 sI1 sO0 sO1
  have k0_0 := K0.out.cell 0
  have k0_1 := K0.out.cell 1
  have k0_2 := K0.out.cell 2
  have k0_3 := K0.out.cell 3
  have k0_4 := K0.out.cell 4
  simp [Config.list] at k0_0 k0_1 k0_2 k0_3 k0_4
  have k0_l := K0.out.lt
  go_wp2_with fail
  clear k0_0 k0_1 k0_2 k0_3 k0_4 k0_l
  have LW0 := Lib.hid BB.out.size
  have D0_0 := Lib.hid (show ∀ b ∈ srf0, b < W5.heap.size from fun b hb => srR0.out.lt local_Pane b hb)
  have DK0_0 := Lib.hid (show w.heap.size < W5.heap.size from K0.out.lt)
  refine (to_Config x0 h0 f0 _ Y0.out (I0.out.below (BB.out))).mono ?_
  rintro e W6 ⟨xh0, xf0, rfl, xis0, xow0, bel⟩
  have BB_ := Lib.hid (BB.out.trans (bel.mono BB.out.size))
  clear BB
  have BB := BB_
  clear BB_
  have K0_ := Lib.hid (K0.out.below bel K0.out.lt)
  clear K0
  have K0 := K0_
  clear K0_
  have srR0_ := Lib.hid (srR0.out.below local_Pane bel)
  clear srR0
  have srR0 := srR0_
  clear srR0_
  clear bel
  have xI0 := Lib.hid xis0
  have xO0 := Lib.hid xow0
  clear xis0 xow0
  simp only [Config.list]
  have k0_0 := K0.out.cell 0
  have k0_1 := K0.out.cell 1
  have k0_2 := K0.out.cell 2
  have k0_3 := K0.out.cell 3
  have k0_4 := K0.out.cell 4
  simp [Config.list] at k0_0 k0_1 k0_2 k0_3 k0_4
  have k0_l := K0.out.lt
  go_wp2_with fail
  clear k0_0 k0_1 k0_2 k0_3 k0_4 k0_l
  have XB0_0 := Lib.hid (show ∀ b ∈ xf0, b ≠ W6.heap.size from fun b hb => by have := (xO0.out.2 b hb).2.lt; omega)
  refine calls_gen (fun X => Below W6.heap.size W6 X ∧ Blk X W6.heap.size 33 (Config.list x0 xh0)) ⟨by repeat (first | exact Below.refl _ _ | refine Below.setCell ?_ (by first | omega | (simp; done) | (simp; omega)) _ | refine Below.alloc ?_ (by first | omega | (simp; done) | (simp; omega)) _ | apply Below.drew), by unfold Config.list; with_reducible (repeat (first | (refine blk_new_at _ _ _ _ ?_; first | rfl | (simp; done)) | refine Blk.alloc ?_ _ | apply Blk.drew | refine Blk.setOther ?_ (by first | (simp; done) | (simp; omega)) _))⟩ ?_
  rintro W7 ⟨bel, kx⟩
  have BB_ := Lib.hid (BB.out.trans (bel.mono BB.out.size))
  clear BB
  have BB := BB_
  clear BB_
  have K0_ := Lib.hid (K0.out.below bel K0.out.lt)
  clear K0
  have K0 := K0_
  clear K0_
  have srR0_ := Lib.hid (srR0.out.below local_Pane bel)
  clear srR0
  have srR0 := srR0_
  clear srR0_
  have xI0_ := Lib.hid (xI0.out.below bel)
  clear xI0
  have xI0 := xI0_
  clear xI0_
  have xO0_ := Lib.hid (xO0.out.below bel)
  clear xO0
  have xO0 := xO0_
  clear xO0_
  have X0 := Lib.hid kx
  clear bel kx
  have LW1 := Lib.hid BB.out.size
  have D0_1 := Lib.hid (show ∀ b ∈ srf0, b < W7.heap.size from fun b hb => srR0.out.lt local_Pane b hb)
  have DK0_1 := Lib.hid (show w.heap.size < W7.heap.size from K0.out.lt)
  have DX0_1 := Lib.hid (show ∀ b ∈ xf0, b < W7.heap.size from fun b hb => (xO0.out.2 b hb).2.lt)
  have DB0_1 := Lib.hid (show W6.heap.size < W7.heap.size from X0.out.lt)
  refine (to_PaneS a1 n1 c1 l1 f1 _ Y1.out (I1.out.below local_Pane (BB.out))).mono ?_
  rintro e W8 ⟨xg1, xf1, rfl, xis1, xow1, bel⟩
  have BB_ := Lib.hid (BB.out.trans (bel.mono BB.out.size))
  clear BB
  have BB := BB_
  clear BB_
  have K0_ := Lib.hid (K0.out.below bel K0.out.lt)
  clear K0
  have K0 := K0_
  clear K0_
  have srR0_ := Lib.hid (srR0.out.below local_Pane bel)
  clear srR0
  have srR0 := srR0_
  clear srR0_
  have xI0_ := Lib.hid (xI0.out.below bel)
  clear xI0
  have xI0 := xI0_
  clear xI0_
  have xO0_ := Lib.hid (xO0.out.below bel)
  clear xO0
  have xO0 := xO0_
  clear xO0_
  have X0_ := Lib.hid (X0.out.below bel X0.out.lt)
  clear X0
  have X0 := X0_
  clear X0_
  clear bel
  have xI1 := Lib.hid xis1
  have xO1 := Lib.hid xow1
  clear xis1 xow1
  have k0_0 := K0.out.cell 0
  have k0_1 := K0.out.cell 1
  have k0_2 := K0.out.cell 2
  have k0_3 := K0.out.cell 3
  have k0_4 := K0.out.cell 4
  simp [Config.list] at k0_0 k0_1 k0_2 k0_3 k0_4
  have k0_l := K0.out.lt
  have x_0_0 := X0.out.cell 0
  have x_0_1 := X0.out.cell 1
  have x_0_2 := X0.out.cell 2
  have x_0_3 := X0.out.cell 3
  have x_0_4 := X0.out.cell 4
  simp [Config.list] at x_0_0 x_0_1 x_0_2 x_0_3 x_0_4
  have x_0_l := X0.out.lt
  go_wp2_with fail
  clear k0_0 k0_1 k0_2 k0_3 k0_4 k0_l
  clear x_0_0 x_0_1 x_0_2 x_0_3 x_0_4 x_0_l
  have EX0 := Lib.hid (show ∀ b ∈ xf0, b < W8.heap.size from fun b hb => (xO0.out.2 b hb).2.lt)
  have EX1 := Lib.hid (show ∀ b ∈ xf1, b < W8.heap.size from fun b hb => (xO1.out.2 b hb).2.lt)
  have EK0 := Lib.hid (show w.heap.size < W8.heap.size from K0.out.lt)
  have ES0 := Lib.hid (show ∀ b ∈ srf0, b < W8.heap.size from fun b hb => srR0.out.lt local_Pane b hb)
  have LWG := Lib.hid BB.out.size
  refine (impl_RollUp_own x0 xh0 xf0 (some ⟨xg1, 0, none⟩) n1 n1 l1 xf1 a2 a3 _ xI0.out xI1.out (Nat.le_refl _) (Nat.le_trans u1 v1) i2 i3 Y0.out Y1.out).mono ?_
  rintro e W9 ⟨gra0, grn0, grc0, grf0, rfl, grrow0, grle0, grmx0, grown0, bel⟩
  have BB_ := Lib.hid (BB.out.trans (bel.mono BB.out.size))
  clear BB
  have BB := BB_
  clear BB_
  have K0_ := Lib.hid (K0.out.below bel K0.out.lt)
  clear K0
  have K0 := K0_
  clear K0_
  have srR0_ := Lib.hid (srR0.out.below local_Pane bel)
  clear srR0
  have srR0 := srR0_
  clear srR0_
  have xI0_ := Lib.hid (xI0.out.below bel)
  clear xI0
  have xI0 := xI0_
  clear xI0_
  have xO0_ := Lib.hid (xO0.out.below bel)
  clear xO0
  have xO0 := xO0_
  clear xO0_
  have X0_ := Lib.hid (X0.out.below bel X0.out.lt)
  clear X0
  have X0 := X0_
  clear X0_
  have xI1_ := Lib.hid (xI1.out.below local_Pane bel)
  clear xI1
  have xI1 := xI1_
  clear xI1_
  have xO1_ := Lib.hid (xO1.out.below bel)
  clear xO1
  have xO1 := xO1_
  clear xO1_
  clear bel
  have grR0 := Lib.hid grrow0
  clear grrow0
  have grO0 := Lib.hid grown0
  clear grown0
  obtain rfl : grn0 = srn0 := grR0.out.1.symm.trans srR0.out.1
  have HBD : szL Pane.sz (rollD x0 l1 a2 a3) ≤ 2000000 := (Nat.le_trans (rollD_sz x0 l1 a2 a3) Y1.out)
  have HBd := Lib.hid HBD
  clear HBD
  have k0_0 := K0.out.cell 0
  have k0_1 := K0.out.cell 1
  have k0_2 := K0.out.cell 2
  have k0_3 := K0.out.cell 3
  have k0_4 := K0.out.cell 4
  simp [Config.list] at k0_0 k0_1 k0_2 k0_3 k0_4
  have k0_l := K0.out.lt
  have x_0_0 := X0.out.cell 0
  have x_0_1 := X0.out.cell 1
  have x_0_2 := X0.out.cell 2
  have x_0_3 := X0.out.cell 3
  have x_0_4 := X0.out.cell 4
  simp [Config.list] at x_0_0 x_0_1 x_0_2 x_0_3 x_0_4
  have x_0_l := X0.out.lt
  go_wp2_with fail
  clear k0_0 k0_1 k0_2 k0_3 k0_4 k0_l
  clear x_0_0 x_0_1 x_0_2 x_0_3 x_0_4 x_0_l
  refine (eq_PaneS gra0 sra0 grn0 grc0 src0 (rollD x0 l1 a2 a3) _ _ W9 HBd.out grR0.out srR0.out).mono ?_
  rintro e W10 ⟨rfl, bel⟩
  have BB_ := Lib.hid (BB.out.trans (bel.mono BB.out.size))
  clear BB
  have BB := BB_
  clear BB_
  have K0_ := Lib.hid (K0.out.below bel K0.out.lt)
  clear K0
  have K0 := K0_
  clear K0_
  have srR0_ := Lib.hid (srR0.out.below local_Pane bel)
  clear srR0
  have srR0 := srR0_
  clear srR0_
  have xI0_ := Lib.hid (xI0.out.below bel)
  clear xI0
  have xI0 := xI0_
  clear xI0_
  have xO0_ := Lib.hid (xO0.out.below bel)
  clear xO0
  have xO0 := xO0_
  clear xO0_
  have X0_ := Lib.hid (X0.out.below bel X0.out.lt)
  clear X0
  have X0 := X0_
  clear X0_
  have xI1_ := Lib.hid (xI1.out.below local_Pane bel)
  clear xI1
  have xI1 := xI1_
  clear xI1_
  have xO1_ := Lib.hid (xO1.out.below bel)
  clear xO1
  have xO1 := xO1_
  clear xO1_
  have grR0_ := Lib.hid (grR0.out.below local_Pane bel)
  clear grR0
  have grR0 := grR0_
  clear grR0_
  have grO0_ := Lib.hid (grO0.out.below bel)
  clear grO0
  have grO0 := grO0_
  clear grO0_
  clear bel
  have k0_0 := K0.out.cell 0
  have k0_1 := K0.out.cell 1
  have k0_2 := K0.out.cell 2
  have k0_3 := K0.out.cell 3
  have k0_4 := K0.out.cell 4
  simp [Config.list] at k0_0 k0_1 k0_2 k0_3 k0_4
  have k0_l := K0.out.lt
  have x_0_0 := X0.out.cell 0
  have x_0_1 := X0.out.cell 1
  have x_0_2 := X0.out.cell 2
  have x_0_3 := X0.out.cell 3
  have x_0_4 := X0.out.cell 4
  simp [Config.list] at x_0_0 x_0_1 x_0_2 x_0_3 x_0_4
  have x_0_l := X0.out.lt
  go_wp2_with fail
  go_cut [52] (fun v wx => v = .bool false ∧ Below W10.heap.size W10 wx)
  case first =>
    go_region_held3 (fun w' => w'.cell? ⟨w.heap.size, 0, none⟩ = some (.int .i64 x0.d) ∧ w'.cell? ⟨w.heap.size, 1, none⟩ = some (.slice h0.wsa h0.wsl h0.wsc) ∧ w'.cell? ⟨w.heap.size, 2, none⟩ = some (.slice h0.msa h0.msl h0.msc) ∧ w'.cell? ⟨w.heap.size, 3, none⟩ = some (.int .i64 x0.dl) ∧ w'.cell? ⟨w.heap.size, 4, none⟩ = some (.int .i64 x0.lt) ∧ w'.cell? ⟨W6.heap.size, 0, none⟩ = some (.int .i64 x0.d) ∧ w'.cell? ⟨W6.heap.size, 1, none⟩ = some (.slice xh0.wsa xh0.wsl xh0.wsc) ∧ w'.cell? ⟨W6.heap.size, 2, none⟩ = some (.slice xh0.msa xh0.msl xh0.msc) ∧ w'.cell? ⟨W6.heap.size, 3, none⟩ = some (.int .i64 x0.dl) ∧ w'.cell? ⟨W6.heap.size, 4, none⟩ = some (.int .i64 x0.lt))
      ((first | exact keep_RollUp_5_5 (W := W10.drew) K0.out X0.out hbz | exact keep_RollUp_5_5 (W := W10.drew) K0.out X0.out hb0 | exact keep_RollUp_5_5 (W := W10.drew) K0.out X0.out (Below.refl _ _)))
      (first | (go_at_call 9; refine (to_Config x0 h0 f0 _ Y0.out (I0.out.below (BB.out.drew))).mono ?_; rintro e wq ⟨qh0, qf0, rfl, qis0, qow0, hb0⟩) | (go_at_call 13; refine (eq_Config x0 xh0 qh0 _ _ _ Y0.out (xI0.out.below ((Below.refl _ _).drew.trans hb0)) qis0).mono ?_; rintro e wz ⟨rfl, hb1⟩; have hbz : Below W10.drew.heap.size W10.drew _ := hb0.trans (hb1.mono hb0.size)))
    all_goals (go_wp2_with fail; go_meet)
    all_goals exact ⟨rfl, (Below.refl _ _).drew.trans hbz⟩
  case rest =>
  obtain ⟨rfl, bel⟩ := hcut
  generalize wc = wd1 at *
  have BB_ := Lib.hid (BB.out.trans (bel.mono BB.out.size))
  clear BB
  have BB := BB_
  clear BB_
  have K0_ := Lib.hid (K0.out.below bel K0.out.lt)
  clear K0
  have K0 := K0_
  clear K0_
  have srR0_ := Lib.hid (srR0.out.below local_Pane bel)
  clear srR0
  have srR0 := srR0_
  clear srR0_
  have xI0_ := Lib.hid (xI0.out.below bel)
  clear xI0
  have xI0 := xI0_
  clear xI0_
  have xO0_ := Lib.hid (xO0.out.below bel)
  clear xO0
  have xO0 := xO0_
  clear xO0_
  have X0_ := Lib.hid (X0.out.below bel X0.out.lt)
  clear X0
  have X0 := X0_
  clear X0_
  have xI1_ := Lib.hid (xI1.out.below local_Pane bel)
  clear xI1
  have xI1 := xI1_
  clear xI1_
  have xO1_ := Lib.hid (xO1.out.below bel)
  clear xO1
  have xO1 := xO1_
  clear xO1_
  have grR0_ := Lib.hid (grR0.out.below local_Pane bel)
  clear grR0
  have grR0 := grR0_
  clear grR0_
  have grO0_ := Lib.hid (grO0.out.below bel)
  clear grO0
  have grO0 := grO0_
  clear grO0_
  clear bel
  clear k0_0 k0_1 k0_2 k0_3 k0_4 k0_l
  clear x_0_0 x_0_1 x_0_2 x_0_3 x_0_4 x_0_l
  have k0_0 := K0.out.cell 0
  have k0_1 := K0.out.cell 1
  have k0_2 := K0.out.cell 2
  have k0_3 := K0.out.cell 3
  have k0_4 := K0.out.cell 4
  simp [Config.list] at k0_0 k0_1 k0_2 k0_3 k0_4
  have k0_l := K0.out.lt
  have x_0_0 := X0.out.cell 0
  have x_0_1 := X0.out.cell 1
  have x_0_2 := X0.out.cell 2
  have x_0_3 := X0.out.cell 3
  have x_0_4 := X0.out.cell 4
  simp [Config.list] at x_0_0 x_0_1 x_0_2 x_0_3 x_0_4
  have x_0_l := X0.out.lt
  go_wp2_with fail
  clear k0_0 k0_1 k0_2 k0_3 k0_4 k0_l
  clear x_0_0 x_0_1 x_0_2 x_0_3 x_0_4 x_0_l
  refine (to_PaneS a1 n1 c1 l1 f1 _ Y1.out (I1.out.below local_Pane (BB.out))).mono ?_
  rintro e W11 ⟨qg1, qf1, rfl, qis1, qow1, bel⟩
  have BB_ := Lib.hid (BB.out.trans (bel.mono BB.out.size))
  clear BB
  have BB := BB_
  clear BB_
  have K0_ := Lib.hid (K0.out.below bel K0.out.lt)
  clear K0
  have K0 := K0_
  clear K0_
  have srR0_ := Lib.hid (srR0.out.below local_Pane bel)
  clear srR0
  have srR0 := srR0_
  clear srR0_
  have xI0_ := Lib.hid (xI0.out.below bel)
  clear xI0
  have xI0 := xI0_
  clear xI0_
  have xO0_ := Lib.hid (xO0.out.below bel)
  clear xO0
  have xO0 := xO0_
  clear xO0_
  have X0_ := Lib.hid (X0.out.below bel X0.out.lt)
  clear X0
  have X0 := X0_
  clear X0_
  have xI1_ := Lib.hid (xI1.out.below local_Pane bel)
  clear xI1
  have xI1 := xI1_
  clear xI1_
  have xO1_ := Lib.hid (xO1.out.below bel)
  clear xO1
  have xO1 := xO1_
  clear xO1_
  have grR0_ := Lib.hid (grR0.out.below local_Pane bel)
  clear grR0
  have grR0 := grR0_
  clear grR0_
  have grO0_ := Lib.hid (grO0.out.below bel)
  clear grO0
  have grO0 := grO0_
  clear grO0_
  clear bel
  go_wp2_with fail
  refine (eq_PaneS (some ⟨xg1, 0, none⟩) (some ⟨qg1, 0, none⟩) n1 n1 n1 l1 _ _ W11 Y1.out xI1.out qis1).mono ?_
  rintro e W12 ⟨rfl, bel⟩
  have BB_ := Lib.hid (BB.out.trans (bel.mono BB.out.size))
  clear BB
  have BB := BB_
  clear BB_
  have K0_ := Lib.hid (K0.out.below bel K0.out.lt)
  clear K0
  have K0 := K0_
  clear K0_
  have srR0_ := Lib.hid (srR0.out.below local_Pane bel)
  clear srR0
  have srR0 := srR0_
  clear srR0_
  have xI0_ := Lib.hid (xI0.out.below bel)
  clear xI0
  have xI0 := xI0_
  clear xI0_
  have xO0_ := Lib.hid (xO0.out.below bel)
  clear xO0
  have xO0 := xO0_
  clear xO0_
  have X0_ := Lib.hid (X0.out.below bel X0.out.lt)
  clear X0
  have X0 := X0_
  clear X0_
  have xI1_ := Lib.hid (xI1.out.below local_Pane bel)
  clear xI1
  have xI1 := xI1_
  clear xI1_
  have xO1_ := Lib.hid (xO1.out.below bel)
  clear xO1
  have xO1 := xO1_
  clear xO1_
  have grR0_ := Lib.hid (grR0.out.below local_Pane bel)
  clear grR0
  have grR0 := grR0_
  clear grR0_
  have grO0_ := Lib.hid (grO0.out.below bel)
  clear grO0
  have grO0 := grO0_
  clear grO0_
  clear bel qis1 qow1
  have k0_0 := K0.out.cell 0
  have k0_1 := K0.out.cell 1
  have k0_2 := K0.out.cell 2
  have k0_3 := K0.out.cell 3
  have k0_4 := K0.out.cell 4
  simp [Config.list] at k0_0 k0_1 k0_2 k0_3 k0_4
  have k0_l := K0.out.lt
  have x_0_0 := X0.out.cell 0
  have x_0_1 := X0.out.cell 1
  have x_0_2 := X0.out.cell 2
  have x_0_3 := X0.out.cell 3
  have x_0_4 := X0.out.cell 4
  simp [Config.list] at x_0_0 x_0_1 x_0_2 x_0_3 x_0_4
  have x_0_l := X0.out.lt
  go_wp2_with fail
  clear k0_0 k0_1 k0_2 k0_3 k0_4 k0_l
  clear x_0_0 x_0_1 x_0_2 x_0_3 x_0_4 x_0_l
  have CL0 := Lib.hid (Config.cntV_le x0)
  refine (mark_Config x0 xh0 xf0 (1) (W5.heap.size) W12 Y0.out (by omega) (by have := CL0.out; have := Y0.out; omega) xI0.out xO0.out).mono ?_
  rintro e W13 ⟨rfl, mis, mow, mp⟩
  have BB_ := Lib.hid (BB.out.trans (mp.below (lo := w.heap.size) (fun b hb => by have h1 := (xO0.out.2 b hb).1; have h2 := LW0.out; omega) (by have := BB.out.size; omega)))
  clear BB
  have BB := BB_
  clear BB_
  have K0_ := Lib.hid (blk_apart K0.out mp (fun hm => by have h1 := (xO0.out.2 _ hm).1; have h2 := DK0_0.out; omega))
  have srR0_ := Lib.hid (srR0.out.apart local_Pane mp (apart_lt D0_0.out xO0.out))
  have X0_ := Lib.hid (blk_apart X0.out mp (fun hm => absurd rfl (XB0_0.out _ hm)))
  have xI1_ := Lib.hid (xI1.out.apart local_Pane mp (apart_gt DX0_1.out xO1.out))
  have xO1_ := Lib.hid (xO1.out.apart mp (apart_gt DX0_1.out xO1.out))
  have grR0_ := Lib.hid (grR0.out.apart local_Pane mp (apart_gt EX0.out grO0.out))
  have grO0_ := Lib.hid (grO0.out.apart mp (apart_gt EX0.out grO0.out))
  clear mis mow mp K0 srR0 xI0 xO0 X0 xI1 xO1 grR0 grO0
  have K0 := K0_
  clear K0_
  have srR0 := srR0_
  clear srR0_
  have X0 := X0_
  clear X0_
  have xI1 := xI1_
  clear xI1_
  have xO1 := xO1_
  clear xO1_
  have grR0 := grR0_
  clear grR0_
  have grO0 := grO0_
  clear grO0_
  have k0_0 := K0.out.cell 0
  have k0_1 := K0.out.cell 1
  have k0_2 := K0.out.cell 2
  have k0_3 := K0.out.cell 3
  have k0_4 := K0.out.cell 4
  simp [Config.list] at k0_0 k0_1 k0_2 k0_3 k0_4
  have k0_l := K0.out.lt
  have x_0_0 := X0.out.cell 0
  have x_0_1 := X0.out.cell 1
  have x_0_2 := X0.out.cell 2
  have x_0_3 := X0.out.cell 3
  have x_0_4 := X0.out.cell 4
  simp [Config.list] at x_0_0 x_0_1 x_0_2 x_0_3 x_0_4
  have x_0_l := X0.out.lt
  go_wp2_with fail
  clear k0_0 k0_1 k0_2 k0_3 k0_4 k0_l
  clear x_0_0 x_0_1 x_0_2 x_0_3 x_0_4 x_0_l
  have CL1 := Lib.hid (cntL_le cn_le_Pane l1)
  refine (mark_PaneS (some ⟨xg1, 0, none⟩) n1 n1 l1 xf1 (1 + (Config.cntV x0 : Nat)) (W7.heap.size) W13 (by have := xI1.out.1; have := Y1.out; unfold szL at *; omega) (by omega) (by have := CL0.out; have := Y0.out; have := CL1.out; have := Y1.out; omega) xI1.out xO1.out).mono ?_
  rintro e W14 ⟨rfl, mis, mow, mp⟩
  have BB_ := Lib.hid (BB.out.trans (mp.below (lo := w.heap.size) (fun b hb => by have h1 := (xO1.out.2 b hb).1; have h2 := LW1.out; omega) (by have := BB.out.size; omega)))
  clear BB
  have BB := BB_
  clear BB_
  have K0_ := Lib.hid (blk_apart K0.out mp (fun hm => by have h1 := (xO1.out.2 _ hm).1; have h2 := DK0_1.out; omega))
  have srR0_ := Lib.hid (srR0.out.apart local_Pane mp (apart_lt D0_1.out xO1.out))
  have X0_ := Lib.hid (blk_apart X0.out mp (fun hm => by have h1 := (xO1.out.2 _ hm).1; have h2 := DB0_1.out; omega))
  have grR0_ := Lib.hid (grR0.out.apart local_Pane mp (apart_gt EX1.out grO0.out))
  have grO0_ := Lib.hid (grO0.out.apart mp (apart_gt EX1.out grO0.out))
  clear mis mow mp K0 srR0 X0 xI1 xO1 grR0 grO0
  have K0 := K0_
  clear K0_
  have srR0 := srR0_
  clear srR0_
  have X0 := X0_
  clear X0_
  have grR0 := grR0_
  clear grR0_
  have grO0 := grO0_
  clear grO0_
  have hcl0 := CL0.out
  have hcl1 := CL1.out
  have k0_0 := K0.out.cell 0
  have k0_1 := K0.out.cell 1
  have k0_2 := K0.out.cell 2
  have k0_3 := K0.out.cell 3
  have k0_4 := K0.out.cell 4
  simp [Config.list] at k0_0 k0_1 k0_2 k0_3 k0_4
  have k0_l := K0.out.lt
  have x_0_0 := X0.out.cell 0
  have x_0_1 := X0.out.cell 1
  have x_0_2 := X0.out.cell 2
  have x_0_3 := X0.out.cell 3
  have x_0_4 := X0.out.cell 4
  simp [Config.list] at x_0_0 x_0_1 x_0_2 x_0_3 x_0_4
  have x_0_l := X0.out.lt
  go_wp2_with fail
  clear k0_0 k0_1 k0_2 k0_3 k0_4 k0_l
  clear x_0_0 x_0_1 x_0_2 x_0_3 x_0_4 x_0_l
  refine (eq_PaneS gra0 sra0 grn0 grc0 src0 (rollD x0 l1 a2 a3) _ _ W14 HBd.out grR0.out srR0.out).mono ?_
  rintro e W15 ⟨rfl, bel⟩
  have BB_ := Lib.hid (BB.out.trans (bel.mono BB.out.size))
  clear BB
  have BB := BB_
  clear BB_
  have K0_ := Lib.hid (K0.out.below bel K0.out.lt)
  clear K0
  have K0 := K0_
  clear K0_
  have srR0_ := Lib.hid (srR0.out.below local_Pane bel)
  clear srR0
  have srR0 := srR0_
  clear srR0_
  have X0_ := Lib.hid (X0.out.below bel X0.out.lt)
  clear X0
  have X0 := X0_
  clear X0_
  have grR0_ := Lib.hid (grR0.out.below local_Pane bel)
  clear grR0
  have grR0 := grR0_
  clear grR0_
  have grO0_ := Lib.hid (grO0.out.below bel)
  clear grO0
  have grO0 := grO0_
  clear grO0_
  clear bel
  clear hcl0 hcl1
  have k0_0 := K0.out.cell 0
  have k0_1 := K0.out.cell 1
  have k0_2 := K0.out.cell 2
  have k0_3 := K0.out.cell 3
  have k0_4 := K0.out.cell 4
  simp [Config.list] at k0_0 k0_1 k0_2 k0_3 k0_4
  have k0_l := K0.out.lt
  have x_0_0 := X0.out.cell 0
  have x_0_1 := X0.out.cell 1
  have x_0_2 := X0.out.cell 2
  have x_0_3 := X0.out.cell 3
  have x_0_4 := X0.out.cell 4
  simp [Config.list] at x_0_0 x_0_1 x_0_2 x_0_3 x_0_4
  have x_0_l := X0.out.lt
  go_wp2_with fail
  clear k0_0 k0_1 k0_2 k0_3 k0_4 k0_l
  clear x_0_0 x_0_1 x_0_2 x_0_3 x_0_4 x_0_l
  have CG := Lib.hid (cntL_le cn_le_Pane (rollD x0 l1 a2 a3))
  refine (mark_PaneS gra0 grn0 grc0 (rollD x0 l1 a2 a3) grf0 1 (W8.heap.size) W15 (by have := grR0.out.1; have := HBd.out; unfold szL at *; omega) (by omega) (by have := CG.out; have := HBd.out; omega) grR0.out grO0.out).mono ?_
  rintro e W16 ⟨rfl, mis, mow, mp⟩
  have BB_ := Lib.hid (BB.out.trans (mp.below (lo := w.heap.size) (fun b hb => by have h1 := (grO0.out.2 b hb).1; have h2 := LWG.out; omega) (by have := BB.out.size; omega)))
  clear BB
  have BB := BB_
  clear BB_
  have K0_ := Lib.hid (blk_apart K0.out mp (fun hm => by have h1 := (grO0.out.2 _ hm).1; have h2 := EK0.out; omega))
  have srR0_ := Lib.hid (srR0.out.apart local_Pane mp (apart_lt ES0.out grO0.out))
  have MI := Lib.hid mis
  clear mis mow mp K0 srR0 X0 grR0 grO0
  have K0 := K0_
  clear K0_
  have srR0 := srR0_
  clear srR0_
  have k0_0 := K0.out.cell 0
  have k0_1 := K0.out.cell 1
  have k0_2 := K0.out.cell 2
  have k0_3 := K0.out.cell 3
  have k0_4 := K0.out.cell 4
  simp [Config.list] at k0_0 k0_1 k0_2 k0_3 k0_4
  have k0_l := K0.out.lt
  go_wp2_with fail
  clear k0_0 k0_1 k0_2 k0_3 k0_4 k0_l
  refine (held_PaneS gra0 grn0 grc0 (rollD x0 l1 a2 a3) grf0 1 W16 (by have := MI.out.1; rw [markL_length] at this; have := HBd.out; unfold szL at *; omega) (by omega) (by have := CG.out; have := HBd.out; omega) MI.out).mono ?_
  rintro e W17 ⟨rfl, bel⟩
  have BB_ := Lib.hid (BB.out.trans (bel.mono BB.out.size))
  clear BB
  have BB := BB_
  clear BB_
  have K0_ := Lib.hid (K0.out.below bel K0.out.lt)
  clear K0
  have K0 := K0_
  clear K0_
  have srR0_ := Lib.hid (srR0.out.below local_Pane bel)
  clear srR0
  have srR0 := srR0_
  clear srR0_
  have MI_ := Lib.hid (MI.out.below local_Pane bel)
  clear MI
  have MI := MI_
  clear MI_
  clear bel
  have k0_0 := K0.out.cell 0
  have k0_1 := K0.out.cell 1
  have k0_2 := K0.out.cell 2
  have k0_3 := K0.out.cell 3
  have k0_4 := K0.out.cell 4
  simp [Config.list] at k0_0 k0_1 k0_2 k0_3 k0_4
  have k0_l := K0.out.lt
  go_wp2_with fail
  clear k0_0 k0_1 k0_2 k0_3 k0_4 k0_l
  refine (to_Config x0 h0 f0 _ Y0.out (I0.out.below (BB.out))).mono ?_
  rintro e W18 ⟨yh0, yf0, rfl, yis0, yow0, bel⟩
  have BB_ := Lib.hid (BB.out.trans (bel.mono BB.out.size))
  clear BB
  have BB := BB_
  clear BB_
  have K0_ := Lib.hid (K0.out.below bel K0.out.lt)
  clear K0
  have K0 := K0_
  clear K0_
  have srR0_ := Lib.hid (srR0.out.below local_Pane bel)
  clear srR0
  have srR0 := srR0_
  clear srR0_
  have MI_ := Lib.hid (MI.out.below local_Pane bel)
  clear MI
  have MI := MI_
  clear MI_
  clear bel
  have yI0 := Lib.hid yis0
  have yO0 := Lib.hid yow0
  clear yis0 yow0
  simp only [Config.list]
  go_wp2_with fail
  refine (to_PaneS a1 n1 c1 l1 f1 _ Y1.out (I1.out.below local_Pane (BB.out))).mono ?_
  rintro e W19 ⟨yg1, yf1, rfl, yis1, yow1, bel⟩
  have BB_ := Lib.hid (BB.out.trans (bel.mono BB.out.size))
  clear BB
  have BB := BB_
  clear BB_
  have K0_ := Lib.hid (K0.out.below bel K0.out.lt)
  clear K0
  have K0 := K0_
  clear K0_
  have srR0_ := Lib.hid (srR0.out.below local_Pane bel)
  clear srR0
  have srR0 := srR0_
  clear srR0_
  have MI_ := Lib.hid (MI.out.below local_Pane bel)
  clear MI
  have MI := MI_
  clear MI_
  have yI0_ := Lib.hid (yI0.out.below bel)
  clear yI0
  have yI0 := yI0_
  clear yI0_
  have yO0_ := Lib.hid (yO0.out.below bel)
  clear yO0
  have yO0 := yO0_
  clear yO0_
  clear bel
  have yI1 := Lib.hid yis1
  have yO1 := Lib.hid yow1
  clear yis1 yow1
  go_wp2_with fail
  refine (impl_RollUp_own x0 yh0 yf0 (some ⟨yg1, 0, none⟩) n1 n1 l1 yf1 a2 a3 _ yI0.out yI1.out (Nat.le_refl _) (Nat.le_trans u1 v1) i2 i3 Y0.out Y1.out).mono ?_
  rintro e W20 ⟨yra0, yrn0, yrc0, yrf0, rfl, yrrow0, yrle0, yrmx0, yrown0, bel⟩
  have BB_ := Lib.hid (BB.out.trans (bel.mono BB.out.size))
  clear BB
  have BB := BB_
  clear BB_
  have K0_ := Lib.hid (K0.out.below bel K0.out.lt)
  clear K0
  have K0 := K0_
  clear K0_
  have srR0_ := Lib.hid (srR0.out.below local_Pane bel)
  clear srR0
  have srR0 := srR0_
  clear srR0_
  have MI_ := Lib.hid (MI.out.below local_Pane bel)
  clear MI
  have MI := MI_
  clear MI_
  have yI0_ := Lib.hid (yI0.out.below bel)
  clear yI0
  have yI0 := yI0_
  clear yI0_
  have yO0_ := Lib.hid (yO0.out.below bel)
  clear yO0
  have yO0 := yO0_
  clear yO0_
  have yI1_ := Lib.hid (yI1.out.below local_Pane bel)
  clear yI1
  have yI1 := yI1_
  clear yI1_
  have yO1_ := Lib.hid (yO1.out.below bel)
  clear yO1
  have yO1 := yO1_
  clear yO1_
  clear bel
  have yrR0 := Lib.hid yrrow0
  clear yrrow0
  have yrO0 := Lib.hid yrown0
  clear yrown0
  obtain rfl : yrn0 = grn0 := yrR0.out.1.symm.trans srR0.out.1
  have k0_0 := K0.out.cell 0
  have k0_1 := K0.out.cell 1
  have k0_2 := K0.out.cell 2
  have k0_3 := K0.out.cell 3
  have k0_4 := K0.out.cell 4
  simp [Config.list] at k0_0 k0_1 k0_2 k0_3 k0_4
  have k0_l := K0.out.lt
  go_wp2_with fail
  clear k0_0 k0_1 k0_2 k0_3 k0_4 k0_l
  refine (eq_PaneS yra0 sra0 yrn0 yrc0 src0 (rollD x0 l1 a2 a3) _ _ W20 HBd.out yrR0.out srR0.out).mono ?_
  rintro e W21 ⟨rfl, bel⟩
  have BB_ := Lib.hid (BB.out.trans (bel.mono BB.out.size))
  clear BB
  have BB := BB_
  clear BB_
  have K0_ := Lib.hid (K0.out.below bel K0.out.lt)
  clear K0
  have K0 := K0_
  clear K0_
  have srR0_ := Lib.hid (srR0.out.below local_Pane bel)
  clear srR0
  have srR0 := srR0_
  clear srR0_
  have MI_ := Lib.hid (MI.out.below local_Pane bel)
  clear MI
  have MI := MI_
  clear MI_
  have yI0_ := Lib.hid (yI0.out.below bel)
  clear yI0
  have yI0 := yI0_
  clear yI0_
  have yO0_ := Lib.hid (yO0.out.below bel)
  clear yO0
  have yO0 := yO0_
  clear yO0_
  have yI1_ := Lib.hid (yI1.out.below local_Pane bel)
  clear yI1
  have yI1 := yI1_
  clear yI1_
  have yO1_ := Lib.hid (yO1.out.below bel)
  clear yO1
  have yO1 := yO1_
  clear yO1_
  have yrR0_ := Lib.hid (yrR0.out.below local_Pane bel)
  clear yrR0
  have yrR0 := yrR0_
  clear yrR0_
  have yrO0_ := Lib.hid (yrO0.out.below bel)
  clear yrO0
  have yrO0 := yrO0_
  clear yrO0_
  clear bel
  have k0_0 := K0.out.cell 0
  have k0_1 := K0.out.cell 1
  have k0_2 := K0.out.cell 2
  have k0_3 := K0.out.cell 3
  have k0_4 := K0.out.cell 4
  simp [Config.list] at k0_0 k0_1 k0_2 k0_3 k0_4
  have k0_l := K0.out.lt
  go_wp2_with fail
  clear k0_0 k0_1 k0_2 k0_3 k0_4 k0_l
  refine (held_PaneS gra0 yrn0 grc0 (rollD x0 l1 a2 a3) grf0 1 W21 (by have := MI.out.1; rw [markL_length] at this; have := HBd.out; unfold szL at *; omega) (by omega) (by have := CG.out; have := HBd.out; omega) MI.out).mono ?_
  rintro e W22 ⟨rfl, bel⟩
  have BB_ := Lib.hid (BB.out.trans (bel.mono BB.out.size))
  clear BB
  have BB := BB_
  clear BB_
  have K0_ := Lib.hid (K0.out.below bel K0.out.lt)
  clear K0
  have K0 := K0_
  clear K0_
  have srR0_ := Lib.hid (srR0.out.below local_Pane bel)
  clear srR0
  have srR0 := srR0_
  clear srR0_
  have MI_ := Lib.hid (MI.out.below local_Pane bel)
  clear MI
  have MI := MI_
  clear MI_
  have yI0_ := Lib.hid (yI0.out.below bel)
  clear yI0
  have yI0 := yI0_
  clear yI0_
  have yO0_ := Lib.hid (yO0.out.below bel)
  clear yO0
  have yO0 := yO0_
  clear yO0_
  have yI1_ := Lib.hid (yI1.out.below local_Pane bel)
  clear yI1
  have yI1 := yI1_
  clear yI1_
  have yO1_ := Lib.hid (yO1.out.below bel)
  clear yO1
  have yO1 := yO1_
  clear yO1_
  have yrR0_ := Lib.hid (yrR0.out.below local_Pane bel)
  clear yrR0
  have yrR0 := yrR0_
  clear yrR0_
  have yrO0_ := Lib.hid (yrO0.out.below bel)
  clear yrO0
  have yrO0 := yrO0_
  clear yrO0_
  clear bel
  go_wp2_with fail
  go_ret
  exact ⟨rfl, BB.out⟩
end Go.Proofs.YtpcekmllmnfmmaaGreat.dat
