/-
  WHAT CAN BE READ AS DATA IS DATA IN MEMORY: integers, strings, structs, slices of whatever elements.
-/
import Derived.Test.YtoglclmaacjdaaaData
import Derived.ProofKit
import Derived.Deep.Slices
namespace Go.Proofs.Ytoglclmaacjdaaa.dat
open Go.RowKit Go.Proofs.Ytoglclmaacjdaaa.win

/-- These cells can be read as data of type t. -/
def Rd (W : World) (t : TypeId) (cs : List Value) : Prop := ∃ (H : Type) (enc : TypeId × Value → H) (n : Nat) (y : DataW H × List MemPlace), DataW.trod enc Try.prog W 0 (fun _ => true) true n t cs = some y
theorem Rd.of {H : Type} {enc : TypeId × Value → H} {W : World} {t : TypeId} {v : Value} {d : DataW H} {p : List MemPlace} (h : DataW.Trod enc Try.prog W 0 (fun _ => true) true t v d p) : Rd W t v.cells.toList := by
  obtain ⟨n, hn⟩ := h
  exact ⟨H, enc, n, _, hn⟩
theorem rd_int {W : World} {cs : List Value} (h : Rd W 3 cs) : ∃ z f, RInt W cs z f := by
  obtain ⟨H, enc, n, y, h⟩ := h
  obtain ⟨z, h1, _, h2⟩ := DataW.trod_int Try.underlying3 h
  exact ⟨z, [], h1, rfl⟩
theorem rd_intw {W : World} {cs : List Value} (h : Rd W 3 cs) : ∃ z, cs = [.int .i64 z] ∧ (Lit.int .i64 z).wf = true := by
  obtain ⟨H, enc, n, y, h⟩ := h
  obtain ⟨z, h1, _, h2⟩ := DataW.trod_int Try.underlying3 h
  exact ⟨z, h1, h2⟩
theorem rd_string {W : World} {cs : List Value} (h : Rd W 9 cs) : ∃ s f, RStr W cs s f := by
  obtain ⟨H, enc, n, y, h⟩ := h
  obtain ⟨z, h1, _, h2⟩ := DataW.trod_string Try.underlying9 h
  exact ⟨z, [], h1, by simp only [maxLen] at h2; omega, rfl⟩
theorem rd_struct {W : World} {t : TypeId} {fs : Array Field} {cs : List Value} (ht : Try.prog.underlying t = some (.struct fs)) (h : Rd W t cs) :
    cs.length = Try.prog.cellsOf t ∧ ∀ (i : Nat) (f : Field), fs[i]? = some f → Rd W f.type ((cs.drop f.offset).take (Try.prog.cellsOf f.type)) := by
  obtain ⟨H, enc, n, y, h⟩ := h
  obtain ⟨xs, m, _, _, hl, hlen, hf⟩ := DataW.trod_struct ht h
  refine ⟨hl, fun i f hi => ?_⟩
  have hi' : i < xs.length := by rw [hlen]; exact (Array.getElem?_eq_some_iff.1 hi).1
  have := hf i f hi
  rw [List.getElem?_eq_getElem hi'] at this
  exact ⟨H, enc, m, _, this⟩

theorem rd_slice {α : Type} {W : World} {t e : TypeId} {cs : List Value} {k : Nat} {R : Rel α} (ht : Try.prog.underlying t = some (.slice e)) (hk : Try.prog.cellsOf e = k) (hk0 : 0 < k)
    (hR : ∀ cs, Rd W e cs → ∃ x f, R W cs x f) (h : Rd W t cs) : ∃ a len cap l fp, cs = [.slice a len cap] ∧ GRow k R W a len l fp ∧ len ≤ cap ∧ cap ≤ 9223372036854775807 := by
  obtain ⟨H, enc, n, y, h⟩ := h
  rcases Go.Deep.open_slice ht h with ⟨rfl, _⟩ | ⟨a, len, cap, m, n', D, Pl, rfl, hb, hl, hm, hmm, _, hx⟩
  · exact ⟨none, 0, 0, [], [], rfl, GRow.nil, Nat.le_refl _, Nat.zero_le _⟩
  have hm' : cap ≤ 9223372036854775807 := by simp only [maxLen] at hm; omega
  simp only [if_true] at hmm
  subst hmm
  by_cases h0 : 0 < len
  case neg =>
    obtain rfl : len = 0 := by omega
    exact ⟨some a, 0, m, [], [], rfl, GRow.nil, hl, hm'⟩
  have hel : ∀ i, i < len → ∃ xf : α × List Nat, ∃ cs', cs'.length = k ∧ R W cs' xf.1 xf.2 ∧ ∀ j, j < k → W.cell? ((a.add (i * k)).add j) = cs'[j]? := by
    intro i hi
    obtain ⟨cs', h1, h2⟩ := hx i (by omega)
    rw [hk] at h1
    obtain ⟨_, h3, h4⟩ := World.cells?_some h1
    obtain ⟨x, f, hRx⟩ := hR cs' ⟨H, enc, n', _, h2⟩
    exact ⟨(x, f), cs', h3, hRx, h4⟩
  obtain ⟨x0, _⟩ := hel 0 h0
  haveI : Inhabited (α × List Nat) := ⟨x0⟩
  obtain ⟨G, hG⟩ := Go.Deep.choose_lt hel
  have hspot : a.spot = none := by
    obtain ⟨cs', h3, _, h4⟩ := hG 0 h0
    have h5 := h4 0 hk0
    rw [List.getElem?_eq_getElem (by omega)] at h5
    have := World.cell?_spot h5
    simpa [Addr.add] using this
  obtain ⟨b, off, spot⟩ := a
  simp only at hspot
  subst hspot
  refine ⟨_, len, m, (List.range len).map (fun i => (G i).1), b :: ((List.range len).map (fun i => (G i).2)).flatten, rfl, ⟨by simp, .inr ⟨b, off, (List.range len).map (fun i => (G i).2), rfl, ?_, rfl, by simp, ?_⟩⟩, hl, hm'⟩
  · obtain ⟨cs', h3, _, h4⟩ := hG 0 h0
    have h5 := h4 0 hk0
    rw [List.getElem?_eq_getElem (by omega)] at h5
    have := World.block_lt_of_cell? _ _ h5
    simpa [Addr.add] using this
  · intro i x f hx' hf'
    have hi : i < len := by
      have := (List.getElem?_eq_some_iff.1 hx').1
      simpa using this
    obtain ⟨cs', h3, h4, h5⟩ := hG i hi
    simp [hi] at hx' hf'
    subst hx' hf'
    refine ⟨cs', h3, h4, fun j hj => ?_⟩
    have := h5 j hj
    rw [Go.WideShapes.add_plain, Go.WideShapes.add_plain] at this
    exact this
theorem agg_of {cs : Array Value} {l : List Value} (h : (Value.agg cs).cells.toList = l) : Value.agg cs = .agg l.toArray := by
  simp only [Value.cells] at h
  rw [← h]
set_option maxRecDepth 100000 in
/-- What an argument reads as, by its type's shape. -/
theorem rd_arg_struct {W : World} {r : Reach} {b0 : Nat} {t : TypeId} {fs : Array Field} {v : Value} {H : Type} {enc : TypeId × Value → H} {d : DataW H} {p : List MemPlace} (ht : Try.prog.underlying t = some (.struct fs)) (hv : Value.okWide Try.prog W r b0 t v) (h : DataW.Trod enc Try.prog W 0 (fun _ => true) true t v d p) : ∃ cs : List Value, v = .agg cs.toArray ∧ Rd W t cs := by
  obtain ⟨cs, rfl, _⟩ := Go.WideShapes.okWide_struct ht hv
  exact ⟨_, agg_of rfl, Rd.of h⟩
set_option maxRecDepth 100000 in
theorem rd_arg_slice {W : World} {r : Reach} {b0 : Nat} {t e : TypeId} {v : Value} {H : Type} {enc : TypeId × Value → H} {d : DataW H} {p : List MemPlace} (ht : Try.prog.underlying t = some (.slice e)) (hv : Value.okWide Try.prog W r b0 t v) (h : DataW.Trod enc Try.prog W 0 (fun _ => true) true t v d p) : Rd W t [v] ∧ ∃ a len cap, v = .slice a len cap := by
  obtain ⟨a, len, cap, rfl⟩ := Go.WideShapes.okWide_slice ht hv
  exact ⟨by simpa [Value.cells] using Rd.of h, a, len, cap, rfl⟩
end Go.Proofs.Ytoglclmaacjdaaa.dat
