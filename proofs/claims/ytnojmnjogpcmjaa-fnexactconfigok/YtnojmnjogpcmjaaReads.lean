/-
  WHAT CAN BE READ AS DATA, AS FACTS ON CELLS: integers, strings, structs, slices of whatever elements; a Config.
-/
import Derived.Test.YtnojmnjogpcmjaaConfLaw
import Derived.ProofKit
import Derived.Deep.Slices
namespace Go.Proofs.Ytnojmnjogpcmjaa.win
open Go.RowKit

/-- These cells can be read as data of type t. -/
def Rd (W : World) (t : TypeId) (cs : List Value) : Prop := ∃ (H : Type) (enc : TypeId × Value → H) (n : Nat) (y : DataW H × List MemPlace), DataW.trod enc Try.prog W 0 (fun _ => true) true n t cs = some y
theorem Rd.of {H : Type} {enc : TypeId × Value → H} {W : World} {t : TypeId} {v : Value} {d : DataW H} {p : List MemPlace} (h : DataW.Trod enc Try.prog W 0 (fun _ => true) true t v d p) : Rd W t v.cells.toList := by
  obtain ⟨n, hn⟩ := h
  exact ⟨H, enc, n, _, hn⟩
theorem rd_int {W : World} {cs : List Value} (h : Rd W 3 cs) : ∃ z, cs = [.int .i64 z] ∧ (Lit.int .i64 z).wf = true := by
  obtain ⟨H, enc, n, y, h⟩ := h
  obtain ⟨z, h1, _, h2⟩ := DataW.trod_int Try.underlying3 h
  exact ⟨z, h1, h2⟩
theorem rd_string {W : World} {cs : List Value} (h : Rd W 9 cs) : ∃ s : ByteArray, cs = [.string s] ∧ s.size ≤ maxLen := by
  obtain ⟨H, enc, n, y, h⟩ := h
  obtain ⟨z, h1, _, h2⟩ := DataW.trod_string Try.underlying9 h
  exact ⟨z, h1, h2⟩
theorem rd_struct {W : World} {t : TypeId} {fs : Array Field} {cs : List Value} (ht : Try.prog.underlying t = some (.struct fs)) (h : Rd W t cs) :
    cs.length = Try.prog.cellsOf t ∧ ∀ (i : Nat) (f : Field), fs[i]? = some f → Rd W f.type ((cs.drop f.offset).take (Try.prog.cellsOf f.type)) := by
  obtain ⟨H, enc, n, y, h⟩ := h
  obtain ⟨xs, m, _, _, hl, hlen, hf⟩ := DataW.trod_struct ht h
  refine ⟨hl, fun i f hi => ?_⟩
  have hi' : i < xs.length := by rw [hlen]; exact (Array.getElem?_eq_some_iff.1 hi).1
  have := hf i f hi
  rw [List.getElem?_eq_getElem hi'] at this
  exact ⟨H, enc, m, _, this⟩

/-- A slice's elements: each of k cells, of which R tells what they are. -/
def GRow {α : Type} (k : Nat) (R : World → List Value → α → Prop) (w : World) (a : Option Addr) (len : Nat) (l : List α) : Prop :=
  l.length = len ∧ (0 < len → ∃ b off, a = some ⟨b, off, none⟩ ∧ b < w.heap.size ∧ ∀ i x, l[i]? = some x → ∃ cs, cs.length = k ∧ R w cs x ∧ ∀ j, j < k → w.cell? ⟨b, off + i * k + j, none⟩ = cs[j]?)
theorem GRow.below {α : Type} {k : Nat} {R : World → List Value → α → Prop} {w w' : World} {a : Option Addr} {len : Nat} {l : List α} (h : GRow k R w a len l) (hR : ∀ cs x, R w cs x → R w' cs x) (hb : Below w.heap.size w w') : GRow k R w' a len l :=
  ⟨h.1, fun h0 => by
    obtain ⟨b, off, e, hlt, hc⟩ := h.2 h0
    refine ⟨b, off, e, Nat.lt_of_lt_of_le hlt hb.size, fun i x hx => ?_⟩
    obtain ⟨cs, h1, h2, h3⟩ := hc i x hx
    exact ⟨cs, h1, hR _ _ h2, fun j hj => (hb.cell (p := ⟨b, off + i * k + j, none⟩) hlt).trans (h3 j hj)⟩⟩

theorem rd_slice {α : Type} {W : World} {t e : TypeId} {cs : List Value} {k : Nat} {R : World → List Value → α → Prop} (ht : Try.prog.underlying t = some (.slice e)) (hk : Try.prog.cellsOf e = k) (hk0 : 0 < k)
    (hR : ∀ cs, Rd W e cs → ∃ x, R W cs x) (h : Rd W t cs) : ∃ a len cap l, cs = [.slice a len cap] ∧ len ≤ cap ∧ cap ≤ maxLen ∧ GRow k R W a len l := by
  obtain ⟨H, enc, n, y, h⟩ := h
  rcases Go.Deep.open_slice ht h with ⟨rfl, _⟩ | ⟨a, len, cap, m, n', D, Pl, rfl, hb, hl, hm, hmm, _, hx⟩
  · exact ⟨none, 0, 0, [], rfl, Nat.le_refl _, Nat.zero_le _, rfl, fun h => absurd h (by omega)⟩
  simp only [if_true] at hmm
  subst hmm
  by_cases h0 : 0 < len
  case neg =>
    obtain rfl : len = 0 := by omega
    exact ⟨some a, 0, m, [], rfl, hl, hm, rfl, fun h => absurd h (by omega)⟩
  have hel : ∀ i, i < len → ∃ x : α, ∃ cs', cs'.length = k ∧ R W cs' x ∧ ∀ j, j < k → W.cell? ((a.add (i * k)).add j) = cs'[j]? := by
    intro i hi
    obtain ⟨cs', h1, h2⟩ := hx i (by omega)
    rw [hk] at h1
    obtain ⟨_, h3, h4⟩ := World.cells?_some h1
    obtain ⟨x, hRx⟩ := hR cs' ⟨H, enc, n', _, h2⟩
    exact ⟨x, cs', h3, hRx, h4⟩
  obtain ⟨x0, _⟩ := hel 0 h0
  haveI : Inhabited α := ⟨x0⟩
  obtain ⟨F, hF⟩ := Go.Deep.choose_lt hel
  have hspot : a.spot = none := by
    obtain ⟨cs', h3, _, h4⟩ := hF 0 h0
    have h5 := h4 0 hk0
    rw [List.getElem?_eq_getElem (by omega)] at h5
    have := World.cell?_spot h5
    simpa [Addr.add] using this
  obtain ⟨b, off, spot⟩ := a
  simp only at hspot
  subst hspot
  refine ⟨_, len, m, (List.range len).map F, rfl, hl, hm, by simp, fun _ => ⟨b, off, rfl, ?_, ?_⟩⟩
  · obtain ⟨cs', h3, _, h4⟩ := hF 0 h0
    have h5 := h4 0 hk0
    rw [List.getElem?_eq_getElem (by omega)] at h5
    have := World.block_lt_of_cell? _ _ h5
    simpa [Addr.add] using this
  · intro i x hx'
    have hi : i < len := by
      have := (List.getElem?_eq_some_iff.1 hx').1
      simpa using this
    obtain ⟨cs', h3, h4, h5⟩ := hF i hi
    simp [hi] at hx'
    subst hx'
    refine ⟨cs', h3, h4, fun j hj => ?_⟩
    have := h5 j hj
    rw [Go.WideShapes.add_plain, Go.WideShapes.add_plain] at this
    exact this

/-- One number; two. -/
def RInt (_ : World) (cs : List Value) (z : Int) : Prop := cs = [.int .i64 z] ∧ (Lit.int .i64 z).wf = true
def RWin (_ : World) (cs : List Value) (x : Int × Int) : Prop := cs = [.int .i64 x.1, .int .i64 x.2]
theorem list2 {α : Type} {l : List α} (h : l.length = 2) : ∃ a b, l = [a, b] := by
  match l, h with
  | [a, b], _ => exact ⟨a, b, rfl⟩
theorem list3 {α : Type} {l : List α} (h : l.length = 3) : ∃ a b c, l = [a, b, c] := by
  match l, h with
  | [a, b, c], _ => exact ⟨a, b, c, rfl⟩
theorem list5 {α : Type} {l : List α} (h : l.length = 5) : ∃ a b c d e, l = [a, b, c, d, e] := by
  match l, h with
  | [a, b, c, d, e], _ => exact ⟨a, b, c, d, e, rfl⟩

theorem rd_win {W : World} {cs : List Value} (h : Rd W 93 cs) : ∃ x, RWin W cs x := by
  obtain ⟨hl, hf⟩ := rd_struct Try.underlying93 h
  have hl' : cs.length = 2 := hl.trans (by kernel_rfl)
  obtain ⟨a, b, rfl⟩ := list2 hl'
  have h0 := hf 0 _ rfl
  have h1 := hf 1 _ rfl
  obtain ⟨z, e0, _⟩ := rd_int h0
  obtain ⟨s, e1, _⟩ := rd_int h1
  have k1 : Try.prog.cellsOf 3 = 1 := by kernel_rfl
  simp [k1] at e0 e1
  exact ⟨(z, s), by rw [e0, e1]; rfl⟩

theorem row_of_g {w : World} {a : Option Addr} {len : Nat} {l : List Int} (h : GRow 1 RInt w a len l) : Row w a len l :=
  ⟨h.1, fun h0 => by
    obtain ⟨b, off, e, hb, hc⟩ := h.2 h0
    refine ⟨b, off, e, hb, fun i hi => ?_⟩
    have hl := h.1
    obtain ⟨cs, _, ⟨rfl, _⟩, h3⟩ := hc i _ (List.getElem?_eq_getElem (by omega))
    have := h3 0 (by omega)
    simp only [Nat.mul_one, Nat.add_zero] at this
    rw [this, List.getD_eq_getElem?_getD, List.getElem?_eq_getElem (show i < l.length by omega)]
    rfl⟩
theorem wf_of_g {w : World} {a : Option Addr} {len : Nat} {l : List Int} (h : GRow 1 RInt w a len l) : ∀ z ∈ l, (Lit.int .i64 z).wf = true := by
  intro z hz
  obtain ⟨i, hi, rfl⟩ := List.getElem_of_mem hz
  have hl := h.1
  obtain ⟨b, off, e, hb, hc⟩ := h.2 (by omega)
  obtain ⟨cs, _, ⟨_, h2⟩, _⟩ := hc i _ (List.getElem?_eq_getElem hi)
  exact h2
theorem wrow_of_g {w : World} {a : Option Addr} {len : Nat} {l : List (Int × Int)} (h : GRow 2 RWin w a len l) : WRow w a len l :=
  ⟨h.1, fun h0 => by
    obtain ⟨b, off, e, hb, hc⟩ := h.2 h0
    refine ⟨b, off, e, hb, fun i hi => ?_⟩
    have hl := h.1
    obtain ⟨cs, _, rfl, h3⟩ := hc i _ (List.getElem?_eq_getElem (by omega))
    have k0 := h3 0 (by omega)
    have k1 := h3 1 (by omega)
    simp only [Nat.add_zero] at k0
    rw [k0, k1, List.getD_eq_getElem?_getD, List.getElem?_eq_getElem (show i < l.length by omega)]
    exact ⟨rfl, rfl⟩⟩

theorem rd_ints {W : World} {cs : List Value} (h : Rd W 25 cs) : ∃ a len cap l, cs = [.slice a len cap] ∧ len ≤ cap ∧ cap ≤ maxLen ∧ Row W a len l ∧ ∀ z ∈ l, (Lit.int .i64 z).wf = true := by
  obtain ⟨a, len, cap, l, h1, h2, h3, h4⟩ := rd_slice (k := 1) (R := RInt) Try.underlying25 (by kernel_rfl) (by decide) (fun cs h => by obtain ⟨z, e, hw⟩ := rd_int h; exact ⟨z, e, hw⟩) h
  exact ⟨a, len, cap, l, h1, h2, h3, row_of_g h4, wf_of_g h4⟩
theorem rd_wins {W : World} {cs : List Value} (h : Rd W 36 cs) : ∃ a len cap l, cs = [.slice a len cap] ∧ len ≤ cap ∧ cap ≤ maxLen ∧ WRow W a len l := by
  obtain ⟨a, len, cap, l, h1, h2, h3, h4⟩ := rd_slice (k := 2) (R := RWin) Try.underlying36 (by kernel_rfl) (by decide) (fun cs h => rd_win h) h
  exact ⟨a, len, cap, l, h1, h2, h3, wrow_of_g h4⟩

set_option maxRecDepth 100000 in
/-- A Config that is an argument. -/
theorem rd_config {W : World} {r : Reach} {b0 : Nat} {v : Value} {H : Type} {enc : TypeId × Value → H} {d : DataW H} {p : List MemPlace} (hv : Value.okWide Try.prog W r b0 38 v) (h : DataW.Trod enc Try.prog W 0 (fun _ => true) true 38 v d p) :
    ∃ (c : Cf) (ws : List (Int × Int)) (ms : List Int), v = .agg c.cells ∧ c.Is W ws ms := by
  obtain ⟨cs, rfl, _⟩ := Go.WideShapes.okWide_struct Try.underlying38 hv
  obtain ⟨hl, hf⟩ := rd_struct Try.underlying38 (Rd.of h)
  have hl' : (Value.agg cs).cells.toList.length = 5 := hl.trans (by kernel_rfl)
  simp only [Value.cells] at hl' hf
  obtain ⟨c0, c1, c2, c3, c4, hcs⟩ := list5 hl'
  obtain rfl : cs = #[c0, c1, c2, c3, c4] := by
    cases cs; simp at hcs; subst hcs; rfl
  have h0 := hf 0 _ rfl
  have h1 := hf 1 _ rfl
  have h2 := hf 2 _ rfl
  have h3 := hf 3 _ rfl
  have h4 := hf 4 _ rfl
  obtain ⟨z0, e0, _⟩ := rd_int h0
  obtain ⟨a1, n1, m1, l1, e1, x1, y1, w1⟩ := rd_wins h1
  obtain ⟨a2, n2, m2, l2, e2, x2, y2, w2, _⟩ := rd_ints h2
  obtain ⟨z3, e3, _⟩ := rd_int h3
  obtain ⟨z4, e4, _⟩ := rd_int h4
  have k1 : Try.prog.cellsOf 3 = 1 := by kernel_rfl
  have k2 : Try.prog.cellsOf 25 = 1 := by kernel_rfl
  have k3 : Try.prog.cellsOf 36 = 1 := by kernel_rfl
  simp [k1, k2, k3] at e0 e1 e2 e3 e4
  refine ⟨⟨z0, a1, n1, m1, a2, n2, m2, z3, z4⟩, l1, l2, by rw [e0, e1, e2, e3, e4]; rfl, ⟨w1, w2⟩, x1, x2, ?_, ?_⟩
  · simp only [maxLen] at y1; simp only; omega
  · simp only [maxLen] at y2; simp only; omega
end Go.Proofs.Ytnojmnjogpcmjaa.win
