/-
  RowText on both sides, their conditions as one: numbers of 64 bits, a size.
-/
import Derived.Test.YtemefahhogdoaaaDoorRowText
import Derived.Test.YtemefahhogdoaaaDoorDataStateReads
namespace Go.Proofs.YtemefahhogdoaaaDoor.dat
open Go.RowKit Go.Proofs.YtemefahhogdoaaaDoor.win
open Go.Proofs.YtemefahhogdoaaaDoor.num (Pow Pow.below Texted I64)

def R64 (x : RowD) : Prop := W64 [x.win, x.mask, x.start] ∧ W64 x.key ∧ I64 x.times
theorem row_len {x : RowD} {h : RowH} {fp : List Nat} {w : World} (hI : Row.Is w x h fp) : x.key.length = h.keyl := by
  obtain ⟨f0, rfl, r0, _, _⟩ := hI
  exact r0.1
theorem spec_RowTextR (x : RowD) (h : RowH) (fp : List Nat) (w : World) (hI : Row.Is w x h fp) (hz : Row.sz x ≤ 1048576) (hr : R64 x) :
    Calls Tryd.prog 5 #[.agg (Row.list x h).toArray] w fun e w' => e = .returned (.string ⟨(rowT x).toArray⟩) ∧ Below w.heap.size w w' :=
  spec_RowText x h fp w hI hr.1 hr.2.1 hr.2.2 (by have := row_len hI; unfold Row.sz at hz; omega)
theorem impl_RowTextR (x : RowD) (h : RowH) (fp : List Nat) (w : World) (hI : Row.Is w x h fp) (hz : Row.sz x ≤ 1048576) (hr : R64 x) (hp : Pow w) :
    Calls Tryd.prog 7 #[.agg (Row.list x h).toArray] w fun e w' => e = .returned (.string ⟨(rowT x).toArray⟩) ∧ Below w.heap.size w w' :=
  impl_RowText x h fp w hI hr.1 hr.2.1 hr.2.2 (by have := row_len hI; unfold Row.sz at hz; omega) hp

/-! ### What can be read as a Row has numbers of 64 bits -/
theorem wf64 {z : Int} (h : (Lit.int .i64 z).wf = true) : I64 z := by
  simp [Lit.wf, IntKind.min, IntKind.max, IntKind.signed, IntKind.bits] at h
  unfold num.I64
  omega
def RInt64 : Rel Int := fun w cs z f => RInt w cs z f ∧ I64 z
theorem rd_int64 {W : World} {cs : List Value} (h : Rd W 3 cs) : ∃ x f, RInt64 W cs x f := by
  obtain ⟨z, e, hw⟩ := rd_intw h
  exact ⟨z, [], ⟨e, rfl⟩, wf64 hw⟩
theorem row64 {W : World} {a : Option Addr} {len : Nat} {l : List Int} {fp : List Nat} (h : GRow 1 RInt64 W a len l fp) : W64 l ∧ ∃ fp', GRow 1 RInt W a len l fp' := by
  refine ⟨fun z hz => ?_, h.conv fun cs x f hR => ⟨f, hR.1⟩⟩
  obtain ⟨i, hi, rfl⟩ := List.getElem_of_mem hz
  obtain ⟨b, off, y, f, cs, _, _, hy, _, hR, _⟩ := h.at (j := i) (by rw [← h.1]; exact hi)
  rw [List.getElem?_eq_getElem hi] at hy
  cases hy
  exact hR.2
theorem rd_IntS64 {W : World} {cs : List Value} (h : Rd W 22 cs) : ∃ a len cap l fp, cs = [.slice a len cap] ∧ GRow 1 RInt64 W a len l fp ∧ len ≤ cap ∧ cap ≤ 9223372036854775807 :=
  rd_slice (k := 1) (R := RInt64) Tryd.underlying22 (by kernel_rfl) (by decide) (fun _ h => rd_int64 h) h
set_option maxRecDepth 100000 in
theorem rd_Row64 {W : World} {cs : List Value} (h : Rd W 26 cs) : ∃ x f, RRow W cs x f ∧ R64 x := by
  obtain ⟨hl, hf⟩ := rd_struct Tryd.underlying26 h
  have hl' : cs.length = 9 := hl.trans (by kernel_rfl)
  obtain ⟨c0, c1, c2, c3, c4, c5, c6, c7, c8, rfl⟩ : ∃ c0 c1 c2 c3 c4 c5 c6 c7 c8, cs = [c0, c1, c2, c3, c4, c5, c6, c7, c8] := by
    match cs, hl' with
    | [c0, c1, c2, c3, c4, c5, c6, c7, c8], _ => exact ⟨_, _, _, _, _, _, _, _, _, rfl⟩
  have h0 := hf 0 _ rfl
  obtain ⟨z0, e0, q0⟩ := rd_intw h0
  have h1 := hf 1 _ rfl
  obtain ⟨z1, e1, q1⟩ := rd_intw h1
  have h2 := hf 2 _ rfl
  obtain ⟨z2, e2, q2⟩ := rd_intw h2
  have h3 := hf 3 _ rfl
  obtain ⟨a3, n3, m3, l3, g3, e3, w3, x3, y3⟩ := rd_IntS64 h3
  have h4 := hf 4 _ rfl
  obtain ⟨z4, g4, e4, _⟩ := rd_Agg h4
  have h5 := hf 5 _ rfl
  obtain ⟨z5, e5, q5⟩ := rd_intw h5
  have k0 : Tryd.prog.cellsOf 3 = 1 := by kernel_rfl
  have k1 : Tryd.prog.cellsOf 22 = 1 := by kernel_rfl
  have k2 : Tryd.prog.cellsOf 24 = 4 := by kernel_rfl
  simp [k0, k1, k2, Agg.list] at e0 e1 e2 e3 e4 e5
  subst e0; subst e1; subst e2; subst e3; obtain ⟨rfl, rfl, rfl, rfl⟩ := e4; subst e5
  obtain ⟨hk64, g3', w3'⟩ := row64 w3
  refine ⟨⟨z0, z1, z2, l3, z4, z5⟩, _, ⟨⟨a3, n3, m3⟩, rfl, g3', rfl, w3', x3, y3⟩, ⟨?_, hk64, wf64 q5⟩⟩
  intro z hz
  simp at hz
  rcases hz with rfl | rfl | rfl
  · exact wf64 q0
  · exact wf64 q1
  · exact wf64 q2
set_option maxRecDepth 100000 in
theorem arg_Row64 {W : World} {r : Reach} {b0 : Nat} {v : Value} {H : Type} {enc : TypeId × Value → H} {d : DataW H} {p : List MemPlace} (hv : Value.okWide Tryd.prog W r b0 26 v) (h : DataW.Trod enc Tryd.prog W 0 (fun _ => true) true 26 v d p) : ∃ (x : RowD) (h : RowH) (fp : List Nat), v = .agg (Row.list x h).toArray ∧ Row.Is W x h fp ∧ R64 x := by
  obtain ⟨cs, rfl, h1⟩ := rd_arg_struct Tryd.underlying26 hv h
  obtain ⟨x, f, ⟨q, rfl, hi⟩, hr⟩ := rd_Row64 h1
  exact ⟨x, q, f, rfl, hi, hr⟩
end Go.Proofs.YtemefahhogdoaaaDoor.dat
