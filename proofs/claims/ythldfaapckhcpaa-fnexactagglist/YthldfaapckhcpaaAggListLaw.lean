/-
  THE WALK OF THE LAW FnExactAggList, out of the contracts: it answers true, and nothing that was there is written.
-/
import Derived.Test.YthldfaapckhcpaaAggListSpec
import Derived.Test.YthldfaapckhcpaaIntsCopy
namespace Go.Proofs.Ythldfaapckhcpaa.agg
open Go.RowKit

/-- A slice of numbers as a row's reading finds it: nil, or a row of 'cap' cells of which the first 'len' are its elements. -/
def IsRow (k : IntKind) (w : World) (a : Option Addr) (len cap : Nat) (zs : List Int) : Prop :=
  (a = none ∧ len = 0 ∧ cap = 0 ∧ zs = []) ∨
  ∃ x, a = some x ∧ len ≤ cap ∧ cap ≤ maxLen ∧ zs.length = cap ∧ (∀ i, i < zs.length → w.cell? (x.add i) = some (.int k (zs.getD i 0))) ∧ ∀ n ∈ zs, (Lit.int k n).wf = true

theorem IsRow.row {w : World} {a : Option Addr} {len cap : Nat} {zs : List Int} (h : IsRow .i64 w a len cap zs) : Row w a len (zs.take len) := by
  rcases h with ⟨rfl, rfl, rfl, rfl⟩ | ⟨x, rfl, hl, hm, hz, hc, hw⟩
  · exact Row.nil w _
  · refine ⟨by rw [List.length_take]; omega, fun h0 => ?_⟩
    obtain ⟨b, off, spot⟩ := x
    have h1 := hc 0 (by omega)
    have hspot : spot = none := by simpa [Addr.add] using World.cell?_spot h1
    subst hspot
    have hb : b < w.heap.size := by
      apply Classical.byContradiction
      intro hn
      have : w.heap[b]? = none := by simp; omega
      simp [World.cell?, Addr.add, this] at h1
    refine ⟨b, off, rfl, hb, fun i hi => ?_⟩
    have h2 := hc i (by omega)
    have e : (⟨b, off, none⟩ : Addr).add i = ⟨b, off + i, none⟩ := by
      by_cases h0 : i = 0
      · subst h0; rfl
      · simp [Addr.add, h0]
    rw [e] at h2
    rw [List.getD_eq_getElem?_getD, List.getElem?_take, if_pos hi, ← List.getD_eq_getElem?_getD]
    exact h2

set_option maxHeartbeats 1000000 in
theorem walk_AggList (a : Option Addr) (len cap : Nat) (zs : List Int) (w : World) (hrow : IsRow .i64 w a len cap zs) :
    Calls Try.prog 8 #[.slice a len cap] w fun e w' => e = .returned (.bool true) ∧ Below w.heap.size w w' := by
  have hr := hrow.row
  have hlen : (zs.take len).length = len := hr.1
  clear hrow
  generalize zs.take len = l at *
  have HR := Lib.hid hr
  have HL := Lib.hid hlen
  clear hr hlen
  by_cases hbig : 1048576 < len
  · go_enter Try.func8, Try.ntmps8
    go_wp2_with fail
    go_ret
    exact ⟨rfl, Below.refl _ _⟩
  · have hle : len ≤ 2000000 := by omega
    go_enter Try.func8, Try.ntmps8
    go_wp2_with fail
    refine (toIntS _ _ _ l _ hle HR.out).mono ?_
    rintro e w1 ⟨rfl, hb1, hr1⟩
    have HR1 := Lib.hid (Copied.row HL.out hr1)
    have HS1 := Lib.hid hr1
    clear hr1
    go_wp2_with fail
    refine (spec_AggList _ _ _ l _ hle HR1.out).mono ?_
    rintro e w2 ⟨rfl, hb2⟩
    have H2 := Lib.hid (hb1.trans (hb2.mono hb1.size))
    clear hb1 hb2 HS1 HR1
    go_wp2_with fail
    have hb2a : Below w.heap.size w (w2.alloc (.cells #[.int .i64 (listV l).n, .int .i64 (listV l).s, .int .i64 (listV l).mn, .int .i64 (listV l).mx] 25)) := H2.out.alloc H2.out.size _
    refine (toIntS _ _ _ l _ hle (HR.out.below hb2a)).mono ?_
    rintro e w3 ⟨rfl, hb3, hr3⟩
    have hx := (box_alloc w2 (listV l) 25).below hb3 (by simp)
    have H3 := Lib.hid (hb2a.trans (hb3.mono hb2a.size))
    have HR3 : Hid (Row w3 (some ⟨w2.heap.size + 1, 0, none⟩) len l) := by
      have h := Copied.row HL.out hr3
      rw [World.size_alloc] at h
      exact h
    have z2 : w2.heap.size < w3.heap.size := Nat.lt_of_lt_of_le (by simp) hb3.size
    clear hb2a hb3 hr3 H2
    go_wp2_with fail
    refine (impl_AggList _ _ _ l _ HR3.out).mono ?_
    rintro e w4 ⟨rfl, hb4⟩
    replace hx := hx.below hb4 z2
    have H4 := Lib.hid (H3.out.trans (hb4.mono H3.out.size))
    have HR4 := Lib.hid (HR3.out.below hb4)
    have z4 : w2.heap.size < w4.heap.size := Nat.lt_of_lt_of_le z2 hb4.size
    clear hb4 z2 H3 HR3
    obtain ⟨x0, x1, x2, x3⟩ := hx
    go_wp2_with fail
    refine (eqAgg_same _ _ _ _ _).mono ?_
    rintro e w5 ⟨rfl, hb5⟩
    have hb4a : Below w.heap.size w (w4.alloc (.cells #[.int .i64 (listV l).n, .int .i64 (listV l).s, .int .i64 (listV l).mn, .int .i64 (listV l).mx] 25)) := H4.out.alloc H4.out.size _
    have H5 := Lib.hid (hb4a.trans (hb5.mono hb4a.size))
    have HR5 := Lib.hid ((HR4.out.below ((Below.refl _ _).alloc (Nat.le_refl _) (.cells #[.int .i64 (listV l).n, .int .i64 (listV l).s, .int .i64 (listV l).mn, .int .i64 (listV l).mx] 25))).below hb5)
    clear hb5 hb4a x0 x1 x2 x3 z4 H4 HR4
    go_wp2_with fail
    refine (toIntS _ _ _ l _ hle (HR.out.below H5.out)).mono ?_
    rintro e w6 ⟨rfl, hb6, hr6⟩
    have H6 := Lib.hid (H5.out.trans (hb6.mono H5.out.size))
    have HR6 := Lib.hid (Copied.row HL.out hr6)
    have HR6a := Lib.hid (HR5.out.below hb6)
    clear hb6 hr6
    go_wp2_with fail
    refine (eqIntS_same _ _ _ _ _ l _ hle HR6a.out HR6.out).mono ?_
    rintro e w7 ⟨rfl, hb7⟩
    go_wp2_with fail
    go_ret
    exact ⟨rfl, H6.out.trans (hb7.mono H6.out.size)⟩
end Go.Proofs.Ythldfaapckhcpaa.agg
