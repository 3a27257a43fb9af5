/-
  THE CONTRACTS OF slices.Grow (of nil) and slices.Concat (three rows of numbers): one new row of all of them, in order; nothing that was there is written.
-/
import Derived.Test.YtemefahhogdoaaaDoorRowMath
import Derived.Test.YtemefahhogdoaaaDoorLent2
import Derived.Lib.AppendZeros
import Derived.Deep.Upon
namespace Go.Proofs.YtemefahhogdoaaaDoor.dat
open Go.RowKit Go.Proofs.YtemefahhogdoaaaDoor.win

theorem zeros_size (n : Nat) : (Builtin.zeroCells #[Value.int .i64 0] n).size = n := by
  simp [Builtin.zeroCells]
set_option maxRecDepth 100000 in
set_option maxHeartbeats 1000000 in
theorem growNil (n : Nat) (hn : n ≤ 1000000000) (w : World) :
    Calls Tryd.prog 40 #[.slice none 0 0, .int .i64 (n : Int)] w (fun e w' => ∃ v, e = .returned v ∧ Grows 1 RInt 3 w.heap.size w' v ([] : List Int) ∧ Below w.heap.size w w') := by
  obtain ⟨i0, hi, hi2⟩ := Option.map_eq_some_iff.1 dat.info_int
  simp only [Prod.mk.injEq] at hi2
  obtain ⟨hz0, hz1, hz2⟩ := hi2
  by_cases h0 : 0 < n
  case neg =>
    obtain rfl : n = 0 := by omega
    go_enter Tryd.func40, Tryd.ntmps40
    go_wp2_with fail
    go_ret
    exact ⟨_, rfl, Grows.nil, Below.refl _ _⟩
  have hr := Lib.run_append_nil_zeros (P := Tryd.prog) w 22 3 22 3 i0 (.int .i64 0) .i64 .i64 Tryd.underlying22 Tryd.underlying3 hi hz0 n h0 (by omega) (by omega) (by rw [hz2]; omega)
  have hge := grownCap_ge w n 0 3
  have hle := grownCap_le_maxLen w n 0 3 (by unfold maxLen; omega)
  obtain ⟨c, hc⟩ : ∃ c, grownCap w n 0 3 = c := ⟨_, rfl⟩
  rw [hc] at hr hge hle
  have HGE := Lib.hid (And.intro hge hle)
  have HR := Lib.hid hr
  have hn0 : (0 : Int) < (n : Int) := by omega
  clear hc hr
  have hcn : (n : Int) ≤ (c : Int) := by omega
  clear hge hle
  go_enter Tryd.func40, Tryd.ntmps40
  go_wp2_with (at_builtin; refine Lib.wpList_append_run _ rfl _ _ _ _ rfl _ _ rfl rfl _ _ HR.out ?_)
  go_ret
  refine ⟨_, rfl, Grows.made (w := w.drew) _ c (by simp) HGE.out.2 ?_, by repeat (first | exact Below.refl _ _ | refine Below.setCell ?_ (by first | omega | (simp; done) | (simp; omega)) _ | refine Below.alloc ?_ (by first | omega | (simp; done) | (simp; omega)) _ | apply Below.drew)⟩
  have e1 := zeros_size n
  have e2 := zeros_size (c - n)
  have e3 := HGE.out.1
  rw [Array.size_append]
  show (Builtin.zeroCells #[Value.int .i64 0] n).size + (Builtin.zeroCells #[Value.int .i64 0] (c - n)).size = c * 1
  rw [e1, e2]
  omega

/-- The first j rows, one behind the other. -/
def ccat (ls : Nat → List Int) : Nat → List Int
  | 0 => []
  | j + 1 => ccat ls j ++ ls j
/-- n rows of numbers in a block. -/
def RowsAt (w : World) (b n : Nat) (ls : Nat → List Int) : Prop := ∀ j, j < n → ∃ a len cap fp, w.cell? ⟨b, j, none⟩ = some (.slice a len cap) ∧ GRow 1 RInt w a len (ls j) fp ∧ len ≤ 2000000 ∧ b < w.heap.size
theorem ccat_len {w : World} {b n : Nat} {ls : Nat → List Int} (h : RowsAt w b n ls) : ∀ j, j ≤ n → (ccat ls j).length ≤ 2000000 * j
  | 0, _ => by simp [ccat]
  | j + 1, hj => by
    have ih := ccat_len h j (by omega)
    obtain ⟨a, len, cap, fp, _, hr, hl, _⟩ := h j (by omega)
    have := hr.1
    simp only [ccat, List.length_append]
    omega
set_option maxRecDepth 100000 in
set_option maxHeartbeats 2000000 in
theorem concatN (b n : Nat) (ls : Nat → List Int) (w : World) (hn : n ≤ 100) (hrows : RowsAt w b n ls) :
    Calls Tryd.prog 34 #[.slice (some ⟨b, 0, none⟩) n n] w (fun e w' => ∃ v, e = .returned v ∧ Grows 1 RInt 3 w.heap.size w' v (ccat ls n) ∧ Below w.heap.size w w') := by
  have HR := Lib.hid hrows
  have HC := Lib.hid (ccat_len hrows)
  clear hrows
  obtain ⟨i0, hi, hi2⟩ := Option.map_eq_some_iff.1 dat.info_int
  simp only [Prod.mk.injEq] at hi2
  obtain ⟨hz0, hz1, hz2⟩ := hi2
  have HI := Lib.hid (And.intro hi (And.intro hz0 (And.intro hz1 hz2)))
  clear hi hz0 hz1 hz2
  go_enter Tryd.func34, Tryd.ntmps34
  go_wp2_with fail
  go_loopg [3, 11] n (fun k sv iv wr => ∃ j s : Nat, j + k = n ∧ sv = .int .i64 s ∧ iv = .int .i64 j ∧ s ≤ 2000000 * j ∧ w = wr)
  case atStart => exact ⟨0, 0, by omega, rfl, rfl, by omega, rfl⟩
  case round =>
    obtain ⟨j, s, hj, rfl, rfl, hs, rfl⟩ := hrel
    by_cases hlt : j < n
    · obtain ⟨a, len, cap, fp, hc, hr, hl, hb⟩ := HR.out j hlt
      have hlt2 : (j : Int) < (n : Int) := by omega
      have h02 : (0 : Int) ≤ (j : Int) := by omega
      have hc' : w.cell? ⟨b, 0 + j, none⟩ = some (.slice a len cap) := by rw [Nat.zero_add]; exact hc
      clear hr
      go_wp2_with fail
      go_roundg (n - (j + 1))
      case measure => omega
      case rel => exact ⟨j + 1, s + len, by omega, by go_num, by go_num, by omega, rfl⟩
    obtain rfl : j = n := by omega
    go_wp2_with fail
    refine (growNil s (by omega) w).mono ?_
    rintro e w1 ⟨v, rfl, hG, hb⟩
    have HG := Lib.hid hG
    have HB := Lib.hid hb
    clear hG hb
    go_wp2_with fail
    go_loopg [6, 27] j (fun k v iv wr => ∃ q : Nat, q + k = j ∧ iv = .int .i64 q ∧ Grows 1 RInt 3 w.heap.size wr v (ccat ls q) ∧ Below w.heap.size w wr)
    case atStart => exact ⟨0, by omega, rfl, HG.out, HB.out⟩
    case round =>
      obtain ⟨q, hq, rfl, hG, hB⟩ := hrel
      have HG2 := Lib.hid hG
      have HB2 := Lib.hid hB
      by_cases hlt : q < j
      case neg =>
        obtain rfl : q = j := by omega
        clear hG hB
        go_wp2_with fail
        go_ret
        exact ⟨_, rfl, HG2.out, HB2.out⟩
      obtain ⟨a, len, cap, fp, hc, hr, hl, hbl⟩ := HR.out q hlt
      have hlt2 : (q : Int) < (j : Int) := by omega
      have h02 : (0 : Int) ≤ (q : Int) := by omega
      have hc' : wr.cell? ⟨b, q, none⟩ = some (.slice a len cap) := (hB.cell (p := ⟨b, q, none⟩) hbl).trans hc
      have hc2 : wr.cell? ⟨b, 0 + q, none⟩ = some (.slice a len cap) := by rw [Nat.zero_add]; exact hc'
      have HX := Lib.hid (hr.below local_int hB)
      have HL := Lib.hid (And.intro (HC.out q (by omega)) hl)
      have hsz := hB.size
      clear hG hB hc hr hl
      go_wp2_with (at_builtin; refine pushAny (R := RInt) (l2 := ls q) (by decide) local_int (fun h => h.2) (fun h => h) int_one rfl _ _ 22 rfl i0 (.int .i64 0) 8 Tryd.underlying22 HI.out.1 HI.out.2.1 HI.out.2.2.1 HI.out.2.2.2 rfl rfl HG2.out (Below.refl _ _) a len cap fp rfl HX.out (by have := HL.out; omega) (by have := HL.out; unfold maxLen; omega) hsz ?_; intro v' w4 hG4 hb4 _)
      go_roundg (j - (q + 1))
      case measure => omega
      case rel => exact ⟨q + 1, by omega, by go_num, hG4, HB2.out.trans hb4⟩
end Go.Proofs.YtemefahhogdoaaaDoor.dat
