/-
  THE DRAWS: the contract of DrawStarts: some kind of windows and some time, whatever the code; nothing that was there is written.
  Condition: the code is a slice of bytes, at most 2,000,000 of them.
-/
import Derived.Test.YtpjimeanimghdaaCurWin
import Derived.Test.YtpjimeanimghdaaCurTime
namespace Go.Proofs.Ytpjimeanimghdaa.cur
open Go.RowKit

/-- One of three numbers, by its place. -/
def sel3 (r a b c : Int) : Int := if r = 0 then a else if r = 1 then b else c
theorem sel3_arr (a b c r : Int) (h0 : 0 ≤ r) (h1 : r < 3) : (#[Value.int .i64 a, .int .i64 b, .int .i64 c] : Array Value)[r.toNat]? = some (.int .i64 (sel3 r a b c)) := by
  have : r = 0 ∨ r = 1 ∨ r = 2 := by omega
  rcases this with rfl | rfl | rfl <;> simp [sel3]
theorem sel3_cell (w : World) (t : TypeId) (a b c r : Int) (h0 : 0 ≤ r) (h1 : r < 3) : (w.alloc (.cells #[.int .i64 a, .int .i64 b, .int .i64 c] t)).cell? ⟨w.heap.size, r.toNat, none⟩ = some (.int .i64 (sel3 r a b c)) := by
  have : r = 0 ∨ r = 1 ∨ r = 2 := by omega
  rcases this with rfl | rfl | rfl <;> simp [go_sem, sel3]

theorem below_set2 {w : World} {g : Nat} (a b : Value) : Below g w ((w.setCell ⟨g, 0, none⟩ a).setCell ⟨g, 1, none⟩ b) :=
  Below.setCell (p := ⟨g, 1, none⟩) (Below.setCell (p := ⟨g, 0, none⟩) (Below.refl g w) (Nat.le_refl g) a) (Nat.le_refl g) b

/-- What DrawStarts answers, and what it leaves. -/
def WinTime (w : World) (e : Ending) (w' : World) : Prop :=
  ∃ z l t : Int, e = .returned (.tuple #[.agg #[.int .i64 z, .int .i64 l], .int .i64 t]) ∧ Below w.heap.size w w'

set_option maxRecDepth 100000 in
set_option maxHeartbeats 2000000 in
theorem DrawStarts_any (a : Option Addr) (len cap : Nat) (w : World) (hle : len ≤ 2000000) (hcode : Code w a len) :
    Calls Try.prog 11 #[.slice a len cap] w (WinTime w) := by
  have HK := Lib.hid hcode
  clear hcode
  go_enter Try.func11, Try.ntmps11
  go_wp2_with fail
  have hB0 : Below w.heap.size w (w.alloc (.cells #[.int .i64 0, .int .i64 0] 25)) := (Below.refl _ _).alloc (Nat.le_refl _) _
  have hR0 := own2_alloc w 0 0 25
  have hS0 : (w.alloc (.cells #[.int .i64 0, .int .i64 0] 25)).heap.size = w.heap.size + 1 := by simp
  generalize w.alloc (.cells #[.int .i64 0, .int .i64 0] 25) = w0 at *
  have HB0 := Lib.hid hB0
  have HR0 := Lib.hid hR0
  have HS0 := Lib.hid hS0
  clear hB0 hR0 hS0
  refine (l01Open_cur _ _ _ _ hle (HK.out.below HB0.out)).mono ?_
  rintro e w1 ⟨rfl, hc1, hb1⟩
  have H1 := Lib.hid hc1
  have HO1 := Lib.hid hb1
  clear hc1 hb1
  go_wp2_with fail
  refine (win_any _ _ _ _ _ _ (by omega) H1.out).mono ?_
  rintro e w2 ⟨z, l, rfl, hc2, ho2⟩
  have HO2 := Lib.hid ((Only.of_below HO1.out).trans ho2)
  have H2 := Lib.hid hc2
  clear hc2 ho2
  go_wp2_with fail
  have hbx : Below w2.heap.size w2 (w2.alloc (.cells #[.int .i64 z, .int .i64 l] 25)) := (Below.refl _ _).alloc (Nat.le_refl _) _
  refine (once_any _ _ _ _ _ 10 _ (by omega) (H2.out.below hbx)).mono ?_
  rintro e w3 ⟨t, rfl, hc3, ho3⟩
  have HX3 := Lib.hid (Own2.only (own2_alloc w2 z l 25) ho3 (by simp) (by have := H2.out.lt; omega))
  have HO3 := Lib.hid ((HO2.out.trans (Only.of_below hbx)).trans ho3)
  have H3 := Lib.hid hc3
  have z3 : w2.heap.size < w3.heap.size := Nat.lt_of_lt_of_le (by simp) ho3.size
  have ny : w2.heap.size ≠ w0.heap.size := by have := H2.out.lt; omega
  clear hc3 ho3 hbx HO2 H2
  generalize w2.heap.size = y at *
  have HR3 := Lib.hid (Own2.only HR0.out HO3.out (by have := HS0.out; omega) (by have := HS0.out; omega))
  have nr : w.heap.size ≠ w0.heap.size := by have := HS0.out; omega
  have zr : w.heap.size < w3.heap.size := by have := HS0.out; have := HO3.out.size; omega
  have zb : w.heap.size < w0.heap.size := by have := HS0.out; omega
  obtain ⟨⟨c0, c1⟩, cf⟩ := HX3.out
  clear HR0 HO1 H1 HK
  cases t
  · -- no: some time
    go_wp2_with fail
    go_region_with ((go_at_call 53; refine (time_any w0.heap.size a len cap (0 + 8 + 1) _ (by omega) ?_).mono ?_; (exact H3.out.belowB (B := w3.heap.size) (by repeat (first | exact Below.refl _ _ | refine Below.setCell ?_ (by first | omega | (simp; done) | (simp; omega)) _ | refine Below.alloc ?_ (by first | omega | (simp; done) | (simp; omega)) _ | apply Below.drew)) H3.out.lt); (rintro e w4 ⟨q, rfl, qb, hc4, ho4⟩); have o34 : Only w0.heap.size w3 w4 := Only.trans (by first | exact Only.refl _ w3 | exact (Only.refl _ w3).drew) ho4; have hR4 := Own2.only HR3.out o34 zr nr; have hX4 := Own2.only HX3.out o34 z3 ny; obtain ⟨⟨r0, r1⟩, rf⟩ := hR4; obtain ⟨⟨x0, x1⟩, xf⟩ := hX4; have rf0 := rf 0; have rf1 := rf 1))
    all_goals (
      have hb4 : Below w.heap.size w w4 := HB0.out.trans (((HO3.out.trans o34).below (B := w.heap.size) (by omega) (by have := HS0.out; omega)))
      clear ho4 o34
      go_wp2_with fail
      refine bodyPost_ret (v := .tuple #[.agg #[.int .i64 z, .int .i64 l], .int .i64 q]) (by simp [results, Try.results11, go_sem, r0, r1]) rfl ⟨z, l, q, rfl, ?_⟩
      exact hb4.trans (below_set2 _ _))
  · -- yes: a time at the limit, or any number
    go_wp2_with fail
    have hsel := sel3_cell
    have hsel2 := sel3_arr
    go_region_with (first | (go_at_call 52; refine (pick_any w0.heap.size a len cap (0 + 8 + 1 + 2) 3 _ (by omega) (hc4.belowB (B := w4.heap.size) (by repeat (first | exact Below.refl _ _ | refine Below.setCell ?_ (by first | omega | (simp; done) | (simp; omega)) _ | refine Below.alloc ?_ (by first | omega | (simp; done) | (simp; omega)) _ | apply Below.drew)) g4)).mono ?_; (rintro e w5 ⟨k, rfl, k0, k1, hc5, ho5⟩); have k3 : k < 3 := (by omega); have o45 : Only w0.heap.size w4 w5 := Only.trans (by repeat (first | exact Only.refl _ w4 | apply Only.drew | refine Only.alloc ?_ _)) ho5; have hR5 := Own2.only hR4 o45 zr4 nr; have hX5 := Own2.only hX4 o45 zx4 ny; obtain ⟨⟨s0, s1⟩, sf⟩ := hR5; obtain ⟨⟨y0, y1⟩, yf⟩ := hX5; have sf0 := sf 0; have sf1 := sf 1; have zr5 := Nat.lt_of_lt_of_le zr4 o45.size; have zx5 := Nat.lt_of_lt_of_le zx4 o45.size; have k5 := fun (b o : Nat) (h1 : b < _) (h2 : ¬ b = w0.heap.size) => ho5.cell (b := b) (o := o) h1 h2) | (go_at_call 51; refine (raw_any w0.heap.size a len cap (0 + 8 + 1) _ (by omega) (H3.out.belowB (B := w3.heap.size) (by repeat (first | exact Below.refl _ _ | refine Below.setCell ?_ (by first | omega | (simp; done) | (simp; omega)) _ | refine Below.alloc ?_ (by first | omega | (simp; done) | (simp; omega)) _ | apply Below.drew)) H3.out.lt)).mono ?_; (rintro e w4 ⟨v, rfl, -, hc4, ho4⟩); have o34 : Only w0.heap.size w3 w4 := Only.trans (by repeat (first | exact Only.refl _ w3 | apply Only.drew | refine Only.alloc ?_ _)) ho4; have hR4 := Own2.only HR3.out o34 zr nr; have hX4 := Own2.only HX3.out o34 z3 ny; have g4 := hc4.lt; have n4 : ¬ w4.heap.size = w0.heap.size := (by omega); have zr4 := Nat.lt_of_lt_of_le zr o34.size; have zx4 := Nat.lt_of_lt_of_le z3 o34.size; obtain ⟨⟨r0, r1⟩, rf⟩ := hR4; obtain ⟨⟨x0, x1⟩, xf⟩ := hX4; have rf0 := rf 0; have rf1 := rf 1; have hR4 : Own2 w4 w.heap.size 0 0 := ⟨⟨r0, r1⟩, rf⟩; have hX4 : Own2 w4 y z l := ⟨⟨x0, x1⟩, xf⟩))
    all_goals (
      have hb5 : Below w.heap.size w w5 := HB0.out.trans ((((HO3.out.trans o34).trans o45).below (B := w.heap.size) (by omega) (by have := HS0.out; omega)))
      clear ho4 o34 ho5 o45 k5 hsel hsel2 hc4 hc5 hR4 hX4
      go_wp2_with fail
      refine bodyPost_ret (v := .tuple #[.agg #[.int .i64 z, .int .i64 l], .int .i64 (sel3 k 100000 100001 v)]) (by simp [results, Try.results11, go_sem, s0, s1, zr5] <;> (have kk : k = 0 ∨ k = 1 ∨ k = 2 := (by omega); rcases kk with rfl | rfl | rfl <;> simp [sel3])) rfl ⟨z, l, _, rfl, ?_⟩
      repeat (first | exact hb5 | apply Below.drew | refine Below.alloc ?_ (by first | omega | (simp; done) | (simp; omega)) _ | refine Below.setCell ?_ (by first | omega | (simp; done) | (simp; omega)) _))
end Go.Proofs.Ytpjimeanimghdaa.cur
