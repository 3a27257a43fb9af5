/-
  THE DRAWS: the contracts of l01Open, big and DrawAggJoin: two aggregates' numbers, whatever the code; nothing that was there is written.
  Condition: the code is a slice of bytes, at most 2,000,000 of them.
-/
import Derived.Test.YthldfaapckhcpaaCurAgg
namespace Go.Proofs.Ythldfaapckhcpaa.cur
open Go.RowKit
open Go.Proofs.Ythldfaapckhcpaa.agg (Q Own4 Box4 own_alloc own_set box_alloc zero IsRow bcell)

/-- A code as an argument: a slice value whose elements are bytes. -/
def Code (w : World) (a : Option Addr) (len : Nat) : Prop :=
  0 < len → ∃ b off, a = some ⟨b, off, none⟩ ∧ b < w.heap.size ∧ ∀ i, i < len → ∃ v : Int, 0 ≤ v ∧ v ≤ 255 ∧ w.cell? ⟨b, off + i, none⟩ = some (.int .u8 v)

theorem Code.below {w w' : World} {a : Option Addr} {len : Nat} (h : Code w a len) (hb : Below w.heap.size w w') : Code w' a len := fun h0 => by
  obtain ⟨b, off, e, h1, h2⟩ := h h0
  refine ⟨b, off, e, Nat.lt_of_lt_of_le h1 hb.size, fun i hi => ?_⟩
  obtain ⟨v, v0, v1, hc⟩ := h2 i hi
  exact ⟨v, v0, v1, (hb.cell (p := ⟨b, off + i, none⟩) h1).trans hc⟩

theorem code_of_row {w : World} {a : Option Addr} {len cap : Nat} {zs : List Int} (h : IsRow .u8 w a len cap zs) : Code w a len := by
  rcases h with ⟨rfl, rfl, rfl, rfl⟩ | ⟨x, rfl, hl, hm, hz, hc, hw⟩
  · exact fun h0 => absurd h0 (by omega)
  · intro h0
    obtain ⟨b, off, spot⟩ := x
    have h1 := hc 0 (by omega)
    have hspot : spot = none := by simpa [Addr.add] using World.cell?_spot h1
    subst hspot
    have hb : b < w.heap.size := by
      have h2 : w.cell? ⟨b, off, none⟩ = some (.int .u8 (zs.getD 0 0)) := by simpa [Addr.add] using h1
      exact cell_lt h2
    refine ⟨b, off, rfl, hb, fun i hi => ?_⟩
    have h2 := hc i (by omega)
    have e : (⟨b, off, none⟩ : Addr).add i = ⟨b, off + i, none⟩ := by
      by_cases h0 : i = 0
      · subst h0; rfl
      · simp [Addr.add, h0]
    rw [e] at h2
    have hwf := hw (zs.getD i 0) (by rw [List.getD_eq_getElem?_getD, List.getElem?_eq_getElem (by omega)]; simp)
    have hbd : 0 ≤ zs.getD i 0 ∧ zs.getD i 0 ≤ 255 := by simpa [Lit.wf, IntKind.min, IntKind.max, IntKind.signed, IntKind.bits] using hwf
    exact ⟨_, hbd.1, hbd.2, h2⟩

set_option maxHeartbeats 400000 in
theorem big_yes (a : Option Addr) (len cap : Nat) (w : World) (h : 1048576 < len) : Calls Try.prog 9 #[.slice a len cap] w fun e w' => e = .returned (.bool true) ∧ w = w' := by
  have hd : decide ((1048576 : Int) < (len : Int)) = true := by simp; omega
  go_enter Try.func9, Try.ntmps9
  go_wp2
  go_ret
  exact ⟨rfl, rfl⟩

set_option maxHeartbeats 400000 in
theorem big_no (a : Option Addr) (len cap : Nat) (w : World) (h : ¬ 1048576 < len) : Calls Try.prog 9 #[.slice a len cap] w fun e w' => e = .returned (.bool false) ∧ w = w' := by
  have hd : decide ((1048576 : Int) < (len : Int)) = false := by simp; omega
  go_enter Try.func9, Try.ntmps9
  go_wp2
  go_ret
  exact ⟨rfl, rfl⟩

set_option maxHeartbeats 400000 in
theorem l01Open_any (a : Option Addr) (len cap : Nat) (w : World) (hle : len ≤ 2000000) :
    Calls Try.prog 24 #[.slice a len cap] w fun e w' => e = .returned (.pointer (some ⟨w.heap.size, 0, none⟩)) ∧ w.alloc (.cells #[.slice a len cap, .int .i64 0, .int .i64 (71 + (len : Int) % 1000)] 54) = w' := by
  go_enter Try.func24, Try.ntmps24
  go_wp2
  go_ret
  exact ⟨rfl, rfl⟩

theorem curs_open {a : Option Addr} {len cap : Nat} {w : World} (hle : len ≤ 2000000) (hc : Code w a len) :
    Curs w.heap.size a len cap 0 (w.alloc (.cells #[.slice a len cap, .int .i64 0, .int .i64 (71 + (len : Int) % 1000)] 54)) := by
  refine ⟨0, 71 + (len : Int) % 1000, by omega, by omega, by omega, by omega, by simp, hle, by simp [go_sem], by simp [go_sem], by simp [go_sem], fun j => by simp [go_sem], fun h0 => ?_⟩
  obtain ⟨b, off, e, h1, h2⟩ := hc h0
  refine ⟨b, off, e, h1, by simp; omega, fun i hi => ?_⟩
  obtain ⟨v, v0, v1, hv⟩ := h2 i hi
  exact ⟨v, v0, v1, by rw [World.cell?_alloc_past _ _ _ h1]; exact hv⟩

/-- Stores into two blocks, one behind the other. -/
theorem below_set8 {w : World} {g : Nat} (a b c d e f h i : Value) : Below g w ((((((((w.setCell ⟨g, 0, none⟩ a).setCell ⟨g, 1, none⟩ b).setCell ⟨g, 2, none⟩ c).setCell ⟨g, 3, none⟩ d).setCell ⟨g + 1, 0, none⟩ e).setCell ⟨g + 1, 1, none⟩ f).setCell ⟨g + 1, 2, none⟩ h).setCell ⟨g + 1, 3, none⟩ i) :=
  (agg.below_set4 a b c d).trans ((agg.below_set4 (g := g + 1) e f h i).mono (by omega))

/-- What DrawAggJoin answers, and what it leaves. -/
def Pair (w : World) (e : Ending) (w' : World) : Prop :=
  ∃ p q : Q, e = .returned (.tuple #[.agg #[.int .i64 p.n, .int .i64 p.s, .int .i64 p.mn, .int .i64 p.mx], .agg #[.int .i64 q.n, .int .i64 q.s, .int .i64 q.mn, .int .i64 q.mx]]) ∧ Below w.heap.size w w'

set_option maxHeartbeats 1000000 in
theorem DrawAggJoin_any (a : Option Addr) (len cap : Nat) (w : World) (hle : len ≤ 2000000) (hcode : Code w a len) :
    Calls Try.prog 10 #[.slice a len cap] w (Pair w) := by
  have HK := Lib.hid hcode
  clear hcode
  go_enter Try.func10, Try.ntmps10
  go_wp2_with fail
  have hB0 : Below w.heap.size w ((w.alloc (.cells #[.int .i64 0, .int .i64 0, .int .i64 0, .int .i64 0] 25)).alloc (.cells #[.int .i64 0, .int .i64 0, .int .i64 0, .int .i64 0] 25)) := by repeat (first | exact Below.refl _ _ | refine Below.setCell ?_ (by first | omega | (simp; done) | (simp; omega)) _ | refine Below.alloc ?_ (by first | omega | (simp; done) | (simp; omega)) _ | apply Below.drew)
  have hP0 : Own4 ((w.alloc (.cells #[.int .i64 0, .int .i64 0, .int .i64 0, .int .i64 0] 25)).alloc (.cells #[.int .i64 0, .int .i64 0, .int .i64 0, .int .i64 0] 25)) w.heap.size zero :=
    Own4.below (own_alloc w zero 25) ((Below.refl (w.heap.size + 1) _).alloc (by simp) _) (by omega)
  have hQ0 : Own4 ((w.alloc (.cells #[.int .i64 0, .int .i64 0, .int .i64 0, .int .i64 0] 25)).alloc (.cells #[.int .i64 0, .int .i64 0, .int .i64 0, .int .i64 0] 25)) (w.heap.size + 1) zero := by
    have h := own_alloc (w.alloc (.cells #[.int .i64 0, .int .i64 0, .int .i64 0, .int .i64 0] 25)) zero 25
    rw [World.size_alloc] at h
    exact h
  have hS0 : ((w.alloc (.cells #[.int .i64 0, .int .i64 0, .int .i64 0, .int .i64 0] 25)).alloc (.cells #[.int .i64 0, .int .i64 0, .int .i64 0, .int .i64 0] 25)).heap.size = w.heap.size + 2 := by simp
  generalize ((w.alloc (.cells #[.int .i64 0, .int .i64 0, .int .i64 0, .int .i64 0] 25)).alloc (.cells #[.int .i64 0, .int .i64 0, .int .i64 0, .int .i64 0] 25)) = w0 at *
  have HS0 := Lib.hid hS0
  have HP0 := Lib.hid hP0
  have HQ0 := Lib.hid hQ0
  have HB0 := Lib.hid hB0
  clear hS0 hP0 hQ0 hB0
  refine (l01Open_any _ _ _ _ hle).mono ?_
  rintro e w1 ⟨rfl, rfl⟩
  have H1 := Lib.hid (curs_open (cap := cap) hle (HK.out.below HB0.out))
  have hO1 : Below w0.heap.size w0 (w0.alloc (.cells #[.slice a len cap, .int .i64 0, .int .i64 (71 + (len : Int) % 1000)] 54)) := (Below.refl _ _).alloc (Nat.le_refl _) _
  have s1 : (w0.alloc (.cells #[.slice a len cap, .int .i64 0, .int .i64 (71 + (len : Int) % 1000)] 54)).heap.size = w0.heap.size + 1 := by simp
  generalize w0.alloc (.cells #[.slice a len cap, .int .i64 0, .int .i64 (71 + (len : Int) % 1000)] 54) = w1 at *
  have HO1 := Lib.hid hO1
  have HS1 := Lib.hid s1
  clear hO1 s1
  go_wp2_with fail
  refine (agg_any _ _ _ _ _ _ (by omega) H1.out).mono ?_
  rintro e w2 ⟨p, rfl, hc2, ho2⟩
  have HO2 := Lib.hid ((Only.of_below HO1.out).trans ho2)
  have H2 := Lib.hid hc2
  have z2 : w0.heap.size < w2.heap.size := by have := ho2.size; have := HS1.out; omega
  have z0 : w.heap.size + 2 = w0.heap.size := HS0.out.symm
  have HZ0 := Lib.hid z0
  have zlt : w.heap.size + 1 < w0.heap.size := by omega
  clear hc2 ho2 z0
  go_wp2_with fail
  have hbx : Below w2.heap.size w2 (w2.alloc (.cells #[.int .i64 p.n, .int .i64 p.s, .int .i64 p.mn, .int .i64 p.mx] 25)) := (Below.refl _ _).alloc (Nat.le_refl _) _
  refine (once_any _ _ _ _ _ 12 _ (by omega) (H2.out.below hbx)).mono ?_
  rintro e w3 ⟨t, rfl, hc3, ho3⟩
  have HX3 := Lib.hid (Own4.only (own_alloc w2 p 25) ho3 (by simp) (by omega))
  have HO3 := Lib.hid ((HO2.out.trans (Only.of_below hbx)).trans ho3)
  have H3 := Lib.hid hc3
  have z3 : w2.heap.size < w3.heap.size := Nat.lt_of_lt_of_le (by simp) ho3.size
  clear hc3 ho3 hbx HO2 H2
  generalize w2.heap.size = y at *
  have HP3 := Lib.hid (Own4.only HP0.out HO3.out (by omega) (by omega))
  have HQ3 := Lib.hid (Own4.only HQ0.out HO3.out (by omega) (by omega))
  have zp3 : w.heap.size < w3.heap.size := by omega
  have zq3 : w.heap.size + 1 < w3.heap.size := by omega
  have np : w.heap.size ≠ w0.heap.size := by omega
  have nq : w.heap.size + 1 ≠ w0.heap.size := by omega
  have ny : y ≠ w0.heap.size := by omega
  obtain ⟨⟨c0, c1, c2, c3⟩, cf⟩ := HX3.out
  clear HP0 HQ0 HO1 HS1 H1 HK
  cases t
  · -- no: the second one is drawn
    go_wp2_with fail
    go_region_with ((go_at_call 25; refine (agg_any w0.heap.size a len cap (0 + 20 + 1) _ (by omega) ?_).mono ?_; (exact H3.out.belowB (B := w3.heap.size) (by repeat (first | exact Below.refl _ _ | refine Below.setCell ?_ (by first | omega | (simp; done) | (simp; omega)) _ | refine Below.alloc ?_ (by first | omega | (simp; done) | (simp; omega)) _ | apply Below.drew)) H3.out.lt); (rintro e w4 ⟨q, rfl, hc4, ho4⟩); have o34 : Only w0.heap.size w3 w4 := Only.trans (by first | exact Only.refl _ w3 | exact (Only.refl _ w3).drew) ho4; have hP4 := Own4.only HP3.out o34 zp3 np; have hQ4 := Own4.only HQ3.out o34 zq3 nq; have hX4 := Own4.only HX3.out o34 z3 ny; obtain ⟨⟨r0, r1, r2, r3⟩, rf⟩ := hP4; obtain ⟨⟨s0, s1, s2, s3⟩, sf⟩ := hQ4; obtain ⟨⟨x0, x1, x2, x3⟩, xf⟩ := hX4; simp only [zero] at r0 r1 r2 r3 s0 s1 s2 s3))
    all_goals (
      have hb4 : Below w.heap.size w w4 := HB0.out.trans (((HO3.out.trans o34).below (B := w.heap.size) (by omega) (by omega)))
      clear ho4 o34
      go_wp2_with fail
      refine bodyPost_ret (v := .tuple #[.agg #[.int .i64 p.n, .int .i64 p.s, .int .i64 p.mn, .int .i64 p.mx], .agg #[.int .i64 q.n, .int .i64 q.s, .int .i64 q.mn, .int .i64 q.mx]]) (by simp [results, Try.results10, go_sem, r0, r1, r2, r3, s0, s1, s2, s3]) rfl ⟨p, q, rfl, ?_⟩
      exact hb4.trans (below_set8 _ _ _ _ _ _ _ _))
  · -- yes: nearly as many as may be
    go_wp2_with fail
    go_region_with ((go_at_call 27; refine (pick_any w0.heap.size a len cap (0 + 20 + 1) 3 _ (by omega) ?_).mono ?_; (exact H3.out.belowB (B := w3.heap.size) (by repeat (first | exact Below.refl _ _ | refine Below.setCell ?_ (by first | omega | (simp; done) | (simp; omega)) _ | refine Below.alloc ?_ (by first | omega | (simp; done) | (simp; omega)) _ | apply Below.drew)) H3.out.lt); (rintro e w4 ⟨k, rfl, kk0, kk1, hc4, ho4⟩); have kk2 : k ≤ 2 := (by omega); have kw : IntKind.i64.wrap (998 + k) = 998 + k := IntWalk.i64_in _ (by omega); have o34 : Only w0.heap.size w3 w4 := Only.trans (by first | exact Only.refl _ w3 | exact (Only.refl _ w3).drew) ho4; have hP4 := Own4.only HP3.out o34 zp3 np; have hQ4 := Own4.only HQ3.out o34 zq3 nq; have hX4 := Own4.only HX3.out o34 z3 ny; obtain ⟨⟨r0, r1, r2, r3⟩, rf⟩ := hP4; obtain ⟨⟨s0, s1, s2, s3⟩, sf⟩ := hQ4; obtain ⟨⟨x0, x1, x2, x3⟩, xf⟩ := hX4; simp only [zero] at r0 r1 r2 r3 s0 s1 s2 s3))
    all_goals (
      have hb4 : Below w.heap.size w w4 := HB0.out.trans (((HO3.out.trans o34).below (B := w.heap.size) (by omega) (by omega)))
      clear ho4 o34
      go_wp2_with fail
      refine bodyPost_ret (v := .tuple #[.agg #[.int .i64 (998 + k), .int .i64 0, .int .i64 0, .int .i64 0], .agg #[.int .i64 p.n, .int .i64 p.s, .int .i64 p.mn, .int .i64 p.mx]]) (by simp [results, Try.results10, go_sem, r0, r1, r2, r3, s0, s1, s2, s3]) rfl ⟨⟨998 + k, 0, 0, 0⟩, p, rfl, ?_⟩
      exact hb4.trans (below_set8 _ _ _ _ _ _ _ _))
end Go.Proofs.Ythldfaapckhcpaa.cur
