/-
  THE DRAWS: the contract of win: it answers some two numbers, and writes nothing but the cursor and new memory.
  Condition: the cursor is one, and has been asked fewer than 2^38 times.
-/
import Derived.Test.YtpoojmodebgioaaDoorCurBase
import Derived.Deep.DeepCutAuto
namespace Go.Proofs.YtpoojmodebgioaaDoor.cur
open Go.RowKit

/-- What the drawing of a kind of windows leaves on its way: the two numbers in block x. -/
def WinAt (w : World) (g : Nat) (a : Option Addr) (len cap m x : Nat) (wx : World) : Prop :=
  ∃ z l : Int, Own2 wx x z l ∧ Own2 wx w.heap.size 0 0 ∧ Curs g a len cap m wx ∧ Only g w wx

theorem WinAt.only {w wx wy : World} {g : Nat} {a : Option Addr} {len cap m m' x : Nat} (h : WinAt w g a len cap m x wx) (ho : Only g wx wy) (hc : Curs g a len cap m' wy) (hx : x ≠ g) (hw : w.heap.size ≠ g) : WinAt w g a len cap m' x wy := by
  obtain ⟨z, l, h1, h2, h3, h4⟩ := h
  exact ⟨z, l, h1.only ho (cell_lt h1.1.1) hx, h2.only ho (cell_lt h2.1.1) hw, hc, h4.trans ho⟩

set_option maxRecDepth 100000 in
set_option maxHeartbeats 1000000 in
theorem win_any (g : Nat) (a : Option Addr) (len cap m : Nat) (w : World) (hm : m ≤ 274877906944) (hc : Curs g a len cap m w) :
    Calls Tryd.prog 56 #[.pointer (some ⟨g, 0, none⟩)] w (fun e w' => ∃ z l : Int, e = .returned (.agg #[.int .i64 z, .int .i64 l]) ∧ Curs g a len cap (m + 8) w' ∧ Only g w w') := by
  have hg := hc.lt
  have H := Lib.hid hc
  clear hc
  go_enter Tryd.func56, Tryd.ntmps56
  go_wp2_with fail
  have H0 := Lib.hid (H.out.belowB (B := w.heap.size) (w' := ((w.alloc (.cells #[.int .i64 0, .int .i64 0] 83)).alloc (.cells #[.int .i64 10, .int .i64 10, .int .i64 60, .int .i64 60, .int .i64 20, .int .i64 10, .int .i64 60, .int .i64 20, .int .i64 5, .int .i64 5, .int .i64 120, .int .i64 10, .int .i64 1, .int .i64 1, .int .i64 3600, .int .i64 3600] 83))) (by repeat (first | exact Below.refl _ _ | refine Below.setCell ?_ (by first | omega | (simp; done) | (simp; omega)) _ | refine Below.alloc ?_ (by first | omega | (simp; done) | (simp; omega)) _ | apply Below.drew)) hg)
  refine (pick_any g a len cap m _ _ (by omega) H0.out).mono ?_
  rintro e w1 ⟨r, rfl, r0, r1, hc1, ho1⟩
  have H1 := Lib.hid hc1
  have HO1 := Lib.hid (Only.trans (b := ((w.alloc (.cells #[.int .i64 0, .int .i64 0] 83)).alloc (.cells #[.int .i64 10, .int .i64 10, .int .i64 60, .int .i64 60, .int .i64 20, .int .i64 10, .int .i64 60, .int .i64 20, .int .i64 5, .int .i64 5, .int .i64 120, .int .i64 10, .int .i64 1, .int .i64 1, .int .i64 3600, .int .i64 3600] 83))) (((Only.refl g w).alloc _).alloc _) ho1)
  have hz0 : Own2 w1 w.heap.size 0 0 := ((own2_alloc w 0 0 83).below ((Below.refl (w.heap.size + 1) _).alloc (by simp) _) (by omega)).only ho1 (by simp; omega) (by omega)
  have hcell : ∃ z l : Int, w1.cell? ⟨w.heap.size + 1, r.toNat * 2, none⟩ = some (.int .i64 z) ∧ w1.cell? ⟨w.heap.size + 1, r.toNat * 2 + 1, none⟩ = some (.int .i64 l) := by
    rw [ho1.cell (b := w.heap.size + 1) (by simp) (by omega), ho1.cell (b := w.heap.size + 1) (by simp) (by omega)]
    rcases lt8 r0 r1 with rfl | rfl | rfl | rfl | rfl | rfl | rfl | rfl <;> exact ⟨_, _, by simp [go_sem]; rfl, by simp [go_sem]; rfl⟩
  obtain ⟨z, l, hz, hl⟩ := hcell
  have z1 : w.heap.size + 1 < w1.heap.size := Nat.lt_of_lt_of_le (by simp) ho1.size
  have r8 : r < 8 := by omega
  have HZ0 := Lib.hid hz0
  clear hc1 ho1 H0 r1 hz0 H
  go_wp2_with fail
  have hA : WinAt w g a len cap (m + 1) w1.heap.size (w1.alloc (.cells #[.int .i64 z, .int .i64 l] 83)) := by
    have hb : Below w1.heap.size w1 (w1.alloc (.cells #[.int .i64 z, .int .i64 l] 83)) := (Below.refl _ _).alloc (Nat.le_refl _) _
    exact ⟨z, l, own2_alloc w1 z l _, HZ0.out.below hb (by omega), H1.out.below hb, HO1.out.alloc _⟩
  have hC := hA
  obtain ⟨_, _, _, _, hC, _⟩ := hC
  refine (once_any g a len cap (m + 1) 16 _ (by omega) hC).mono ?_
  rintro e w2 ⟨t, rfl, hc2, ho2⟩
  have hx1 : w.heap.size + 1 < w1.heap.size := z1
  have hA2 := hA.only ho2 hc2 (by omega) (by omega)
  have HA2 := Lib.hid hA2
  clear hA hA2 hC hc2 ho2 H1 HO1 HZ0 hz hl z1
  generalize w1.heap.size = x at *
  go_upto_if 18 with fail
  go_cut [] (fun wx => WinAt w g a len cap (m + 1 + 1 + 2 + 1) x wx)
  case first =>
    cases t
    · go_wp2_with fail
      go_meet
      obtain ⟨z, l, h1, h2, h3, h4⟩ := HA2.out
      exact ⟨z, l, h1, h2, h3.more (by omega), h4⟩
    · go_wp2_with fail
      have hC2 : Curs g a len cap (m + 1 + 1) w2 := by obtain ⟨_, _, _, _, h, _⟩ := HA2.out; exact h
      refine (raw_any g a len cap (m + 1 + 1) _ (by omega) hC2).mono ?_
      rintro e w3 ⟨v, rfl, -, hc3, ho3⟩
      have HA3 := Lib.hid (HA2.out.only ho3 hc3 (by omega) (by omega))
      clear hC2 hc3 ho3 HA2
      go_wp2_with fail
      have hA3b : WinAt w g a len cap (m + 1 + 1 + 2) x (w3.alloc (.cells #[.int .i64 v, .int .i64 20000, .int .i64 20001] 3)) := by
        have hC3 : Curs g a len cap (m + 1 + 1 + 2) w3 := by obtain ⟨_, _, _, _, h, _⟩ := HA3.out; exact h
        exact HA3.out.only ((Only.refl g w3).alloc _) (hC3.below ((Below.refl _ _).alloc (Nat.le_refl _) _)) (by omega) (by omega)
      have hC3b : Curs g a len cap (m + 1 + 1 + 2) (w3.alloc (.cells #[.int .i64 v, .int .i64 20000, .int .i64 20001] 3)) := by obtain ⟨_, _, _, _, h, _⟩ := hA3b; exact h
      have hg3 : g < w3.heap.size := by
        obtain ⟨_, _, _, _, h, _⟩ := HA3.out; exact h.lt
      refine (pick_any g a len cap (m + 1 + 1 + 2) 3 _ (by omega) hC3b).mono ?_
      rintro e w4 ⟨k, rfl, k0, k1, hc4, ho4⟩
      have HA4 := Lib.hid (hA3b.only ho4 hc4 (by omega) (by omega))
      have hsel : ∃ u : Int, w4.cell? ⟨w3.heap.size, k.toNat, none⟩ = some (.int .i64 u) := by
        rw [ho4.cell (b := w3.heap.size) (by simp) (by omega)]
        have : k = 0 ∨ k = 1 ∨ k = 2 := by omega
        rcases this with rfl | rfl | rfl <;> exact ⟨_, by simp [go_sem]; rfl⟩
      obtain ⟨u, hu⟩ := hsel
      have k3 : k < 3 := by omega
      obtain ⟨z4, l4, ⟨⟨e0, e1⟩, ef⟩, hw4, hc4', ho4'⟩ := HA4.out
      have f0 := ef 0
      have HF := Lib.hid ef
      have HW := Lib.hid hw4
      have HC := Lib.hid hc4'
      have HO := Lib.hid ho4'
      clear hA3b hC3b hc4 ho4 HA3 HA4 ef hw4 hc4' ho4' k1
      go_wp2_with fail
      go_meet
      have hb : Below x w4 (w4.setCell ⟨x, 0, none⟩ (.int .i64 u)) := below_set _
      exact ⟨u, l4, own2_set0 u ⟨⟨e0, e1⟩, HF.out⟩, HW.out.below hb (by omega), HC.out.belowB hb (by omega), HO.out.then_below hb (by omega)⟩
  case rest =>
    generalize wc = w5 at *
    clear wc
    have HA5 := Lib.hid hcut
    have hC5 : Curs g a len cap (m + 1 + 1 + 2 + 1) w5 := by obtain ⟨_, _, _, _, h, _⟩ := hcut; exact h
    clear hcut HA2
    go_wp2_with fail
    refine (once_any g a len cap _ 16 _ (by omega) hC5).mono ?_
    rintro e w6 ⟨t', rfl, hc6, ho6⟩
    have HA6 := Lib.hid (HA5.out.only ho6 hc6 (by omega) (by omega))
    clear hc6 ho6 HA5 hC5
    go_upto_if 28 with fail
    go_cut [] (fun wx => WinAt w g a len cap (m + 8) x wx)
    case first =>
      cases t'
      · go_wp2_with fail
        go_meet
        obtain ⟨z, l, h1, h2, h3, h4⟩ := HA6.out
        exact ⟨z, l, h1, h2, h3.more (by omega), h4⟩
      · have hC6 : Curs g a len cap (m + 1 + 1 + 2 + 1 + 1) w6 := by obtain ⟨_, _, _, _, h, _⟩ := HA6.out; exact h
        go_wp2_with fail
        refine (raw_any g a len cap _ _ (by omega) hC6).mono ?_
        rintro e w7 ⟨v, rfl, -, hc7, ho7⟩
        have hA7 := HA6.out.only ho7 hc7 (by omega) (by omega)
        obtain ⟨z7, l7, ⟨⟨e0, e1⟩, ef⟩, hw7, hc7', ho7'⟩ := hA7
        have f1 := ef 1
        have HF := Lib.hid ef
        have HW := Lib.hid hw7
        have HC := Lib.hid hc7'
        have HO := Lib.hid ho7'
        clear hC6 hc7 ho7 HA6 ef hw7 hc7' ho7'
        go_wp2_with fail
        go_meet
        have hb : Below x w7 (w7.setCell ⟨x, 1, none⟩ (.int .i64 v)) := below_set _
        exact ⟨z7, v, own2_set1 v ⟨⟨e0, e1⟩, HF.out⟩, HW.out.below hb (by omega), HC.out.belowB hb (by omega), HO.out.then_below hb (by omega)⟩
    case rest =>
      generalize wc = w8 at *
      clear wc
      obtain ⟨z8, l8, ⟨⟨e0, e1⟩, ef⟩, ⟨⟨d0, d1⟩, df⟩, hc8, ho8⟩ := hcut
      have q0 := df 0
      have q1 := df 1
      have HC := Lib.hid hc8
      have HO := Lib.hid ho8
      clear ef df hc8 ho8 HA6
      go_wp2_with fail
      refine bodyPost_ret (v := .agg #[.int .i64 z8, .int .i64 l8]) (by simp [results, Tryd.results56, go_sem, d0, d1]) rfl ⟨z8, l8, rfl, ?_, ?_⟩
      · exact HC.out.belowB (B := w.heap.size) (by repeat (first | exact Below.refl _ _ | refine Below.setCell ?_ (by first | omega | (simp; done) | (simp; omega)) _ | refine Below.alloc ?_ (by first | omega | (simp; done) | (simp; omega)) _ | apply Below.drew)) hg
      · exact HO.out.then_below (B := w.heap.size) (by repeat (first | exact Below.refl _ _ | refine Below.setCell ?_ (by first | omega | (simp; done) | (simp; omega)) _ | refine Below.alloc ?_ (by first | omega | (simp; done) | (simp; omega)) _ | apply Below.drew)) (Nat.le_refl _)
end Go.Proofs.YtpoojmodebgioaaDoor.cur
