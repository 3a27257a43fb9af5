/-
  THE WALK OF THE LAW FnExactPartsOf, out of the contracts: it answers true, and nothing that was there is written.
-/
import Derived.Test.YtoaallfoackjaaaIntRows
import Derived.Test.YtoaallfoackjaaaSpecParts
import Derived.Test.YtoaallfoackjaaaWinLaws
namespace Go.Proofs.Ytoaallfoackjaaa.win
open Go.RowKit

theorem partsV_length (z l z' l' s : Int) : (partsV z l z' l' s).length ≤ 20000 := by
  unfold partsV
  split
  · rename_i h
    obtain ⟨m, h1, h2, h3, h4, h5⟩ := part_slides h
    rw [ap_length, h1]; simp; omega
  · simp

/-- What a statement 'x := PartsOf(..)' leaves behind, in a world W before it. -/
def Left (W : World) (xs : List Int) (v : Value) (wx : World) : Prop :=
  ∃ a len cap, v = .slice a len cap ∧ wx.ownsRow W.heap.size 3 1 (.slice a len cap) xs.length (ints xs) ∧ Below W.heap.size W wx

set_option maxHeartbeats 1000000 in
theorem walk_Parts (z l z' l' s : Int) (w : World) (_ : (Lit.int .i64 z).wf = true) (_ : (Lit.int .i64 l).wf = true) (_ : (Lit.int .i64 z').wf = true) (_ : (Lit.int .i64 l').wf = true) (_ : (Lit.int .i64 s).wf = true) :
    Calls Try.prog 10 #[.agg #[.int .i64 z, .int .i64 l], .agg #[.int .i64 z', .int .i64 l'], .int .i64 s] w fun e w' => e = .returned (.bool true) ∧ Below w.heap.size w w' := by
  have hS := Lib.hid (spec_Parts z l z' l' s)
  have hI := Lib.hid (impl_Parts z l z' l' s)
  have hlen := partsV_length z l z' l' s
  generalize partsV z l z' l' s = xs at *
  go_enter Try.func10, Try.ntmps10
  go_wp2_with fail
  have base : Below w.heap.size w ((w.alloc (.cells #[.int .i64 z, .int .i64 l] 40)).alloc (.cells #[.int .i64 z', .int .i64 l'] 40)) := ((Below.refl _ _).alloc (Nat.le_refl _) _).alloc (by simp) _
  have hx1 : Box2 ((w.alloc (.cells #[.int .i64 z, .int .i64 l] 40)).alloc (.cells #[.int .i64 z', .int .i64 l'] 40)) w.heap.size z l := by refine ⟨?_, ?_⟩ <;> simp [go_sem]
  have hx2 : Box2 ((w.alloc (.cells #[.int .i64 z, .int .i64 l] 40)).alloc (.cells #[.int .i64 z', .int .i64 l'] 40)) (w.heap.size + 1) z' l' := by refine ⟨?_, ?_⟩ <;> simp [go_sem]
  have y2 : w.heap.size + 1 < ((w.alloc (.cells #[.int .i64 z, .int .i64 l] 40)).alloc (.cells #[.int .i64 z', .int .i64 l'] 40)).heap.size := by simp
  generalize (w.alloc (.cells #[.int .i64 z, .int .i64 l] 40)).alloc (.cells #[.int .i64 z', .int .i64 l'] 40) = wa at *
  have y1 : w.heap.size < wa.heap.size := by omega
  obtain ⟨a0, a1⟩ := hx1
  obtain ⟨b0, b1⟩ := hx2
  have G1 := Lib.hid (show Box2 wa w.heap.size z l from ⟨a0, a1⟩)
  have G2 := Lib.hid (show Box2 wa (w.heap.size + 1) z' l' from ⟨b0, b1⟩)
  have Y1 := Lib.hid y1
  have Y2 := Lib.hid y2
  go_upto_region 1 with fail
  go_cut [7] (Left wa xs)
  case first =>
    go_region_held3 (fun w' => w'.cell? ⟨w.heap.size, 0, none⟩ = some (.int .i64 z) ∧ w'.cell? ⟨w.heap.size, 1, none⟩ = some (.int .i64 l) ∧ w'.cell? ⟨w.heap.size + 1, 0, none⟩ = some (.int .i64 z') ∧ w'.cell? ⟨w.heap.size + 1, 1, none⟩ = some (.int .i64 l')) ((refine keep4 ⟨a0, a1⟩ ⟨b0, b1⟩ y1 y2 ?_; repeat (first | exact Below.refl _ _ | refine Below.setCell ?_ (by first | omega | (simp; done) | (simp; omega)) _ | refine Below.alloc ?_ (by first | omega | (simp; done) | (simp; omega)) _ | apply Below.drew | refine Below.trans ?_ (hb1.mono (by first | omega | (simp; done) | (simp; omega))))))
      (first | (go_at_call 23; refine (toWin_x _ _ _).mono ?_; rintro e w' ⟨rfl, rfl⟩) | (go_at_call 20; refine (hS.out _).mono ?_; rintro e w1 ⟨ad, n1, c1, rfl, hown1, hb1⟩; obtain ⟨k1, f1⟩ := bcell hb1; have z3 : wa.heap.size ≤ w1.heap.size := Nat.le_trans (by simp <;> omega) hb1.size))
    all_goals (go_wp2_with fail; go_meet)
    all_goals (
      refine ⟨ad, n1, c1, rfl, ownsRow_less hown1 (by simp <;> omega), ?_⟩
      repeat (first | exact Below.refl _ _ | refine Below.setCell ?_ (by first | omega | (simp; done) | (simp; omega)) _ | refine Below.alloc ?_ (by first | omega | (simp; done) | (simp; omega)) _ | apply Below.drew | refine Below.trans ?_ (hb1.mono (by first | omega | (simp; done) | (simp; omega)))))
  case rest =>
    obtain ⟨p0, n0, c0, rfl, hown0, hb⟩ := hcut
    generalize wc = wd at *
    clear wc
    obtain ⟨rfl, hrow0⟩ := row_of_own (xs := xs) hown0
    have R2 := Lib.hid hrow0
    have B2 := Lib.hid hb
    obtain ⟨a0, a1⟩ := G1.out.below hb Y1.out
    obtain ⟨b0, b1⟩ := G2.out.below hb Y2.out
    replace y1 := Nat.lt_of_lt_of_le y1 hb.size
    replace y2 := Nat.lt_of_lt_of_le y2 hb.size
    clear hb hrow0 hown0
    rename_i r0 r1 r2 r3
    clear r0 r1 r2 r3
    go_upto_region 2 with fail
    go_cut [8] (Left wd xs)
    case first =>
      go_region_held3 (fun w' => w'.cell? ⟨w.heap.size, 0, none⟩ = some (.int .i64 z) ∧ w'.cell? ⟨w.heap.size, 1, none⟩ = some (.int .i64 l) ∧ w'.cell? ⟨w.heap.size + 1, 0, none⟩ = some (.int .i64 z') ∧ w'.cell? ⟨w.heap.size + 1, 1, none⟩ = some (.int .i64 l')) ((refine keep4 ⟨a0, a1⟩ ⟨b0, b1⟩ y1 y2 ?_; repeat (first | exact Below.refl _ _ | refine Below.setCell ?_ (by first | omega | (simp; done) | (simp; omega)) _ | refine Below.alloc ?_ (by first | omega | (simp; done) | (simp; omega)) _ | apply Below.drew | refine Below.trans ?_ (hb1.mono (by first | omega | (simp; done) | (simp; omega))))))
        (first | (go_at_call 23; refine (toWin_x _ _ _).mono ?_; rintro e w' ⟨rfl, rfl⟩) | (go_at_call 18; refine (hI.out _).mono ?_; rintro e w1 ⟨ad, n1, c1, rfl, hown1, hb1⟩; obtain ⟨k1, f1⟩ := bcell hb1; have z3 : wd.heap.size ≤ w1.heap.size := Nat.le_trans (by simp <;> omega) hb1.size))
      all_goals (go_wp2_with fail; go_meet)
      all_goals (
        refine ⟨ad, n1, c1, rfl, ownsRow_less hown1 (by simp <;> omega), ?_⟩
        repeat (first | exact Below.refl _ _ | refine Below.setCell ?_ (by first | omega | (simp; done) | (simp; omega)) _ | refine Below.alloc ?_ (by first | omega | (simp; done) | (simp; omega)) _ | apply Below.drew | refine Below.trans ?_ (hb1.mono (by first | omega | (simp; done) | (simp; omega)))))
    case rest =>
      obtain ⟨p1, n1, c1, rfl, hown1, hb4⟩ := hcut
      generalize wc = w4 at *
      clear wc
      obtain ⟨rfl, hrow1⟩ := row_of_own (xs := xs) hown1
      have R4 := Lib.hid (R2.out.below hb4)
      have B4 := Lib.hid hb4
      have O4 := Lib.hid hown1
      have S4 := Lib.hid hrow1
      clear hb4 hown1 hrow1 a0 a1 b0 b1 y1 y2
      go_wp2_with fail
      refine (eqIntS_same p1 p0 _ c1 c0 xs w4 (by omega) S4.out R4.out).mono ?_
      rintro e w5 ⟨rfl, hb5⟩
      have O5 := Lib.hid (own_below O4.out hb5)
      have B5 := Lib.hid (B4.out.trans (hb5.mono B4.out.size))
      clear hb5 S4 R4 O4 B4
      go_wp2_with fail
      refine (markIntS1 p1 _ c1 wd.heap.size xs w5 (by omega) O5.out).mono ?_
      rintro e w6 ⟨rfl, hown6, hb6⟩
      have B6 := Lib.hid (B5.out.trans hb6)
      have R6 := Lib.hid (R2.out.below B6.out)
      obtain ⟨-, hrow6⟩ := row_of_own (xs := ap 1 1 xs.length) (by rw [ap_length]; exact hown6)
      have S6 := Lib.hid hrow6
      clear hb6 hown6 hrow6 O5 B5 R2
      go_wp2_with fail
      refine (heldIntS1 p1 _ c1 w6 (by omega) S6.out).mono ?_
      rintro e w7 ⟨rfl, hb7⟩
      have S7 := Lib.hid (S6.out.below hb7)
      have R7 := Lib.hid (R6.out.below hb7)
      have B7 := Lib.hid (B2.out.trans ((B6.out.trans (hb7.mono B6.out.size)).mono B2.out.size))
      obtain ⟨a0, a1⟩ := G1.out.below B7.out Y1.out
      obtain ⟨b0, b1⟩ := G2.out.below B7.out Y2.out
      have y1 : w.heap.size < w7.heap.size := Nat.lt_of_lt_of_le Y1.out B7.out.size
      have y2 : w.heap.size + 1 < w7.heap.size := Nat.lt_of_lt_of_le Y2.out B7.out.size
      clear hb7 S6 R6 B6 B2
      go_upto_region 13 with fail
      go_cut [11] (Left w7 xs)
      case first =>
        go_region_held3 (fun w' => w'.cell? ⟨w.heap.size, 0, none⟩ = some (.int .i64 z) ∧ w'.cell? ⟨w.heap.size, 1, none⟩ = some (.int .i64 l) ∧ w'.cell? ⟨w.heap.size + 1, 0, none⟩ = some (.int .i64 z') ∧ w'.cell? ⟨w.heap.size + 1, 1, none⟩ = some (.int .i64 l')) ((refine keep4 ⟨a0, a1⟩ ⟨b0, b1⟩ y1 y2 ?_; repeat (first | exact Below.refl _ _ | refine Below.setCell ?_ (by first | omega | (simp; done) | (simp; omega)) _ | refine Below.alloc ?_ (by first | omega | (simp; done) | (simp; omega)) _ | apply Below.drew | refine Below.trans ?_ (hb1.mono (by first | omega | (simp; done) | (simp; omega))))))
          (first | (go_at_call 23; refine (toWin_x _ _ _).mono ?_; rintro e w' ⟨rfl, rfl⟩) | (go_at_call 18; refine (hI.out _).mono ?_; rintro e w1 ⟨ad, n1, c1, rfl, hown1, hb1⟩; obtain ⟨k1, f1⟩ := bcell hb1; have z3 : w7.heap.size ≤ w1.heap.size := Nat.le_trans (by simp <;> omega) hb1.size))
        all_goals (go_wp2_with fail; go_meet)
        all_goals (
          refine ⟨ad, n1, c1, rfl, ownsRow_less hown1 (by simp <;> omega), ?_⟩
          repeat (first | exact Below.refl _ _ | refine Below.setCell ?_ (by first | omega | (simp; done) | (simp; omega)) _ | refine Below.alloc ?_ (by first | omega | (simp; done) | (simp; omega)) _ | apply Below.drew | refine Below.trans ?_ (hb1.mono (by first | omega | (simp; done) | (simp; omega)))))
      case rest =>
        obtain ⟨p2, n2, c2, rfl, hown2, hb9⟩ := hcut
        generalize wc = w9 at *
        clear wc
        obtain ⟨rfl, hrow2⟩ := row_of_own (xs := xs) hown2
        have S9 := Lib.hid (S7.out.below hb9)
        have R9 := Lib.hid (R7.out.below hb9)
        have B9 := Lib.hid (B7.out.trans (hb9.mono B7.out.size))
        have T9 := Lib.hid hrow2
        clear hb9 hown2 hrow2 S7 R7 B7 a0 a1 b0 b1 y1 y2
        go_wp2_with fail
        refine (eqIntS_same p2 p0 _ c2 c0 xs w9 (by omega) T9.out R9.out).mono ?_
        rintro e w10 ⟨rfl, hb10⟩
        have S10 := Lib.hid (S9.out.below hb10)
        have B10 := Lib.hid (B9.out.trans (hb10.mono B9.out.size))
        clear hb10 S9 R9 B9 T9
        go_wp2_with fail
        refine (heldIntS1 p1 _ c1 w10 (by omega) S10.out).mono ?_
        rintro e w11 ⟨rfl, hb11⟩
        go_wp2_with fail
        go_ret
        exact ⟨rfl, base.trans ((B10.out.trans (hb11.mono B10.out.size)).mono base.size)⟩
end Go.Proofs.Ytoaallfoackjaaa.win
