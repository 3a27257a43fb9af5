/-
  THE WALK OF THE LAW FnExactStarts, out of the contracts: it answers true, and nothing that was there is written.
-/
import Derived.Test.YtpjimeanimghdaaIntRows
import Derived.Test.YtpjimeanimghdaaSpecStarts
import Derived.Test.YtpjimeanimghdaaWinLaws
namespace Go.Proofs.Ytpjimeanimghdaa.win
open Go.RowKit

theorem startsV_length (z l t : Int) : (startsV z l t).length ≤ 12 := by
  unfold startsV
  split
  · rename_i h
    obtain ⟨m, h1, h2, h3, h4⟩ := win_slides h.1
    rw [ap_length, h1]; simp; omega
  · simp

set_option maxRecDepth 100000 in
set_option maxHeartbeats 1000000 in
theorem walk_Starts (z l t : Int) (w : World) (_ : (Lit.int .i64 z).wf = true) (_ : (Lit.int .i64 l).wf = true) (_ : (Lit.int .i64 t).wf = true) :
    Calls Try.prog 6 #[.agg #[.int .i64 z, .int .i64 l], .int .i64 t] w fun e w' => e = .returned (.bool true) ∧ Below w.heap.size w w' := by
  have hS := Lib.hid (spec_Starts z l t)
  have hI := Lib.hid (impl_Starts z l t)
  have hlen := startsV_length z l t
  generalize startsV z l t = xs at *
  go_enter Try.func6, Try.ntmps6
  go_wp2_with fail
  have hb0 : Below w.heap.size w (w.alloc (.cells #[.int .i64 z, .int .i64 l] 51)) := (Below.refl _ _).alloc (Nat.le_refl _) _
  have g0 : (w.alloc (.cells #[.int .i64 z, .int .i64 l] 51)).cell? ⟨w.heap.size, 0, none⟩ = some (.int .i64 z) := by simp [go_sem]
  have g1 : (w.alloc (.cells #[.int .i64 z, .int .i64 l] 51)).cell? ⟨w.heap.size, 1, none⟩ = some (.int .i64 l) := by simp [go_sem]
  have y0 : w.heap.size < (w.alloc (.cells #[.int .i64 z, .int .i64 l] 51)).heap.size := by simp
  generalize w.alloc (.cells #[.int .i64 z, .int .i64 l] 51) = wa at *
  have G := Lib.hid (show Box2 wa w.heap.size z l from ⟨g0, g1⟩)
  clear g0 g1
  -- the model's answer
  refine (toWin _ _ _).mono ?_
  rintro e w1 ⟨rfl, hb1⟩
  go_wp2_with fail
  refine (hS.out w1).mono ?_
  rintro e w2 ⟨a0, n0, c0, rfl, hown0, hb2⟩
  obtain ⟨rfl, hrow0⟩ := row_of_own (xs := xs) hown0
  have R2 := Lib.hid hrow0
  have B2 := Lib.hid (hb1.trans (hb2.mono hb1.size))
  obtain ⟨g0, g1⟩ := G.out.below B2.out y0
  clear hown0 hrow0 hb1 hb2
  go_wp2_with fail
  -- the program's
  refine (toWin _ _ _).mono ?_
  rintro e w3 ⟨rfl, hb3⟩
  have R3 := Lib.hid (R2.out.below hb3)
  have B3 := Lib.hid (B2.out.trans (hb3.mono B2.out.size))
  clear hb3 g0 g1 R2 B2
  go_wp2_with fail
  refine (hI.out w3).mono ?_
  rintro e w4 ⟨a1, n1, c1, rfl, hown1, hb4⟩
  obtain ⟨rfl, hrow1⟩ := row_of_own (xs := xs) hown1
  have R4 := Lib.hid (R3.out.below hb4)
  have B4 := Lib.hid hb4
  have O4 := Lib.hid hown1
  have S4 := Lib.hid hrow1
  clear hb4 hown1 hrow1
  go_wp2_with fail
  refine (eqIntS_same a1 a0 _ c1 c0 xs w4 (by omega) S4.out R4.out).mono ?_
  rintro e w5 ⟨rfl, hb5⟩
  have O5 := Lib.hid (own_below O4.out hb5)
  have B5 := Lib.hid (B4.out.trans (hb5.mono B4.out.size))
  clear hb5 S4 R4 O4 B4
  go_wp2_with fail
  -- the marks
  refine (markIntS1 a1 _ c1 w3.heap.size xs w5 (by omega) O5.out).mono ?_
  rintro e w6 ⟨rfl, hown6, hb6⟩
  have B6 := Lib.hid (B5.out.trans hb6)
  have R6 := Lib.hid (R3.out.below B6.out)
  obtain ⟨-, hrow6⟩ := row_of_own (xs := ap 1 1 xs.length) (by rw [ap_length]; exact hown6)
  have S6 := Lib.hid hrow6
  clear hb6 hown6 hrow6 O5 B5 R3
  go_wp2_with fail
  refine (heldIntS1 a1 _ c1 w6 (by omega) S6.out).mono ?_
  rintro e w7 ⟨rfl, hb7⟩
  have S7 := Lib.hid (S6.out.below hb7)
  have R7 := Lib.hid (R6.out.below hb7)
  have B7 := Lib.hid (B3.out.trans ((B6.out.trans (hb7.mono B6.out.size)).mono B3.out.size))
  obtain ⟨g0, g1⟩ := G.out.below B7.out y0
  clear hb7 S6 R6 B6 B3
  go_wp2_with fail
  -- the program's answer once more
  refine (toWin _ _ _).mono ?_
  rintro e w8 ⟨rfl, hb8⟩
  have S8 := Lib.hid (S7.out.below hb8)
  have R8 := Lib.hid (R7.out.below hb8)
  have B8 := Lib.hid (B7.out.trans (hb8.mono B7.out.size))
  clear hb8 g0 g1 S7 R7 B7
  go_wp2_with fail
  refine (hI.out w8).mono ?_
  rintro e w9 ⟨a2, n2, c2, rfl, hown2, hb9⟩
  obtain ⟨rfl, hrow2⟩ := row_of_own (xs := xs) hown2
  have S9 := Lib.hid (S8.out.below hb9)
  have R9 := Lib.hid (R8.out.below hb9)
  have B9 := Lib.hid (B8.out.trans (hb9.mono B8.out.size))
  have T9 := Lib.hid hrow2
  clear hb9 hown2 hrow2 S8 R8 B8
  go_wp2_with fail
  refine (eqIntS_same a2 a0 _ c2 c0 xs w9 (by omega) T9.out R9.out).mono ?_
  rintro e w10 ⟨rfl, hb10⟩
  have S10 := Lib.hid (S9.out.below hb10)
  have B10 := Lib.hid (B9.out.trans (hb10.mono B9.out.size))
  clear hb10 S9 R9 B9 T9
  go_wp2_with fail
  refine (heldIntS1 a1 _ c1 w10 (by omega) S10.out).mono ?_
  rintro e w11 ⟨rfl, hb11⟩
  go_wp2_with fail
  go_ret
  exact ⟨rfl, hb0.trans ((B10.out.trans (hb11.mono B10.out.size)).mono hb0.size)⟩
end Go.Proofs.Ytpjimeanimghdaa.win
