/-
  THE WALK OF THE LAW FnExactAggRead, out of the contracts: it answers true, and nothing that was there is written.
  Condition: the library's variables hold what its text lays; bytealg.MaxLen holds some int.
-/
import Derived.Test.YthldfaapckhcpaaDoorSpecRead
import Derived.Test.YthldfaapckhcpaaDoorEnvLaid
namespace Go.Proofs.YthldfaapckhcpaaDoor.num
open Go.RowKit

set_option maxHeartbeats 400000 in
theorem eqAgg_same (n s mn mx : Int) (w : World) :
    Calls Tryd.prog 16 #[.agg #[.int .i64 n, .int .i64 s, .int .i64 mn, .int .i64 mx], .agg #[.int .i64 n, .int .i64 s, .int .i64 mn, .int .i64 mx]] w fun e w' => e = .returned (.bool true) ∧ Below w.heap.size w w' := by
  go_enter Tryd.func16, Tryd.ntmps16
  go_wp2
  go_ret
  exact ⟨rfl, ((Below.refl _ _).alloc (Nat.le_refl _) _).alloc (by simp) _⟩

set_option maxHeartbeats 400000 in
theorem walk_AggRead (s : ByteArray) (m : Int) (w : World) (hE : Env w) (hm : w.cell? ⟨0, 0, none⟩ = some (.int .i64 m)) :
    Calls Tryd.prog 5 #[.string s] w fun e w' => e = .returned (.bool true) ∧ Below w.heap.size w w' := by
  have HE := Lib.hid hE
  have HM := Lib.hid hm
  have mlt : 0 < w.heap.size := by have := hE.pow.2; omega
  clear hE hm
  by_cases hs : s.size ≤ 1048576
  · go_enter Tryd.func5, Tryd.ntmps5
    go_wp2_with fail
    refine (AggRead_spec s _).mono ?_
    rintro e w1 ⟨rfl, hb1⟩
    have B1 := Lib.hid hb1
    have E1 := Lib.hid (HE.out.next hb1)
    have M1 := Lib.hid ((hb1.cell (p := ⟨0, 0, none⟩) mlt).trans HM.out)
    clear hb1
    have HI : Hid (Calls Tryd.prog 11 #[.string s] (w1.alloc (.cells #[.int .i64 (got (words s.data.toList) 0), .int .i64 (got (words s.data.toList) 1), .int .i64 (got (words s.data.toList) 2), .int .i64 (got (words s.data.toList) 3)] 25)) (ReadD (words s.data.toList) (w1.alloc (.cells #[.int .i64 (got (words s.data.toList) 0), .int .i64 (got (words s.data.toList) 1), .int .i64 (got (words s.data.toList) 2), .int .i64 (got (words s.data.toList) 3)] 25)))) :=
      AggRead_impl s m _ (by omega) (E1.out.next ((Below.refl _ _).alloc (Nat.le_refl _) _)) ((World.cell?_alloc_past (w := w1) _ (n := 0) 0 (Nat.lt_of_lt_of_le mlt B1.out.size)).trans M1.out)
    unfold ReadD at HI
    generalize got (words s.data.toList) 0 = a at *
    generalize got (words s.data.toList) 1 = b at *
    generalize got (words s.data.toList) 2 = c at *
    generalize got (words s.data.toList) 3 = d at *
    generalize acc (words s.data.toList) = t at *
    go_wp2_with fail
    refine HI.out.mono ?_
    rintro e w2 ⟨rfl, hb2⟩
    have hI := (ints4_alloc w1 a b c d 25).below hb2 (by simp)
    have B2 := Lib.hid (B1.out.trans (((Below.refl _ _).alloc (Nat.le_refl _) _).trans (hb2.mono (by simp)) |>.mono B1.out.size))
    clear hb2 HI
    obtain ⟨hlt2, i0, i1, i2, i3⟩ := hI
    have hne : w1.heap.size ≠ w2.heap.size := by omega
    go_wp2_with fail
    refine (eqAgg_same _ _ _ _ _).mono ?_
    rintro e w3 ⟨rfl, hb3⟩
    have B3 := Lib.hid (B2.out.trans (((Below.refl _ _).alloc (Nat.le_refl _) _).trans (hb3.mono (by simp)) |>.mono B2.out.size))
    clear hb3
    cases t
    · go_wp2_with fail
      go_ret
      exact ⟨rfl, B3.out⟩
    · go_wp2_with fail
      go_ret
      exact ⟨rfl, B3.out⟩
  · go_enter Tryd.func5, Tryd.ntmps5
    go_wp2_with fail
    go_ret
    exact ⟨rfl, Below.refl _ _⟩
theorem law_AggRead (s : ByteArray) (w : World) (_ : s.size ≤ maxLen) (h : Env w ∧ ∃ m, w.cell? ⟨0, 0, none⟩ = some (.int .i64 m)) :
    Calls Tryd.prog 5 #[.string s] w fun e w' => e = .returned (.bool true) ∧ Below w.heap.size w w' := by
  obtain ⟨hE, m, hm⟩ := h
  exact walk_AggRead s m w hE hm
end Go.Proofs.YthldfaapckhcpaaDoor.num
