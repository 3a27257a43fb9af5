/-
  THE WALK of 'laws.FnExactSurvives': it answers true at every file and cut.
-/
import Derived.Test.YtemefahhogdoaaaSurvives
import Derived.Test.YtemefahhogdoaaaDataDiskReads
namespace Go.Proofs.Ytemefahhogdoaaa.dat
open Go.RowKit Go.Proofs.Ytemefahhogdoaaa.win

set_option maxRecDepth 100000 in
set_option maxHeartbeats 1000000 in
theorem walk_Survives (x0 : FileD) (a1 : Int) (w : World) (s0 : x0.name.size ≤ 9223372036854775807) (s1 : x0.safe.size ≤ 9223372036854775807) (s2 : x0.now.size ≤ 9223372036854775807) (_i1 : (Lit.int .i64 a1).wf = true) :
    Calls Try.prog 9 #[.agg (File.list x0).toArray, .int .i64 a1] w fun e w' => e = .returned (.bool true) ∧ Below w.heap.size w w' := by
  simp only [File.list]
  go_enter Try.func9, Try.ntmps9
  go_wp2_with fail
  refine calls_gen (fun W => Below w.heap.size w W ∧ Blk W w.heap.size 47 [.string x0.name, .string x0.safe, .string x0.now]) ⟨by repeat (first | exact Below.refl _ _ | refine Below.setCell ?_ (by first | omega | (simp; done) | (simp; omega)) _ | refine Below.alloc ?_ (by first | omega | (simp; done) | (simp; omega)) _ | apply Below.drew), by with_reducible (repeat (first | (refine blk_new_at _ _ _ _ ?_; first | rfl | (simp; done)) | refine Blk.alloc ?_ _ | apply Blk.drew | refine Blk.setOther ?_ (by first | (simp; done) | (simp; omega)) _))⟩ ?_
  rintro W ⟨b, k0⟩
  have B0 := Lib.hid b
  have K0 := Lib.hid k0
  have c0 := k0.cell 0
  have c1 := k0.cell 1
  have c2 := k0.cell 2
  simp at c0 c1 c2
  clear b k0
  refine (sz_File x0 1048576 W (by omega) (by omega) s0 s1 s2).mono ?_
  rintro e w1 ⟨rfl, b1⟩
  have B1 := Lib.hid (B0.out.trans (b1.mono B0.out.size))
  have K1 := Lib.hid (K0.out.below b1 K0.out.lt)
  clear c0 c1 c2 b1 B0 K0
  by_cases hle : ((File.sz x0 : Nat) : Int) ≤ 1048576
  case neg =>
    rw [if_neg hle]
    go_wp2_with fail
    go_ret
    exact ⟨rfl, B1.out⟩
  rw [if_pos hle]
  have hs : x0.safe.size ≤ 1048576 := by unfold File.sz at hle; omega
  have hn : x0.now.size ≤ 1048576 := by unfold File.sz at hle; omega
  have HS := Lib.hid hs
  have HN := Lib.hid hn
  have hz : (0 : Int) ≤ 1048576 - ((File.sz x0 : Nat) : Int) := by omega
  have c0 := K1.out.cell 0
  have c1 := K1.out.cell 1
  have c2 := K1.out.cell 2
  simp at c0 c1 c2
  clear hle hs hn
  go_wp2_with fail
  refine (to_File x0 w1).mono ?_
  rintro e w2 ⟨rfl, b2⟩
  have B2 := Lib.hid (B1.out.trans (b2.mono B1.out.size))
  have K2 := Lib.hid (K1.out.below b2 K1.out.lt)
  clear c0 c1 c2 b2 B1 K1
  go_wp2_with fail
  refine (spec_Survives x0 a1 w2 HS.out HN.out).mono ?_
  rintro e w3 ⟨rfl, b3⟩
  have B3 := Lib.hid (B2.out.trans (b3.mono B2.out.size))
  have K3 := Lib.hid (K2.out.below b3 K2.out.lt)
  have c0 := K3.out.cell 0
  have c1 := K3.out.cell 1
  have c2 := K3.out.cell 2
  simp at c0 c1 c2
  clear b3 B2 K2
  obtain ⟨r, hr⟩ : ∃ r, survD x0 a1 = r := ⟨_, rfl⟩
  have HR := Lib.hid hr
  rw [hr]
  clear hr
  go_wp2_with fail
  refine (to_File x0 w3).mono ?_
  rintro e w4 ⟨rfl, b4⟩
  have B4 := Lib.hid (B3.out.trans (b4.mono B3.out.size))
  clear c0 c1 c2 b4 B3 K3
  go_wp2_with fail
  refine (impl_Survives x0 a1 w4 HS.out HN.out).mono ?_
  rintro e w5 ⟨rfl, b5⟩
  rw [HR.out]
  have B5 := Lib.hid (B4.out.trans (b5.mono B4.out.size))
  clear b5 B4
  go_wp2_with fail
  go_ret
  exact ⟨rfl, B5.out⟩
end Go.Proofs.Ytemefahhogdoaaa.dat
