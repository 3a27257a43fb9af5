/-
  THE WALKS OF THE LAWS FnExactCrc, FnExactSealed, FnExactUnsealed out of the contracts: they answer true, and nothing that was there is written.
-/
import Derived.Test.YtpcekmllmnfmmaaDoorSealLaw
namespace Go.Proofs.YtpcekmllmnfmmaaDoor.crc
open Go.RowKit
open Go.Proofs.YtpcekmllmnfmmaaDoor.num (Pow Pow.below Texted NumText_spec NumText_impl)

theorem steps_lt {w : World} (h : Lib.TabIs Tryd.prog w "loop.example/g00552/impl.crcSteps" .u32 tabI) : Steps w := by
  refine ⟨h, ?_⟩
  have hc := h.cell gSteps 0 (by simp [tabI])
  apply Classical.byContradiction
  intro hn
  have : w.heap[0]? = none := Array.getElem?_eq_none (by omega)
  simp [World.cell?, this] at hc
theorem steps_of_laid {W : World} {rest : List (String × DataW Unit)} (h : laidMet Tryd.prog (("loop.example/g00552/impl.crcSteps", Lib.tabData .u32 tabI) :: rest) W) : Steps W :=
  steps_lt (Lib.tabIs_of_head gSteps (by kernel_rfl) Tryd.underlying45 Tryd.underlying43 (by kernel_rfl) (by kernel_rfl) h)
theorem env2_of_laid {W : World} {x y : String × DataW Unit} {rest : List (String × DataW Unit)} (h : laidMet Tryd.prog (x :: y :: ("internal/strconv.uint64pow10", Lib.tabData .u64 Lib.pow10Tab) :: ("loop.example/g00552/impl.crcSteps", Lib.tabData .u32 tabI) :: rest) W) : Env2 W :=
  ⟨steps_of_laid h.tail.tail.tail, num.pow_of_laid h⟩

theorem ba (s : ByteArray) : ∃ l : List UInt8, s = ⟨l.toArray⟩ ∧ s.size = l.length := ⟨s.data.toList, by cases s; simp, rfl⟩

set_option maxHeartbeats 400000 in
theorem walk_Crc (s : ByteArray) (w : World) (_ : s.size ≤ 9223372036854775807) (hp : Steps w) :
    Calls Tryd.prog 3 #[.string s] w fun e w' => e = .returned (.bool true) ∧ Below w.heap.size w w' := by
  by_cases h : s.size ≤ 1048576
  · have hz : ¬ (1048576 : Int) < (s.size : Int) := by omega
    have H1 := Lib.hid (fun W => spec_Crc s W (by omega))
    have H2 := Lib.hid (fun W hW => impl_Crc s W (by omega) hW)
    have HP := Lib.hid hp
    clear h hp
    generalize ((crcN s.data.toList : Nat) : Int) = n at *
    go_enter Tryd.func3, Tryd.ntmps3
    go_wp2_with fail
    refine (H1.out _).mono ?_
    rintro e w1 ⟨rfl, rfl⟩
    go_wp2_with fail
    refine (H2.out _ HP.out).mono ?_
    rintro e w2 ⟨rfl, rfl⟩
    go_wp2_with fail
    go_ret
    exact ⟨rfl, Below.refl _ _⟩
  · have hz : (1048576 : Int) < (s.size : Int) := by omega
    clear hp h
    go_enter Tryd.func3, Tryd.ntmps3
    go_wp2_with fail
    go_ret
    exact ⟨rfl, Below.refl _ _⟩

set_option maxHeartbeats 400000 in
theorem walk_Sealed (s : ByteArray) (w : World) (_ : s.size ≤ 9223372036854775807) (hp : Env2 w) :
    Calls Tryd.prog 4 #[.string s] w fun e w' => e = .returned (.bool true) ∧ Below w.heap.size w w' := by
  obtain ⟨l, rfl, hs⟩ := ba s
  by_cases h : l.length ≤ 1048576
  · have hz : ¬ (1048576 : Int) < (l.length : Int) := by omega
    have H1 := Lib.hid (fun W => spec_Sealed l W (by omega))
    have H2 := Lib.hid (fun W hW => impl_Sealed l W (by omega) hW)
    have HP := Lib.hid hp
    clear h hp
    generalize l ++ sealT l = z at *
    have hzz : (z == z) = true := by simp
    go_enter Tryd.func4, Tryd.ntmps4
    go_wp2_with fail
    refine (H1.out _).mono ?_
    rintro e w1 ⟨rfl, b1⟩
    have B1 := Lib.hid b1
    clear b1
    go_wp2_with fail
    refine (H2.out _ (HP.out.below B1.out)).mono ?_
    rintro e w2 ⟨rfl, b2⟩
    have B2 := Lib.hid (B1.out.trans (b2.mono B1.out.size))
    clear b2
    go_wp2_with fail
    go_ret
    exact ⟨rfl, B2.out⟩
  · have hz : (1048576 : Int) < (l.length : Int) := by omega
    clear hp h
    go_enter Tryd.func4, Tryd.ntmps4
    go_wp2_with fail
    go_ret
    exact ⟨rfl, Below.refl _ _⟩

set_option maxHeartbeats 400000 in
theorem walk_Unsealed (s : ByteArray) (w : World) (_ : s.size ≤ 9223372036854775807) (hp : Env2 w) :
    Calls Tryd.prog 5 #[.string s] w fun e w' => e = .returned (.bool true) ∧ Below w.heap.size w w' := by
  obtain ⟨l, rfl, hs⟩ := ba s
  by_cases h : l.length ≤ 1048576
  · have hz : ¬ (1048576 : Int) < (l.length : Int) := by omega
    have H1 := Lib.hid (fun W => spec_Unsealed l W (by omega))
    have H2 := Lib.hid (fun W hW => impl_Unsealed l W (by omega) hW)
    have HP := Lib.hid hp
    clear h hp
    unfold Unseals at H1 H2
    generalize unsV l = z at *
    generalize unsB l = b at *
    have hzz : (z == z) = true := by simp
    go_enter Tryd.func5, Tryd.ntmps5
    go_wp2_with fail
    refine (H1.out _).mono ?_
    rintro e w1 ⟨rfl, b1⟩
    have B1 := Lib.hid b1
    clear b1
    go_wp2_with fail
    refine (H2.out _ (HP.out.below B1.out)).mono ?_
    rintro e w2 ⟨rfl, b2⟩
    have B2 := Lib.hid (B1.out.trans (b2.mono B1.out.size))
    clear b2
    go_wp2_with fail
    go_ret
    exact ⟨rfl, B2.out⟩
  · have hz : (1048576 : Int) < (l.length : Int) := by omega
    clear hp h
    go_enter Tryd.func5, Tryd.ntmps5
    go_wp2_with fail
    go_ret
    exact ⟨rfl, Below.refl _ _⟩
end Go.Proofs.YtpcekmllmnfmmaaDoor.crc
