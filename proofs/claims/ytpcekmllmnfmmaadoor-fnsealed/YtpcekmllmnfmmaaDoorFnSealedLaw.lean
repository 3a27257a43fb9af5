/-
  THE WALK OF THE LAW FnSealed: whatever the code, it answers true; nothing that was there is written.
  Condition: what the walks ask of the library's variables (crc.Env2).
-/
import Derived.Test.YtpcekmllmnfmmaaDoorDrawUnsealed
import Derived.Test.YtpcekmllmnfmmaaDoorLawsPick
namespace Go.Proofs.YtpcekmllmnfmmaaDoor.dat
open Go.RowKit Go.Proofs.YtpcekmllmnfmmaaDoor.win Go.Proofs.YtpcekmllmnfmmaaDoor.cur
open Go.Proofs.YtpcekmllmnfmmaaDoor.crc

set_option maxRecDepth 100000 in
set_option maxHeartbeats 4000000 in
theorem law_FnSealed (a : Option Addr) (len cap : Nat) (zs : List Int) (w : World) (hrow : IsRow .u8 w a len cap zs) (hE : Env2 w) :
    Calls Tryd.prog 6 #[.slice a len cap] w fun e w' => e = .returned (.bool true) ∧ Below w.heap.size w w' := by
  have HK := Lib.hid (code_of_row hrow)
  have HE := Lib.hid hE
  clear hrow hE
  obtain ⟨t1, ht1⟩ : ∃ t, decide (1048576 < len) = t := ⟨_, rfl⟩
  have hb1 := Lib.hid (fun W => big_any a len cap t1 W ht1)
  have HT1 := Lib.hid ht1
  clear ht1
  cases t1
  case true =>
    go_enter Tryd.func6, Tryd.ntmps6
    go_wp2_with fail
    refine (hb1.out w).mono ?_
    rintro e w' ⟨rfl, rfl⟩
    go_wp2_with fail
    go_ret
    exact ⟨rfl, Below.refl _ _⟩
  case false =>
  have hbig : ¬ 1048576 < len := of_decide_eq_false HT1.out
  go_enter Tryd.func6, Tryd.ntmps6
  go_wp2_with fail
  refine (hb1.out w).mono ?_
  rintro e w' ⟨rfl, rfl⟩
  go_wp2_with fail
  clear hb1 HT1
  refine (DrawSealed_any _ _ _ _ (by omega) HK.out).mono ?_
  rintro e w1 ⟨s, rfl, hs, hb1⟩
  have B1 := Lib.hid hb1
  have E1 := Lib.hid (HE.out.below hb1)
  clear hb1
  go_wp2_with fail
  refine (impl_Sealed s w1 (by omega) E1.out).mono ?_
  rintro e w2 ⟨rfl, hb2⟩
  have B2 := Lib.hid (B1.out.trans (hb2.mono B1.out.size))
  have E2 := Lib.hid (E1.out.below hb2)
  have hl2 : (s ++ sealT s).length ≤ 2000000 := by have := (sealT_len s).2; simp; omega
  clear hb2 B1 E1
  go_wp2_with fail
  refine (impl_Unsealed (s ++ sealT s) w2 hl2 E2.out).mono ?_
  rintro e w3 ⟨rfl, hb3⟩
  have B3 := Lib.hid (B2.out.trans (hb3.mono B2.out.size))
  have E3 := Lib.hid (E2.out.below hb3)
  have hK3 := Lib.hid (HK.out.below B3.out)
  clear hb3 B2 E2
  rw [show unsV (s ++ sealT s) = s by unfold unsV; rw [unsD_seal]; rfl, show unsB (s ++ sealT s) = true by unfold unsB; rw [unsD_seal]; rfl]
  go_wp2_with fail
  refine (DrawUnsealed_any _ _ _ _ (by omega) hK3.out).mono ?_
  rintro e w4 ⟨v, rfl, hv, hb4⟩
  have B4 := Lib.hid (B3.out.trans (hb4.mono B3.out.size))
  have E4 := Lib.hid (E3.out.below hb4)
  clear hb4 B3 E3
  go_wp2_with fail
  refine (impl_Unsealed v w4 (by omega) E4.out).mono ?_
  rintro e w5 ⟨rfl, hb5⟩
  have B5 := Lib.hid (B4.out.trans (hb5.mono B4.out.size))
  have E5 := Lib.hid (E4.out.below hb5)
  clear hb5 B4 E4
  go_wp2_with fail
  refine (spec_Unsealed v w5 (by omega)).mono ?_
  rintro e w6 ⟨rfl, hb6⟩
  have B6 := Lib.hid (B5.out.trans (hb6.mono B5.out.size))
  have E6 := Lib.hid (E5.out.below hb6)
  clear hb6 B5 E5
  have HX : (unsD v = none ∧ unsB v = false) ∨ ∃ x, unsV v = x ∧ unsB v = true ∧ v = x ++ sealT x := by
    cases hx : unsD v with
    | none => exact .inl ⟨rfl, by unfold unsB; rw [hx]; rfl⟩
    | some x => exact .inr ⟨x, by unfold unsV; rw [hx]; rfl, by unfold unsB; rw [hx]; rfl, unsD_inv hx⟩
  rcases HX with ⟨_, hf⟩ | ⟨x, hx, ht, hv2⟩
  · obtain ⟨uv, huv⟩ : ∃ x, unsV v = x := ⟨_, rfl⟩
    rw [hf, huv]
    clear hf huv
    go_wp2_with fail
    refine (spec_Sealed s w6 (by omega)).mono ?_
    rintro e w7 ⟨rfl, hb7⟩
    have B7 := Lib.hid (B6.out.trans (hb7.mono B6.out.size))
    clear hb7 B6 E6
    go_wp2_with fail
    go_ret
    exact ⟨rfl, B7.out⟩
  · rw [hx, ht]
    clear hx ht
    have hxl : x.length ≤ 2000000 := by have h1 := congrArg List.length hv2; simp at h1; omega
    obtain ⟨y, hy⟩ : ∃ y, x ++ sealT x = y := ⟨_, rfl⟩
    have HY := Lib.hid hy
    rw [hy] at hv2
    subst hv2
    clear hy
    go_wp2_with fail
    refine (spec_Sealed s w6 (by omega)).mono ?_
    rintro e w7 ⟨rfl, hb7⟩
    have B7 := Lib.hid (B6.out.trans (hb7.mono B6.out.size))
    have E7 := Lib.hid (E6.out.below hb7)
    clear hb7 B6 E6
    go_wp2_with fail
    refine (impl_Sealed x w7 hxl E7.out).mono ?_
    rintro e w8 ⟨rfl, hb8⟩
    have B8 := Lib.hid (B7.out.trans (hb8.mono B7.out.size))
    clear hb8 B7 E7
    rw [HY.out]
    go_wp2_with fail
    go_ret
    exact ⟨rfl, B8.out⟩
end Go.Proofs.YtpcekmllmnfmmaaDoor.dat
