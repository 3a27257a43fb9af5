/-
  THE WALK OF THE LAW FnPartsOf, out of the contracts: it answers true, and nothing that was there is written.
-/
import Derived.Test.YtoaallfoackjaaaSpecParts
import Derived.Test.YtoaallfoackjaaaFnPartsMath
import Derived.Test.YtoaallfoackjaaaPartsLaw
import Derived.Test.YtoaallfoackjaaaFnStartsLaw
import Derived.Test.YtoaallfoackjaaaLawsPick
import Derived.Test.YtoaallfoackjaaaDrawParts
namespace Go.Proofs.Ytoaallfoackjaaa.win
open Go.RowKit
open Go.Proofs.Ytoaallfoackjaaa.cur (IsRow code_of_row DrawPartsOf_any)

set_option maxHeartbeats 2000000 in
theorem law_Parts (a : Option Addr) (len cap : Nat) (zs : List Int) (a' : Option Addr) (len' cap' : Nat) (zs' : List Int) (w : World) (hrow : IsRow .u8 w a len cap zs) (hrow' : IsRow .u8 w a' len' cap' zs') :
    Calls Try.prog 4 #[.slice a len cap, .slice a' len' cap'] w fun e w' => e = .returned (.bool true) ∧ Below w.heap.size w w' := by
  have HK := Lib.hid (code_of_row hrow)
  have HK' := Lib.hid (code_of_row hrow')
  clear hrow hrow'
  obtain ⟨t1, ht1⟩ : ∃ t, decide (1048576 < len) = t := ⟨_, rfl⟩
  obtain ⟨t2, ht2⟩ : ∃ t, decide (1048576 < len') = t := ⟨_, rfl⟩
  have hb1 := Lib.hid (fun W => big_any a len cap t1 W ht1)
  have hb2 := Lib.hid (fun W => big_any a' len' cap' t2 W ht2)
  have HT1 := Lib.hid ht1
  have HT2 := Lib.hid ht2
  clear ht1 ht2
  cases t1
  case true =>
    go_enter Try.func4, Try.ntmps4
    go_wp2_with fail
    refine (hb1.out w).mono ?_
    rintro e w' ⟨rfl, rfl⟩
    go_wp2_with fail
    go_ret
    exact ⟨rfl, Below.refl _ _⟩
  case false =>
    cases t2
    case true =>
      go_enter Try.func4, Try.ntmps4
      go_wp2_with fail
      refine (hb1.out w).mono ?_
      rintro e w' ⟨rfl, rfl⟩
      go_wp2_with fail
      refine (hb2.out w).mono ?_
      rintro e w' ⟨rfl, rfl⟩
      go_wp2_with fail
      go_ret
      exact ⟨rfl, Below.refl _ _⟩
    case false =>
      have hbig : ¬ 1048576 < len := of_decide_eq_false HT1.out
      have hbig' : ¬ 1048576 < len' := of_decide_eq_false HT2.out
      go_enter Try.func4, Try.ntmps4
      go_wp2_with fail
      refine (hb1.out w).mono ?_
      rintro e w' ⟨rfl, rfl⟩
      go_wp2_with fail
      refine (hb2.out w).mono ?_
      rintro e w' ⟨rfl, rfl⟩
      go_wp2_with fail
      clear hb1 hb2 HT1 HT2
      refine (DrawPartsOf_any _ _ _ _ (by omega) HK.out).mono ?_
      rintro e w1 ⟨z, l, z', l', s, rfl, hb1⟩
      have HK1 := Lib.hid (HK'.out.below hb1)
      have B1 := Lib.hid hb1
      clear hb1 HK HK'
      go_wp2_with fail
      have hx1 : Box2 ((w1.alloc (.cells #[.int .i64 z, .int .i64 l] 25)).alloc (.cells #[.int .i64 z', .int .i64 l'] 25)) w1.heap.size z l := by refine ⟨?_, ?_⟩ <;> simp [go_sem]
      have hx2 : Box2 ((w1.alloc (.cells #[.int .i64 z, .int .i64 l] 25)).alloc (.cells #[.int .i64 z', .int .i64 l'] 25)) (w1.heap.size + 1) z' l' := by refine ⟨?_, ?_⟩ <;> simp [go_sem]
      have ya : w1.heap.size + 1 < ((w1.alloc (.cells #[.int .i64 z, .int .i64 l] 25)).alloc (.cells #[.int .i64 z', .int .i64 l'] 25)).heap.size := by simp
      have hba : Below w1.heap.size w1 ((w1.alloc (.cells #[.int .i64 z, .int .i64 l] 25)).alloc (.cells #[.int .i64 z', .int .i64 l'] 25)) := ((Below.refl _ _).alloc (Nat.le_refl _) _).alloc (by simp) _
      generalize (w1.alloc (.cells #[.int .i64 z, .int .i64 l] 25)).alloc (.cells #[.int .i64 z', .int .i64 l'] 25) = wa at *
      have Ya := Lib.hid ya
      have GX := Lib.hid hx1
      have GY := Lib.hid hx2
      have BA := Lib.hid (B1.out.trans (hba.mono B1.out.size))
      have KA := Lib.hid (HK1.out.below hba)
      clear hx1 hx2 ya hba HK1 B1
      have hI := Lib.hid (impl_Parts z l z' l' s)
      have hS := Lib.hid (spec_Parts z l z' l' s)
      have hlen := partsV_length z l z' l' s
      obtain ⟨xs, hxs⟩ : ∃ xs, partsV z l z' l' s = xs := ⟨_, rfl⟩
      rw [hxs] at hI hS hlen
      refine (hI.out wa).mono ?_
      rintro e w2 ⟨p1, n1, c1, rfl, hown1, hb2⟩
      obtain ⟨hn1, hrow1⟩ := row_of_own (xs := xs) hown1
      have R2 := Lib.hid hrow1
      have B2 := Lib.hid hb2
      obtain ⟨x0, x1⟩ := GX.out.below hb2 (by have := Ya.out; omega)
      obtain ⟨y0, y1⟩ := GY.out.below hb2 Ya.out
      have HN1 := Lib.hid hn1
      clear hown1 hrow1 hb2 hn1
      go_wp2_with fail
      refine (hS.out w2).mono ?_
      rintro e w3 ⟨p0, n0, c0, rfl, hown0, hb3⟩
      obtain ⟨hn0, hrow0⟩ := row_of_own (xs := xs) hown0
      have hnn : n0 = n1 := by rw [hn0, HN1.out]
      subst hnn
      have S3 := Lib.hid hrow0
      have R3 := Lib.hid (R2.out.below hb3)
      have B3 := Lib.hid (B2.out.trans (hb3.mono B2.out.size))
      have hn20 : n0 ≤ 20000 := by rw [hn0]; exact hlen
      clear hown0 hrow0 hb3 R2 B2 x0 x1 y0 y1 hn0 hI hS
      go_wp2_with fail
      refine (same_same p1 p0 n0 c1 c0 xs w3 (by omega) R3.out S3.out).mono ?_
      rintro e w4 ⟨rfl, hb4⟩
      have R4 := Lib.hid (R3.out.below hb4)
      have B4 := Lib.hid (B3.out.trans (hb4.mono B3.out.size))
      clear hb4 R3 S3 B3
      by_cases hP : PartP z l z' l' s
      · obtain ⟨m, hq, hzm, m1, m2, hsl⟩ := part_slides hP
        have hV : xs = ap s z m := by
          rw [← hxs]; unfold partsV; rw [if_pos hP, hq]; rfl
        have hnm : n0 = m := by rw [HN1.out, hV, ap_length]
        subst hnm
        subst hV
        have e0 : ((n0 : Int) == 0) = false := by simp; omega
        have e0' : (n0 == 0) = false := by simp; omega
        obtain ⟨x0, x1⟩ := GX.out.below B4.out (by have := Ya.out; omega)
        obtain ⟨y0, y1⟩ := GY.out.below B4.out Ya.out
        have HQ := Lib.hid hq
        have HZM := Lib.hid hzm
        have HP := Lib.hid hP
        obtain ⟨⟨hPa, hPb, hlz, hd⟩, hs', s1, s2⟩ := hP
        subst hlz
        have HPa := Lib.hid hPa
        have HPb := Lib.hid hPb
        obtain ⟨r1, r2, r3, r4, r5, r6⟩ := hPa
        obtain ⟨q1, q2, q3, q4, q5, q6⟩ := hPb
        have HSL := Lib.hid hsl
        have HSB := Lib.hid hs'
        clear hxs hlen HN1 hq hzm hd r5 r6 q5 q6 hsl hs'
        go_wp2_with fail
        refine (pick1_any a' len' cap' z' w4 (by omega) (KA.out.below B4.out)).mono ?_
        rintro e w5 ⟨r, rfl, k0, k1, hb5⟩
        have k2 : r < z' := by omega
        have R5 := Lib.hid (R4.out.below hb5)
        have B5 := Lib.hid (B4.out.trans (hb5.mono B4.out.size))
        obtain ⟨x0, x1⟩ := GX.out.below B5.out (by have := Ya.out; omega)
        obtain ⟨y0, y1⟩ := GY.out.below B5.out Ya.out
        clear hb5 R4 B4 KA k1
        obtain ⟨t, ht⟩ : ∃ t, s + r = t := ⟨_, rfl⟩
        have wt : IntKind.i64.wrap (s + r) = t := by rw [ht]; exact IntWalk.i64_in _ (by omega)
        have HT := Lib.hid ht
        have t0 : -1000000 ≤ t := by omega
        have t1 : t ≤ 1000000 := by omega
        by_cases htb : timeB t = true
        · obtain ⟨tb1, tb2⟩ := (timeB_iff t).1 htb
          obtain ⟨q, hqn, hq1, hq2⟩ := part_of r3 k0 (m := n0) (by have := HZM.out; omega)
          have hcv := Lib.hid (fun k => part_cover HPa.out ⟨tb1, tb2⟩ HSL.out (q := q) (by rw [← HT.out]; omega) (by rw [← HT.out]; omega) k)
          have HQN := Lib.hid hqn
          have hcb : coversB z' l' s t = true := (coversB_iff ..).2 ⟨HPb.out, ⟨tb1, tb2⟩, HSB.out, by omega, by omega⟩
          have hfb : finerB l l z' l' = true := (finerB_iff ..).2 HP.out.1
          have hsl : -9223372036854775808 ≤ s := by omega
          clear hq1 hq2
          go_wp2_with (go_at_call 15; refine (spec_TimeOk _ _).mono ?_; rintro e w' ⟨rfl, rfl⟩)
          obtain ⟨b, off, rfl, hbl, hcs⟩ := R5.out.2 (by omega)
          have HCS := Lib.hid hcs
          have zx : w1.heap.size < w5.heap.size := Nat.lt_of_lt_of_le (by have := Ya.out; omega) B5.out.size
          have zy : w1.heap.size + 1 < w5.heap.size := Nat.lt_of_lt_of_le Ya.out B5.out.size
          have GX5 := Lib.hid (show Box2 w5 w1.heap.size l l from ⟨x0, x1⟩)
          have GY5 := Lib.hid (show Box2 w5 (w1.heap.size + 1) z' l' from ⟨y0, y1⟩)
          clear hcs R5 x0 x1 y0 y1 hqn
          go_loopg [10, 11] n0 (fun r sn si wr => ∃ j : Nat, j + r = n0 ∧ sn = .int .i64 (cnt q j) ∧ si = .int .i64 j ∧ Below w5.heap.size w5 wr)
          case atStart => exact ⟨0, by omega, rfl, rfl, Below.refl _ _⟩
          case round =>
            obtain ⟨j, hj, rfl, rfl, hbw⟩ := hrel
            obtain ⟨z0, z1⟩ := GX5.out.below hbw zx
            obtain ⟨u0, u1⟩ := GY5.out.below hbw zy
            have HW := Lib.hid hbw
            have zw : w1.heap.size < wr.heap.size := Nat.lt_of_lt_of_le zx hbw.size
            have zb : b < wr.heap.size := Nat.lt_of_lt_of_le hbl hbw.size
            by_cases hlt : j < n0
            · obtain ⟨v, hv⟩ : ∃ v, s + l * (j : Int) = v := ⟨_, rfl⟩
              have hc1 : wr.cell? ⟨b, off + j, none⟩ = some (.int .i64 v) := by
                rw [hbw.cell (p := ⟨b, off + j, none⟩) hbl, HCS.out j hlt, ap_getD _ _ hlt, hv]
              have hcov := hcv.out j
              rw [hv] at hcov
              have hvl : -9223372036854775808 ≤ v := by
                have := mul_le r3 (Nat.zero_le j)
                simp at this
                omega
              obtain ⟨jj, hjj⟩ : ∃ jj : Int, (j : Int) = jj := ⟨_, rfl⟩
              rw [hjj]
              have j2 : 0 ≤ jj := by omega
              have j1 : jj < (n0 : Int) := by omega
              have e1 : jj.toNat = j := by omega
              rw [← e1] at hc1
              have HJ := Lib.hid hjj
              have HLT := Lib.hid hlt
              have HV := Lib.hid hv
              clear hbw e1 hjj hlt hv u0 u1
              obtain ⟨c, hc⟩ : ∃ c, cnt q j = c := ⟨_, rfl⟩
              have cb := cnt_bd q j
              rw [hc] at cb ⊢
              obtain ⟨c0', c1'⟩ := cb
              have HC := Lib.hid hc
              clear hc
              by_cases hjq : j = q
              · have hcov : coversB l l v t = true := by rw [hcov]; simp [hjq]
                have HJQ := Lib.hid hjq
                clear hjq
                go_upto_region 16 with fail
                go_cut [59] (fun f wx => f = .bool true ∧ Below wr.heap.size wr wx)
                case first =>
                  refine wp_region_held_drew (S := fun w' => w'.cell? ⟨w1.heap.size, 0, none⟩ = some (.int .i64 l) ∧ w'.cell? ⟨w1.heap.size, 1, none⟩ = some (.int .i64 l) ∧ w'.cell? ⟨b, off + jj.toNat, none⟩ = some (.int .i64 v)) (by kernel_rfl) ⟨z0, z1, hc1⟩ (fun hHeld => ?_)
                  refine held_at (i := 0) (by kernel_rfl) (fun oi hoi => ?_)
                  have h2 := hoi
                  simp only [List.getElem?_toArray, List.getElem?_cons_zero, Option.some.injEq] at h2
                  subst h2
                  refine wpAnyH_take (v := ?vh0) hoi (by kernel_rfl) (by kernel_rfl) (by kernel_rfl) (fun _ _ _ h => h) (Or.inl ⟨by rfl, ?hyh0⟩) (by assumption) ?_
                  case hyh0 => intro w' hSw; (try dsimp only at hSw); go_simp; (try with_reducible rfl)
                  clear hoi
                  simp only [Act.put, List.setIfInBounds_toArray, List.set_cons_zero, List.set_cons_succ]
                  refine held_at (i := 1) (by kernel_rfl) (fun oi hoi => ?_)
                  have h2 := hoi
                  simp only [List.getElem?_toArray, List.getElem?_cons_succ, List.getElem?_cons_zero, Option.some.injEq] at h2
                  subst h2
                  refine wpAnyH_take (v := ?vh1) hoi (by kernel_rfl) (by kernel_rfl) (by kernel_rfl) (fun _ _ _ h => h) (Or.inl ⟨by rfl, ?hyh1⟩) (by assumption) ?_
                  case hyh1 => intro w' hSw; (try dsimp only at hSw); go_simp; (try with_reducible rfl)
                  clear hoi
                  simp only [Act.put, List.setIfInBounds_toArray, List.set_cons_zero, List.set_cons_succ]
                  refine held_at (i := 2) (by kernel_rfl) (fun oi hoi => ?_)
                  have h2 := hoi
                  simp only [List.getElem?_toArray, List.getElem?_cons_succ, List.getElem?_cons_zero, Option.some.injEq] at h2
                  subst h2
                  refine wpAnyH_take (v := ?vh2) hoi (by kernel_rfl) (by kernel_rfl) (by kernel_rfl) (fun _ _ _ h => h) (Or.inl ⟨by rfl, ?hyh2⟩) (by assumption) ?_
                  case hyh2 => intro w' hSw; (try dsimp only at hSw); go_simp; (try with_reducible rfl)
                  clear hoi
                  simp only [Act.put, List.setIfInBounds_toArray, List.set_cons_zero, List.set_cons_succ]
                  refine held_at (i := 3) (by kernel_rfl) (fun oi hoi => ?_)
                  have h2 := hoi
                  simp only [List.getElem?_toArray, List.getElem?_cons_succ, List.getElem?_cons_zero, Option.some.injEq] at h2
                  subst h2
                  refine wpAnyH_take (v := ?vh3) hoi (by kernel_rfl) (by kernel_rfl) (by kernel_rfl) (fun _ _ _ h => h) (Or.inl ⟨by rfl, ?hyh3⟩) (by assumption) ?_
                  case hyh3 => intro w' hSw; (try dsimp only at hSw); go_simp; (try with_reducible rfl)
                  clear hoi
                  simp only [Act.put, List.setIfInBounds_toArray, List.set_cons_zero, List.set_cons_succ]
                  refine held_at (i := 4) (by kernel_rfl) (fun oi hoi => ?_)
                  have h2 := hoi
                  simp only [List.getElem?_toArray, List.getElem?_cons_succ, List.getElem?_cons_zero, Option.some.injEq] at h2
                  subst h2
                  refine wpAnyH_take (v := ?vh4) hoi (by kernel_rfl) (by kernel_rfl) (by kernel_rfl) (fun _ _ _ h => h) (Or.inl ⟨by rfl, ?hyh4⟩) (by assumption) ?_
                  case hyh4 => intro w' hSw; (try dsimp only at hSw); go_simp; (try with_reducible rfl)
                  clear hoi
                  simp only [Act.put, List.setIfInBounds_toArray, List.set_cons_zero, List.set_cons_succ]
                  refine held_at (i := 5) (by kernel_rfl) (fun oi hoi => ?_)
                  have h2 := hoi
                  simp only [List.getElem?_toArray, List.getElem?_cons_succ, List.getElem?_cons_zero, Option.some.injEq] at h2
                  subst h2
                  refine wpAnyH_take (v := ?vh5) hoi (by kernel_rfl) (by kernel_rfl) (by kernel_rfl) (fun _ _ _ h => h) (Or.inl ⟨by rfl, ?hyh5⟩) (by assumption) ?_
                  case hyh5 => intro w' hSw; (try dsimp only at hSw); go_simp; (try with_reducible rfl)
                  clear hoi
                  simp only [Act.put, List.setIfInBounds_toArray, List.set_cons_zero, List.set_cons_succ]
                  refine held_at (i := 6) (by kernel_rfl) (fun oi hoi => ?_)
                  have h2 := hoi
                  simp only [List.getElem?_toArray, List.getElem?_cons_succ, List.getElem?_cons_zero, Option.some.injEq] at h2
                  subst h2
                  refine wpAnyH_ready (rs := [6]) (by kernel_rfl) (by simp) ?_
                  refine AllReadyH.cons hoi (fun K hK => ?_) AllReadyH.nil
                  clear hoi
                  go_simp
                  refine (impl_Covers _ _ _ _ _ hvl).mono ?_
                  rintro e w7 ⟨rfl, hb1⟩
                  simp only [hcov]
                  refine hK.out _ _ ?_ (fun hHeld => ?_)
                  · exact keep3 z0 z1 hc1 zw zb ((Below.refl _ wr).drew.trans hb1)
                  clear hK K
                  refine wpAnyH_done (by kernel_rfl) ?_ _
                  go_wp2_with fail
                  go_meet
                  exact ⟨rfl, (Below.refl _ wr).drew.trans hb1⟩
                case rest =>
                  obtain ⟨rfl, hb3⟩ := hcut
                  go_wp2_with fail
                  go_roundg (n0 - (j + 1))
                  case measure => have := HLT.out; omega
                  case rel => exact ⟨j + 1, by have := HLT.out; omega, by rw [show cnt q (j + 1) = c + 1 by rw [← HC.out, HJQ.out, (cnt_hit q).1, (cnt_hit q).2]; rfl], by rw [← HJ.out]; go_num, HW.out.trans (hb3.mono HW.out.size)⟩
              · have hcov : coversB l l v t = false := by rw [hcov]; simp [hjq]
                have HJQ := Lib.hid hjq
                clear hjq
                go_upto_region 16 with fail
                go_cut [59] (fun f wx => f = .bool false ∧ Below wr.heap.size wr wx)
                case first =>
                  refine wp_region_held_drew (S := fun w' => w'.cell? ⟨w1.heap.size, 0, none⟩ = some (.int .i64 l) ∧ w'.cell? ⟨w1.heap.size, 1, none⟩ = some (.int .i64 l) ∧ w'.cell? ⟨b, off + jj.toNat, none⟩ = some (.int .i64 v)) (by kernel_rfl) ⟨z0, z1, hc1⟩ (fun hHeld => ?_)
                  refine held_at (i := 0) (by kernel_rfl) (fun oi hoi => ?_)
                  have h2 := hoi
                  simp only [List.getElem?_toArray, List.getElem?_cons_zero, Option.some.injEq] at h2
                  subst h2
                  refine wpAnyH_take (v := ?vm0) hoi (by kernel_rfl) (by kernel_rfl) (by kernel_rfl) (fun _ _ _ h => h) (Or.inl ⟨by rfl, ?hym0⟩) (by assumption) ?_
                  case hym0 => intro w' hSw; (try dsimp only at hSw); go_simp; (try with_reducible rfl)
                  clear hoi
                  simp only [Act.put, List.setIfInBounds_toArray, List.set_cons_zero, List.set_cons_succ]
                  refine held_at (i := 1) (by kernel_rfl) (fun oi hoi => ?_)
                  have h2 := hoi
                  simp only [List.getElem?_toArray, List.getElem?_cons_succ, List.getElem?_cons_zero, Option.some.injEq] at h2
                  subst h2
                  refine wpAnyH_take (v := ?vm1) hoi (by kernel_rfl) (by kernel_rfl) (by kernel_rfl) (fun _ _ _ h => h) (Or.inl ⟨by rfl, ?hym1⟩) (by assumption) ?_
                  case hym1 => intro w' hSw; (try dsimp only at hSw); go_simp; (try with_reducible rfl)
                  clear hoi
                  simp only [Act.put, List.setIfInBounds_toArray, List.set_cons_zero, List.set_cons_succ]
                  refine held_at (i := 2) (by kernel_rfl) (fun oi hoi => ?_)
                  have h2 := hoi
                  simp only [List.getElem?_toArray, List.getElem?_cons_succ, List.getElem?_cons_zero, Option.some.injEq] at h2
                  subst h2
                  refine wpAnyH_take (v := ?vm2) hoi (by kernel_rfl) (by kernel_rfl) (by kernel_rfl) (fun _ _ _ h => h) (Or.inl ⟨by rfl, ?hym2⟩) (by assumption) ?_
                  case hym2 => intro w' hSw; (try dsimp only at hSw); go_simp; (try with_reducible rfl)
                  clear hoi
                  simp only [Act.put, List.setIfInBounds_toArray, List.set_cons_zero, List.set_cons_succ]
                  refine held_at (i := 3) (by kernel_rfl) (fun oi hoi => ?_)
                  have h2 := hoi
                  simp only [List.getElem?_toArray, List.getElem?_cons_succ, List.getElem?_cons_zero, Option.some.injEq] at h2
                  subst h2
                  refine wpAnyH_take (v := ?vm3) hoi (by kernel_rfl) (by kernel_rfl) (by kernel_rfl) (fun _ _ _ h => h) (Or.inl ⟨by rfl, ?hym3⟩) (by assumption) ?_
                  case hym3 => intro w' hSw; (try dsimp only at hSw); go_simp; (try with_reducible rfl)
                  clear hoi
                  simp only [Act.put, List.setIfInBounds_toArray, List.set_cons_zero, List.set_cons_succ]
                  refine held_at (i := 4) (by kernel_rfl) (fun oi hoi => ?_)
                  have h2 := hoi
                  simp only [List.getElem?_toArray, List.getElem?_cons_succ, List.getElem?_cons_zero, Option.some.injEq] at h2
                  subst h2
                  refine wpAnyH_take (v := ?vm4) hoi (by kernel_rfl) (by kernel_rfl) (by kernel_rfl) (fun _ _ _ h => h) (Or.inl ⟨by rfl, ?hym4⟩) (by assumption) ?_
                  case hym4 => intro w' hSw; (try dsimp only at hSw); go_simp; (try with_reducible rfl)
                  clear hoi
                  simp only [Act.put, List.setIfInBounds_toArray, List.set_cons_zero, List.set_cons_succ]
                  refine held_at (i := 5) (by kernel_rfl) (fun oi hoi => ?_)
                  have h2 := hoi
                  simp only [List.getElem?_toArray, List.getElem?_cons_succ, List.getElem?_cons_zero, Option.some.injEq] at h2
                  subst h2
                  refine wpAnyH_take (v := ?vm5) hoi (by kernel_rfl) (by kernel_rfl) (by kernel_rfl) (fun _ _ _ h => h) (Or.inl ⟨by rfl, ?hym5⟩) (by assumption) ?_
                  case hym5 => intro w' hSw; (try dsimp only at hSw); go_simp; (try with_reducible rfl)
                  clear hoi
                  simp only [Act.put, List.setIfInBounds_toArray, List.set_cons_zero, List.set_cons_succ]
                  refine held_at (i := 6) (by kernel_rfl) (fun oi hoi => ?_)
                  have h2 := hoi
                  simp only [List.getElem?_toArray, List.getElem?_cons_succ, List.getElem?_cons_zero, Option.some.injEq] at h2
                  subst h2
                  refine wpAnyH_ready (rs := [6]) (by kernel_rfl) (by simp) ?_
                  refine AllReadyH.cons hoi (fun K hK => ?_) AllReadyH.nil
                  clear hoi
                  go_simp
                  refine (impl_Covers _ _ _ _ _ hvl).mono ?_
                  rintro e w7 ⟨rfl, hb1⟩
                  simp only [hcov]
                  refine hK.out _ _ ?_ (fun hHeld => ?_)
                  · exact keep3 z0 z1 hc1 zw zb ((Below.refl _ wr).drew.trans hb1)
                  clear hK K
                  refine wpAnyH_done (by kernel_rfl) ?_ _
                  go_wp2_with fail
                  go_meet
                  exact ⟨rfl, (Below.refl _ wr).drew.trans hb1⟩
                case rest =>
                  obtain ⟨rfl, hb3⟩ := hcut
                  go_wp2_with fail
                  go_roundg (n0 - (j + 1))
                  case measure => have := HLT.out; omega
                  case rel => exact ⟨j + 1, by have := HLT.out; omega, by rw [cnt_miss HJQ.out, HC.out], by rw [← HJ.out]; go_num, HW.out.trans (hb3.mono HW.out.size)⟩
            · have hjn : j = n0 := by omega
              have hcn : cnt q j = 1 := cnt_all (by rw [hjn]; exact HQN.out)
              rw [hcn]
              have hdv : z' / l = (n0 : Int) := HQ.out
              have n1 : (l == 0) = false := by simp; omega
              have n2 : ¬ l = 0 := by omega
              have zw' : w1.heap.size + 1 < wr.heap.size := Nat.lt_of_lt_of_le zy hbw.size
              clear hbw hcn
              subst hjn
              go_wp2_with fail
              refine (impl_Covers z' l' s t wr hsl).mono ?_
              rintro e w7 ⟨rfl, hb7⟩
              obtain ⟨z0, z1⟩ := Box2.below ⟨z0, z1⟩ hb7 zw
              obtain ⟨u0, u1⟩ := Box2.below ⟨u0, u1⟩ hb7 zw'
              have B7 := Lib.hid (HW.out.trans (hb7.mono HW.out.size))
              clear hb7
              rw [hcb]
              go_wp2_with fail
              refine (impl_Finer l l z' l' w7).mono ?_
              rintro e w8 ⟨rfl, hb8⟩
              obtain ⟨z0, z1⟩ := Box2.below ⟨z0, z1⟩ hb8 (Nat.lt_of_lt_of_le zx B7.out.size)
              obtain ⟨u0, u1⟩ := Box2.below ⟨u0, u1⟩ hb8 (Nat.lt_of_lt_of_le zy B7.out.size)
              have B8 := Lib.hid (B7.out.trans (hb8.mono B7.out.size))
              clear hb8
              rw [hfb]
              go_wp2_with fail
              go_ret
              exact ⟨rfl, BA.out.trans ((B5.out.trans (B8.out.mono B5.out.size)).mono BA.out.size)⟩
        · have htb' := bool_no htb
          clear htb
          go_wp2_with (go_at_call 15; refine (spec_TimeOk _ _).mono ?_; rintro e w' ⟨rfl, rfl⟩)
          go_ret
          exact ⟨rfl, BA.out.trans (B5.out.mono BA.out.size)⟩
      · have hz0 : xs = [] := by rw [← hxs]; exact partsV_no hP
        have hn : n0 = 0 := by rw [HN1.out, hz0]; rfl
        subst hn
        clear hxs hlen HN1 hP
        go_wp2_with fail
        go_ret
        exact ⟨rfl, BA.out.trans (B4.out.mono BA.out.size)⟩
end Go.Proofs.Ytoaallfoackjaaa.win
