/-
  THE WALK OF THE LAW FnStarts, out of the contracts: it answers true, and nothing that was there is written.
-/
import Derived.Test.YtpjimeanimghdaaIntRows
import Derived.Test.YtpjimeanimghdaaStarts
import Derived.Test.YtpjimeanimghdaaWinLaws
import Derived.Test.YtpjimeanimghdaaFnStartsMath
import Derived.Test.YtpjimeanimghdaaDrawWins
import Derived.Test.YtpjimeanimghdaaHeldSteps
namespace Go.Proofs.Ytpjimeanimghdaa.win
open Go.RowKit
open Go.Proofs.Ytpjimeanimghdaa.cur (IsRow Code code_of_row big_yes big_no DrawStarts_any)

theorem keep3 {W w' : World} {p q o : Nat} {z l v : Int} (h0 : W.cell? ⟨p, 0, none⟩ = some (.int .i64 z)) (h1 : W.cell? ⟨p, 1, none⟩ = some (.int .i64 l)) (h2 : W.cell? ⟨q, o, none⟩ = some (.int .i64 v)) (hp : p < W.heap.size) (hq : q < W.heap.size) (h : Below W.heap.size W w') :
    w'.cell? ⟨p, 0, none⟩ = some (.int .i64 z) ∧ w'.cell? ⟨p, 1, none⟩ = some (.int .i64 l) ∧ w'.cell? ⟨q, o, none⟩ = some (.int .i64 v) :=
  ⟨(h.cell (p := ⟨p, 0, none⟩) hp).trans h0, (h.cell (p := ⟨p, 1, none⟩) hp).trans h1, (h.cell (p := ⟨q, o, none⟩) hq).trans h2⟩

theorem keep4' {W w' : World} {p q o o' : Nat} {z l v u : Int} (h0 : W.cell? ⟨p, 0, none⟩ = some (.int .i64 z)) (h1 : W.cell? ⟨p, 1, none⟩ = some (.int .i64 l)) (h2 : W.cell? ⟨q, o, none⟩ = some (.int .i64 v)) (h3 : W.cell? ⟨q, o', none⟩ = some (.int .i64 u)) (hp : p < W.heap.size) (hq : q < W.heap.size) (h : Below W.heap.size W w') :
    w'.cell? ⟨p, 0, none⟩ = some (.int .i64 z) ∧ w'.cell? ⟨p, 1, none⟩ = some (.int .i64 l) ∧ w'.cell? ⟨q, o, none⟩ = some (.int .i64 v) ∧ w'.cell? ⟨q, o', none⟩ = some (.int .i64 u) :=
  ⟨(h.cell (p := ⟨p, 0, none⟩) hp).trans h0, (h.cell (p := ⟨p, 1, none⟩) hp).trans h1, (h.cell (p := ⟨q, o, none⟩) hq).trans h2, (h.cell (p := ⟨q, o', none⟩) hq).trans h3⟩

set_option maxRecDepth 100000 in
set_option maxHeartbeats 2000000 in
theorem law_Starts (a : Option Addr) (len cap : Nat) (zs : List Int) (w : World) (hrow : IsRow .u8 w a len cap zs) :
    Calls Try.prog 3 #[.slice a len cap] w fun e w' => e = .returned (.bool true) ∧ Below w.heap.size w w' := by
  have HK := Lib.hid (code_of_row hrow)
  clear hrow
  by_cases hbig : 1048576 < len
  · go_enter Try.func3, Try.ntmps3
    go_wp2_with (go_at_call 10; refine (big_yes _ _ _ _ hbig).mono ?_; rintro e w' ⟨rfl, rfl⟩)
    go_ret
    exact ⟨rfl, Below.refl _ _⟩
  · go_enter Try.func3, Try.ntmps3
    go_wp2_with (go_at_call 10; refine (big_no _ _ _ _ hbig).mono ?_; rintro e w' ⟨rfl, rfl⟩)
    refine (DrawStarts_any _ _ _ _ (by omega) HK.out).mono ?_
    rintro e w1 ⟨z, l, t, rfl, hb1⟩
    have B1 := Lib.hid hb1
    clear hb1 HK
    go_wp2_with fail
    refine (impl_Starts z l t _).mono ?_
    rintro e w2 ⟨a2, n2, c2, rfl, hown2, hb2⟩
    have hx : Box2 w2 w1.heap.size z l := Box2.below (w := w1.alloc (.cells #[.int .i64 z, .int .i64 l] 25)) ⟨by simp [go_sem], by simp [go_sem]⟩ hb2 (by simp)
    have z2 : w1.heap.size < w2.heap.size := Nat.lt_of_lt_of_le (by simp) hb2.size
    obtain ⟨hn2, hrow2⟩ := row_of_own (xs := startsV z l t) hown2
    have B2 := Lib.hid ((B1.out.alloc B1.out.size (.cells #[.int .i64 z, .int .i64 l] 25)).trans (hb2.mono (by have := B1.out.size; simp; omega)))
    have R2 := Lib.hid hrow2
    have N2 := Lib.hid hn2
    obtain ⟨x0, x1⟩ := hx
    clear hown2 hrow2 hb2 hn2
    by_cases hw : winB z l = true
    · by_cases ht : timeB t = true
      · have hP := (winB_iff z l).1 hw
        obtain ⟨t1, t2⟩ := (timeB_iff t).1 ht
        obtain ⟨m, hq, hzm, m1, m2⟩ := win_slides hP
        have hV : startsV z l t = ap (up l (t - z + 1)) l m := by
          unfold startsV; rw [if_pos ⟨hP, t1, t2⟩, hq]; rfl
        have hnm : n2 = m := by rw [N2.out, hV, ap_length]
        subst hnm
        have R3 : Hid (Row w2 a2 n2 (ap (up l (t - z + 1)) l n2)) := by
          show Row _ _ _ _
          rw [← hV]; exact R2.out
        have hC := Lib.hid (fun k (hk : k < n2) => starts_cover hP ⟨t1, t2⟩ hzm hk)
        have hA := Lib.hid (starts_ahead (t := t) hP)
        have hB := Lib.hid (starts_behind (t := t) hP hzm)
        have hM := Lib.hid (up_mul (l := l) (t - z + 1))
        obtain ⟨r1, r2, r3, r4, r5, r6⟩ := hP
        have hU := Lib.hid (up_bd (t - z + 1) r3)
        have HZ := Lib.hid hzm
        clear R2 N2 hV hzm r5 r6
        go_wp2_with (first | (go_at_call 13; refine (spec_WinOk _ _ _).mono ?_; rintro e w' ⟨rfl, rfl⟩) | (go_at_call 14; refine (spec_TimeOk _ _).mono ?_; rintro e w' ⟨rfl, rfl⟩))
        have B2a : Hid (Below w2.heap.size w2 (w2.alloc (.cells #[.int .i64 z, .int .i64 l] 25))) := (Below.refl _ _).alloc (Nat.le_refl _) _
        obtain ⟨b, off, rfl, hbl, hcs⟩ := R3.out.2 (by omega)
        have HCS := Lib.hid hcs
        have hcv : -9223372036854775808 ≤ t := by omega
        clear hcs R3 hcv
        go_loopg [6] n2 (fun r i wr => ∃ j : Nat, j + r = n2 ∧ i = .int .i64 j ∧ Below w2.heap.size w2 wr)
        case atStart => exact ⟨0, by omega, rfl, B2a.out⟩
        case round =>
          obtain ⟨j, hj, rfl, hbw⟩ := hrel
          obtain ⟨y0, y1⟩ : Box2 wr w1.heap.size z l := Box2.below ⟨x0, x1⟩ hbw z2
          have hcell : ∀ k, k < n2 → wr.cell? ⟨b, off + k, none⟩ = some (.int .i64 (up l (t - z + 1) + l * (k : Int))) := fun k hk => by
            rw [hbw.cell (p := ⟨b, off + k, none⟩) hbl, HCS.out k hk, ap_getD _ _ hk]
          have HW := Lib.hid hbw
          have zw : w1.heap.size < wr.heap.size := Nat.lt_of_lt_of_le z2 hbw.size
          have zb : b < wr.heap.size := Nat.lt_of_lt_of_le hbl hbw.size
          clear hbw x0 x1
          by_cases hlt : j < n2
          · obtain ⟨v, hv⟩ : ∃ v, up l (t - z + 1) + l * (j : Int) = v := ⟨_, rfl⟩
            have hcov := hC.out j hlt
            rw [hv] at hcov
            have hvz := (coversB_iff ..).1 hcov
            have v0 : -200000 ≤ v := by omega
            have v1 : v ≤ 200000 := by omega
            have hvm : v.tmod l = 0 := (tmod_zero v).2 hvz.2.2.1
            have hvl : -9223372036854775808 ≤ v := by omega
            have n1 : (l == 0) = false := by simp; omega
            have n2' : ¬ l = 0 := by omega
            have hc1 := hcell j hlt
            rw [hv] at hc1
            clear hvz
            have HCC := Lib.hid hcell
            have HV := Lib.hid hv
            clear hcell hv hq
            by_cases hj0 : j = 0
            · subst hj0
              simp only [Nat.add_zero] at hc1
              rw [show ((0 : Nat) : Int) = 0 from rfl]
              go_upto_region 12 with fail
              go_cut [78] (fun f wx => f = .bool false ∧ Below wr.heap.size wr wx)
              case first =>
                refine wp_region_held_drew (S := fun w' => w'.cell? ⟨w1.heap.size, 0, none⟩ = some (.int .i64 z) ∧ w'.cell? ⟨w1.heap.size, 1, none⟩ = some (.int .i64 l) ∧ w'.cell? ⟨b, off, none⟩ = some (.int .i64 v)) (by kernel_rfl) ⟨y0, y1, hc1⟩ (fun hHeld => ?_)
                refine held_at (i := 0) (by kernel_rfl) (fun oi hoi => ?_)
                have h2 := hoi
                simp only [List.getElem?_toArray, List.getElem?_cons_zero, Option.some.injEq] at h2
                subst h2
                refine wpAnyH_take (v := ?va0) hoi (by kernel_rfl) (by kernel_rfl) (by kernel_rfl) (fun _ _ _ h => h) (Or.inl ⟨by rfl, ?hya0⟩) (by assumption) ?_
                case hya0 => intro w' hSw; (try dsimp only at hSw); go_simp; (try with_reducible rfl)
                clear hoi
                simp only [Act.put, List.setIfInBounds_toArray, List.set_cons_zero, List.set_cons_succ]
                refine held_at (i := 1) (by kernel_rfl) (fun oi hoi => ?_)
                have h2 := hoi
                simp only [List.getElem?_toArray, List.getElem?_cons_succ, List.getElem?_cons_zero, Option.some.injEq] at h2
                subst h2
                refine wpAnyH_take (v := ?va1) hoi (by kernel_rfl) (by kernel_rfl) (by kernel_rfl) (fun _ _ _ h => h) (Or.inl ⟨by rfl, ?hya1⟩) (by assumption) ?_
                case hya1 => intro w' hSw; (try dsimp only at hSw); go_simp; (try with_reducible rfl)
                clear hoi
                simp only [Act.put, List.setIfInBounds_toArray, List.set_cons_zero, List.set_cons_succ]
                refine held_at (i := 2) (by kernel_rfl) (fun oi hoi => ?_)
                have h2 := hoi
                simp only [List.getElem?_toArray, List.getElem?_cons_succ, List.getElem?_cons_zero, Option.some.injEq] at h2
                subst h2
                refine wpAnyH_take (v := ?va2) hoi (by kernel_rfl) (by kernel_rfl) (by kernel_rfl) (fun _ _ _ h => h) (Or.inl ⟨by rfl, ?hya2⟩) (by assumption) ?_
                case hya2 => intro w' hSw; (try dsimp only at hSw); go_simp; (try with_reducible rfl)
                clear hoi
                simp only [Act.put, List.setIfInBounds_toArray, List.set_cons_zero, List.set_cons_succ]
                refine held_at (i := 3) (by kernel_rfl) (fun oi hoi => ?_)
                have h2 := hoi
                simp only [List.getElem?_toArray, List.getElem?_cons_succ, List.getElem?_cons_zero, Option.some.injEq] at h2
                subst h2
                refine wpAnyH_take (v := ?va3) hoi (by kernel_rfl) (by kernel_rfl) (by kernel_rfl) (fun _ _ _ h => h) (Or.inl ⟨by rfl, ?hya3⟩) (by assumption) ?_
                case hya3 => intro w' hSw; (try dsimp only at hSw); go_simp; (try with_reducible rfl)
                clear hoi
                simp only [Act.put, List.setIfInBounds_toArray, List.set_cons_zero, List.set_cons_succ]
                refine held_at (i := 4) (by kernel_rfl) (fun oi hoi => ?_)
                have h2 := hoi
                simp only [List.getElem?_toArray, List.getElem?_cons_succ, List.getElem?_cons_zero, Option.some.injEq] at h2
                subst h2
                refine wpAnyH_take (v := ?va4) hoi (by kernel_rfl) (by kernel_rfl) (by kernel_rfl) (fun _ _ _ h => h) (Or.inl ⟨by rfl, ?hya4⟩) (by assumption) ?_
                case hya4 => intro w' hSw; (try dsimp only at hSw); go_simp; (try with_reducible rfl)
                clear hoi
                simp only [Act.put, List.setIfInBounds_toArray, List.set_cons_zero, List.set_cons_succ]
                refine held_at (i := 5) (by kernel_rfl) (fun oi hoi => ?_)
                have h2 := hoi
                simp only [List.getElem?_toArray, List.getElem?_cons_succ, List.getElem?_cons_zero, Option.some.injEq] at h2
                subst h2
                refine wpAnyH_take (v := ?va5) hoi (by kernel_rfl) (by kernel_rfl) (by kernel_rfl) (fun _ _ _ h => h) (Or.inl ⟨by rfl, ?hya5⟩) (by assumption) ?_
                case hya5 => intro w' hSw; (try dsimp only at hSw); go_simp; (try with_reducible rfl)
                clear hoi
                simp only [Act.put, List.setIfInBounds_toArray, List.set_cons_zero, List.set_cons_succ]
                refine held_at (i := 6) (by kernel_rfl) (fun oi hoi => ?_)
                have h2 := hoi
                simp only [List.getElem?_toArray, List.getElem?_cons_succ, List.getElem?_cons_zero, Option.some.injEq] at h2
                subst h2
                refine wpAnyH_ready (rs := [6]) (by kernel_rfl) (by simp) ?_
                refine AllReadyH.cons hoi (fun K hK => ?_) AllReadyH.nil
                clear hoi
                go_simp
                refine (impl_Covers _ _ _ _ _ hvl).mono ?_
                rintro e w3 ⟨rfl, hb1⟩
                simp only [hcov]
                refine hK.out _ _ ?_ (fun hHeld => ?_)
                · exact keep3 y0 y1 hc1 zw zb ((Below.refl _ wr).drew.trans hb1)
                clear hK K
                refine held_at (i := 7) (by kernel_rfl) (fun oi hoi => ?_)
                have h2 := hoi
                simp only [List.getElem?_toArray, List.getElem?_cons_succ, List.getElem?_cons_zero, Option.some.injEq] at h2
                subst h2
                refine wpAnyH_take (v := ?va7) hoi (by kernel_rfl) (by kernel_rfl) (by kernel_rfl) (fun _ _ _ h => h) (Or.inl ⟨by rfl, ?hya7⟩) (by assumption) ?_
                case hya7 => intro w' hSw; (try dsimp only at hSw); go_simp; (try with_reducible rfl)
                clear hoi
                simp only [Act.put, List.setIfInBounds_toArray, List.set_cons_zero, List.set_cons_succ]
                refine held_at (i := 8) (by kernel_rfl) (fun oi hoi => ?_)
                have h2 := hoi
                simp only [List.getElem?_toArray, List.getElem?_cons_succ, List.getElem?_cons_zero, Option.some.injEq] at h2
                subst h2
                refine wpAnyH_take (v := ?va8) hoi (by kernel_rfl) (by kernel_rfl) (by kernel_rfl) (fun _ _ _ h => h) (Or.inl ⟨by rfl, ?hya8⟩) (by assumption) ?_
                case hya8 => intro w' hSw; (try dsimp only at hSw); go_simp; (try with_reducible rfl)
                clear hoi
                simp only [Act.put, List.setIfInBounds_toArray, List.set_cons_zero, List.set_cons_succ]
                refine held_at (i := 9) (by kernel_rfl) (fun oi hoi => ?_)
                have h2 := hoi
                simp only [List.getElem?_toArray, List.getElem?_cons_succ, List.getElem?_cons_zero, Option.some.injEq] at h2
                subst h2
                refine wpAnyH_take (v := ?va9) hoi (by kernel_rfl) (by kernel_rfl) (by kernel_rfl) (fun _ _ _ h => h) (Or.inl ⟨by rfl, ?hya9⟩) (by assumption) ?_
                case hya9 => intro w' hSw; (try dsimp only at hSw); go_simp; (try with_reducible rfl)
                clear hoi
                simp only [Act.put, List.setIfInBounds_toArray, List.set_cons_zero, List.set_cons_succ]
                refine held_at (i := 10) (by kernel_rfl) (fun oi hoi => ?_)
                have h2 := hoi
                simp only [List.getElem?_toArray, List.getElem?_cons_succ, List.getElem?_cons_zero, Option.some.injEq] at h2
                subst h2
                refine wpAnyH_take (v := ?va10) hoi (by kernel_rfl) (by kernel_rfl) (by kernel_rfl) (fun _ _ _ h => h) (Or.inl ⟨by rfl, ?hya10⟩) (by assumption) ?_
                case hya10 => intro w' hSw; (try dsimp only at hSw); go_simp; (try with_reducible rfl)
                clear hoi
                simp only [Act.put, List.setIfInBounds_toArray, List.set_cons_zero, List.set_cons_succ]
                refine held_at (i := 11) (by kernel_rfl) (fun oi hoi => ?_)
                have h2 := hoi
                simp only [List.getElem?_toArray, List.getElem?_cons_succ, List.getElem?_cons_zero, Option.some.injEq] at h2
                subst h2
                refine wpAnyH_take (v := ?va11) hoi (by kernel_rfl) (by kernel_rfl) (by kernel_rfl) (fun _ _ _ h => h) (Or.inl ⟨by rfl, ?hya11⟩) (by assumption) ?_
                case hya11 => intro w' hSw; (try dsimp only at hSw); go_simp; (try with_reducible rfl)
                clear hoi
                simp only [Act.put, List.setIfInBounds_toArray, List.set_cons_zero, List.set_cons_succ]
                refine held_at (i := 12) (by kernel_rfl) (fun oi hoi => ?_)
                have h2 := hoi
                simp only [List.getElem?_toArray, List.getElem?_cons_succ, List.getElem?_cons_zero, Option.some.injEq] at h2
                subst h2
                refine wpAnyH_take (v := ?va12) hoi (by kernel_rfl) (by kernel_rfl) (by kernel_rfl) (fun _ _ _ h => h) (Or.inl ⟨by rfl, ?hya12⟩) (by assumption) ?_
                case hya12 => intro w' hSw; (try dsimp only at hSw); go_simp; (try with_reducible rfl)
                clear hoi
                simp only [Act.put, List.setIfInBounds_toArray, List.set_cons_zero, List.set_cons_succ]
                refine held_at (i := 13) (by kernel_rfl) (fun oi hoi => ?_)
                have h2 := hoi
                simp only [List.getElem?_toArray, List.getElem?_cons_succ, List.getElem?_cons_zero, Option.some.injEq] at h2
                subst h2
                refine wpAnyH_take (v := ?va13) hoi (by kernel_rfl) (by kernel_rfl) (by kernel_rfl) (fun _ _ _ h => h) (Or.inl ⟨by rfl, ?hya13⟩) (by assumption) ?_
                case hya13 => intro w' hSw; (try dsimp only at hSw); go_simp; (try with_reducible rfl)
                clear hoi
                simp only [Act.put, List.setIfInBounds_toArray, List.set_cons_zero, List.set_cons_succ]
                refine held_at (i := 14) (by kernel_rfl) (fun oi hoi => ?_)
                have h2 := hoi
                simp only [List.getElem?_toArray, List.getElem?_cons_succ, List.getElem?_cons_zero, Option.some.injEq] at h2
                subst h2
                refine wpAnyH_take (v := ?va14) hoi (by kernel_rfl) (by kernel_rfl) (by kernel_rfl) (fun _ _ _ h => h) (Or.inl ⟨by rfl, ?hya14⟩) (by assumption) ?_
                case hya14 => intro w' hSw; (try dsimp only at hSw); go_simp; (try with_reducible rfl)
                clear hoi
                simp only [Act.put, List.setIfInBounds_toArray, List.set_cons_zero, List.set_cons_succ]
                refine held_at (i := 15) (by kernel_rfl) (fun oi hoi => ?_)
                have h2 := hoi
                simp only [List.getElem?_toArray, List.getElem?_cons_succ, List.getElem?_cons_zero, Option.some.injEq] at h2
                subst h2
                refine wpAnyH_take (v := ?va15) hoi (by kernel_rfl) (by kernel_rfl) (by kernel_rfl) (fun _ _ _ h => h) (Or.inl ⟨by rfl, ?hya15⟩) (by assumption) ?_
                case hya15 => intro w' hSw; (try dsimp only at hSw); go_simp; (try with_reducible rfl)
                clear hoi
                simp only [Act.put, List.setIfInBounds_toArray, List.set_cons_zero, List.set_cons_succ]
                refine held_at (i := 16) (by kernel_rfl) (fun oi hoi => ?_)
                have h2 := hoi
                simp only [List.getElem?_toArray, List.getElem?_cons_succ, List.getElem?_cons_zero, Option.some.injEq] at h2
                subst h2
                refine wpAnyH_take (v := ?va16) hoi (by kernel_rfl) (by kernel_rfl) (by kernel_rfl) (fun _ _ _ h => h) (Or.inl ⟨by rfl, ?hya16⟩) (by assumption) ?_
                case hya16 => intro w' hSw; (try dsimp only at hSw); go_simp; (try with_reducible rfl)
                clear hoi
                simp only [Act.put, List.setIfInBounds_toArray, List.set_cons_zero, List.set_cons_succ]
                refine held_at (i := 17) (by kernel_rfl) (fun oi hoi => ?_)
                have h2 := hoi
                simp only [List.getElem?_toArray, List.getElem?_cons_succ, List.getElem?_cons_zero, Option.some.injEq] at h2
                subst h2
                refine wpAnyH_take (v := ?va17) hoi (by kernel_rfl) (by kernel_rfl) (by kernel_rfl) (fun _ _ _ h => h) (Or.inl ⟨by rfl, ?hya17⟩) (by assumption) ?_
                case hya17 => intro w' hSw; (try dsimp only at hSw); go_simp; (try with_reducible rfl)
                clear hoi
                simp only [Act.put, List.setIfInBounds_toArray, List.set_cons_zero, List.set_cons_succ]
                refine held_at (i := 18) (by kernel_rfl) (fun oi hoi => ?_)
                have h2 := hoi
                simp only [List.getElem?_toArray, List.getElem?_cons_succ, List.getElem?_cons_zero, Option.some.injEq] at h2
                subst h2
                refine wpAnyH_take (v := ?va18) hoi (by kernel_rfl) (by kernel_rfl) (by kernel_rfl) (fun _ _ _ h => h) (Or.inl ⟨by rfl, ?hya18⟩) (by assumption) ?_
                case hya18 => intro w' hSw; (try dsimp only at hSw); go_simp; (try with_reducible rfl)
                clear hoi
                simp only [Act.put, List.setIfInBounds_toArray, List.set_cons_zero, List.set_cons_succ]
                refine held_at (i := 19) (by kernel_rfl) (fun oi hoi => ?_)
                have h2 := hoi
                simp only [List.getElem?_toArray, List.getElem?_cons_succ, List.getElem?_cons_zero, Option.some.injEq] at h2
                subst h2
                refine wpAnyH_take (v := ?va19) hoi (by kernel_rfl) (by kernel_rfl) (by kernel_rfl) (fun _ _ _ h => h) (Or.inl ⟨by rfl, ?hya19⟩) (by assumption) ?_
                case hya19 => intro w' hSw; (try dsimp only at hSw); go_simp; (try with_reducible rfl)
                clear hoi
                simp only [Act.put, List.setIfInBounds_toArray, List.set_cons_zero, List.set_cons_succ]
                refine held_at (i := 20) (by kernel_rfl) (fun oi hoi => ?_)
                have h2 := hoi
                simp only [List.getElem?_toArray, List.getElem?_cons_succ, List.getElem?_cons_zero, Option.some.injEq] at h2
                subst h2
                refine wpAnyH_take (v := ?va20) hoi (by kernel_rfl) (by kernel_rfl) (by kernel_rfl) (fun _ _ _ h => h) (Or.inl ⟨by rfl, ?hya20⟩) (by assumption) ?_
                case hya20 => intro w' hSw; (try dsimp only at hSw); go_simp; (try with_reducible rfl)
                clear hoi
                simp only [Act.put, List.setIfInBounds_toArray, List.set_cons_zero, List.set_cons_succ]
                refine held_at (i := 21) (by kernel_rfl) (fun oi hoi => ?_)
                have h2 := hoi
                simp only [List.getElem?_toArray, List.getElem?_cons_succ, List.getElem?_cons_zero, Option.some.injEq] at h2
                subst h2
                refine wpAnyH_take (v := ?va21) hoi (by kernel_rfl) (by kernel_rfl) (by kernel_rfl) (fun _ _ _ h => h) (Or.inl ⟨by rfl, ?hya21⟩) (by assumption) ?_
                case hya21 => intro w' hSw; (try dsimp only at hSw); go_simp; (try with_reducible rfl)
                clear hoi
                simp only [Act.put, List.setIfInBounds_toArray, List.set_cons_zero, List.set_cons_succ]
                refine held_at (i := 22) (by kernel_rfl) (fun oi hoi => ?_)
                have h2 := hoi
                simp only [List.getElem?_toArray, List.getElem?_cons_succ, List.getElem?_cons_zero, Option.some.injEq] at h2
                subst h2
                refine held_skip hoi (by kernel_rfl) (by kernel_rfl) (by kernel_rfl) (fun _ _ _ h => h) (by rfl) (by assumption) ?_
                clear hoi
                simp only [Act.put, List.setIfInBounds_toArray, List.set_cons_zero, List.set_cons_succ]
                refine held_at (i := 23) (by kernel_rfl) (fun oi hoi => ?_)
                have h2 := hoi
                simp only [List.getElem?_toArray, List.getElem?_cons_succ, List.getElem?_cons_zero, Option.some.injEq] at h2
                subst h2
                refine held_skip hoi (by kernel_rfl) (by kernel_rfl) (by kernel_rfl) (fun _ _ _ h => h) (by rfl) (by assumption) ?_
                clear hoi
                simp only [Act.put, List.setIfInBounds_toArray, List.set_cons_zero, List.set_cons_succ]
                refine held_at (i := 24) (by kernel_rfl) (fun oi hoi => ?_)
                have h2 := hoi
                simp only [List.getElem?_toArray, List.getElem?_cons_succ, List.getElem?_cons_zero, Option.some.injEq] at h2
                subst h2
                refine held_skip hoi (by kernel_rfl) (by kernel_rfl) (by kernel_rfl) (fun _ _ _ h => h) (by rfl) (by assumption) ?_
                clear hoi
                simp only [Act.put, List.setIfInBounds_toArray, List.set_cons_zero, List.set_cons_succ]
                refine held_at (i := 25) (by kernel_rfl) (fun oi hoi => ?_)
                have h2 := hoi
                simp only [List.getElem?_toArray, List.getElem?_cons_succ, List.getElem?_cons_zero, Option.some.injEq] at h2
                subst h2
                refine held_skip hoi (by kernel_rfl) (by kernel_rfl) (by kernel_rfl) (fun _ _ _ h => h) (by rfl) (by assumption) ?_
                clear hoi
                simp only [Act.put, List.setIfInBounds_toArray, List.set_cons_zero, List.set_cons_succ]
                refine held_at (i := 26) (by kernel_rfl) (fun oi hoi => ?_)
                have h2 := hoi
                simp only [List.getElem?_toArray, List.getElem?_cons_succ, List.getElem?_cons_zero, Option.some.injEq] at h2
                subst h2
                refine held_skip hoi (by kernel_rfl) (by kernel_rfl) (by kernel_rfl) (fun _ _ _ h => h) (by rfl) (by assumption) ?_
                clear hoi
                simp only [Act.put, List.setIfInBounds_toArray, List.set_cons_zero, List.set_cons_succ]
                refine held_at (i := 27) (by kernel_rfl) (fun oi hoi => ?_)
                have h2 := hoi
                simp only [List.getElem?_toArray, List.getElem?_cons_succ, List.getElem?_cons_zero, Option.some.injEq] at h2
                subst h2
                refine held_skip hoi (by kernel_rfl) (by kernel_rfl) (by kernel_rfl) (fun _ _ _ h => h) (by rfl) (by assumption) ?_
                clear hoi
                simp only [Act.put, List.setIfInBounds_toArray, List.set_cons_zero, List.set_cons_succ]
                refine held_at (i := 28) (by kernel_rfl) (fun oi hoi => ?_)
                have h2 := hoi
                simp only [List.getElem?_toArray, List.getElem?_cons_succ, List.getElem?_cons_zero, Option.some.injEq] at h2
                subst h2
                refine held_skip hoi (by kernel_rfl) (by kernel_rfl) (by kernel_rfl) (fun _ _ _ h => h) (by rfl) (by assumption) ?_
                clear hoi
                simp only [Act.put, List.setIfInBounds_toArray, List.set_cons_zero, List.set_cons_succ]
                refine held_at (i := 29) (by kernel_rfl) (fun oi hoi => ?_)
                have h2 := hoi
                simp only [List.getElem?_toArray, List.getElem?_cons_succ, List.getElem?_cons_zero, Option.some.injEq] at h2
                subst h2
                refine held_skip hoi (by kernel_rfl) (by kernel_rfl) (by kernel_rfl) (fun _ _ _ h => h) (by rfl) (by assumption) ?_
                clear hoi
                simp only [Act.put, List.setIfInBounds_toArray, List.set_cons_zero, List.set_cons_succ]
                refine held_at (i := 30) (by kernel_rfl) (fun oi hoi => ?_)
                have h2 := hoi
                simp only [List.getElem?_toArray, List.getElem?_cons_succ, List.getElem?_cons_zero, Option.some.injEq] at h2
                subst h2
                refine held_skip hoi (by kernel_rfl) (by kernel_rfl) (by kernel_rfl) (fun _ _ _ h => h) (by rfl) (by assumption) ?_
                clear hoi
                simp only [Act.put, List.setIfInBounds_toArray, List.set_cons_zero, List.set_cons_succ]
                refine held_at (i := 31) (by kernel_rfl) (fun oi hoi => ?_)
                have h2 := hoi
                simp only [List.getElem?_toArray, List.getElem?_cons_succ, List.getElem?_cons_zero, Option.some.injEq] at h2
                subst h2
                refine held_skip hoi (by kernel_rfl) (by kernel_rfl) (by kernel_rfl) (fun _ _ _ h => h) (by rfl) (by assumption) ?_
                clear hoi
                simp only [Act.put, List.setIfInBounds_toArray, List.set_cons_zero, List.set_cons_succ]
                refine held_at (i := 32) (by kernel_rfl) (fun oi hoi => ?_)
                have h2 := hoi
                simp only [List.getElem?_toArray, List.getElem?_cons_succ, List.getElem?_cons_zero, Option.some.injEq] at h2
                subst h2
                refine held_skip hoi (by kernel_rfl) (by kernel_rfl) (by kernel_rfl) (fun _ _ _ h => h) (by rfl) (by assumption) ?_
                clear hoi
                simp only [Act.put, List.setIfInBounds_toArray, List.set_cons_zero, List.set_cons_succ]
                refine held_at (i := 33) (by kernel_rfl) (fun oi hoi => ?_)
                have h2 := hoi
                simp only [List.getElem?_toArray, List.getElem?_cons_succ, List.getElem?_cons_zero, Option.some.injEq] at h2
                subst h2
                refine held_skip hoi (by kernel_rfl) (by kernel_rfl) (by kernel_rfl) (fun _ _ _ h => h) (by rfl) (by assumption) ?_
                clear hoi
                simp only [Act.put, List.setIfInBounds_toArray, List.set_cons_zero, List.set_cons_succ]
                refine held_at (i := 34) (by kernel_rfl) (fun oi hoi => ?_)
                have h2 := hoi
                simp only [List.getElem?_toArray, List.getElem?_cons_succ, List.getElem?_cons_zero, Option.some.injEq] at h2
                subst h2
                refine held_skip hoi (by kernel_rfl) (by kernel_rfl) (by kernel_rfl) (fun _ _ _ h => h) (by rfl) (by assumption) ?_
                clear hoi
                simp only [Act.put, List.setIfInBounds_toArray, List.set_cons_zero, List.set_cons_succ]
                refine held_at (i := 35) (by kernel_rfl) (fun oi hoi => ?_)
                have h2 := hoi
                simp only [List.getElem?_toArray, List.getElem?_cons_succ, List.getElem?_cons_zero, Option.some.injEq] at h2
                subst h2
                refine wpAnyH_take (v := ?va35) hoi (by kernel_rfl) (by kernel_rfl) (by kernel_rfl) (fun _ _ _ h => h) (Or.inl ⟨by rfl, ?hya35⟩) (by assumption) ?_
                case hya35 => intro w' hSw; (try dsimp only at hSw); go_simp; (try with_reducible rfl)
                clear hoi
                simp only [Act.put, List.setIfInBounds_toArray, List.set_cons_zero, List.set_cons_succ]
                refine held_at (i := 36) (by kernel_rfl) (fun oi hoi => ?_)
                have h2 := hoi
                simp only [List.getElem?_toArray, List.getElem?_cons_succ, List.getElem?_cons_zero, Option.some.injEq] at h2
                subst h2
                refine wpAnyH_take (v := ?va36) hoi (by kernel_rfl) (by kernel_rfl) (by kernel_rfl) (fun _ _ _ h => h) (Or.inl ⟨by rfl, ?hya36⟩) (by assumption) ?_
                case hya36 => intro w' hSw; (try dsimp only at hSw); go_simp; (try with_reducible rfl)
                clear hoi
                simp only [Act.put, List.setIfInBounds_toArray, List.set_cons_zero, List.set_cons_succ]
                refine wpAnyH_done (by kernel_rfl) ?_ _
                go_wp2_with fail
                go_meet
                exact ⟨rfl, (Below.refl _ wr).drew.trans hb1⟩
              case rest =>
                obtain ⟨rfl, hb3⟩ := hcut
                go_wp2_with fail
                go_roundg (n2 - 1)
                case measure => omega
                case rel => exact ⟨1, by omega, rfl, HW.out.trans (hb3.mono HW.out.size)⟩
            · obtain ⟨i, rfl⟩ : ∃ i, j = i + 1 := ⟨j - 1, by omega⟩
              have hc2 := HCC.out i (by omega)
              obtain ⟨vp, hvp⟩ : ∃ vp, up l (t - z + 1) + l * (i : Int) = vp := ⟨_, rfl⟩
              have hvv : v = vp + l := by rw [← HV.out, ← hvp, mul_succ]; omega
              rw [hvp] at hc2
              subst hvv
              obtain ⟨jj, hjj⟩ : ∃ jj : Int, ((i + 1 : Nat) : Int) = jj := ⟨_, rfl⟩
              rw [hjj]
              have j0 : 0 < jj := by omega
              have j2 : 0 ≤ jj := by omega
              have j3 : 0 ≤ jj - 1 := by omega
              have j4 : jj - 1 < (n2 : Int) := by omega
              have HLT := Lib.hid hlt
              have j5 : IntKind.i64.wrap (jj - 1) = jj - 1 := IntWalk.i64_in _ (by omega)
              have j6 : IntKind.i64.wrap (vp + l) = vp + l := IntWalk.i64_in _ (by omega)
              have j1 : jj < (n2 : Int) := by omega
              have e1 : jj.toNat = i + 1 := by omega
              have e2 : jj.toNat - 1 = i := by omega
              have j7 : 1 ≤ jj := by omega
              rw [← e1] at hc1
              rw [← e2] at hc2
              have HJ := Lib.hid hjj
              have HVP := Lib.hid hvp
              clear hvp hjj e1 e2 hj0 hlt
              go_upto_region 12 with fail
              go_cut [78] (fun f wx => f = .bool false ∧ Below wr.heap.size wr wx)
              case first =>
                refine wp_region_held_drew (S := fun w' => w'.cell? ⟨w1.heap.size, 0, none⟩ = some (.int .i64 z) ∧ w'.cell? ⟨w1.heap.size, 1, none⟩ = some (.int .i64 l) ∧ w'.cell? ⟨b, off + jj.toNat, none⟩ = some (.int .i64 (vp + l)) ∧ w'.cell? ⟨b, off + (jj.toNat - 1), none⟩ = some (.int .i64 vp)) (by kernel_rfl) ⟨y0, y1, hc1, hc2⟩ (fun hHeld => ?_)
                refine held_at (i := 0) (by kernel_rfl) (fun oi hoi => ?_)
                have h2 := hoi
                simp only [List.getElem?_toArray, List.getElem?_cons_zero, Option.some.injEq] at h2
                subst h2
                refine wpAnyH_take (v := ?vb0) hoi (by kernel_rfl) (by kernel_rfl) (by kernel_rfl) (fun _ _ _ h => h) (Or.inl ⟨by rfl, ?hyb0⟩) (by assumption) ?_
                case hyb0 => intro w' hSw; (try dsimp only at hSw); go_simp; (try with_reducible rfl)
                clear hoi
                simp only [Act.put, List.setIfInBounds_toArray, List.set_cons_zero, List.set_cons_succ]
                refine held_at (i := 1) (by kernel_rfl) (fun oi hoi => ?_)
                have h2 := hoi
                simp only [List.getElem?_toArray, List.getElem?_cons_succ, List.getElem?_cons_zero, Option.some.injEq] at h2
                subst h2
                refine wpAnyH_take (v := ?vb1) hoi (by kernel_rfl) (by kernel_rfl) (by kernel_rfl) (fun _ _ _ h => h) (Or.inl ⟨by rfl, ?hyb1⟩) (by assumption) ?_
                case hyb1 => intro w' hSw; (try dsimp only at hSw); go_simp; (try with_reducible rfl)
                clear hoi
                simp only [Act.put, List.setIfInBounds_toArray, List.set_cons_zero, List.set_cons_succ]
                refine held_at (i := 2) (by kernel_rfl) (fun oi hoi => ?_)
                have h2 := hoi
                simp only [List.getElem?_toArray, List.getElem?_cons_succ, List.getElem?_cons_zero, Option.some.injEq] at h2
                subst h2
                refine wpAnyH_take (v := ?vb2) hoi (by kernel_rfl) (by kernel_rfl) (by kernel_rfl) (fun _ _ _ h => h) (Or.inl ⟨by rfl, ?hyb2⟩) (by assumption) ?_
                case hyb2 => intro w' hSw; (try dsimp only at hSw); go_simp; (try with_reducible rfl)
                clear hoi
                simp only [Act.put, List.setIfInBounds_toArray, List.set_cons_zero, List.set_cons_succ]
                refine held_at (i := 3) (by kernel_rfl) (fun oi hoi => ?_)
                have h2 := hoi
                simp only [List.getElem?_toArray, List.getElem?_cons_succ, List.getElem?_cons_zero, Option.some.injEq] at h2
                subst h2
                refine wpAnyH_take (v := ?vb3) hoi (by kernel_rfl) (by kernel_rfl) (by kernel_rfl) (fun _ _ _ h => h) (Or.inl ⟨by rfl, ?hyb3⟩) (by assumption) ?_
                case hyb3 => intro w' hSw; (try dsimp only at hSw); go_simp; (try with_reducible rfl)
                clear hoi
                simp only [Act.put, List.setIfInBounds_toArray, List.set_cons_zero, List.set_cons_succ]
                refine held_at (i := 4) (by kernel_rfl) (fun oi hoi => ?_)
                have h2 := hoi
                simp only [List.getElem?_toArray, List.getElem?_cons_succ, List.getElem?_cons_zero, Option.some.injEq] at h2
                subst h2
                refine wpAnyH_take (v := ?vb4) hoi (by kernel_rfl) (by kernel_rfl) (by kernel_rfl) (fun _ _ _ h => h) (Or.inl ⟨by rfl, ?hyb4⟩) (by assumption) ?_
                case hyb4 => intro w' hSw; (try dsimp only at hSw); go_simp; (try with_reducible rfl)
                clear hoi
                simp only [Act.put, List.setIfInBounds_toArray, List.set_cons_zero, List.set_cons_succ]
                refine held_at (i := 5) (by kernel_rfl) (fun oi hoi => ?_)
                have h2 := hoi
                simp only [List.getElem?_toArray, List.getElem?_cons_succ, List.getElem?_cons_zero, Option.some.injEq] at h2
                subst h2
                refine wpAnyH_take (v := ?vb5) hoi (by kernel_rfl) (by kernel_rfl) (by kernel_rfl) (fun _ _ _ h => h) (Or.inl ⟨by rfl, ?hyb5⟩) (by assumption) ?_
                case hyb5 => intro w' hSw; (try dsimp only at hSw); go_simp; (try with_reducible rfl)
                clear hoi
                simp only [Act.put, List.setIfInBounds_toArray, List.set_cons_zero, List.set_cons_succ]
                refine held_at (i := 6) (by kernel_rfl) (fun oi hoi => ?_)
                have h2 := hoi
                simp only [List.getElem?_toArray, List.getElem?_cons_succ, List.getElem?_cons_zero, Option.some.injEq] at h2
                subst h2
                refine wpAnyH_ready (rs := [6]) (by kernel_rfl) (by simp) ?_
                refine AllReadyH.cons hoi (fun K hK => ?_) AllReadyH.nil
                clear hoi
                go_simp
                refine (impl_Covers _ _ _ _ _ hvl).mono ?_
                rintro e w3 ⟨rfl, hb1⟩
                simp only [hcov]
                refine hK.out _ _ ?_ (fun hHeld => ?_)
                · exact keep4' y0 y1 hc1 hc2 zw zb ((Below.refl _ wr).drew.trans hb1)
                clear hK K
                refine held_at (i := 7) (by kernel_rfl) (fun oi hoi => ?_)
                have h2 := hoi
                simp only [List.getElem?_toArray, List.getElem?_cons_succ, List.getElem?_cons_zero, Option.some.injEq] at h2
                subst h2
                refine wpAnyH_take (v := ?vb7) hoi (by kernel_rfl) (by kernel_rfl) (by kernel_rfl) (fun _ _ _ h => h) (Or.inl ⟨by rfl, ?hyb7⟩) (by assumption) ?_
                case hyb7 => intro w' hSw; (try dsimp only at hSw); go_simp; (try with_reducible rfl)
                clear hoi
                simp only [Act.put, List.setIfInBounds_toArray, List.set_cons_zero, List.set_cons_succ]
                refine held_at (i := 8) (by kernel_rfl) (fun oi hoi => ?_)
                have h2 := hoi
                simp only [List.getElem?_toArray, List.getElem?_cons_succ, List.getElem?_cons_zero, Option.some.injEq] at h2
                subst h2
                refine wpAnyH_take (v := ?vb8) hoi (by kernel_rfl) (by kernel_rfl) (by kernel_rfl) (fun _ _ _ h => h) (Or.inl ⟨by rfl, ?hyb8⟩) (by assumption) ?_
                case hyb8 => intro w' hSw; (try dsimp only at hSw); go_simp; (try with_reducible rfl)
                clear hoi
                simp only [Act.put, List.setIfInBounds_toArray, List.set_cons_zero, List.set_cons_succ]
                refine held_at (i := 9) (by kernel_rfl) (fun oi hoi => ?_)
                have h2 := hoi
                simp only [List.getElem?_toArray, List.getElem?_cons_succ, List.getElem?_cons_zero, Option.some.injEq] at h2
                subst h2
                refine wpAnyH_take (v := ?vb9) hoi (by kernel_rfl) (by kernel_rfl) (by kernel_rfl) (fun _ _ _ h => h) (Or.inl ⟨by rfl, ?hyb9⟩) (by assumption) ?_
                case hyb9 => intro w' hSw; (try dsimp only at hSw); go_simp; (try with_reducible rfl)
                clear hoi
                simp only [Act.put, List.setIfInBounds_toArray, List.set_cons_zero, List.set_cons_succ]
                refine held_at (i := 10) (by kernel_rfl) (fun oi hoi => ?_)
                have h2 := hoi
                simp only [List.getElem?_toArray, List.getElem?_cons_succ, List.getElem?_cons_zero, Option.some.injEq] at h2
                subst h2
                refine wpAnyH_take (v := ?vb10) hoi (by kernel_rfl) (by kernel_rfl) (by kernel_rfl) (fun _ _ _ h => h) (Or.inl ⟨by rfl, ?hyb10⟩) (by assumption) ?_
                case hyb10 => intro w' hSw; (try dsimp only at hSw); go_simp; (try with_reducible rfl)
                clear hoi
                simp only [Act.put, List.setIfInBounds_toArray, List.set_cons_zero, List.set_cons_succ]
                refine held_at (i := 11) (by kernel_rfl) (fun oi hoi => ?_)
                have h2 := hoi
                simp only [List.getElem?_toArray, List.getElem?_cons_succ, List.getElem?_cons_zero, Option.some.injEq] at h2
                subst h2
                refine wpAnyH_take (v := ?vb11) hoi (by kernel_rfl) (by kernel_rfl) (by kernel_rfl) (fun _ _ _ h => h) (Or.inl ⟨by rfl, ?hyb11⟩) (by assumption) ?_
                case hyb11 => intro w' hSw; (try dsimp only at hSw); go_simp; (try with_reducible rfl)
                clear hoi
                simp only [Act.put, List.setIfInBounds_toArray, List.set_cons_zero, List.set_cons_succ]
                refine held_at (i := 12) (by kernel_rfl) (fun oi hoi => ?_)
                have h2 := hoi
                simp only [List.getElem?_toArray, List.getElem?_cons_succ, List.getElem?_cons_zero, Option.some.injEq] at h2
                subst h2
                refine wpAnyH_take (v := ?vb12) hoi (by kernel_rfl) (by kernel_rfl) (by kernel_rfl) (fun _ _ _ h => h) (Or.inl ⟨by rfl, ?hyb12⟩) (by assumption) ?_
                case hyb12 => intro w' hSw; (try dsimp only at hSw); go_simp; (try with_reducible rfl)
                clear hoi
                simp only [Act.put, List.setIfInBounds_toArray, List.set_cons_zero, List.set_cons_succ]
                refine held_at (i := 13) (by kernel_rfl) (fun oi hoi => ?_)
                have h2 := hoi
                simp only [List.getElem?_toArray, List.getElem?_cons_succ, List.getElem?_cons_zero, Option.some.injEq] at h2
                subst h2
                refine wpAnyH_take (v := ?vb13) hoi (by kernel_rfl) (by kernel_rfl) (by kernel_rfl) (fun _ _ _ h => h) (Or.inl ⟨by rfl, ?hyb13⟩) (by assumption) ?_
                case hyb13 => intro w' hSw; (try dsimp only at hSw); go_simp; (try with_reducible rfl)
                clear hoi
                simp only [Act.put, List.setIfInBounds_toArray, List.set_cons_zero, List.set_cons_succ]
                refine held_at (i := 14) (by kernel_rfl) (fun oi hoi => ?_)
                have h2 := hoi
                simp only [List.getElem?_toArray, List.getElem?_cons_succ, List.getElem?_cons_zero, Option.some.injEq] at h2
                subst h2
                refine wpAnyH_take (v := ?vb14) hoi (by kernel_rfl) (by kernel_rfl) (by kernel_rfl) (fun _ _ _ h => h) (Or.inl ⟨by rfl, ?hyb14⟩) (by assumption) ?_
                case hyb14 => intro w' hSw; (try dsimp only at hSw); go_simp; (try with_reducible rfl)
                clear hoi
                simp only [Act.put, List.setIfInBounds_toArray, List.set_cons_zero, List.set_cons_succ]
                refine held_at (i := 15) (by kernel_rfl) (fun oi hoi => ?_)
                have h2 := hoi
                simp only [List.getElem?_toArray, List.getElem?_cons_succ, List.getElem?_cons_zero, Option.some.injEq] at h2
                subst h2
                refine wpAnyH_take (v := ?vb15) hoi (by kernel_rfl) (by kernel_rfl) (by kernel_rfl) (fun _ _ _ h => h) (Or.inl ⟨by rfl, ?hyb15⟩) (by assumption) ?_
                case hyb15 => intro w' hSw; (try dsimp only at hSw); go_simp; (try with_reducible rfl)
                clear hoi
                simp only [Act.put, List.setIfInBounds_toArray, List.set_cons_zero, List.set_cons_succ]
                refine held_at (i := 16) (by kernel_rfl) (fun oi hoi => ?_)
                have h2 := hoi
                simp only [List.getElem?_toArray, List.getElem?_cons_succ, List.getElem?_cons_zero, Option.some.injEq] at h2
                subst h2
                refine wpAnyH_take (v := ?vb16) hoi (by kernel_rfl) (by kernel_rfl) (by kernel_rfl) (fun _ _ _ h => h) (Or.inl ⟨by rfl, ?hyb16⟩) (by assumption) ?_
                case hyb16 => intro w' hSw; (try dsimp only at hSw); go_simp; (try with_reducible rfl)
                clear hoi
                simp only [Act.put, List.setIfInBounds_toArray, List.set_cons_zero, List.set_cons_succ]
                refine held_at (i := 17) (by kernel_rfl) (fun oi hoi => ?_)
                have h2 := hoi
                simp only [List.getElem?_toArray, List.getElem?_cons_succ, List.getElem?_cons_zero, Option.some.injEq] at h2
                subst h2
                refine wpAnyH_take (v := ?vb17) hoi (by kernel_rfl) (by kernel_rfl) (by kernel_rfl) (fun _ _ _ h => h) (Or.inl ⟨by rfl, ?hyb17⟩) (by assumption) ?_
                case hyb17 => intro w' hSw; (try dsimp only at hSw); go_simp; (try with_reducible rfl)
                clear hoi
                simp only [Act.put, List.setIfInBounds_toArray, List.set_cons_zero, List.set_cons_succ]
                refine held_at (i := 18) (by kernel_rfl) (fun oi hoi => ?_)
                have h2 := hoi
                simp only [List.getElem?_toArray, List.getElem?_cons_succ, List.getElem?_cons_zero, Option.some.injEq] at h2
                subst h2
                refine wpAnyH_take (v := ?vb18) hoi (by kernel_rfl) (by kernel_rfl) (by kernel_rfl) (fun _ _ _ h => h) (Or.inl ⟨by rfl, ?hyb18⟩) (by assumption) ?_
                case hyb18 => intro w' hSw; (try dsimp only at hSw); go_simp; (try with_reducible rfl)
                clear hoi
                simp only [Act.put, List.setIfInBounds_toArray, List.set_cons_zero, List.set_cons_succ]
                refine held_at (i := 19) (by kernel_rfl) (fun oi hoi => ?_)
                have h2 := hoi
                simp only [List.getElem?_toArray, List.getElem?_cons_succ, List.getElem?_cons_zero, Option.some.injEq] at h2
                subst h2
                refine wpAnyH_take (v := ?vb19) hoi (by kernel_rfl) (by kernel_rfl) (by kernel_rfl) (fun _ _ _ h => h) (Or.inl ⟨by rfl, ?hyb19⟩) (by assumption) ?_
                case hyb19 => intro w' hSw; (try dsimp only at hSw); go_simp; (try with_reducible rfl)
                clear hoi
                simp only [Act.put, List.setIfInBounds_toArray, List.set_cons_zero, List.set_cons_succ]
                refine held_at (i := 20) (by kernel_rfl) (fun oi hoi => ?_)
                have h2 := hoi
                simp only [List.getElem?_toArray, List.getElem?_cons_succ, List.getElem?_cons_zero, Option.some.injEq] at h2
                subst h2
                refine wpAnyH_take (v := ?vb20) hoi (by kernel_rfl) (by kernel_rfl) (by kernel_rfl) (fun _ _ _ h => h) (Or.inl ⟨by rfl, ?hyb20⟩) (by assumption) ?_
                case hyb20 => intro w' hSw; (try dsimp only at hSw); go_simp; (try with_reducible rfl)
                clear hoi
                simp only [Act.put, List.setIfInBounds_toArray, List.set_cons_zero, List.set_cons_succ]
                refine held_at (i := 21) (by kernel_rfl) (fun oi hoi => ?_)
                have h2 := hoi
                simp only [List.getElem?_toArray, List.getElem?_cons_succ, List.getElem?_cons_zero, Option.some.injEq] at h2
                subst h2
                refine wpAnyH_take (v := ?vb21) hoi (by kernel_rfl) (by kernel_rfl) (by kernel_rfl) (fun _ _ _ h => h) (Or.inl ⟨by rfl, ?hyb21⟩) (by assumption) ?_
                case hyb21 => intro w' hSw; (try dsimp only at hSw); go_simp; (try with_reducible rfl)
                clear hoi
                simp only [Act.put, List.setIfInBounds_toArray, List.set_cons_zero, List.set_cons_succ]
                refine held_at (i := 22) (by kernel_rfl) (fun oi hoi => ?_)
                have h2 := hoi
                simp only [List.getElem?_toArray, List.getElem?_cons_succ, List.getElem?_cons_zero, Option.some.injEq] at h2
                subst h2
                refine wpAnyH_take (v := ?vb22) hoi (by kernel_rfl) (by kernel_rfl) (by kernel_rfl) (fun _ _ _ h => h) (Or.inl ⟨by rfl, ?hyb22⟩) (by assumption) ?_
                case hyb22 => intro w' hSw; (try dsimp only at hSw); go_simp; (try with_reducible rfl)
                clear hoi
                simp only [Act.put, List.setIfInBounds_toArray, List.set_cons_zero, List.set_cons_succ]
                refine held_at (i := 23) (by kernel_rfl) (fun oi hoi => ?_)
                have h2 := hoi
                simp only [List.getElem?_toArray, List.getElem?_cons_succ, List.getElem?_cons_zero, Option.some.injEq] at h2
                subst h2
                refine wpAnyH_take (v := ?vb23) hoi (by kernel_rfl) (by kernel_rfl) (by kernel_rfl) (fun _ _ _ h => h) (Or.inl ⟨by rfl, ?hyb23⟩) (by assumption) ?_
                case hyb23 => intro w' hSw; (try dsimp only at hSw); go_simp; (try with_reducible rfl)
                clear hoi
                simp only [Act.put, List.setIfInBounds_toArray, List.set_cons_zero, List.set_cons_succ]
                refine held_at (i := 24) (by kernel_rfl) (fun oi hoi => ?_)
                have h2 := hoi
                simp only [List.getElem?_toArray, List.getElem?_cons_succ, List.getElem?_cons_zero, Option.some.injEq] at h2
                subst h2
                refine wpAnyH_take (v := ?vb24) hoi (by kernel_rfl) (by kernel_rfl) (by kernel_rfl) (fun _ _ _ h => h) (Or.inl ⟨by rfl, ?hyb24⟩) (by assumption) ?_
                case hyb24 => intro w' hSw; (try dsimp only at hSw); go_simp; (try with_reducible rfl)
                clear hoi
                simp only [Act.put, List.setIfInBounds_toArray, List.set_cons_zero, List.set_cons_succ]
                refine held_at (i := 25) (by kernel_rfl) (fun oi hoi => ?_)
                have h2 := hoi
                simp only [List.getElem?_toArray, List.getElem?_cons_succ, List.getElem?_cons_zero, Option.some.injEq] at h2
                subst h2
                refine wpAnyH_take (v := ?vb25) hoi (by kernel_rfl) (by kernel_rfl) (by kernel_rfl) (fun _ _ _ h => h) (Or.inl ⟨by rfl, ?hyb25⟩) (by assumption) ?_
                case hyb25 => intro w' hSw; (try dsimp only at hSw); go_simp; (try with_reducible rfl)
                clear hoi
                simp only [Act.put, List.setIfInBounds_toArray, List.set_cons_zero, List.set_cons_succ]
                refine held_at (i := 26) (by kernel_rfl) (fun oi hoi => ?_)
                have h2 := hoi
                simp only [List.getElem?_toArray, List.getElem?_cons_succ, List.getElem?_cons_zero, Option.some.injEq] at h2
                subst h2
                refine wpAnyH_take (v := ?vb26) hoi (by kernel_rfl) (by kernel_rfl) (by kernel_rfl) (fun _ _ _ h => h) (Or.inl ⟨by rfl, ?hyb26⟩) (by assumption) ?_
                case hyb26 => intro w' hSw; (try dsimp only at hSw); go_simp; (try with_reducible rfl)
                clear hoi
                simp only [Act.put, List.setIfInBounds_toArray, List.set_cons_zero, List.set_cons_succ]
                refine held_at (i := 27) (by kernel_rfl) (fun oi hoi => ?_)
                have h2 := hoi
                simp only [List.getElem?_toArray, List.getElem?_cons_succ, List.getElem?_cons_zero, Option.some.injEq] at h2
                subst h2
                refine wpAnyH_take (v := ?vb27) hoi (by kernel_rfl) (by kernel_rfl) (by kernel_rfl) (fun _ _ _ h => h) (Or.inl ⟨by rfl, ?hyb27⟩) (by assumption) ?_
                case hyb27 => intro w' hSw; (try dsimp only at hSw); go_simp; (try with_reducible rfl)
                clear hoi
                simp only [Act.put, List.setIfInBounds_toArray, List.set_cons_zero, List.set_cons_succ]
                refine held_at (i := 28) (by kernel_rfl) (fun oi hoi => ?_)
                have h2 := hoi
                simp only [List.getElem?_toArray, List.getElem?_cons_succ, List.getElem?_cons_zero, Option.some.injEq] at h2
                subst h2
                refine wpAnyH_take (v := ?vb28) hoi (by kernel_rfl) (by kernel_rfl) (by kernel_rfl) (fun _ _ _ h => h) (Or.inl ⟨by rfl, ?hyb28⟩) (by assumption) ?_
                case hyb28 => intro w' hSw; (try dsimp only at hSw); go_simp; (try with_reducible rfl)
                clear hoi
                simp only [Act.put, List.setIfInBounds_toArray, List.set_cons_zero, List.set_cons_succ]
                refine held_at (i := 29) (by kernel_rfl) (fun oi hoi => ?_)
                have h2 := hoi
                simp only [List.getElem?_toArray, List.getElem?_cons_succ, List.getElem?_cons_zero, Option.some.injEq] at h2
                subst h2
                refine wpAnyH_take (v := ?vb29) hoi (by kernel_rfl) (by kernel_rfl) (by kernel_rfl) (fun _ _ _ h => h) (Or.inl ⟨by rfl, ?hyb29⟩) (by assumption) ?_
                case hyb29 => intro w' hSw; (try dsimp only at hSw); go_simp; (try with_reducible rfl)
                clear hoi
                simp only [Act.put, List.setIfInBounds_toArray, List.set_cons_zero, List.set_cons_succ]
                refine held_at (i := 30) (by kernel_rfl) (fun oi hoi => ?_)
                have h2 := hoi
                simp only [List.getElem?_toArray, List.getElem?_cons_succ, List.getElem?_cons_zero, Option.some.injEq] at h2
                subst h2
                refine wpAnyH_take (v := ?vb30) hoi (by kernel_rfl) (by kernel_rfl) (by kernel_rfl) (fun _ _ _ h => h) (Or.inl ⟨by rfl, ?hyb30⟩) (by assumption) ?_
                case hyb30 => intro w' hSw; (try dsimp only at hSw); go_simp; (try with_reducible rfl)
                clear hoi
                simp only [Act.put, List.setIfInBounds_toArray, List.set_cons_zero, List.set_cons_succ]
                refine held_at (i := 31) (by kernel_rfl) (fun oi hoi => ?_)
                have h2 := hoi
                simp only [List.getElem?_toArray, List.getElem?_cons_succ, List.getElem?_cons_zero, Option.some.injEq] at h2
                subst h2
                refine wpAnyH_take (v := ?vb31) hoi (by kernel_rfl) (by kernel_rfl) (by kernel_rfl) (fun _ _ _ h => h) (Or.inl ⟨by rfl, ?hyb31⟩) (by assumption) ?_
                case hyb31 => intro w' hSw; (try dsimp only at hSw); go_simp; (try with_reducible rfl)
                clear hoi
                simp only [Act.put, List.setIfInBounds_toArray, List.set_cons_zero, List.set_cons_succ]
                refine held_at (i := 32) (by kernel_rfl) (fun oi hoi => ?_)
                have h2 := hoi
                simp only [List.getElem?_toArray, List.getElem?_cons_succ, List.getElem?_cons_zero, Option.some.injEq] at h2
                subst h2
                refine wpAnyH_take (v := ?vb32) hoi (by kernel_rfl) (by kernel_rfl) (by kernel_rfl) (fun _ _ _ h => h) (Or.inl ⟨by rfl, ?hyb32⟩) (by assumption) ?_
                case hyb32 => intro w' hSw; (try dsimp only at hSw); go_simp; (try with_reducible rfl)
                clear hoi
                simp only [Act.put, List.setIfInBounds_toArray, List.set_cons_zero, List.set_cons_succ]
                refine held_at (i := 33) (by kernel_rfl) (fun oi hoi => ?_)
                have h2 := hoi
                simp only [List.getElem?_toArray, List.getElem?_cons_succ, List.getElem?_cons_zero, Option.some.injEq] at h2
                subst h2
                refine wpAnyH_take (v := ?vb33) hoi (by kernel_rfl) (by kernel_rfl) (by kernel_rfl) (fun _ _ _ h => h) (Or.inl ⟨by rfl, ?hyb33⟩) (by assumption) ?_
                case hyb33 => intro w' hSw; (try dsimp only at hSw); go_simp; (try with_reducible rfl)
                clear hoi
                simp only [Act.put, List.setIfInBounds_toArray, List.set_cons_zero, List.set_cons_succ]
                refine held_at (i := 34) (by kernel_rfl) (fun oi hoi => ?_)
                have h2 := hoi
                simp only [List.getElem?_toArray, List.getElem?_cons_succ, List.getElem?_cons_zero, Option.some.injEq] at h2
                subst h2
                refine wpAnyH_take (v := ?vb34) hoi (by kernel_rfl) (by kernel_rfl) (by kernel_rfl) (fun _ _ _ h => h) (Or.inl ⟨by rfl, ?hyb34⟩) (by assumption) ?_
                case hyb34 => intro w' hSw; (try dsimp only at hSw); go_simp; (try with_reducible rfl)
                clear hoi
                simp only [Act.put, List.setIfInBounds_toArray, List.set_cons_zero, List.set_cons_succ]
                refine held_at (i := 35) (by kernel_rfl) (fun oi hoi => ?_)
                have h2 := hoi
                simp only [List.getElem?_toArray, List.getElem?_cons_succ, List.getElem?_cons_zero, Option.some.injEq] at h2
                subst h2
                refine wpAnyH_take (v := ?vb35) hoi (by kernel_rfl) (by kernel_rfl) (by kernel_rfl) (fun _ _ _ h => h) (Or.inl ⟨by rfl, ?hyb35⟩) (by assumption) ?_
                case hyb35 => intro w' hSw; (try dsimp only at hSw); go_simp; (try with_reducible rfl)
                clear hoi
                simp only [Act.put, List.setIfInBounds_toArray, List.set_cons_zero, List.set_cons_succ]
                refine held_at (i := 36) (by kernel_rfl) (fun oi hoi => ?_)
                have h2 := hoi
                simp only [List.getElem?_toArray, List.getElem?_cons_succ, List.getElem?_cons_zero, Option.some.injEq] at h2
                subst h2
                refine wpAnyH_take (v := ?vb36) hoi (by kernel_rfl) (by kernel_rfl) (by kernel_rfl) (fun _ _ _ h => h) (Or.inl ⟨by rfl, ?hyb36⟩) (by assumption) ?_
                case hyb36 => intro w' hSw; (try dsimp only at hSw); go_simp; (try with_reducible rfl)
                clear hoi
                simp only [Act.put, List.setIfInBounds_toArray, List.set_cons_zero, List.set_cons_succ]
                refine wpAnyH_done (by kernel_rfl) ?_ _
                go_wp2_with fail
                go_meet
                exact ⟨rfl, (Below.refl _ wr).drew.trans hb1⟩
              case rest =>
                obtain ⟨rfl, hb3⟩ := hcut
                go_wp2_with fail
                go_roundg (n2 - (i + 1 + 1))
                case measure => have := HLT.out; omega
                case rel => exact ⟨i + 1 + 1, by have := HLT.out; omega, by rw [← HJ.out]; go_num, HW.out.trans (hb3.mono HW.out.size)⟩
          · obtain ⟨a0, ha0⟩ : ∃ a0, up l (t - z + 1) = a0 := ⟨_, rfl⟩
            obtain ⟨vl, hvl⟩ : ∃ vl, a0 + l * ((n2 - 1 : Nat) : Int) = vl := ⟨_, rfl⟩
            have hc1 := hcell 0 (by omega)
            have hc2 := hcell (n2 - 1) (by omega)
            have hA' := hA.out
            have hB' := hB.out
            have hU' := hU.out
            have hC' := hC.out (n2 - 1) (by omega)
            rw [ha0] at hc1 hc2 hA' hB' hU' hC'
            rw [hvl] at hc2 hC'
            have hvn : a0 + l * (n2 : Int) = vl + l := by
              obtain ⟨k, rfl⟩ : ∃ k, n2 = k + 1 := ⟨n2 - 1, by omega⟩
              rw [← hvl, mul_succ]; simp; omega
            rw [hvn] at hB'
            simp at hc1
            have hvz := (coversB_iff ..).1 hC'
            have hl1 : -9223372036854775808 ≤ a0 - l := by omega
            have hl2 : -9223372036854775808 ≤ vl + l := by omega
            have q1 : IntKind.i64.wrap (a0 - l) = a0 - l := IntWalk.i64_in _ (by omega)
            have q2 : IntKind.i64.wrap (vl + l) = vl + l := IntWalk.i64_in _ (by omega)
            have q3 : IntKind.i64.wrap ((n2 : Int) - 1) = (n2 : Int) - 1 := IntWalk.i64_in _ (by omega)
            have q4 : (0 : Int) < (n2 : Int) := by omega
            have q5 : (n2 : Int) - 1 < (n2 : Int) := by omega
            have q6 : 0 ≤ (n2 : Int) - 1 := by omega
            have q7 : 0 < n2 := by omega
            have q8 : (1 : Int) ≤ (n2 : Int) := by omega
            have hjn : j = n2 := by omega
            subst hjn
            clear hcell ha0 hvl hvn hvz hC' hU' hq hlt
            go_upto_region 14 with fail
            refine wp_region_held_drew (S := fun w' => w'.cell? ⟨w1.heap.size, 0, none⟩ = some (.int .i64 z) ∧ w'.cell? ⟨w1.heap.size, 1, none⟩ = some (.int .i64 l) ∧ w'.cell? ⟨b, off, none⟩ = some (.int .i64 a0) ∧ w'.cell? ⟨b, off + (j - 1), none⟩ = some (.int .i64 vl)) (by kernel_rfl) ⟨y0, y1, hc1, hc2⟩ (fun hHeld => ?_)
            refine held_at (i := 0) (by kernel_rfl) (fun oi hoi => ?_)
            have h2 := hoi
            simp only [List.getElem?_toArray, List.getElem?_cons_zero, Option.some.injEq] at h2
            subst h2
            refine wpAnyH_take (v := ?vc0) hoi (by kernel_rfl) (by kernel_rfl) (by kernel_rfl) (fun _ _ _ h => h) (Or.inl ⟨by rfl, ?hyc0⟩) (by assumption) ?_
            case hyc0 => intro w' hSw; (try dsimp only at hSw); go_simp; (try with_reducible rfl)
            clear hoi
            simp only [Act.put, List.setIfInBounds_toArray, List.set_cons_zero, List.set_cons_succ]
            refine held_at (i := 1) (by kernel_rfl) (fun oi hoi => ?_)
            have h2 := hoi
            simp only [List.getElem?_toArray, List.getElem?_cons_succ, List.getElem?_cons_zero, Option.some.injEq] at h2
            subst h2
            refine wpAnyH_take (v := ?vc1) hoi (by kernel_rfl) (by kernel_rfl) (by kernel_rfl) (fun _ _ _ h => h) (Or.inl ⟨by rfl, ?hyc1⟩) (by assumption) ?_
            case hyc1 => intro w' hSw; (try dsimp only at hSw); go_simp; (try with_reducible rfl)
            clear hoi
            simp only [Act.put, List.setIfInBounds_toArray, List.set_cons_zero, List.set_cons_succ]
            refine held_at (i := 2) (by kernel_rfl) (fun oi hoi => ?_)
            have h2 := hoi
            simp only [List.getElem?_toArray, List.getElem?_cons_succ, List.getElem?_cons_zero, Option.some.injEq] at h2
            subst h2
            refine wpAnyH_take (v := ?vc2) hoi (by kernel_rfl) (by kernel_rfl) (by kernel_rfl) (fun _ _ _ h => h) (Or.inl ⟨by rfl, ?hyc2⟩) (by assumption) ?_
            case hyc2 => intro w' hSw; (try dsimp only at hSw); go_simp; (try with_reducible rfl)
            clear hoi
            simp only [Act.put, List.setIfInBounds_toArray, List.set_cons_zero, List.set_cons_succ]
            refine held_at (i := 3) (by kernel_rfl) (fun oi hoi => ?_)
            have h2 := hoi
            simp only [List.getElem?_toArray, List.getElem?_cons_succ, List.getElem?_cons_zero, Option.some.injEq] at h2
            subst h2
            refine wpAnyH_take (v := ?vc3) hoi (by kernel_rfl) (by kernel_rfl) (by kernel_rfl) (fun _ _ _ h => h) (Or.inl ⟨by rfl, ?hyc3⟩) (by assumption) ?_
            case hyc3 => intro w' hSw; (try dsimp only at hSw); go_simp; (try with_reducible rfl)
            clear hoi
            simp only [Act.put, List.setIfInBounds_toArray, List.set_cons_zero, List.set_cons_succ]
            refine held_at (i := 4) (by kernel_rfl) (fun oi hoi => ?_)
            have h2 := hoi
            simp only [List.getElem?_toArray, List.getElem?_cons_succ, List.getElem?_cons_zero, Option.some.injEq] at h2
            subst h2
            refine wpAnyH_take (v := ?vc4) hoi (by kernel_rfl) (by kernel_rfl) (by kernel_rfl) (fun _ _ _ h => h) (Or.inl ⟨by rfl, ?hyc4⟩) (by assumption) ?_
            case hyc4 => intro w' hSw; (try dsimp only at hSw); go_simp; (try with_reducible rfl)
            clear hoi
            simp only [Act.put, List.setIfInBounds_toArray, List.set_cons_zero, List.set_cons_succ]
            refine held_at (i := 5) (by kernel_rfl) (fun oi hoi => ?_)
            have h2 := hoi
            simp only [List.getElem?_toArray, List.getElem?_cons_succ, List.getElem?_cons_zero, Option.some.injEq] at h2
            subst h2
            refine wpAnyH_take (v := ?vc5) hoi (by kernel_rfl) (by kernel_rfl) (by kernel_rfl) (fun _ _ _ h => h) (Or.inl ⟨by rfl, ?hyc5⟩) (by assumption) ?_
            case hyc5 => intro w' hSw; (try dsimp only at hSw); go_simp; (try with_reducible rfl)
            clear hoi
            simp only [Act.put, List.setIfInBounds_toArray, List.set_cons_zero, List.set_cons_succ]
            refine held_at (i := 6) (by kernel_rfl) (fun oi hoi => ?_)
            have h2 := hoi
            simp only [List.getElem?_toArray, List.getElem?_cons_succ, List.getElem?_cons_zero, Option.some.injEq] at h2
            subst h2
            refine wpAnyH_take (v := ?vc6) hoi (by kernel_rfl) (by kernel_rfl) (by kernel_rfl) (fun _ _ _ h => h) (Or.inl ⟨by rfl, ?hyc6⟩) (by assumption) ?_
            case hyc6 => intro w' hSw; (try dsimp only at hSw); go_simp; (try with_reducible rfl)
            clear hoi
            simp only [Act.put, List.setIfInBounds_toArray, List.set_cons_zero, List.set_cons_succ]
            refine held_at (i := 7) (by kernel_rfl) (fun oi hoi => ?_)
            have h2 := hoi
            simp only [List.getElem?_toArray, List.getElem?_cons_succ, List.getElem?_cons_zero, Option.some.injEq] at h2
            subst h2
            refine wpAnyH_take (v := ?vc7) hoi (by kernel_rfl) (by kernel_rfl) (by kernel_rfl) (fun _ _ _ h => h) (Or.inl ⟨by rfl, ?hyc7⟩) (by assumption) ?_
            case hyc7 => intro w' hSw; (try dsimp only at hSw); go_simp; (try with_reducible rfl)
            clear hoi
            simp only [Act.put, List.setIfInBounds_toArray, List.set_cons_zero, List.set_cons_succ]
            refine held_at (i := 8) (by kernel_rfl) (fun oi hoi => ?_)
            have h2 := hoi
            simp only [List.getElem?_toArray, List.getElem?_cons_succ, List.getElem?_cons_zero, Option.some.injEq] at h2
            subst h2
            refine wpAnyH_ready (rs := [8]) (by kernel_rfl) (by simp) ?_
            refine AllReadyH.cons hoi (fun K hK => ?_) AllReadyH.nil
            clear hoi
            go_simp
            refine (impl_Covers _ _ _ _ _ hl1).mono ?_
            rintro e w3 ⟨rfl, hb1⟩
            simp only [hA']
            refine hK.out _ _ ?_ (fun hHeld => ?_)
            · exact keep4' y0 y1 hc1 hc2 zw zb ((Below.refl _ wr).drew.trans hb1)
            clear hK K
            refine held_at (i := 9) (by kernel_rfl) (fun oi hoi => ?_)
            have h2 := hoi
            simp only [List.getElem?_toArray, List.getElem?_cons_succ, List.getElem?_cons_zero, Option.some.injEq] at h2
            subst h2
            refine wpAnyH_take (v := ?vc9) hoi (by kernel_rfl) (by kernel_rfl) (by kernel_rfl) (fun _ _ _ h => h) (Or.inl ⟨by rfl, ?hyc9⟩) (by assumption) ?_
            case hyc9 => intro w' hSw; (try dsimp only at hSw); go_simp; (try with_reducible rfl)
            clear hoi
            simp only [Act.put, List.setIfInBounds_toArray, List.set_cons_zero, List.set_cons_succ]
            refine held_at (i := 10) (by kernel_rfl) (fun oi hoi => ?_)
            have h2 := hoi
            simp only [List.getElem?_toArray, List.getElem?_cons_succ, List.getElem?_cons_zero, Option.some.injEq] at h2
            subst h2
            refine wpAnyH_take (v := ?vc10) hoi (by kernel_rfl) (by kernel_rfl) (by kernel_rfl) (fun _ _ _ h => h) (Or.inl ⟨by rfl, ?hyc10⟩) (by assumption) ?_
            case hyc10 => intro w' hSw; (try dsimp only at hSw); go_simp; (try with_reducible rfl)
            clear hoi
            simp only [Act.put, List.setIfInBounds_toArray, List.set_cons_zero, List.set_cons_succ]
            refine held_at (i := 11) (by kernel_rfl) (fun oi hoi => ?_)
            have h2 := hoi
            simp only [List.getElem?_toArray, List.getElem?_cons_succ, List.getElem?_cons_zero, Option.some.injEq] at h2
            subst h2
            refine wpAnyH_take (v := ?vc11) hoi (by kernel_rfl) (by kernel_rfl) (by kernel_rfl) (fun _ _ _ h => h) (Or.inl ⟨by rfl, ?hyc11⟩) (by assumption) ?_
            case hyc11 => intro w' hSw; (try dsimp only at hSw); go_simp; (try with_reducible rfl)
            clear hoi
            simp only [Act.put, List.setIfInBounds_toArray, List.set_cons_zero, List.set_cons_succ]
            refine held_at (i := 12) (by kernel_rfl) (fun oi hoi => ?_)
            have h2 := hoi
            simp only [List.getElem?_toArray, List.getElem?_cons_succ, List.getElem?_cons_zero, Option.some.injEq] at h2
            subst h2
            refine wpAnyH_take (v := ?vc12) hoi (by kernel_rfl) (by kernel_rfl) (by kernel_rfl) (fun _ _ _ h => h) (Or.inl ⟨by rfl, ?hyc12⟩) (by assumption) ?_
            case hyc12 => intro w' hSw; (try dsimp only at hSw); go_simp; (try with_reducible rfl)
            clear hoi
            simp only [Act.put, List.setIfInBounds_toArray, List.set_cons_zero, List.set_cons_succ]
            refine held_at (i := 13) (by kernel_rfl) (fun oi hoi => ?_)
            have h2 := hoi
            simp only [List.getElem?_toArray, List.getElem?_cons_succ, List.getElem?_cons_zero, Option.some.injEq] at h2
            subst h2
            refine wpAnyH_take (v := ?vc13) hoi (by kernel_rfl) (by kernel_rfl) (by kernel_rfl) (fun _ _ _ h => h) (Or.inl ⟨by rfl, ?hyc13⟩) (by assumption) ?_
            case hyc13 => intro w' hSw; (try dsimp only at hSw); go_simp; (try with_reducible rfl)
            clear hoi
            simp only [Act.put, List.setIfInBounds_toArray, List.set_cons_zero, List.set_cons_succ]
            refine held_at (i := 14) (by kernel_rfl) (fun oi hoi => ?_)
            have h2 := hoi
            simp only [List.getElem?_toArray, List.getElem?_cons_succ, List.getElem?_cons_zero, Option.some.injEq] at h2
            subst h2
            refine wpAnyH_take (v := ?vc14) hoi (by kernel_rfl) (by kernel_rfl) (by kernel_rfl) (fun _ _ _ h => h) (Or.inl ⟨by rfl, ?hyc14⟩) (by assumption) ?_
            case hyc14 => intro w' hSw; (try dsimp only at hSw); go_simp; (try with_reducible rfl)
            clear hoi
            simp only [Act.put, List.setIfInBounds_toArray, List.set_cons_zero, List.set_cons_succ]
            refine held_at (i := 15) (by kernel_rfl) (fun oi hoi => ?_)
            have h2 := hoi
            simp only [List.getElem?_toArray, List.getElem?_cons_succ, List.getElem?_cons_zero, Option.some.injEq] at h2
            subst h2
            refine wpAnyH_take (v := ?vc15) hoi (by kernel_rfl) (by kernel_rfl) (by kernel_rfl) (fun _ _ _ h => h) (Or.inl ⟨by rfl, ?hyc15⟩) (by assumption) ?_
            case hyc15 => intro w' hSw; (try dsimp only at hSw); go_simp; (try with_reducible rfl)
            clear hoi
            simp only [Act.put, List.setIfInBounds_toArray, List.set_cons_zero, List.set_cons_succ]
            refine held_at (i := 16) (by kernel_rfl) (fun oi hoi => ?_)
            have h2 := hoi
            simp only [List.getElem?_toArray, List.getElem?_cons_succ, List.getElem?_cons_zero, Option.some.injEq] at h2
            subst h2
            refine wpAnyH_take (v := ?vc16) hoi (by kernel_rfl) (by kernel_rfl) (by kernel_rfl) (fun _ _ _ h => h) (Or.inl ⟨by rfl, ?hyc16⟩) (by assumption) ?_
            case hyc16 => intro w' hSw; (try dsimp only at hSw); go_simp; (try with_reducible rfl)
            clear hoi
            simp only [Act.put, List.setIfInBounds_toArray, List.set_cons_zero, List.set_cons_succ]
            refine held_at (i := 17) (by kernel_rfl) (fun oi hoi => ?_)
            have h2 := hoi
            simp only [List.getElem?_toArray, List.getElem?_cons_succ, List.getElem?_cons_zero, Option.some.injEq] at h2
            subst h2
            refine wpAnyH_take (v := ?vc17) hoi (by kernel_rfl) (by kernel_rfl) (by kernel_rfl) (fun _ _ _ h => h) (Or.inl ⟨by rfl, ?hyc17⟩) (by assumption) ?_
            case hyc17 => intro w' hSw; (try dsimp only at hSw); go_simp; (try with_reducible rfl)
            clear hoi
            simp only [Act.put, List.setIfInBounds_toArray, List.set_cons_zero, List.set_cons_succ]
            refine held_at (i := 18) (by kernel_rfl) (fun oi hoi => ?_)
            have h2 := hoi
            simp only [List.getElem?_toArray, List.getElem?_cons_succ, List.getElem?_cons_zero, Option.some.injEq] at h2
            subst h2
            refine wpAnyH_take (v := ?vc18) hoi (by kernel_rfl) (by kernel_rfl) (by kernel_rfl) (fun _ _ _ h => h) (Or.inl ⟨by rfl, ?hyc18⟩) (by assumption) ?_
            case hyc18 => intro w' hSw; (try dsimp only at hSw); go_simp; (try with_reducible rfl)
            clear hoi
            simp only [Act.put, List.setIfInBounds_toArray, List.set_cons_zero, List.set_cons_succ]
            refine held_at (i := 19) (by kernel_rfl) (fun oi hoi => ?_)
            have h2 := hoi
            simp only [List.getElem?_toArray, List.getElem?_cons_succ, List.getElem?_cons_zero, Option.some.injEq] at h2
            subst h2
            refine wpAnyH_take (v := ?vc19) hoi (by kernel_rfl) (by kernel_rfl) (by kernel_rfl) (fun _ _ _ h => h) (Or.inl ⟨by rfl, ?hyc19⟩) (by assumption) ?_
            case hyc19 => intro w' hSw; (try dsimp only at hSw); go_simp; (try with_reducible rfl)
            clear hoi
            simp only [Act.put, List.setIfInBounds_toArray, List.set_cons_zero, List.set_cons_succ]
            refine held_at (i := 20) (by kernel_rfl) (fun oi hoi => ?_)
            have h2 := hoi
            simp only [List.getElem?_toArray, List.getElem?_cons_succ, List.getElem?_cons_zero, Option.some.injEq] at h2
            subst h2
            refine wpAnyH_take (v := ?vc20) hoi (by kernel_rfl) (by kernel_rfl) (by kernel_rfl) (fun _ _ _ h => h) (Or.inl ⟨by rfl, ?hyc20⟩) (by assumption) ?_
            case hyc20 => intro w' hSw; (try dsimp only at hSw); go_simp; (try with_reducible rfl)
            clear hoi
            simp only [Act.put, List.setIfInBounds_toArray, List.set_cons_zero, List.set_cons_succ]
            refine held_at (i := 21) (by kernel_rfl) (fun oi hoi => ?_)
            have h2 := hoi
            simp only [List.getElem?_toArray, List.getElem?_cons_succ, List.getElem?_cons_zero, Option.some.injEq] at h2
            subst h2
            refine wpAnyH_take (v := ?vc21) hoi (by kernel_rfl) (by kernel_rfl) (by kernel_rfl) (fun _ _ _ h => h) (Or.inl ⟨by rfl, ?hyc21⟩) (by assumption) ?_
            case hyc21 => intro w' hSw; (try dsimp only at hSw); go_simp; (try with_reducible rfl)
            clear hoi
            simp only [Act.put, List.setIfInBounds_toArray, List.set_cons_zero, List.set_cons_succ]
            have hb1' := (Below.refl _ wr).drew.trans hb1
            refine held_at (i := 22) (by kernel_rfl) (fun oi hoi => ?_)
            have h2 := hoi
            simp only [List.getElem?_toArray, List.getElem?_cons_succ, List.getElem?_cons_zero, Option.some.injEq] at h2
            subst h2
            refine wpAnyH_ready (rs := [22]) (by kernel_rfl) (by simp) ?_
            refine AllReadyH.cons hoi (fun K hK => ?_) AllReadyH.nil
            clear hoi
            go_simp
            refine (impl_Covers _ _ _ _ _ hl2).mono ?_
            rintro e w4 ⟨rfl, hb2⟩
            simp only [hB']
            refine hK.out _ _ ?_ (fun hHeld => ?_)
            · exact keep4' y0 y1 hc1 hc2 zw zb (hb1'.trans (hb2.mono hb1'.size))
            clear hK K
            refine held_at (i := 23) (by kernel_rfl) (fun oi hoi => ?_)
            have h2 := hoi
            simp only [List.getElem?_toArray, List.getElem?_cons_succ, List.getElem?_cons_zero, Option.some.injEq] at h2
            subst h2
            refine wpAnyH_take (v := ?vc23) hoi (by kernel_rfl) (by kernel_rfl) (by kernel_rfl) (fun _ _ _ h => h) (Or.inl ⟨by rfl, ?hyc23⟩) (by assumption) ?_
            case hyc23 => intro w' hSw; (try dsimp only at hSw); go_simp; (try with_reducible rfl)
            clear hoi
            simp only [Act.put, List.setIfInBounds_toArray, List.set_cons_zero, List.set_cons_succ]
            refine held_at (i := 24) (by kernel_rfl) (fun oi hoi => ?_)
            have h2 := hoi
            simp only [List.getElem?_toArray, List.getElem?_cons_succ, List.getElem?_cons_zero, Option.some.injEq] at h2
            subst h2
            refine wpAnyH_take (v := ?vc24) hoi (by kernel_rfl) (by kernel_rfl) (by kernel_rfl) (fun _ _ _ h => h) (Or.inl ⟨by rfl, ?hyc24⟩) (by assumption) ?_
            case hyc24 => intro w' hSw; (try dsimp only at hSw); go_simp; (try with_reducible rfl)
            clear hoi
            simp only [Act.put, List.setIfInBounds_toArray, List.set_cons_zero, List.set_cons_succ]
            refine held_at (i := 25) (by kernel_rfl) (fun oi hoi => ?_)
            have h2 := hoi
            simp only [List.getElem?_toArray, List.getElem?_cons_succ, List.getElem?_cons_zero, Option.some.injEq] at h2
            subst h2
            refine wpAnyH_take (v := ?vc25) hoi (by kernel_rfl) (by kernel_rfl) (by kernel_rfl) (fun _ _ _ h => h) (Or.inl ⟨by rfl, ?hyc25⟩) (by assumption) ?_
            case hyc25 => intro w' hSw; (try dsimp only at hSw); go_simp; (try with_reducible rfl)
            clear hoi
            simp only [Act.put, List.setIfInBounds_toArray, List.set_cons_zero, List.set_cons_succ]
            refine wpAnyH_done (by kernel_rfl) ?_ _
            go_wp2_with fail
            go_ret
            refine ⟨rfl, B2.out.trans ((HW.out.trans ((hb1'.trans (hb2.mono hb1'.size)).mono HW.out.size)).mono B2.out.size)⟩
      · have h' := bool_no ht
        have hn : n2 = 0 := by rw [N2.out, startsV_no (.inr h')]; rfl
        subst hn
        clear ht N2 R2
        go_wp2_with (first | (go_at_call 13; refine (spec_WinOk _ _ _).mono ?_; rintro e w' ⟨rfl, rfl⟩) | (go_at_call 14; refine (spec_TimeOk _ _).mono ?_; rintro e w' ⟨rfl, rfl⟩))
        go_ret
        exact ⟨rfl, B2.out.alloc B2.out.size _⟩
    · have h' := bool_no hw
      have hn : n2 = 0 := by rw [N2.out, startsV_no (.inl h')]; rfl
      subst hn
      clear hw N2 R2
      go_wp2_with (first | (go_at_call 13; refine (spec_WinOk _ _ _).mono ?_; rintro e w' ⟨rfl, rfl⟩) | (go_at_call 14; refine (spec_TimeOk _ _).mono ?_; rintro e w' ⟨rfl, rfl⟩))
      go_ret
      exact ⟨rfl, B2.out.alloc B2.out.size _⟩
end Go.Proofs.Ytpjimeanimghdaa.win
