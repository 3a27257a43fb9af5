/-
  THE WALK OF THE LAW FnKeys, out of the contracts: it answers true, and nothing that was there is written.
-/
import Derived.Test.YtpjimeanimghdaaKeyOf
import Derived.Test.YtpjimeanimghdaaLawsPick
import Derived.Test.YtpjimeanimghdaaCurKeys
import Derived.Test.YtpjimeanimghdaaMixHeld
import Derived.Test.YtpjimeanimghdaaMixOrd
namespace Go.Proofs.Ytpjimeanimghdaa.win
open Go.RowKit

set_option maxRecDepth 100000 in
set_option maxHeartbeats 1000000 in
theorem pick4_any (a : Option Addr) (len cap : Nat) (n : Int) (w : World) (hle : len ≤ 2000000) (hcode : cur.Code w a len) :
    Calls Try.prog 19 #[.slice a len cap, .int .i64 4, .int .i64 n] w fun e w' => ∃ r : Int, e = .returned (.int .i64 r) ∧ 0 ≤ r ∧ (r < n ∨ r = 0) ∧ Below w.heap.size w w' := by
  by_cases h0 : len = 0
  · subst h0
    go_enter Try.func19, Try.ntmps19
    go_wp2
    go_ret
    exact ⟨0, rfl, by omega, .inr rfl, Below.refl _ _⟩
  · have b0 : ((len : Int) == 0) = false := by simp; omega
    have b0' : (len == 0) = false := by simp; omega
    by_cases hn : n < 2
    · go_enter Try.func19, Try.ntmps19
      go_wp2
      go_ret
      exact ⟨0, rfl, by omega, .inr rfl, Below.refl _ _⟩
    · obtain ⟨b, off, rfl, hbl, hcs⟩ := hcode (by omega)
      have HCS := Lib.hid hcs
      clear hcs hcode
      go_enter Try.func19, Try.ntmps19
      go_wp2_with fail
      go_loopg [7, 8] 3 (fun r sx sk wr => ∃ (j : Nat) (x : Int), j + r = 3 ∧ sx = .int .i64 x ∧ sk = .int .i64 j ∧ 0 ≤ x ∧ x ≤ [0, 255, 8160, 253215].getD j 0 ∧ w = wr)
      case atStart => exact ⟨0, 0, by omega, rfl, rfl, by omega, by simp, rfl⟩
      case round =>
        obtain ⟨j, x, hj, rfl, rfl, x0, x1, rfl⟩ := hrel
        by_cases hlt : j < 3
        · have x2 : x ≤ 8160 ∧ 31 * x + 255 ≤ [0, 255, 8160, 253215].getD (j + 1) 0 := by
            have : j = 0 ∨ j = 1 ∨ j = 2 := by omega
            rcases this with rfl | rfl | rfl <;> simp at x1 ⊢ <;> omega
          obtain ⟨x3, x4⟩ := x2
          have X4 := Lib.hid x4
          obtain ⟨i, hi⟩ : ∃ i : Int, (4 + (j : Int)) % (len : Int) = i := ⟨_, rfl⟩
          have i0 : 0 ≤ i := by rw [← hi]; exact Int.emod_nonneg _ (by omega)
          have i1 : i < (len : Int) := by rw [← hi]; exact Int.emod_lt_of_pos _ (by omega)
          obtain ⟨v, v0, v1, hv⟩ := HCS.out i.toNat (by omega)
          have t0 : (4 + (j : Int)).tmod (len : Int) = i := by rw [Int.tmod_eq_emod_of_nonneg (by omega)]; exact hi
          have n2 : ¬ (len : Int) = 0 := by omega
          have w1 : IntKind.i64.wrap (31 * x + v) = 31 * x + v := IntWalk.i64_in _ (by omega)
          have HI := Lib.hid hi
          clear x1 x4 HCS
          go_wp2_with fail
          go_roundg (3 - (j + 1))
          case measure => omega
          case rel => exact ⟨j + 1, 31 * x + v, by omega, rfl, by go_num, by omega, by have := X4.out; omega, rfl⟩
        · have x2 : x ≤ 253215 := by
            have : j = 3 := by omega
            subst this; simpa using x1
          obtain rfl : j = 3 := by omega
          clear x1
          go_wp2_with fail
          go_ret
          exact ⟨(x + 4) % n, rfl, Int.emod_nonneg _ (by omega), .inl (Int.emod_lt_of_pos _ (by omega)), Below.refl _ _⟩
end Go.Proofs.Ytpjimeanimghdaa.win
namespace Go.Proofs.Ytpjimeanimghdaa.dat
open Go.RowKit Go.Proofs.Ytpjimeanimghdaa.win
open Go.Proofs.Ytpjimeanimghdaa.cur (IsRow Code code_of_row DrawKeyOf_any)

theorem keyTo_none (l : List Int) : ∀ j, keyTo 0 l j = []
  | 0 => rfl
  | j + 1 => by rw [keyTo_no (by simp [bitB]), keyTo_none l j]
theorem keyTo_all {d : Nat} (hd : d ≤ 3) {l : List Int} (hl : l.length = d) : keyTo (pw d - 1) l d = l := by
  have : d = 0 ∨ d = 1 ∨ d = 2 ∨ d = 3 := by omega
  rcases this with rfl | rfl | rfl | rfl
  · match l, hl with
    | [], _ => rfl
  · match l, hl with
    | [x], _ => rfl
  · match l, hl with
    | [x, y], _ => rfl
  · match l, hl with
    | [x, y, z], _ => rfl
theorem keyTo_sub {a b : Int} {l : List Int} (h : ∀ j, j < 3 → bitB b j = true → bitB a j = true) : ∀ j, j ≤ 3 → j ≤ l.length → (keyTo b l j).length ≤ (keyTo a l j).length
  | 0, _, _ => Nat.le_refl _
  | j + 1, h3, hl => by
    have ih := keyTo_sub (l := l) h j (by omega) (by omega)
    obtain ⟨x, hx⟩ : ∃ x, l[j]? = some x := ⟨l[j]'(by omega), List.getElem?_eq_getElem (by omega)⟩
    cases hb : bitB b j with
    | false =>
      rw [keyTo_no hb]
      cases ha : bitB a j with
      | false => rw [keyTo_no ha]; exact ih
      | true => rw [keyTo_yes ha hx]; simp; omega
    | true =>
      rw [keyTo_yes hb hx, keyTo_yes (h j (by omega) hb) hx]; simp; exact ih
theorem and_facts {a r : Int} (a0 : 0 ≤ a) (a8 : a < 8) (r0 : 0 ≤ r) (r8 : r < 8) : ∃ b : Int, bits BinOp.and IntKind.i64 a r = b ∧ 0 ≤ b ∧ b ≤ a ∧ maskB b a = true ∧ ∀ j, j < 3 → bitB b j = true → bitB a j = true := by
  have h1 : a = 0 ∨ a = 1 ∨ a = 2 ∨ a = 3 ∨ a = 4 ∨ a = 5 ∨ a = 6 ∨ a = 7 := by omega
  have h2 : r = 0 ∨ r = 1 ∨ r = 2 ∨ r = 3 ∨ r = 4 ∨ r = 5 ∨ r = 6 ∨ r = 7 := by omega
  clear a0 a8 r0 r8
  rcases h1 with rfl | rfl | rfl | rfl | rfl | rfl | rfl | rfl <;> rcases h2 with rfl | rfl | rfl | rfl | rfl | rfl | rfl | rfl <;> exact ⟨_, rfl, by decide, by decide, by decide, fun j hj => by have : j = 0 ∨ j = 1 ∨ j = 2 := (by omega); rcases this with rfl | rfl | rfl <;> decide⟩
theorem keyD_of {c : ConfD} {l : List Int} {d : Nat} (hok : confD c = true) (hd : c.d = (d : Int)) (hl : l.length = d) {m : Int} (h0 : 0 ≤ m) (h1 : m < pw d) : keyD c m l = keyTo m l d := by
  have : keyOk c m l = true := by
    unfold keyOk inB
    rw [hok, hd, hl]
    simp; exact ⟨h0, h1⟩
  rw [keyD_yes hl this]

set_option maxRecDepth 100000 in
set_option maxHeartbeats 16000000 in
theorem law_Keys (a : Option Addr) (len cap : Nat) (zs : List Int) (a' : Option Addr) (len' cap' : Nat) (zs' : List Int) (w : World) (hrow : IsRow .u8 w a len cap zs) (hrow' : IsRow .u8 w a' len' cap' zs') :
    Calls Try.prog 4 #[.slice a len cap, .slice a' len' cap'] w fun e w' => e = .returned (.bool true) ∧ Below w.heap.size w w' := by
  have HK := Lib.hid (code_of_row hrow)
  have HK' := Lib.hid (code_of_row hrow')
  clear hrow hrow'
  obtain ⟨t1, ht1⟩ : ∃ t, decide (1048576 < len) = t := ⟨_, rfl⟩
  obtain ⟨t2, ht2⟩ : ∃ t, decide (1048576 < len') = t := ⟨_, rfl⟩
  have hb1 := Lib.hid (fun W => big_any a len cap t1 W ht1)
  have hb2 := Lib.hid (fun W => big_any a' len' cap' t2 W ht2)
  have HT1 := Lib.hid ht1
  have HT2 := Lib.hid ht2
  clear ht1 ht2
  cases t1
  case true =>
    go_enter Try.func4, Try.ntmps4
    go_wp2_with fail
    refine (hb1.out w).mono ?_
    rintro e w' ⟨rfl, rfl⟩
    go_wp2_with fail
    go_ret
    exact ⟨rfl, Below.refl _ _⟩
  case false =>
    cases t2
    case true =>
      go_enter Try.func4, Try.ntmps4
      go_wp2_with fail
      refine (hb1.out w).mono ?_
      rintro e w' ⟨rfl, rfl⟩
      go_wp2_with fail
      refine (hb2.out w).mono ?_
      rintro e w' ⟨rfl, rfl⟩
      go_wp2_with fail
      go_ret
      exact ⟨rfl, Below.refl _ _⟩
    case false =>
      have hbig : ¬ 1048576 < len := of_decide_eq_false HT1.out
      have hbig' : ¬ 1048576 < len' := of_decide_eq_false HT2.out
      go_enter Try.func4, Try.ntmps4
      go_wp2_with fail
      refine (hb1.out w).mono ?_
      rintro e w' ⟨rfl, rfl⟩
      go_wp2_with fail
      refine (hb2.out w).mono ?_
      rintro e w' ⟨rfl, rfl⟩
      go_wp2_with fail
      clear hb1 hb2 HT1 HT2
      refine (DrawKeyOf_any _ _ _ _ (by omega) HK.out).mono ?_
      rintro e w1 ⟨c, h, fp, mk, ad, n, cd, ds, fd, rfl, hIs, hws, hms, hmw, hgd, u1, u2, hn5, hb1⟩
      have HC := Lib.hid hIs
      have HG := Lib.hid hgd
      have HU := Lib.hid (And.intro u1 u2)
      have HK1 := Lib.hid (HK'.out.below hb1)
      have B1 := Lib.hid hb1
      have HMW := Lib.hid hmw
      have HN := Lib.hid hgd.1
      clear hIs hgd u1 u2 hb1 hmw HK HK' hws hms
      simp only [Config.list]
      go_wp2_with fail
      refine calls_gen (fun W => Below w1.heap.size w1 W ∧ Blk W w1.heap.size 35 (Config.list c h)) ⟨by repeat (first | exact Below.refl _ _ | refine Below.setCell ?_ (by first | omega | (simp; done) | (simp; omega)) _ | refine Below.alloc ?_ (by first | omega | (simp; done) | (simp; omega)) _ | apply Below.drew), by unfold Config.list; with_reducible (repeat (first | (refine blk_new_at _ _ _ _ ?_; first | rfl | (simp; done)) | refine Blk.alloc ?_ _ | apply Blk.drew | refine Blk.setOther ?_ (by first | (simp; done) | (simp; omega)) _))⟩ ?_
      rintro W2 ⟨b2, k2⟩
      refine (spec_Conf c h fp W2 (HC.out.below b2)).mono ?_
      rintro e W3 ⟨rfl, b3⟩
      have hB : Below w1.heap.size w1 W3 := b2.trans (b3.mono b2.size)
      have K3 := Lib.hid (k2.below b3 k2.lt)
      have B3 := Lib.hid (B1.out.trans (hB.mono B1.out.size))
      have C3 := Lib.hid (HC.out.below hB)
      have G3 := Lib.hid (HG.out.below local_int hB)
      have HK3 := Lib.hid (HK1.out.below hB)
      clear b2 k2 b3 hB HC HG HK1 B1
      have c0 := K3.out.cell 0
      have c1 := K3.out.cell 1
      have c2 := K3.out.cell 2
      have c3 := K3.out.cell 3
      have c4 := K3.out.cell 4
      simp [Config.list] at c0 c1 c2 c3 c4
      have BB := B3
      have KK := K3
      have CC := C3
      have GG := G3
      clear B3 K3 C3 G3
      cases p1 : confD c with
      | false =>
        have HNO := Lib.hid (keyD_no (c := c) (m := mk) (l := ds) (by unfold keyOk; rw [p1]; rfl))
        clear p1
        go_wp2_with fail
        refine (impl_KeyOf c h fp mk ad n cd ds fd _ CC.out HMW.out GG.out HU.out.1 HU.out.2).mono ?_
        rintro e W4 ⟨a4, n4, c4', f4, rfl, g4, _, _, _, b4⟩
        have hn4 : n4 = 0 := by rw [← g4.1, HNO.out]; rfl
        subst hn4
        have BE := Lib.hid (BB.out.trans (b4.mono BB.out.size))
        clear g4 b4
        go_wp2_with fail
        go_ret
        exact ⟨rfl, BE.out⟩
      | true =>
      have hd3 := conf_dims p1
      have HOK := Lib.hid p1
      clear p1
      cases p2 : ((n : Int) == c.d) with
      | false =>
        have p2' : ((n : Int) != c.d) = true := by simp [bne, p2]
        have HNO := Lib.hid (keyD_no (c := c) (m := mk) (l := ds) (by unfold keyOk; rw [HN.out, p2]; simp))
        clear p2
        go_wp2_with fail
        refine (impl_KeyOf c h fp mk ad n cd ds fd _ CC.out HMW.out GG.out HU.out.1 HU.out.2).mono ?_
        rintro e W4 ⟨a4, n4, c4', f4, rfl, g4, _, _, _, b4⟩
        have hn4 : n4 = 0 := by rw [← g4.1, HNO.out]; rfl
        subst hn4
        have BE := Lib.hid (BB.out.trans (b4.mono BB.out.size))
        clear g4 b4
        go_wp2_with fail
        go_ret
        exact ⟨rfl, BE.out⟩
      | true =>
      have p2' : ((n : Int) != c.d) = false := by simp [bne, p2]
      have hdn : c.d = (n : Int) := by have := eq_of_beq p2; exact this.symm
      have HDN := Lib.hid hdn
      have hn3 : n ≤ 3 := by omega
      have hd0 : 0 ≤ c.d := hd3.1
      obtain ⟨pd, hpd⟩ : ∃ pd : Int, pw (n : Int) = pd := ⟨_, rfl⟩
      have hshl : wrap64 (2 ^ c.d.toNat) = pd := by
        rw [hdn, ← hpd]
        have : n = 0 ∨ n = 1 ∨ n = 2 ∨ n = 3 := by omega
        rcases this with rfl | rfl | rfl | rfl <;> first | rfl | (simp [pw]; done) | (simp [pw]; rfl) | (simp [pw, wrap64]; done) | (simp [pw]; decide)
      have hpd8 : 1 ≤ pd ∧ pd ≤ 8 := by rw [← hpd]; unfold pw; repeat (first | omega | split)
      have HPD := Lib.hid hpd
      clear p2 hdn hpd hd3
      go_wp2_with fail
      refine (pick1_any a' len' cap' pd _ (by omega) HK3.out).mono ?_
      rintro e W4 ⟨r, rfl, r0, r1, b4⟩
      clear c0 c1 c2 c3 c4
      have BB_ := Lib.hid (BB.out.trans (b4.mono BB.out.size))
      have KK_ := Lib.hid (KK.out.below b4 KK.out.lt)
      have CC_ := Lib.hid (CC.out.below b4)
      have GG_ := Lib.hid (GG.out.below local_int b4)
      have HK3_ := Lib.hid (HK3.out.below b4)
      clear BB KK CC GG HK3 b4
      have BB := BB_
      clear BB_
      have KK := KK_
      clear KK_
      have CC := CC_
      clear CC_
      have GG := GG_
      clear GG_
      have HK3 := HK3_
      clear HK3_
      have c0 := KK.out.cell 0
      have c1 := KK.out.cell 1
      have c2 := KK.out.cell 2
      have c3 := KK.out.cell 3
      have c4 := KK.out.cell 4
      simp [Config.list] at c0 c1 c2 c3 c4
      have hr : r < pd := by omega
      clear r1
      go_wp2_with fail
      refine (pick4_any a' len' cap' pd _ (by omega) HK3.out).mono ?_
      rintro e W5 ⟨q, rfl, q0, q1, b5⟩
      clear c0 c1 c2 c3 c4
      have BB_ := Lib.hid (BB.out.trans (b5.mono BB.out.size))
      have KK_ := Lib.hid (KK.out.below b5 KK.out.lt)
      have CC_ := Lib.hid (CC.out.below b5)
      have GG_ := Lib.hid (GG.out.below local_int b5)
      clear BB KK CC GG b5
      have BB := BB_
      clear BB_
      have KK := KK_
      clear KK_
      have CC := CC_
      clear CC_
      have GG := GG_
      clear GG_
      have c0 := KK.out.cell 0
      have c1 := KK.out.cell 1
      have c2 := KK.out.cell 2
      have c3 := KK.out.cell 3
      have c4 := KK.out.cell 4
      simp [Config.list] at c0 c1 c2 c3 c4
      have hq : q < pd := by omega
      obtain ⟨b, hb, b0, hba, hmk, hbit⟩ := and_facts r0 (by omega) q0 (by omega)
      have hb8 : b < pd := by omega
      have hrw := cur.wf_small (p := r) (by omega) (by omega)
      have hbw := cur.wf_small (p := b) (by omega) (by omega)
      have HW := Lib.hid (And.intro hrw hbw)
      have HMK := Lib.hid hmk
      have HBIT := Lib.hid hbit
      have EX := Lib.hid (keyD_of HOK.out HDN.out HN.out r0 (by rw [HPD.out]; exact hr))
      have EY := Lib.hid (keyD_of HOK.out HDN.out HN.out b0 (by rw [HPD.out]; exact hb8))
      clear q1 hmk hbit hrw hbw HK3
      go_wp2_with fail
      have DR := (Below.refl W5.heap.size W5).drew
      refine mix.wp_region_ord (fun w' => w'.cell? ⟨w1.heap.size, 0, none⟩ = some (.int .i64 c.d) ∧ w'.cell? ⟨w1.heap.size, 1, none⟩ = some (.slice h.wsa h.wsl h.wsc) ∧ w'.cell? ⟨w1.heap.size, 2, none⟩ = some (.slice h.msa h.msl h.msc) ∧ w'.cell? ⟨w1.heap.size, 3, none⟩ = some (.int .i64 c.dl) ∧ w'.cell? ⟨w1.heap.size, 4, none⟩ = some (.int .i64 c.lt)) [3,7] [0,1,2,4,5,6,3,7,8,9] (by kernel_rfl) (by kernel_rfl) (fun _ _ d _ _ h => by cases d <;> exact h) ⟨c0, c1, c2, c3, c4⟩ ?_
      simp only [List.filterMap_cons, List.filterMap_nil, List.getElem?_cons_zero, List.getElem?_cons_succ, Option.map_some]
      (repeat (first | (apply mix.ord_take; (· rfl); (· rfl); (· (intro w' hSw; (try dsimp only at hSw); go_simp; try with_reducible rfl)); (try simp only [Act.put, List.setIfInBounds_toArray, List.set_cons_zero, List.set_cons_succ])) | ((refine mix.ord_pass rfl (by rfl) ?_); (try simp only [Act.put, List.setIfInBounds_toArray, List.set_cons_zero, List.set_cons_succ]))))
      refine mix.ord_hard rfl (fun K hK => ?_); go_simp
      have hcall := impl_KeyOf c h fp r ad n cd ds fd W5.drew (CC.out.below DR) HW.out.1 (GG.out.below local_int DR) HU.out.1 HU.out.2
      simp only [Config.list] at hcall
      refine hcall.mono ?_
      clear hcall
      rintro e W6 ⟨ax, nx, cx, fx, rfl, gx, lx, _, _, b6⟩
      have b6' : Below W5.heap.size W5 W6 := DR.trans b6
      have XX := Lib.hid gx
      clear DR b6 gx lx
      clear c0 c1 c2 c3 c4
      have BB_ := Lib.hid (BB.out.trans (b6'.mono BB.out.size))
      have KK_ := Lib.hid (KK.out.below b6' KK.out.lt)
      have CC_ := Lib.hid (CC.out.below b6')
      have GG_ := Lib.hid (GG.out.below local_int b6')
      clear BB KK CC GG b6'
      have BB := BB_
      clear BB_
      have KK := KK_
      clear KK_
      have CC := CC_
      clear CC_
      have GG := GG_
      clear GG_
      have c0 := KK.out.cell 0
      have c1 := KK.out.cell 1
      have c2 := KK.out.cell 2
      have c3 := KK.out.cell 3
      have c4 := KK.out.cell 4
      simp [Config.list] at c0 c1 c2 c3 c4
      refine hK.out _ _ (by exact ⟨c0, c1, c2, c3, c4⟩) (fun hSw => ?_); clear hK K hSw; (try simp only [Act.put, List.setIfInBounds_toArray, List.set_cons_zero, List.set_cons_succ])
      refine mix.ord_hard rfl (fun K hK => ?_); go_simp
      have hcall := impl_KeyOf c h fp b ad n cd ds fd W6 CC.out HW.out.2 GG.out HU.out.1 HU.out.2
      simp only [Config.list] at hcall
      refine hcall.mono ?_
      clear hcall
      rintro e W7 ⟨ay, ny, cy, fy, rfl, gy, ly, _, _, b7⟩
      have YY := Lib.hid gy
      clear gy ly
      clear c0 c1 c2 c3 c4
      have BB_ := Lib.hid (BB.out.trans (b7.mono BB.out.size))
      have KK_ := Lib.hid (KK.out.below b7 KK.out.lt)
      have CC_ := Lib.hid (CC.out.below b7)
      have GG_ := Lib.hid (GG.out.below local_int b7)
      have XX_ := Lib.hid (XX.out.below local_int b7)
      clear BB KK CC GG XX b7
      have BB := BB_
      clear BB_
      have KK := KK_
      clear KK_
      have CC := CC_
      clear CC_
      have GG := GG_
      clear GG_
      have XX := XX_
      clear XX_
      have c0 := KK.out.cell 0
      have c1 := KK.out.cell 1
      have c2 := KK.out.cell 2
      have c3 := KK.out.cell 3
      have c4 := KK.out.cell 4
      simp [Config.list] at c0 c1 c2 c3 c4
      refine hK.out _ _ (by exact ⟨c0, c1, c2, c3, c4⟩) (fun hSw => ?_); clear hK K hSw; (try simp only [Act.put, List.setIfInBounds_toArray, List.set_cons_zero, List.set_cons_succ])
      (repeat (first | (apply mix.ord_take; (· rfl); (· rfl); (· (intro w' hSw; (try dsimp only at hSw); go_simp; try with_reducible rfl)); (try simp only [Act.put, List.setIfInBounds_toArray, List.set_cons_zero, List.set_cons_succ])) | ((refine mix.ord_pass rfl (by rfl) ?_); (try simp only [Act.put, List.setIfInBounds_toArray, List.set_cons_zero, List.set_cons_succ]))))
      refine mix.ord_end ?_
      have hnx : Hid (nx = (keyTo r ds n).length) := by show nx = _; rw [← XX.out.1, EX.out]
      have hny : Hid (ny = (keyTo b ds n).length) := by show ny = _; rw [← YY.out.1, EY.out]
      have hMI := Lib.hid (fun W => impl_MaskIn b r W (by omega))
      rw [HMK.out] at hMI
      have hlx : nx ≤ 2000000 := by have := keyTo_len r ds n; rw [hnx.out]; omega
      have hly : ny ≤ 2000000 := by have := keyTo_len b ds n; rw [hny.out]; omega
      have HLX := Lib.hid (And.intro hlx hly)
      clear hlx hly
      go_wp2_with fail
      refine (hMI.out W7).mono ?_
      rintro e W7' ⟨rfl, rfl⟩
      go_wp2_with fail
      have hs1 := spec_KeyOf c h fp r ad n cd ds fd W7 CC.out HW.out.1 GG.out HU.out.1 HU.out.2
      simp only [Config.list] at hs1
      refine hs1.mono ?_
      clear hs1
      rintro e W8 ⟨az, nz, cz, fz, rfl, gz, _, _, b8⟩
      have ZZ := Lib.hid gz
      clear gz
      clear c0 c1 c2 c3 c4
      have BB_ := Lib.hid (BB.out.trans (b8.mono BB.out.size))
      have KK_ := Lib.hid (KK.out.below b8 KK.out.lt)
      have CC_ := Lib.hid (CC.out.below b8)
      have GG_ := Lib.hid (GG.out.below local_int b8)
      have XX_ := Lib.hid (XX.out.below local_int b8)
      have YY_ := Lib.hid (YY.out.below local_int b8)
      clear BB KK CC GG XX YY b8
      have BB := BB_
      clear BB_
      have KK := KK_
      clear KK_
      have CC := CC_
      clear CC_
      have GG := GG_
      clear GG_
      have XX := XX_
      clear XX_
      have YY := YY_
      clear YY_
      have c0 := KK.out.cell 0
      have c1 := KK.out.cell 1
      have c2 := KK.out.cell 2
      have c3 := KK.out.cell 3
      have c4 := KK.out.cell 4
      simp [Config.list] at c0 c1 c2 c3 c4
      have hnz : nz = nx := by rw [← ZZ.out.1, ← XX.out.1]
      subst hnz
      go_wp2_with fail
      refine (same_same ax az nz cx cz (keyD c r ds) W8 HLX.out.1 (row_of XX.out) (row_of ZZ.out)).mono ?_
      rintro e W9 ⟨rfl, b9⟩
      clear ZZ
      clear c0 c1 c2 c3 c4
      have BB_ := Lib.hid (BB.out.trans (b9.mono BB.out.size))
      have KK_ := Lib.hid (KK.out.below b9 KK.out.lt)
      have CC_ := Lib.hid (CC.out.below b9)
      have GG_ := Lib.hid (GG.out.below local_int b9)
      have XX_ := Lib.hid (XX.out.below local_int b9)
      have YY_ := Lib.hid (YY.out.below local_int b9)
      clear BB KK CC GG XX YY b9
      have BB := BB_
      clear BB_
      have KK := KK_
      clear KK_
      have CC := CC_
      clear CC_
      have GG := GG_
      clear GG_
      have XX := XX_
      clear XX_
      have YY := YY_
      clear YY_
      have c0 := KK.out.cell 0
      have c1 := KK.out.cell 1
      have c2 := KK.out.cell 2
      have c3 := KK.out.cell 3
      have c4 := KK.out.cell 4
      simp [Config.list] at c0 c1 c2 c3 c4
      go_wp2_with fail
      have hs1 := spec_KeyOf c h fp b ad n cd ds fd W9 CC.out HW.out.2 GG.out HU.out.1 HU.out.2
      simp only [Config.list] at hs1
      refine hs1.mono ?_
      clear hs1
      rintro e W10 ⟨au, nu, cu, fu, rfl, gu, _, _, b10⟩
      have UU := Lib.hid gu
      clear gu
      clear c0 c1 c2 c3 c4
      have BB_ := Lib.hid (BB.out.trans (b10.mono BB.out.size))
      have KK_ := Lib.hid (KK.out.below b10 KK.out.lt)
      have CC_ := Lib.hid (CC.out.below b10)
      have GG_ := Lib.hid (GG.out.below local_int b10)
      have XX_ := Lib.hid (XX.out.below local_int b10)
      have YY_ := Lib.hid (YY.out.below local_int b10)
      clear BB KK CC GG XX YY b10
      have BB := BB_
      clear BB_
      have KK := KK_
      clear KK_
      have CC := CC_
      clear CC_
      have GG := GG_
      clear GG_
      have XX := XX_
      clear XX_
      have YY := YY_
      clear YY_
      have c0 := KK.out.cell 0
      have c1 := KK.out.cell 1
      have c2 := KK.out.cell 2
      have c3 := KK.out.cell 3
      have c4 := KK.out.cell 4
      simp [Config.list] at c0 c1 c2 c3 c4
      have hnu : nu = ny := by rw [← UU.out.1, ← YY.out.1]
      subst hnu
      go_wp2_with fail
      refine (same_same ay au nu cy cu (keyD c b ds) W10 HLX.out.2 (row_of YY.out) (row_of UU.out)).mono ?_
      rintro e W11 ⟨rfl, b11⟩
      clear UU
      clear c0 c1 c2 c3 c4
      have BB_ := Lib.hid (BB.out.trans (b11.mono BB.out.size))
      have KK_ := Lib.hid (KK.out.below b11 KK.out.lt)
      have CC_ := Lib.hid (CC.out.below b11)
      have GG_ := Lib.hid (GG.out.below local_int b11)
      have XX_ := Lib.hid (XX.out.below local_int b11)
      have YY_ := Lib.hid (YY.out.below local_int b11)
      clear BB KK CC GG XX YY b11
      have BB := BB_
      clear BB_
      have KK := KK_
      clear KK_
      have CC := CC_
      clear CC_
      have GG := GG_
      clear GG_
      have XX := XX_
      clear XX_
      have YY := YY_
      clear YY_
      have c0 := KK.out.cell 0
      have c1 := KK.out.cell 1
      have c2 := KK.out.cell 2
      have c3 := KK.out.cell 3
      have c4 := KK.out.cell 4
      simp [Config.list] at c0 c1 c2 c3 c4
      go_wp2_with fail
      have DR := (Below.refl W11.heap.size W11).drew
      have hpw1 : IntKind.i64.wrap (pd - 1) = pd - 1 := IntWalk.i64_in _ (by omega)
      have hshl2 : IntKind.i64.wrap (2 ^ c.d.toNat) = pd := (IntWalk.i64_left _).trans hshl
      refine mix.wp_region_mixh (fun w' => w'.cell? ⟨w1.heap.size, 0, none⟩ = some (.int .i64 c.d) ∧ w'.cell? ⟨w1.heap.size, 1, none⟩ = some (.slice h.wsa h.wsl h.wsc) ∧ w'.cell? ⟨w1.heap.size, 2, none⟩ = some (.slice h.msa h.msl h.msc) ∧ w'.cell? ⟨w1.heap.size, 3, none⟩ = some (.int .i64 c.dl) ∧ w'.cell? ⟨w1.heap.size, 4, none⟩ = some (.int .i64 c.lt)) [6] (by kernel_rfl) (by kernel_rfl) (fun _ _ d _ _ h => by cases d <;> exact h) ⟨c0, c1, c2, c3, c4⟩ ?_
      (repeat (first | (apply mix.held_take; (· rfl); (· rfl); (· (intro w' hSw; (try dsimp only at hSw); go_simp; try with_reducible rfl)); (try simp only [Act.put, List.setIfInBounds_toArray, List.set_cons_zero, List.set_cons_succ])) | ((refine mix.held_pass rfl (by rfl) ?_); (try simp only [Act.put, List.setIfInBounds_toArray, List.set_cons_zero, List.set_cons_succ]))))
      refine mix.held_hard rfl (fun K hK => ?_); go_simp
      have hcall := impl_KeyOf c h fp (pd - 1) ad n cd ds fd W11.drew (CC.out.below DR) (cur.wf_small (by omega) (by omega)) (GG.out.below local_int DR) HU.out.1 HU.out.2
      simp only [Config.list] at hcall
      refine hcall.mono ?_
      clear hcall
      rintro e W12 ⟨al, nl, cl, fl, rfl, gl, _, _, _, b12⟩
      have b12' : Below W11.heap.size W11 W12 := DR.trans b12
      have EA := Lib.hid (show keyD c (pd - 1) ds = ds by rw [keyD_of HOK.out HDN.out HN.out (by omega) (by rw [HPD.out]; omega), ← HPD.out]; exact keyTo_all hn3 HN.out)
      rw [EA.out] at gl
      have AA := Lib.hid gl
      clear DR b12 gl
      clear c0 c1 c2 c3 c4
      have BB_ := Lib.hid (BB.out.trans (b12'.mono BB.out.size))
      have KK_ := Lib.hid (KK.out.below b12' KK.out.lt)
      have CC_ := Lib.hid (CC.out.below b12')
      have GG_ := Lib.hid (GG.out.below local_int b12')
      have XX_ := Lib.hid (XX.out.below local_int b12')
      have YY_ := Lib.hid (YY.out.below local_int b12')
      clear BB KK CC GG XX YY b12'
      have BB := BB_
      clear BB_
      have KK := KK_
      clear KK_
      have CC := CC_
      clear CC_
      have GG := GG_
      clear GG_
      have XX := XX_
      clear XX_
      have YY := YY_
      clear YY_
      have c0 := KK.out.cell 0
      have c1 := KK.out.cell 1
      have c2 := KK.out.cell 2
      have c3 := KK.out.cell 3
      have c4 := KK.out.cell 4
      simp [Config.list] at c0 c1 c2 c3 c4
      refine hK.out _ _ (by exact ⟨c0, c1, c2, c3, c4⟩) (fun hSw => ?_); clear hK K hSw; (try simp only [Act.put, List.setIfInBounds_toArray, List.set_cons_zero, List.set_cons_succ])
      (repeat (first | (apply mix.held_take; (· rfl); (· rfl); (· (intro w' hSw; (try dsimp only at hSw); go_simp; try with_reducible rfl)); (try simp only [Act.put, List.setIfInBounds_toArray, List.set_cons_zero, List.set_cons_succ])) | ((refine mix.held_pass rfl (by rfl) ?_); (try simp only [Act.put, List.setIfInBounds_toArray, List.set_cons_zero, List.set_cons_succ]))))
      refine mix.held_end ?_
      have hnl : nl = n := by rw [← AA.out.1]; exact HN.out
      subst hnl
      go_wp2_with fail
      refine (same_same al ad nl cl cd ds W12 (by omega) (row_of AA.out) (row_of GG.out)).mono ?_
      rintro e W13 ⟨rfl, b13⟩
      clear AA
      clear c0 c1 c2 c3 c4
      have BB_ := Lib.hid (BB.out.trans (b13.mono BB.out.size))
      have KK_ := Lib.hid (KK.out.below b13 KK.out.lt)
      have CC_ := Lib.hid (CC.out.below b13)
      have GG_ := Lib.hid (GG.out.below local_int b13)
      have XX_ := Lib.hid (XX.out.below local_int b13)
      have YY_ := Lib.hid (YY.out.below local_int b13)
      clear BB KK CC GG XX YY b13
      have BB := BB_
      clear BB_
      have KK := KK_
      clear KK_
      have CC := CC_
      clear CC_
      have GG := GG_
      clear GG_
      have XX := XX_
      clear XX_
      have YY := YY_
      clear YY_
      have c0 := KK.out.cell 0
      have c1 := KK.out.cell 1
      have c2 := KK.out.cell 2
      have c3 := KK.out.cell 3
      have c4 := KK.out.cell 4
      simp [Config.list] at c0 c1 c2 c3 c4
      have hle : nu ≤ nz := by rw [hny.out, hnx.out]; exact keyTo_sub HBIT.out nl hn3 (by rw [HN.out]; exact Nat.le_refl _)
      have hle2 : (nu : Int) ≤ (nz : Int) := by omega
      go_wp2_with fail
      have hcall := impl_KeyOf c h fp 0 ad nl cd ds fd W13 CC.out (cur.wf_small (by omega) (by omega)) GG.out HU.out.1 HU.out.2
      simp only [Config.list] at hcall
      refine hcall.mono ?_
      clear hcall
      rintro e W14 ⟨a0, n0, c0', f0, rfl, g0, _, _, _, b14⟩
      have hn0 : n0 = 0 := by rw [← g0.1, keyD_of HOK.out HDN.out HN.out (by omega) (by rw [HPD.out]; omega), keyTo_none]; rfl
      subst hn0
      have BE := Lib.hid (BB.out.trans (b14.mono BB.out.size))
      clear g0 b14
      go_wp2_with fail
      go_ret
      exact ⟨rfl, BE.out⟩
end Go.Proofs.Ytpjimeanimghdaa.dat
