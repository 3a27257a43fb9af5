/-
  THE CONTRACT OF RollUp of the model where it rolls up.
-/
import Derived.Test.YtpcekmllmnfmmaaGreatSpecRollM
namespace Go.Proofs.YtpcekmllmnfmmaaGreat.dat
open Go.RowKit Go.Proofs.YtpcekmllmnfmmaaGreat.win
set_option maxRecDepth 100000 in
set_option maxHeartbeats 8000000 in
theorem spec_RollUp_yes (c : ConfD) (ch : ConfigH) (cf : List Nat) (a : Option Addr) (len cap : Nat) (l : List PaneD) (fp : List Nat) (fr tt : Int) (w : World) (hc : Config.Is w c ch cf) (hrow : GRow 8 RPane w a len l fp) (hcap : len ≤ cap) (hcm : cap ≤ 9223372036854775807)
    (_ : (Lit.int .i64 fr).wf = true) (_ : (Lit.int .i64 tt).wf = true) (hzc : Config.sz c ≤ 2000000) (hmax : szL Pane.sz l ≤ 2000000) (hyes : (panesB c l && rollsB c fr tt) = true) :
    Calls Tryz.prog 8 #[.agg (Config.list c ch).toArray, .slice a len cap, .int .i64 fr, .int .i64 tt] w (GiveP w (rollD c l fr tt)) := by
  obtain ⟨wsa, wsl, wsc, msa, msl, msc⟩ := ch
  have hml : c.ms.length = msl := by obtain ⟨f0, f1, _, r0, u0, v0, r1, u1, v1⟩ := hc; exact r1.1
  have hmb : msl ≤ 2000000 := by rw [← hml]; unfold Config.sz at hzc; omega
  have hlen : len ≤ 2000000 := by rw [← hrow.1]; unfold szL at hmax; omega
  have HC := Lib.hid hc
  have HG := Lib.hid hrow
  have HL := Lib.hid hrow.1
  have HU := Lib.hid (And.intro hcap hcm)
  have HZ := Lib.hid hzc
  have HM := Lib.hid hmax
  have HML := Lib.hid hml
  have HP := Lib.hid (fun W h1 h2 => spec_PanesOk c ⟨wsa, wsl, wsc, msa, msl, msc⟩ cf a len cap l fp W h1 h2 hcap hcm hzc hmax)
  clear hc hrow hcap hcm hzc hmax hml
  obtain ⟨pd, hpd⟩ : ∃ pd, rollD c l fr tt = pd := ⟨_, rfl⟩
  unfold rollD rollsB at hpd
  rw [HML.out] at hpd
  have HPD := Lib.hid hpd
  rw [show rollD c l fr tt = pd from by unfold rollD rollsB; rw [HML.out]; exact hpd]
  clear hpd
  simp only [Config.list] at *
  unfold rollsB at hyes
  simp only [Bool.and_eq_true] at hyes
  rw [HML.out] at hyes
  obtain ⟨p1, ⟨p2, p3⟩, p4⟩ := hyes
  have P1 := Lib.hid p1
  have hok : confD c = true := by unfold panesB at p1; simp only [Bool.and_eq_true] at p1; exact p1.1.1
  have HOK := Lib.hid hok
  clear p1 hok
  have P2 := Lib.hid p2
  have P2' := Lib.hid (between_place.trans p2)
  obtain ⟨i, rfl, hi⟩ := placeB_nat p2
  clear p2
  have P3 := Lib.hid p3
  have P3' := Lib.hid (between_place.trans p3)
  obtain ⟨j, rfl, hj⟩ := placeB_nat p3
  clear p3
  obtain ⟨mb, mo, hma, hmbl, ci, ui⟩ := cell_mask HC.out hi
  obtain ⟨mb', mo', hma', hmbl', cj, uj⟩ := cell_mask HC.out hj
  rw [hma] at hma'
  cases hma'
  have UI := Lib.hid (And.intro hi ui)
  have UJ := Lib.hid (And.intro hj uj)
  have hi2 : (i : Int) < (msl : Int) := by omega
  have hj2 : (j : Int) < (msl : Int) := by omega
  have hi0 : (0 : Int) ≤ (i : Int) := by omega
  have hj0 : (0 : Int) ≤ (j : Int) := by omega
  clear ui uj hi hj hmbl'
  subst hma
  have P4 := Lib.hid p4
  clear p4
  go_enter Tryz.func8, Tryz.ntmps8
  go_wp2_with fail
  refine wp_gen (fun W => Below w.heap.size w W ∧ Blk W w.heap.size 33 [.int .i64 c.d, .slice wsa wsl wsc, .slice (some ⟨mb, mo, none⟩) msl msc, .int .i64 c.dl, .int .i64 c.lt]) ⟨by repeat (first | exact Below.refl _ _ | refine Below.setCell ?_ (by first | omega | (simp; done) | (simp; omega)) _ | refine Below.alloc ?_ (by first | omega | (simp; done) | (simp; omega)) _ | apply Below.drew), by with_reducible (repeat (first | (refine blk_new_at _ _ _ _ ?_; first | rfl | (simp; done)) | refine Blk.alloc ?_ _ | apply Blk.drew | refine Blk.setOther ?_ (by first | (simp; done) | (simp; omega)) _))⟩ ?_
  rintro W1 ⟨b1, k1⟩
  have B1 := Lib.hid b1
  have K1 := Lib.hid k1
  have HMC := Lib.hid (fun w' (h : Below W1.heap.size W1 w') => keep7 (w' := w') k1 ((b1.cell (p := ⟨mb, mo + i, none⟩) hmbl).trans ci) ((b1.cell (p := ⟨mb, mo + j, none⟩) hmbl).trans cj) (h.block _ k1.lt) (h.block _ (Nat.lt_of_lt_of_le hmbl b1.size)))
  have S1 := HMC.out W1 (Below.refl _ _)
  clear k1 b1
  refine mix.wp_region_mixh (fun w' => w'.cell? ⟨w.heap.size, 0, none⟩ = some (.int .i64 c.d) ∧ w'.cell? ⟨w.heap.size, 1, none⟩ = some (.slice wsa wsl wsc) ∧ w'.cell? ⟨w.heap.size, 2, none⟩ = some (.slice (some ⟨mb, mo, none⟩) msl msc) ∧ w'.cell? ⟨w.heap.size, 3, none⟩ = some (.int .i64 c.dl) ∧ w'.cell? ⟨w.heap.size, 4, none⟩ = some (.int .i64 c.lt) ∧ w'.cell? ⟨mb, mo + i, none⟩ = some (.int .i64 (maskN c i)) ∧ w'.cell? ⟨mb, mo + j, none⟩ = some (.int .i64 (maskN c j))) [2,10,19,33] (by kernel_rfl) (by kernel_rfl) (fun _ _ d _ _ h => by cases d <;> exact h) S1 ?_
  clear S1
  (repeat (first | (apply mix.held_take; (· rfl); (· rfl); (· (intro w' hSw; (try dsimp only at hSw); go_simp; try with_reducible rfl)); (try simp only [Act.put, List.setIfInBounds_toArray, List.set_cons_zero, List.set_cons_succ])) | ((refine mix.held_pass rfl (by rfl) ?_); (try simp only [Act.put, List.setIfInBounds_toArray, List.set_cons_zero, List.set_cons_succ]))))
  refine mix.held_hard rfl (fun K hK => ?_); go_simp
  refine (HP.out _ (HC.out.below B1.out.drew) (HG.out.below local_Pane B1.out.drew)).mono ?_
  rintro e W2 ⟨rfl, b2⟩
  rw [P1.out]
  have hb2 : Below W1.heap.size W1 W2 := (Below.refl _ _).drew.trans b2
  have B2 := Lib.hid (B1.out.trans (hb2.mono B1.out.size))
  have K2 := Lib.hid (K1.out.below hb2 K1.out.lt)
  have S2 := Lib.hid (HMC.out W2 hb2)
  clear b2 hb2
  refine hK.out _ _ (S2.out) (fun hSw => ?_); clear hK K hSw; (try simp only [Act.put, List.setIfInBounds_toArray, List.set_cons_zero, List.set_cons_succ])
  (repeat (first | (apply mix.held_take; (· rfl); (· rfl); (· (intro w' hSw; (try dsimp only at hSw); go_simp; try with_reducible rfl)); (try simp only [Act.put, List.setIfInBounds_toArray, List.set_cons_zero, List.set_cons_succ])) | ((refine mix.held_pass rfl (by rfl) ?_); (try simp only [Act.put, List.setIfInBounds_toArray, List.set_cons_zero, List.set_cons_succ]))))
  refine mix.held_hard rfl (fun K hK => ?_); go_simp
  rw [show IntKind.i64.wrap ((msl : Int) - 1) = (msl : Int) - 1 from IntWalk.i64_in _ (by omega)]
  refine (between_is P2'.out _).mono ?_
  rintro e W3 ⟨rfl, rfl⟩
  refine hK.out _ _ (S2.out) (fun hSw => ?_); clear hK K hSw; (try simp only [Act.put, List.setIfInBounds_toArray, List.set_cons_zero, List.set_cons_succ])
  (repeat (first | (apply mix.held_take; (· rfl); (· rfl); (· (intro w' hSw; (try dsimp only at hSw); go_simp; try with_reducible rfl)); (try simp only [Act.put, List.setIfInBounds_toArray, List.set_cons_zero, List.set_cons_succ])) | ((refine mix.held_pass rfl (by rfl) ?_); (try simp only [Act.put, List.setIfInBounds_toArray, List.set_cons_zero, List.set_cons_succ]))))
  refine mix.held_hard rfl (fun K hK => ?_); go_simp
  rw [show IntKind.i64.wrap ((msl : Int) - 1) = (msl : Int) - 1 from IntWalk.i64_in _ (by omega)]
  refine (between_is P3'.out _).mono ?_
  rintro e W3 ⟨rfl, rfl⟩
  refine hK.out _ _ (S2.out) (fun hSw => ?_); clear hK K hSw; (try simp only [Act.put, List.setIfInBounds_toArray, List.set_cons_zero, List.set_cons_succ])
  (repeat (first | (apply mix.held_take; (· rfl); (· rfl); (· (intro w' hSw; (try dsimp only at hSw); go_simp; try with_reducible rfl)); (try simp only [Act.put, List.setIfInBounds_toArray, List.set_cons_zero, List.set_cons_succ])) | ((refine mix.held_pass rfl (by rfl) ?_); (try simp only [Act.put, List.setIfInBounds_toArray, List.set_cons_zero, List.set_cons_succ]))))
  refine mix.held_hard rfl (fun K hK => ?_); go_simp
  refine (spec_MaskIn _ _ _).mono ?_
  rintro e W3 ⟨rfl, rfl⟩
  rw [P4.out]
  refine hK.out _ _ (S2.out) (fun hSw => ?_); clear hK K hSw; (try simp only [Act.put, List.setIfInBounds_toArray, List.set_cons_zero, List.set_cons_succ])
  (repeat (first | (apply mix.held_take; (· rfl); (· rfl); (· (intro w' hSw; (try dsimp only at hSw); go_simp; try with_reducible rfl)); (try simp only [Act.put, List.setIfInBounds_toArray, List.set_cons_zero, List.set_cons_succ])) | ((refine mix.held_pass rfl (by rfl) ?_); (try simp only [Act.put, List.setIfInBounds_toArray, List.set_cons_zero, List.set_cons_succ]))))
  refine mix.held_end ?_
  have HPS := Lib.hid (show (rollS c i j l []).getD [] = pd by rw [← HPD.out, P1.out, P2.out, P3.out, P4.out]; rfl)
  go_wp2_with fail
  clear hi0 hj0 hi2 hj2
  have hd3 := conf_dims HOK.out
  obtain ⟨nd, hnd⟩ : ∃ nd : Nat, c.d = (nd : Int) := ⟨c.d.toNat, by omega⟩
  have hnd3 : nd ≤ 3 := by omega
  have HND := Lib.hid hnd
  have HTN := Lib.hid (show c.d.toNat = nd by omega)
  clear hd3 hnd
  go_loopg [9, 10] len (fun k v iv wr => ∃ (t : Nat) (m : List PaneD) (bm om nm cm : Nat) (fm : List Nat), t + k = len ∧ iv = .int .i64 t ∧ v = .slice (some ⟨bm, om, none⟩) nm cm ∧ GRow 8 RPane wr (some ⟨bm, om, none⟩) nm m fm ∧ nm ≤ cm ∧ cm ≤ 9223372036854775807 ∧ Rise m ∧ szL Pane.sz m + szL Pane.sz (l.drop t) ≤ szL Pane.sz l ∧ rollS c i j l [] = rollS c i j (l.drop t) m ∧ Below w.heap.size w wr ∧ Blk wr w.heap.size 33 [.int .i64 c.d, .slice wsa wsl wsc, .slice (some ⟨mb, mo, none⟩) msl msc, .int .i64 c.dl, .int .i64 c.lt])
  case atStart => exact ⟨0, [], _, 0, 0, 0, [], by omega, rfl, rfl, GRow.nil, Nat.le_refl _, Nat.zero_le _, List.Pairwise.nil, by simp [szL], by simp, B2.out, K2.out⟩
  case round =>
    obtain ⟨t, m, bm, om, nm, cm, fm, ht, rfl, rfl, hG, hc1, hc2, hR, hZ, hgo, hB, hK⟩ := hrel
    have GG := Lib.hid hG
    have CC := Lib.hid (And.intro hc1 hc2)
    have RR := Lib.hid hR
    have ZZ := Lib.hid hZ
    have GO := Lib.hid hgo
    have BB := Lib.hid hB
    have KK := Lib.hid hK
    by_cases hlt : t < len
    case neg =>
      obtain rfl : t = len := by omega
      have HE := Lib.hid (show m = pd by rw [← HPS.out, GO.out, List.drop_of_length_le (by rw [HL.out]; exact Nat.le_refl _)]; rfl)
      clear hG hc1 hc2 hR hZ hgo hB hK
      go_wp2_with fail
      go_ret
      rw [← HE.out]
      exact ⟨_, nm, cm, fm, rfl, GG.out, CC.out.1, CC.out.2, BB.out⟩
    obtain ⟨b, off, x, f, cs, ha, hbl, hx, hcl, hRx, hcs⟩ := HG.out.at hlt
    subst ha
    obtain ⟨⟨ka, kl, kc⟩, rfl, hIs⟩ := hRx
    have hcell : ∀ q, q < 8 → wr.cell? ⟨b, off + t * 8 + q, none⟩ = (Pane.list x ⟨ka, kl, kc⟩)[q]? := fun q hq => (hB.cell (p := ⟨b, off + t * 8 + q, none⟩) hbl).trans (hcs q hq)
    have q1 : wr.cell? ⟨b, off + t * 8 + 1, none⟩ = some (.int .i64 x.mask) := hcell 1 (by omega)
    have QC := Lib.hid hcell
    have hbr : b < wr.heap.size := Nat.lt_of_lt_of_le hbl hB.size
    have hlt2 : (t : Int) < (len : Int) := by omega
    have h02 : (0 : Int) ≤ (t : Int) := by omega
    have hdr : l.drop t = x :: l.drop (t + 1) := by
      have h1 : t < l.length := by rw [HL.out]; exact hlt
      rw [List.drop_eq_getElem_cons h1]
      obtain ⟨h2, rfl⟩ := List.getElem?_eq_some_iff.1 hx
      rfl
    have XM := Lib.hid (List.mem_of_getElem? hx)
    have IS := Lib.hid hIs
    have HDR := Lib.hid hdr
    have ZZ2 := Lib.hid (show szL Pane.sz m + (1 + Pane.sz x + szL Pane.sz (l.drop (t + 1))) ≤ szL Pane.sz l by have := hZ; rw [hdr] at this; unfold szL at *; simp only [List.length_cons, List.map_cons, List.sum_cons] at this; omega)
    rw [hdr] at hgo
    by_cases hmk : x.mask = (i : Int)
    case neg =>
      have hne : (x.mask != (i : Int)) = true := by simpa using hmk
      have GO2 := Lib.hid (show rollS c i j l [] = rollS c i j (l.drop (t + 1)) m by rw [hgo, rollS, if_neg hmk])
      clear hG hc1 hc2 hR hZ hgo hB hK hcs hcl hx hcell hdr hIs GO hmk ZZ
      go_wp2_with fail
      go_roundg (len - (t + 1))
      case measure => omega
      case rel => exact ⟨t + 1, m, bm, om, nm, cm, fm, by omega, by go_num, rfl, GG.out, CC.out.1, CC.out.2, RR.out, by have := ZZ2.out; omega, GO2.out, BB.out, KK.out⟩
    have hne : (x.mask != (i : Int)) = false := by simpa using hmk
    have GO2 := Lib.hid (show rollS c i j l [] = (if putB (rollP c i j x) m = true then rollS c i j (l.drop (t + 1)) (putL (rollP c i j x) m) else none) by rw [hgo, rollS, if_pos hmk])
    have hkl := pane_key P1.out XM.out hmk UI.out.2
    have HKL := Lib.hid hkl
    have hwf := cellR_wf (fr := (i : Int)) (tt := (j : Int)) P1.out XM.out (by omega) (by have := UJ.out.1; have hcf := HOK.out; unfold confD masksB at hcf; simp only [Bool.and_eq_true] at hcf; have h4 := hcf.1.1.2.1.1; simp at h4; have := HML.out; omega)
    have HWF := Lib.hid hwf
    have hmi := conf_mask HOK.out UI.out.2
    have hmj := conf_mask HOK.out UJ.out.2
    have HMI := Lib.hid hmi
    have HMJ := Lib.hid hmj
    clear hG hc1 hc2 hR hZ hgo hB hcs hcl hx hcell hdr hIs GO hmk ZZ hkl hwf hmi hmj
    go_wp2_with fail
    clear q1 hne
    obtain ⟨wo, hwo⟩ : ∃ wo, wo = wr := ⟨_, rfl⟩
    subst hwo
    go_loopg [11, 12, 13] nd (fun k key av dv wr => ∃ q : Nat, q + k = nd ∧ dv = .int .i64 q ∧ av = .int .i64 (rank (maskN c i) q : Nat) ∧ Grows 1 RInt 3 wo.heap.size wr key (keyR (maskN c i) (maskN c j) x.key q) ∧ Below wo.heap.size wo wr)
    case atStart => exact ⟨0, by omega, rfl, rfl, made_int wo, (Below.refl _ _).alloc (Nat.le_refl _) _⟩
    case round =>
      obtain ⟨q, hq, rfl, rfl, hGk, hBk⟩ := hrel
      have GK := Lib.hid hGk
      have BK := Lib.hid hBk
      have hKi := (KK.out.below hBk KK.out.lt)
      have c0 := hKi.cell 0
      have c2 := hKi.cell 2
      simp at c0 c2
      have ci2 := (hBk.cell (p := ⟨mb, mo + i, none⟩) (Nat.lt_of_lt_of_le hmbl BB.out.size)).trans ((BB.out.cell (p := ⟨mb, mo + i, none⟩) hmbl).trans ci)
      have cj2 := (hBk.cell (p := ⟨mb, mo + j, none⟩) (Nat.lt_of_lt_of_le hmbl BB.out.size)).trans ((BB.out.cell (p := ⟨mb, mo + j, none⟩) hmbl).trans cj)
      have hi2 : (i : Int) < (msl : Int) := by have := UI.out.1; omega
      have hj2 : (j : Int) < (msl : Int) := by have := UJ.out.1; omega
      have hi0 : (0 : Int) ≤ (i : Int) := by omega
      have hj0 : (0 : Int) ≤ (j : Int) := by omega
      clear hGk hBk hKi
      by_cases hqn : q < nd
      case neg =>
        obtain rfl : q = nd := by omega
        have hqd : ¬ (q : Int) < c.d := by have := HND.out; omega
        have hqd2 : decide ((q : Int) < c.d) = false := decide_eq_false hqd
        clear hqd ci2 cj2 c2
        have hP : rollP c i j x = ⟨x.win, (j : Int), x.start, keyR (maskN c i) (maskN c j) x.key q, x.a⟩ := by unfold rollP; rw [HTN.out]
        have hkk : (keyR (maskN c i) (maskN c j) x.key q).length ≤ x.key.length := by
          have h1 := keyR_len (maskN c i) (maskN c j) x.key q
          have h2 := rank_mono (maskN c i) (show q ≤ 3 by omega)
          have h3 := rank_ones (maskN c i)
          have h4 : ((rank (maskN c i) 3 : Nat) : Int) = (x.key.length : Int) := h3.trans HKL.out.symm
          omega
        have hsx : Pane.sz x = x.key.length := rfl
        have hsl := HM.out
        have hz2 := ZZ2.out
        obtain ⟨a2, c2, f2, hv2, hg2, hc21, hc22, _⟩ := GK.out.done
        obtain ⟨pb, hpb⟩ : ∃ pb, putB ⟨x.win, (j : Int), x.start, keyR (maskN c i) (maskN c j) x.key q, x.a⟩ m = pb := ⟨_, rfl⟩
        have HPUT := Lib.hid (fun W (hb : Below wr.heap.size wr W) => l04Put bm om nm cm m fm ⟨x.win, (j : Int), x.start, keyR (maskN c i) (maskN c j) x.key q, x.a⟩ ⟨a2, (keyR (maskN c i) (maskN c j) x.key q).length, c2⟩ f2 W (GG.out.below local_Pane (BK.out.trans (hb.mono BK.out.size))) CC.out.1 CC.out.2 ⟨f2, rfl, hg2.below local_int hb, hc21, hc22⟩ HWF.out.1 HWF.out.2.1 HWF.out.2.2.1 (by omega) (by show (keyR (maskN c i) (maskN c j) x.key q).length ≤ 2000000; omega) RR.out)
        have GO3 := Lib.hid (show rollS c i j l [] = (if pb = true then rollS c i j (l.drop (t + 1)) (putL ⟨x.win, (j : Int), x.start, keyR (maskN c i) (maskN c j) x.key q, x.a⟩ m) else none) by rw [GO2.out, hP, hpb])
        have HSZ := Lib.hid (show szL Pane.sz (putL ⟨x.win, (j : Int), x.start, keyR (maskN c i) (maskN c j) x.key q, x.a⟩ m) + szL Pane.sz (l.drop (t + 1)) ≤ szL Pane.sz l by
          have h5 := sz_putL ⟨x.win, (j : Int), x.start, keyR (maskN c i) (maskN c j) x.key q, x.a⟩ m
          have h6 : Pane.sz (⟨x.win, (j : Int), x.start, keyR (maskN c i) (maskN c j) x.key q, x.a⟩ : PaneD) = (keyR (maskN c i) (maskN c j) x.key q).length := rfl
          omega)
        rw [hpb] at HPUT
        simp only [Pane.list] at HPUT
        have KK2 := Lib.hid (KK.out.below BK.out KK.out.lt)
        subst hv2
        have w0 := (BK.out.cell (p := ⟨b, off + t * 8, none⟩) hbr).trans (QC.out 0 (by omega))
        have w2 := (BK.out.cell (p := ⟨b, off + t * 8 + 2, none⟩) hbr).trans (QC.out 2 (by omega))
        have w4 := (BK.out.cell (p := ⟨b, off + t * 8 + 4, none⟩) hbr).trans (QC.out 4 (by omega))
        have w5 := (BK.out.cell (p := ⟨b, off + t * 8 + 5, none⟩) hbr).trans (QC.out 5 (by omega))
        have w6 := (BK.out.cell (p := ⟨b, off + t * 8 + 6, none⟩) hbr).trans (QC.out 6 (by omega))
        have w7 := (BK.out.cell (p := ⟨b, off + t * 8 + 7, none⟩) hbr).trans (QC.out 7 (by omega))
        simp [Pane.list] at w0 w2 w4 w5 w6 w7
        have HRP := Lib.hid (rise_putL (p := ⟨x.win, (j : Int), x.start, keyR (maskN c i) (maskN c j) x.key q, x.a⟩) RR.out)
        generalize putL ⟨x.win, (j : Int), x.start, keyR (maskN c i) (maskN c j) x.key q, x.a⟩ m = m2 at *
        have BW := Lib.hid (BB.out.trans (BK.out.mono BB.out.size))
        generalize keyR (maskN c i) (maskN c j) x.key q = kr at *
        clear hP hkk hsx hsl hz2 hg2 hc21 hc22 hpb
        go_wp2_with fail
        refine mix.wp_region_mix [19] (by kernel_rfl) (by kernel_rfl) ?_
        refine mix.mix_seg 19 rfl ?_; simp only [List.take_succ_cons, List.take_zero, List.drop_succ_cons, List.drop_zero]; (repeat still_step)
        (try refine wpStill_nil ?_); refine mix.at_cons (fun K hK => ?_); go_simp
        refine (HPUT.out _ (Below.refl _ _).drew).mono ?_
        rintro e W5 ⟨b5, o5, n5, c5, f5, rfl, hg5, hc51, hc52, hb5⟩
        have B5 := Lib.hid (BW.out.trans (((Below.refl wr.heap.size wr).drew.trans hb5).mono BW.out.size))
        have K5 := Lib.hid (KK2.out.below ((Below.refl wr.heap.size wr).drew.trans hb5) KK2.out.lt)
        have G5 := Lib.hid hg5
        have C5 := Lib.hid (And.intro hc51 hc52)
        clear hg5 hc51 hc52 hb5
        refine hK _ _ ?_; clear hK K
        refine mix.mix_end ?_; (repeat still_step)
        refine wpStill_nil ?_
        cases pb with
        | false =>
          have HE := Lib.hid (show pd = [] by rw [← HPS.out, GO3.out]; rfl)
          go_wp2_with fail
          go_ret
          rw [HE.out]
          exact give_none (B5.out.alloc B5.out.size _)
        | true =>
          have GO4 := Lib.hid (show rollS c i j l [] = rollS c i j (l.drop (t + 1)) m2 by rw [GO3.out, if_pos rfl])
          go_wp2_with fail
          go_roundg (len - (t + 1))
          case measure => omega
          case rel => exact ⟨t + 1, m2, b5, o5, n5, c5, f5, by omega, by go_num, rfl, G5.out, C5.out.1, C5.out.2, HRP.out, HSZ.out, GO4.out, B5.out, K5.out⟩
      have hqd : (q : Int) < c.d := by have := HND.out; omega
      have hq0 : (0 : Int) ≤ (q : Int) := by omega
      have hbi : ∀ W, Calls Tryz.prog 31 #[.int .i64 (maskN c i), .int .i64 q] W fun e w' => e = .returned (.bool (bitB (maskN c i) q)) ∧ W = w' := fun W => l03Bit HMI.out.1 HMI.out.2 (by omega) W
      have hbj : ∀ W, Calls Tryz.prog 31 #[.int .i64 (maskN c j), .int .i64 q] W fun e w' => e = .returned (.bool (bitB (maskN c j) q)) ∧ W = w' := fun W => l03Bit HMJ.out.1 HMJ.out.2 (by omega) W
      cases hb1 : bitB (maskN c i) q with
      | false =>
        rw [hb1] at hbi
        have HBI := Lib.hid hbi
        have HKN := Lib.hid (keyR_no (mf := maskN c i) (mt := maskN c j) (key := x.key) (j := q) (by rw [hb1]; rfl))
        have HRN := Lib.hid (rank_no hb1)
        clear hbi hbj hb1 cj2
        go_wp2_with fail
        refine (HBI.out _).mono ?_
        rintro e w3 ⟨rfl, rfl⟩
        go_wp2_with fail
        go_roundg (nd - (q + 1))
        case measure => omega
        case rel => exact ⟨q + 1, by omega, by go_num, by rw [HRN.out], by rw [HKN.out]; exact GK.out, BK.out⟩
      | true =>
        rw [hb1] at hbi
        have HBI := Lib.hid hbi
        have HRY := Lib.hid (rank_yes hb1)
        have HB1 := Lib.hid hb1
        clear hbi hb1
        cases hb2 : bitB (maskN c j) q with
        | false =>
          rw [hb2] at hbj
          have HBJ := Lib.hid hbj
          have HKN := Lib.hid (keyR_no (mf := maskN c i) (mt := maskN c j) (key := x.key) (j := q) (by rw [hb2]; simp))
          have hrkl := rank_le (maskN c i) q
          obtain ⟨rk, hrk3⟩ : ∃ rk, rank (maskN c i) q = rk := ⟨_, rfl⟩
          rw [hrk3] at HRY hrkl ⊢
          clear hbj hb2
          go_wp2_with (go_at_call 31; first | (refine (HBI.out _).mono ?_; rintro e w3 ⟨rfl, rfl⟩) | (refine (HBJ.out _).mono ?_; rintro e w3 ⟨rfl, rfl⟩))
          go_roundg (nd - (q + 1))
          case measure => omega
          case rel => exact ⟨q + 1, by omega, by go_num, by rw [HRY.out]; go_num, by rw [HKN.out]; exact GK.out, BK.out⟩
        | true =>
          rw [hb2] at hbj
          have HBJ := Lib.hid hbj
          have hrk := rank_lt (m := maskN c i) (j := q) (by omega) HB1.out
          have hro := rank_ones (maskN c i)
          have hkl := HKL.out
          have hrl : rank (maskN c i) q < x.key.length := by
            have h9 : ((rank (maskN c i) 3 : Nat) : Int) = (x.key.length : Int) := hro.trans hkl.symm
            omega
          obtain ⟨v, hv⟩ : ∃ v, x.key[rank (maskN c i) q]? = some v := ⟨_, List.getElem?_eq_getElem hrl⟩
          have HKY := Lib.hid (keyR_yes HB1.out hb2 hv)
          obtain ⟨f0, rfl, r0, u0, v0⟩ := IS.out
          simp only at r0 u0 v0
          have hrl2 : rank (maskN c i) q < kl := by have := r0.1; omega
          obtain ⟨b2, o2, y, f2, cs2, ha2, hbl2, hy2, hcl2, hR2, hc2⟩ := r0.at hrl2
          subst ha2
          rw [hv] at hy2
          obtain rfl := Option.some.inj hy2
          obtain ⟨rfl, rfl⟩ := hR2
          have hwi := BB.out.trans (BK.out.mono BB.out.size)
          have ck : (W : World) → Below w.heap.size w W → W.cell? ⟨b2, o2 + rank (maskN c i) q, none⟩ = some (.int .i64 v) := fun W hb => by have := (hb.cell (p := ⟨b2, o2 + rank (maskN c i) q * 1 + 0, none⟩) hbl2).trans (hc2 0 (by omega)); simpa using this
          have q3 := (BK.out.cell (p := ⟨b, off + t * 8 + 3, none⟩) hbr).trans (QC.out 3 (by omega))
          simp [Pane.list] at q3
          obtain ⟨rk, hrk3⟩ : ∃ rk, rank (maskN c i) q = rk := ⟨_, rfl⟩
          have hklen := keyR_len (maskN c i) (maskN c j) x.key q
          rw [hrk3] at hrl2 ck HRY hklen ⊢
          have ck1 := ck _ hwi
          have hrk2 : (rk : Int) < (kl : Int) := by omega
          have hrk0 : (0 : Int) ≤ (rk : Int) := by omega
          have hrk9 : rk ≤ 3 := by have := rank_le (maskN c i) q; omega
          clear hbj hb2 hrk hro hkl hrl hv r0 u0 v0 hbl2 hcl2 hc2 hy2 hrl2 hwi ck
          obtain ⟨i0, hi, hz0, hz1, hz2⟩ := info_ints
          go_wp2_with (first | (go_at_call 31; first | (refine (HBI.out _).mono ?_; rintro e w3 ⟨rfl, rfl⟩) | (refine (HBJ.out _).mono ?_; rintro e w3 ⟨rfl, rfl⟩)) | (at_builtin; refine push local_int rfl (.tmp 89) (.tmp 98) 23 rfl i0 (.int .i64 0) 8 Tryz.underlying23 hi hz0 hz1 hz2 rfl (by decide) rfl GK.out ((Below.refl _ _).alloc (Nat.le_refl _) _) wr.heap.size 1 rfl [.int .i64 v] rfl (fun u hu => by simp at hu; subst hu; rfl) (fun j u hj => by have := cell_one_new wr (.int .i64 v) 3 j u hj; rwa [Go.WideShapes.add_plain, Nat.zero_add] at this) v [] ⟨rfl, rfl⟩ Own.nil (by omega) (by unfold maxLen; omega) BK.out.size ?_; intro v' w3 hG3 hb3))
          go_roundg (nd - (q + 1))
          case measure => omega
          case rel => exact ⟨q + 1, by omega, by go_num, by rw [HRY.out]; go_num, by rw [HKY.out]; exact hG3, (BK.out.alloc BK.out.size _).trans hb3⟩
end Go.Proofs.YtpcekmllmnfmmaaGreat.dat
