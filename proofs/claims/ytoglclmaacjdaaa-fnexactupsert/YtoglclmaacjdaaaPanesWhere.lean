/-
  THE CONTRACT OF l04Where of the model, where the two places are.
  Condition: keys of at most 2,000,000 numbers.
-/
import Derived.Test.YtoglclmaacjdaaaPanesSpec
namespace Go.Proofs.Ytoglclmaacjdaaa.dat
open Go.RowKit Go.Proofs.Ytoglclmaacjdaaa.win

theorem keepc {W W' : World} {b o : Nat} {v : Value} (hb : Below W.heap.size W W') (hl : b < W.heap.size) (h : W.cell? ⟨b, o, none⟩ = some v) : W'.cell? ⟨b, o, none⟩ = some v := (hb.cell (p := ⟨b, o, none⟩) hl).trans h

set_option maxRecDepth 100000 in
set_option maxHeartbeats 8000000 in
theorem where_yes (c : ConfD) (ch : ConfigH) (cf : List Nat) (i j : Nat) (start : Int) (key : List Int) (A : AggD) (h : PaneH) (f : List Nat) (w : World) (hc : Config.Is w c ch cf) (hp : Pane.Is w ⟨i, j, start, key, A⟩ h f) (hok : confD c = true) (hi : i < ch.wsl) (hj : j < ch.msl) {u : Int × Int} (hu : c.ws[i]? = some u) {m : Int} (hm : c.ms[j]? = some m) (hk : key.length ≤ 2000000) :
    Calls Try.prog 139 #[.agg (Config.list c ch).toArray, .agg (Pane.list ⟨i, j, start, key, A⟩ h).toArray] w fun e w' => e = .returned (.bool ((decide (start % u.2 = 0) && spanB start) && (((key.length : Int) == ones m) && key.all dimB))) ∧ Below w.heap.size w w' := by
    obtain ⟨f0, f1, rfl, r0, u0, v0, r1, u1, v1⟩ := hc
    obtain ⟨g0, rfl, q0, x0, y0⟩ := hp
    have hl : ch.wsl ≤ 3 := by rw [← r0.1]; exact (conf_lens hok).1
    have hl2 : ch.msl ≤ 4 := by rw [← r1.1]; exact (conf_lens hok).2
    have hd := conf_dims hok
    have hm' := conf_mask hok hm
    have hu' := conf_win hok hu
    have KO := Lib.hid (kept_ones hd.1 hd.2 (conf_in hok hm))
    have LK := Lib.hid (fun w => l04Kept c ch m w hd.1 hd.2 hm'.1 hm'.2)
    rw [KO.out] at LK
    obtain ⟨on, hon⟩ : ∃ z, ones m = z := ⟨_, rfl⟩
    rw [hon] at LK
    obtain ⟨b, off, x, f, cs, ha, hbl, hx, hcl, hR, hcell⟩ := r0.at hi
    obtain rfl : x = u := by rw [hu] at hx; exact (Option.some.inj hx).symm
    obtain ⟨rfl, rfl⟩ := hR
    obtain ⟨b', off', x', f', cs', ha', hbl', hx', hcl', hR', hcell'⟩ := r1.at hj
    obtain rfl : x' = m := by rw [hm] at hx'; exact (Option.some.inj hx').symm
    obtain ⟨rfl, rfl⟩ := hR'
    have e1 := hcell 1 (by omega)
    have e2 := hcell' 0 (by omega)
    simp [Win.list] at e1 e2
    have E1 := Lib.hid e1
    have E2 := Lib.hid e2
    have HA := Lib.hid ha
    have HA' := Lib.hid ha'
    have lk := LK.out
    unfold Config.list at lk
    rw [ha, ha'] at lk
    have LK2 := Lib.hid lk
    clear lk LK
    have hlen : key.length = h.keyl := q0.1
    have HQ0 := Lib.hid q0
    have HKZ := Lib.hid (show h.keyl ≤ 2000000 by rw [← hlen]; exact hk)
    have hq : decide (0 ≤ (i : Int) ∧ (i : Int) ≤ (ch.wsl : Int) - 1) = true := between_place.trans (placeB_of hi)
    have hr : decide (0 ≤ (j : Int) ∧ (j : Int) ≤ (ch.msl : Int) - 1) = true := between_place.trans (placeB_of hj)
    have w1 : IntKind.i64.wrap ((ch.wsl : Int) - 1) = (ch.wsl : Int) - 1 := IntWalk.i64_in _ (by omega)
    have w2 : IntKind.i64.wrap ((ch.msl : Int) - 1) = (ch.msl : Int) - 1 := IntWalk.i64_in _ (by omega)
    have hi2 : (i : Int) < (ch.wsl : Int) := by omega
    have hi0 : (0 : Int) ≤ (i : Int) := by omega
    have hj2 : (j : Int) < (ch.msl : Int) := by omega
    have hj0 : (0 : Int) ≤ (j : Int) := by omega
    obtain ⟨q1, hq1⟩ : ∃ q, (ch.wsl : Int) - 1 = q := ⟨_, rfl⟩
    obtain ⟨q2, hq2⟩ : ∃ q, (ch.msl : Int) - 1 = q := ⟨_, rfl⟩
    rw [hq1] at hq w1
    rw [hq2] at hr w2
    have HQ := Lib.hid hq
    have HR := Lib.hid hr
    obtain ⟨d, hdm, dm1, dm2, dz⟩ := tmod_small start hu'.1 hu'.2
    have n1 : (x.2 == 0) = false := by simp; omega
    have n2 : ¬ x.2 = 0 := by omega
    have wd : IntKind.i64.wrap d = d := IntWalk.i64_in _ (by omega)
    have DZ := Lib.hid (show decide (x.2 ∣ start) = decide (d = 0) by congr 1; simp only [eq_iff_iff]; rw [dz]; exact Int.dvd_iff_emod_eq_zero)
    have DZ2 := Lib.hid (show decide (start % x.2 = 0) = decide (d = 0) by congr 1; simp only [eq_iff_iff]; exact dz.symm)
    rw [DZ2.out, hlen, hon]
    have LN := Lib.hid (show key.length = h.keyl from hlen)
    clear r0 r1 u0 v0 u1 v1 q0 x0 y0 hcell hcell' hu hm hx hx' hcl hcl' e1 e2 ha ha' hlen hk hq hr hl hl2 hd hm' hu' hok hon dz KO hi hj dm1 dm2
    obtain ⟨sp, hsp⟩ : ∃ z, spanB start = z := ⟨_, rfl⟩
    have HSP := Lib.hid (show decide (-200000 ≤ start ∧ start ≤ 200000) = sp from hsp)
    rw [hsp]
    clear hsp DZ DZ2
    simp only [Config.list, Pane.list]
    go_enter Try.func139, Try.ntmps139
    go_wp2_with fail
    refine wp_gen (fun W => Below w.heap.size w W ∧ Blk W w.heap.size 63 (Config.list c ch) ∧ Blk W (w.heap.size + 1) 144 (Pane.list ⟨i, j, start, key, A⟩ h)) ⟨by repeat (first | exact Below.refl _ _ | refine Below.setCell ?_ (by first | omega | (simp; done) | (simp; omega)) _ | refine Below.alloc ?_ (by first | omega | (simp; done) | (simp; omega)) _ | apply Below.drew), by unfold Config.list; with_reducible (repeat (first | (refine blk_new_at _ _ _ _ ?_; first | rfl | (simp; done)) | refine Blk.alloc ?_ _ | apply Blk.drew | refine Blk.setOther ?_ (by first | (simp; done) | (simp; omega)) _)), by unfold Pane.list; with_reducible (repeat (first | (refine blk_new_at _ _ _ _ ?_; first | rfl | (simp; done)) | refine Blk.alloc ?_ _ | apply Blk.drew | refine Blk.setOther ?_ (by first | (simp; done) | (simp; omega)) _))⟩ ?_
    rintro W1 ⟨b1, k1, m1⟩
    have B1 := Lib.hid b1
    have K1 := Lib.hid k1
    have M1 := Lib.hid m1
    have c0 := k1.cell 0
    have c1 := k1.cell 1
    have c2 := k1.cell 2
    have c3 := k1.cell 3
    have c4 := k1.cell 4
    have d0 := m1.cell 0
    have d1 := m1.cell 1
    have d2 := m1.cell 2
    have d3 := m1.cell 3
    simp [Config.list, Pane.list] at c0 c1 c2 c3 c4 d0 d1 d2 d3
    rw [HA.out] at c1
    rw [HA'.out] at c2
    have g1 : W1.cell? ⟨b, off + i * 2 + 1, none⟩ = some (.int .i64 x.2) := (b1.cell (p := ⟨b, off + i * 2 + 1, none⟩) hbl).trans E1.out
    have g2 : W1.cell? ⟨b', off' + j, none⟩ = some (.int .i64 x') := (b1.cell (p := ⟨b', off' + j, none⟩) hbl').trans E2.out
    refine mix.wp_region_mixh (fun w' => w'.cell? ⟨w.heap.size, 0, none⟩ = some (.int .i64 c.d) ∧ w'.cell? ⟨w.heap.size, 1, none⟩ = some (.slice (some ⟨b, off, none⟩) ch.wsl ch.wsc) ∧ w'.cell? ⟨w.heap.size, 2, none⟩ = some (.slice (some ⟨b', off', none⟩) ch.msl ch.msc) ∧ w'.cell? ⟨w.heap.size, 3, none⟩ = some (.int .i64 c.dl) ∧ w'.cell? ⟨w.heap.size, 4, none⟩ = some (.int .i64 c.lt) ∧ w'.cell? ⟨w.heap.size + 1, 0, none⟩ = some (.int .i64 (i : Int)) ∧ w'.cell? ⟨w.heap.size + 1, 1, none⟩ = some (.int .i64 (j : Int)) ∧ w'.cell? ⟨w.heap.size + 1, 2, none⟩ = some (.int .i64 start) ∧ w'.cell? ⟨w.heap.size + 1, 3, none⟩ = some (.slice h.keya h.keyl h.keyc) ∧ w'.cell? ⟨b, off + i * 2 + 1, none⟩ = some (.int .i64 x.2) ∧ w'.cell? ⟨b', off' + j, none⟩ = some (.int .i64 x')) [6,15,21,48] (by kernel_rfl) (by kernel_rfl) (fun _ _ d _ _ h => by cases d <;> exact h) ⟨c0, c1, c2, c3, c4, d0, d1, d2, d3, g1, g2⟩ ?_
    have HS : Hid ((fun w' => w'.cell? ⟨w.heap.size, 0, none⟩ = some (.int .i64 c.d) ∧ w'.cell? ⟨w.heap.size, 1, none⟩ = some (.slice (some ⟨b, off, none⟩) ch.wsl ch.wsc) ∧ w'.cell? ⟨w.heap.size, 2, none⟩ = some (.slice (some ⟨b', off', none⟩) ch.msl ch.msc) ∧ w'.cell? ⟨w.heap.size, 3, none⟩ = some (.int .i64 c.dl) ∧ w'.cell? ⟨w.heap.size, 4, none⟩ = some (.int .i64 c.lt) ∧ w'.cell? ⟨w.heap.size + 1, 0, none⟩ = some (.int .i64 (i : Int)) ∧ w'.cell? ⟨w.heap.size + 1, 1, none⟩ = some (.int .i64 (j : Int)) ∧ w'.cell? ⟨w.heap.size + 1, 2, none⟩ = some (.int .i64 start) ∧ w'.cell? ⟨w.heap.size + 1, 3, none⟩ = some (.slice h.keya h.keyl h.keyc) ∧ w'.cell? ⟨b, off + i * 2 + 1, none⟩ = some (.int .i64 x.2) ∧ w'.cell? ⟨b', off' + j, none⟩ = some (.int .i64 x')) W1.drew) := ⟨c0, c1, c2, c3, c4, d0, d1, d2, d3, g1, g2⟩
    clear c0 c1 c2 c3 c4 d0 d1 d2 d3 k1 m1 b1 g1 g2
    (repeat (first | (apply mix.held_take; (· rfl); (· rfl); (· (intro w' hSw; (try dsimp only at hSw); go_simp; try with_reducible rfl)); (try simp only [Act.put, List.setIfInBounds_toArray, List.set_cons_zero, List.set_cons_succ])) | ((refine mix.held_pass rfl (by rfl) ?_); (try simp only [Act.put, List.setIfInBounds_toArray, List.set_cons_zero, List.set_cons_succ]))))
    refine mix.held_hard rfl (fun K hK => ?_); go_simp
    refine (between_is (r := true) HQ.out _).mono ?_
    rintro e W2 ⟨rfl, rfl⟩
    refine hK.out _ _ (HS.out) (fun hSw => ?_); clear hK K hSw; (try simp only [Act.put, List.setIfInBounds_toArray, List.set_cons_zero, List.set_cons_succ])
    (repeat (first | (apply mix.held_take; (· rfl); (· rfl); (· (intro w' hSw; (try dsimp only at hSw); go_simp; try with_reducible rfl)); (try simp only [Act.put, List.setIfInBounds_toArray, List.set_cons_zero, List.set_cons_succ])) | ((refine mix.held_pass rfl (by rfl) ?_); (try simp only [Act.put, List.setIfInBounds_toArray, List.set_cons_zero, List.set_cons_succ]))))
    refine mix.held_hard rfl (fun K hK => ?_); go_simp
    refine (between_is (r := true) HR.out _).mono ?_
    rintro e W2 ⟨rfl, rfl⟩
    refine hK.out _ _ (HS.out) (fun hSw => ?_); clear hK K hSw; (try simp only [Act.put, List.setIfInBounds_toArray, List.set_cons_zero, List.set_cons_succ])
    (repeat (first | (apply mix.held_take; (· rfl); (· rfl); (· (intro w' hSw; (try dsimp only at hSw); go_simp; try with_reducible rfl)); (try simp only [Act.put, List.setIfInBounds_toArray, List.set_cons_zero, List.set_cons_succ])) | ((refine mix.held_pass rfl (by rfl) ?_); (try simp only [Act.put, List.setIfInBounds_toArray, List.set_cons_zero, List.set_cons_succ]))))
    cases sp with
    | false =>
      refine mix.held_hard rfl (fun K hK => ?_); go_simp
      refine (between_is (r := false) HSP.out _).mono ?_
      rintro e W2 ⟨rfl, rfl⟩
      refine hK.out _ _ (HS.out) (fun hSw => ?_); clear hK K hSw; (try simp only [Act.put, List.setIfInBounds_toArray, List.set_cons_zero, List.set_cons_succ])
      (repeat (first | (apply mix.held_take; (· rfl); (· rfl); (· (intro w' hSw; (try dsimp only at hSw); go_simp; try with_reducible rfl)); (try simp only [Act.put, List.setIfInBounds_toArray, List.set_cons_zero, List.set_cons_succ])) | ((refine mix.held_pass rfl (by rfl) ?_); (try simp only [Act.put, List.setIfInBounds_toArray, List.set_cons_zero, List.set_cons_succ]))))
      refine mix.held_hard rfl (fun K hK => ?_); go_simp
      refine hK.out _ _ (HS.out) (fun hSw => ?_); clear hK K hSw; (try simp only [Act.put, List.setIfInBounds_toArray, List.set_cons_zero, List.set_cons_succ])
      (repeat (first | (apply mix.held_take; (· rfl); (· rfl); (· (intro w' hSw; (try dsimp only at hSw); go_simp; try with_reducible rfl)); (try simp only [Act.put, List.setIfInBounds_toArray, List.set_cons_zero, List.set_cons_succ])) | ((refine mix.held_pass rfl (by rfl) ?_); (try simp only [Act.put, List.setIfInBounds_toArray, List.set_cons_zero, List.set_cons_succ]))))
      refine mix.held_end ?_
      go_wp2_with fail
      go_ret
      exact ⟨ret_bool (by simp), B1.out.drew⟩
    | true =>
    by_cases hd0 : d = 0
    case neg =>
      have hdz : (d != 0) = true := by simp [hd0]
      have HD := Lib.hid hd0
      clear hd0
      refine mix.held_hard rfl (fun K hK => ?_); go_simp
      refine (between_is (r := true) HSP.out _).mono ?_
      rintro e W2 ⟨rfl, rfl⟩
      refine hK.out _ _ (HS.out) (fun hSw => ?_); clear hK K hSw; (try simp only [Act.put, List.setIfInBounds_toArray, List.set_cons_zero, List.set_cons_succ])
      (repeat (first | (apply mix.held_take; (· rfl); (· rfl); (· (intro w' hSw; (try dsimp only at hSw); go_simp; try with_reducible rfl)); (try simp only [Act.put, List.setIfInBounds_toArray, List.set_cons_zero, List.set_cons_succ])) | ((refine mix.held_pass rfl (by rfl) ?_); (try simp only [Act.put, List.setIfInBounds_toArray, List.set_cons_zero, List.set_cons_succ]))))
      refine mix.held_hard rfl (fun K hK => ?_); go_simp
      refine hK.out _ _ (HS.out) (fun hSw => ?_); clear hK K hSw; (try simp only [Act.put, List.setIfInBounds_toArray, List.set_cons_zero, List.set_cons_succ])
      (repeat (first | (apply mix.held_take; (· rfl); (· rfl); (· (intro w' hSw; (try dsimp only at hSw); go_simp; try with_reducible rfl)); (try simp only [Act.put, List.setIfInBounds_toArray, List.set_cons_zero, List.set_cons_succ])) | ((refine mix.held_pass rfl (by rfl) ?_); (try simp only [Act.put, List.setIfInBounds_toArray, List.set_cons_zero, List.set_cons_succ]))))
      refine mix.held_end ?_
      go_wp2_with fail
      go_ret
      exact ⟨ret_bool (by rw [decide_eq_false HD.out]; rfl), B1.out.drew⟩
    have hdz : (d != 0) = false := by simp [hd0]
    have HD := Lib.hid hd0
    clear hd0
    by_cases hne : (h.keyl : Int) = on
    case neg =>
      have hne' : ((h.keyl : Int) != on) = true := by simp [hne]
      have HNE := Lib.hid (show ((h.keyl : Int) == on) = false by simp [hne])
      clear hne
      refine mix.held_hard rfl (fun K hK => ?_); go_simp
      refine (between_is (r := true) HSP.out _).mono ?_
      rintro e W2 ⟨rfl, rfl⟩
      refine hK.out _ _ (HS.out) (fun hSw => ?_); clear hK K hSw; (try simp only [Act.put, List.setIfInBounds_toArray, List.set_cons_zero, List.set_cons_succ])
      (repeat (first | (apply mix.held_take; (· rfl); (· rfl); (· (intro w' hSw; (try dsimp only at hSw); go_simp; try with_reducible rfl)); (try simp only [Act.put, List.setIfInBounds_toArray, List.set_cons_zero, List.set_cons_succ])) | ((refine mix.held_pass rfl (by rfl) ?_); (try simp only [Act.put, List.setIfInBounds_toArray, List.set_cons_zero, List.set_cons_succ]))))
      refine mix.held_hard rfl (fun K hK => ?_); go_simp
      refine (LK2.out _).mono ?_
      rintro e W3 ⟨rfl, b3⟩
      have HS3 : Hid ((fun w' => w'.cell? ⟨w.heap.size, 0, none⟩ = some (.int .i64 c.d) ∧ w'.cell? ⟨w.heap.size, 1, none⟩ = some (.slice (some ⟨b, off, none⟩) ch.wsl ch.wsc) ∧ w'.cell? ⟨w.heap.size, 2, none⟩ = some (.slice (some ⟨b', off', none⟩) ch.msl ch.msc) ∧ w'.cell? ⟨w.heap.size, 3, none⟩ = some (.int .i64 c.dl) ∧ w'.cell? ⟨w.heap.size, 4, none⟩ = some (.int .i64 c.lt) ∧ w'.cell? ⟨w.heap.size + 1, 0, none⟩ = some (.int .i64 (i : Int)) ∧ w'.cell? ⟨w.heap.size + 1, 1, none⟩ = some (.int .i64 (j : Int)) ∧ w'.cell? ⟨w.heap.size + 1, 2, none⟩ = some (.int .i64 start) ∧ w'.cell? ⟨w.heap.size + 1, 3, none⟩ = some (.slice h.keya h.keyl h.keyc) ∧ w'.cell? ⟨b, off + i * 2 + 1, none⟩ = some (.int .i64 x.2) ∧ w'.cell? ⟨b', off' + j, none⟩ = some (.int .i64 x')) W3) := by
        obtain ⟨t0, t1, t2, t3, t4, t5, t6, t7, t8, t9, t10⟩ := HS.out
        exact ⟨keepc b3 K1.out.lt t0, keepc b3 K1.out.lt t1, keepc b3 K1.out.lt t2, keepc b3 K1.out.lt t3, keepc b3 K1.out.lt t4, keepc b3 M1.out.lt t5, keepc b3 M1.out.lt t6, keepc b3 M1.out.lt t7, keepc b3 M1.out.lt t8,
          keepc b3 (Nat.lt_of_lt_of_le hbl B1.out.size) t9, keepc b3 (Nat.lt_of_lt_of_le hbl' B1.out.size) t10⟩
      have B3 := Lib.hid (B1.out.drew.trans (b3.mono B1.out.size))
      clear b3
      refine hK.out _ _ (HS3.out) (fun hSw => ?_); clear hK K hSw; (try simp only [Act.put, List.setIfInBounds_toArray, List.set_cons_zero, List.set_cons_succ])
      (repeat (first | (apply mix.held_take; (· rfl); (· rfl); (· (intro w' hSw; (try dsimp only at hSw); go_simp; try with_reducible rfl)); (try simp only [Act.put, List.setIfInBounds_toArray, List.set_cons_zero, List.set_cons_succ])) | ((refine mix.held_pass rfl (by rfl) ?_); (try simp only [Act.put, List.setIfInBounds_toArray, List.set_cons_zero, List.set_cons_succ]))))
      refine mix.held_end ?_
      go_wp2_with fail
      go_ret
      exact ⟨ret_bool (by rw [HNE.out]; simp), B3.out⟩
    have hne' : ((h.keyl : Int) != on) = false := by simp [hne]
    have HNE := Lib.hid (show ((h.keyl : Int) == on) = true by simp [hne])
    clear hne
    refine mix.held_hard rfl (fun K hK => ?_); go_simp
    refine (between_is (r := true) HSP.out _).mono ?_
    rintro e W2 ⟨rfl, rfl⟩
    refine hK.out _ _ (HS.out) (fun hSw => ?_); clear hK K hSw; (try simp only [Act.put, List.setIfInBounds_toArray, List.set_cons_zero, List.set_cons_succ])
    (repeat (first | (apply mix.held_take; (· rfl); (· rfl); (· (intro w' hSw; (try dsimp only at hSw); go_simp; try with_reducible rfl)); (try simp only [Act.put, List.setIfInBounds_toArray, List.set_cons_zero, List.set_cons_succ])) | ((refine mix.held_pass rfl (by rfl) ?_); (try simp only [Act.put, List.setIfInBounds_toArray, List.set_cons_zero, List.set_cons_succ]))))
    refine mix.held_hard rfl (fun K hK => ?_); go_simp
    refine (LK2.out _).mono ?_
    rintro e W3 ⟨rfl, b3⟩
    have HS3 : Hid ((fun w' => w'.cell? ⟨w.heap.size, 0, none⟩ = some (.int .i64 c.d) ∧ w'.cell? ⟨w.heap.size, 1, none⟩ = some (.slice (some ⟨b, off, none⟩) ch.wsl ch.wsc) ∧ w'.cell? ⟨w.heap.size, 2, none⟩ = some (.slice (some ⟨b', off', none⟩) ch.msl ch.msc) ∧ w'.cell? ⟨w.heap.size, 3, none⟩ = some (.int .i64 c.dl) ∧ w'.cell? ⟨w.heap.size, 4, none⟩ = some (.int .i64 c.lt) ∧ w'.cell? ⟨w.heap.size + 1, 0, none⟩ = some (.int .i64 (i : Int)) ∧ w'.cell? ⟨w.heap.size + 1, 1, none⟩ = some (.int .i64 (j : Int)) ∧ w'.cell? ⟨w.heap.size + 1, 2, none⟩ = some (.int .i64 start) ∧ w'.cell? ⟨w.heap.size + 1, 3, none⟩ = some (.slice h.keya h.keyl h.keyc) ∧ w'.cell? ⟨b, off + i * 2 + 1, none⟩ = some (.int .i64 x.2) ∧ w'.cell? ⟨b', off' + j, none⟩ = some (.int .i64 x')) W3) := by
      obtain ⟨t0, t1, t2, t3, t4, t5, t6, t7, t8, t9, t10⟩ := HS.out
      exact ⟨keepc b3 K1.out.lt t0, keepc b3 K1.out.lt t1, keepc b3 K1.out.lt t2, keepc b3 K1.out.lt t3, keepc b3 K1.out.lt t4, keepc b3 M1.out.lt t5, keepc b3 M1.out.lt t6, keepc b3 M1.out.lt t7, keepc b3 M1.out.lt t8,
        keepc b3 (Nat.lt_of_lt_of_le hbl B1.out.size) t9, keepc b3 (Nat.lt_of_lt_of_le hbl' B1.out.size) t10⟩
    have B3 := Lib.hid (B1.out.drew.trans (b3.mono B1.out.size))
    have D3 := Lib.hid HS3.out.2.2.2.2.2.2.2.2.1
    have L3 := Lib.hid (show w.heap.size + 1 < W3.heap.size from Nat.lt_of_lt_of_le M1.out.lt b3.size)
    clear b3
    refine hK.out _ _ (HS3.out) (fun hSw => ?_); clear hK K hSw; (try simp only [Act.put, List.setIfInBounds_toArray, List.set_cons_zero, List.set_cons_succ])
    clear HS3
    (repeat (first | (apply mix.held_take; (· rfl); (· rfl); (· (intro w' hSw; (try dsimp only at hSw); go_simp; try with_reducible rfl)); (try simp only [Act.put, List.setIfInBounds_toArray, List.set_cons_zero, List.set_cons_succ])) | ((refine mix.held_pass rfl (by rfl) ?_); (try simp only [Act.put, List.setIfInBounds_toArray, List.set_cons_zero, List.set_cons_succ]))))
    refine mix.held_end ?_
    obtain ⟨r, hr⟩ : ∃ r, key.all dimB = r := ⟨_, rfl⟩
    have HRR := Lib.hid hr
    have FIN := Lib.hid (show (decide (d = 0) && true && (((h.keyl : Int) == on) && key.all dimB)) = r by rw [decide_eq_true HD.out, HNE.out, hr]; simp)
    clear hr hne' hdz wd n1 n2 hdm w1 w2 hq1 hq2 hi2 hi0 hj2 hj0
    have hkz := HKZ.out
    go_wp2_with fail
    go_loopg [5] h.keyl (fun k z wr => ∃ n : Nat, n + k = h.keyl ∧ z = .int .i64 n ∧ Below W3.heap.size W3 wr ∧ (key.take n).all dimB = true)
    case atStart => exact ⟨0, by omega, rfl, Below.refl _ _, by simp⟩
    case round =>
      obtain ⟨n, hn, rfl, hb, hno⟩ := hrel
      have HB := Lib.hid hb
      have HN := Lib.hid hno
      have d3 := (hb.cell (p := ⟨w.heap.size + 1, 3, none⟩) L3.out).trans D3.out
      clear hno
      by_cases hlt : n < h.keyl
      case neg =>
        clear hb
        obtain rfl : n = h.keyl := by omega
        have E : Hid (r = true) := by
          show r = true
          have := HN.out
          rw [List.take_of_length_le (by rw [LN.out]; omega)] at this
          rw [← HRR.out, this]
        go_wp2_with fail
        go_ret
        exact ⟨ret_bool (by rw [FIN.out, E.out]), B3.out.trans (HB.out.mono B3.out.size)⟩
      obtain ⟨b2, off2, y, f2, cs2, hab, hbl2, hx2, hcl2, hR2, hc2⟩ := HQ0.out.at hlt
      obtain ⟨rfl, rfl⟩ := hR2
      rw [hab] at d3
      have hcell : wr.cell? ⟨b2, off2 + n, none⟩ = some (.int .i64 y) := by
        have := ((B3.out.trans (hb.mono B3.out.size)).cell (p := ⟨b2, off2 + n * 1 + 0, none⟩) hbl2).trans (hc2 0 (by omega))
        simpa using this
      have hlt2 : (n : Int) < (h.keyl : Int) := by omega
      have h02 : (0 : Int) ≤ (n : Int) := by omega
      have hg : key.getD n 0 = y := by rw [List.getD_eq_getElem?_getD, hx2]; rfl
      have HX := Lib.hid hg
      clear hb hx2 hc2 hg hab
      cases hp : dimB y with
      | false =>
        have HP := Lib.hid (all_no (p := dimB) (d := 0) (show n < key.length by rw [LN.out]; omega) (by rw [HX.out]; exact hp))
        have hp' : decide (0 ≤ y ∧ y ≤ 99) = false := hp
        go_wp2_with (go_at_call 56; refine (between_is hp' _).mono ?_; rintro e w' ⟨rfl, rfl⟩)
        go_ret
        exact ⟨ret_bool (by rw [FIN.out, ← HRR.out, HP.out]), B3.out.trans (HB.out.mono B3.out.size)⟩
      | true =>
        have HP := Lib.hid (all_take_succ (p := dimB) (d := 0) (show n < key.length by rw [LN.out]; omega) HN.out (by rw [HX.out]; exact hp))
        have hp' : decide (0 ≤ y ∧ y ≤ 99) = true := hp
        go_wp2_with (go_at_call 56; refine (between_is hp' _).mono ?_; rintro e w' ⟨rfl, rfl⟩)
        go_roundg (h.keyl - (n + 1))
        case measure => omega
        case rel => exact ⟨n + 1, by omega, by go_num, HB.out, HP.out⟩

theorem spec_Where (c : ConfD) (ch : ConfigH) (cf : List Nat) (x : PaneD) (h : PaneH) (f : List Nat) (w : World) (hc : Config.Is w c ch cf) (hp : Pane.Is w x h f) (hok : confD c = true) (hz : Pane.sz x ≤ 2000000) :
    Calls Try.prog 139 #[.agg (Config.list c ch).toArray, .agg (Pane.list x h).toArray] w fun e w' => e = .returned (.bool (whereB c x)) ∧ Below w.heap.size w w' := by
  obtain ⟨win, mask, start, key, A⟩ := x
  have hl1 : c.ws.length = ch.wsl := by obtain ⟨f0, f1, rfl, r0, _⟩ := hc; exact r0.1
  have hl2 : c.ms.length = ch.msl := by obtain ⟨f0, f1, rfl, _, _, _, r1, _⟩ := hc; exact r1.1
  have hls := conf_lens hok
  rw [hl1, hl2] at hls
  unfold whereB
  simp only [hl1, hl2]
  cases p1 : placeB ch.wsl win with
  | false => exact where_no1 c ch win mask start key A h w hls.1 p1
  | true =>
  cases p2 : placeB ch.msl mask with
  | false => exact where_no2 c ch win mask start key A h w hls.1 hls.2 p1 p2
  | true =>
  obtain ⟨i, rfl, hi⟩ := placeB_nat p1
  obtain ⟨j, rfl, hj⟩ := placeB_nat p2
  obtain ⟨u, hu⟩ : ∃ u, c.ws[i]? = some u := ⟨_, List.getElem?_eq_getElem (by rw [hl1]; exact hi)⟩
  obtain ⟨m, hm⟩ : ∃ m, c.ms[j]? = some m := ⟨_, List.getElem?_eq_getElem (by rw [hl2]; exact hj)⟩
  have := where_yes c ch cf i j start key A h f w hc hp hok hi hj hu hm hz
  simp only [startB, keyB, Int.toNat_natCast, hu, hm, Bool.true_and]
  exact this
end Go.Proofs.Ytoglclmaacjdaaa.dat
