/-
  THE CONTRACT OF l07Pane of the model: the words of a pane, a blank ahead of each; nothing that was there is written.
-/
import Derived.Test.YtemefahhogdoaaaDoorRowSpec
import Derived.Test.YtemefahhogdoaaaDoorAggText
import Derived.Test.YtemefahhogdoaaaDoorDataPanes
import Derived.Test.YtemefahhogdoaaaDoorMixOrd
namespace Go.Proofs.YtemefahhogdoaaaDoor.dat
open Go.RowKit Go.Proofs.YtemefahhogdoaaaDoor.win
open Go.Proofs.YtemefahhogdoaaaDoor.num (Texted NumText_spec aggText spec_AggText)

theorem four_row (w : World) (p q r s : Int) (t : TypeId) : GRow 1 RInt (w.alloc (.cells #[.int .i64 p, .int .i64 q, .int .i64 r, .int .i64 s] t)) (some ⟨w.heap.size, 0, none⟩) 4 [p, q, r, s] [w.heap.size] := by
  refine ⟨rfl, .inr ⟨w.heap.size, 0, [[], [], [], []], rfl, by simp, rfl, rfl, fun i x f hx hf => ?_⟩⟩
  have hi : i = 0 ∨ i = 1 ∨ i = 2 ∨ i = 3 := by
    have := (List.getElem?_eq_some_iff.1 hx).1
    simp at this; omega
  have HB := blk_new w t [.int .i64 p, .int .i64 q, .int .i64 r, .int .i64 s]
  rcases hi with rfl | rfl | rfl | rfl <;> simp at hx hf <;> subst hx hf <;> refine ⟨[.int .i64 _], rfl, ⟨rfl, rfl⟩, fun j hj => ?_⟩ <;> (obtain rfl : j = 0 := by omega) <;> first | exact HB.cell 0 | exact HB.cell 1 | exact HB.cell 2 | exact HB.cell 3
/-- The words of a pane, a blank ahead of each. -/
def paneWords (x : PaneD) : List UInt8 := behind [x.win, x.mask, x.start, x.key.length] ++ behind x.key ++ [32] ++ aggText x.a.n x.a.sm x.a.mn x.a.mx

theorem pane_cells {w' : World} {b : Nat} {x : PaneD} {h : PaneH} (m1 : Blk w' b 39 (Pane.list x h)) : w'.cell? ⟨b, 0, none⟩ = some (.int .i64 x.win) ∧ w'.cell? ⟨b, 1, none⟩ = some (.int .i64 x.mask) ∧ w'.cell? ⟨b, 2, none⟩ = some (.int .i64 x.start) ∧ w'.cell? ⟨b, 3, none⟩ = some (.slice h.keya h.keyl h.keyc) ∧ w'.cell? ⟨b, 4, none⟩ = some (.int .i64 x.a.n) ∧ w'.cell? ⟨b, 5, none⟩ = some (.int .i64 x.a.sm) ∧ w'.cell? ⟨b, 6, none⟩ = some (.int .i64 x.a.mn) ∧ w'.cell? ⟨b, 7, none⟩ = some (.int .i64 x.a.mx) := by
  have x0 := m1.cell 0
  have x1 := m1.cell 1
  have x2 := m1.cell 2
  have x3 := m1.cell 3
  have x4 := m1.cell 4
  have x5 := m1.cell 5
  have x6 := m1.cell 6
  have x7 := m1.cell 7
  simp [Pane.list] at x0 x1 x2 x3 x4 x5 x6 x7
  exact ⟨x0, x1, x2, x3, x4, x5, x6, x7⟩

set_option maxRecDepth 100000 in
set_option maxHeartbeats 2000000 in
theorem l07Pane_spec (x : PaneD) (h : PaneH) (fp : List Nat) (w : World) (hI : Pane.Is w x h fp) (h64 : W64 [x.win, x.mask, x.start]) (hk64 : W64 x.key) (hkl : h.keyl ≤ 2000000) (hal : (aggText x.a.n x.a.sm x.a.mn x.a.mx).length ≤ 1000) :
    Calls Tryd.prog 11 #[.agg (Pane.list x h).toArray] w (Texted (paneWords x) w) := by
  have HR := Lib.hid hI
  have HKL : x.key.length = h.keyl := by obtain ⟨f0, rfl, r0, _, _⟩ := hI; exact r0.1
  have H4 : W64 [x.win, x.mask, x.start, (h.keyl : Int)] := by
    intro y hy
    simp at hy
    rcases hy with rfl | rfl | rfl | rfl
    · exact h64 _ (by simp)
    · exact h64 _ (by simp)
    · exact h64 _ (by simp)
    · omega
  obtain ⟨t4, ht4⟩ : ∃ t, behind [x.win, x.mask, x.start, (h.keyl : Int)] = t := ⟨_, rfl⟩
  obtain ⟨tk, htk⟩ : ∃ t, behind x.key = t := ⟨_, rfl⟩
  obtain ⟨ta, hta⟩ : ∃ t, aggText x.a.n x.a.sm x.a.mn x.a.mx = t := ⟨_, rfl⟩
  have l4 : t4.length ≤ 100 := by have := behind_len H4; rw [ht4] at this; simp at this; omega
  have lk : tk.length ≤ 50000000 := by have := behind_len hk64; rw [htk, HKL] at this; omega
  rw [hta] at hal
  have HP : Hid (paneWords x = t4 ++ tk ++ [32] ++ ta) := by unfold paneWords; rw [HKL, ht4, htk, hta]; exact Lib.hid rfl
  rw [HP.out]
  have N4 := Lib.hid (And.intro H4 ht4)
  have NK := Lib.hid (And.intro hk64 htk)
  have NA := Lib.hid hta
  have k1 := cat_two_b t4 tk (by omega) (by omega) ⟨t4.toArray⟩ ⟨tk.toArray⟩ rfl rfl
  have k2 := cat_two_b (t4 ++ tk) [32] (by simp; omega) (by simp) (bstr (t4 ++ tk)) ⟨#[32]⟩ rfl rfl
  have k3 := cat_two_b (t4 ++ tk ++ [32]) ta (by simp; omega) (by omega) (bstr (t4 ++ tk ++ [32])) ⟨ta.toArray⟩ rfl rfl
  obtain ⟨T, hT⟩ : ∃ T, t4 ++ tk ++ [32] ++ ta = T := ⟨_, rfl⟩
  rw [hT] at k3 ⊢
  obtain ⟨T2, hT2⟩ : ∃ T, t4 ++ tk ++ [32] = T := ⟨_, rfl⟩
  rw [hT2] at k2 k3
  obtain ⟨T1, hT1⟩ : ∃ T, t4 ++ tk = T := ⟨_, rfl⟩
  rw [hT1] at k1 k2
  clear hT hT1 hT2 HP
  have KC := Lib.hid (And.intro k1 (And.intro k2 k3))
  clear hI h64 hk64 H4 ht4 htk hta HKL k1 k2 k3
  simp only [Pane.list]
  go_enter Tryd.func11, Tryd.ntmps11
  go_wp2_with fail
  refine wp_gen (fun W => Below w.heap.size w W ∧ Blk W w.heap.size 39 (Pane.list x h)) ⟨by repeat (first | exact Below.refl _ _ | refine Below.setCell ?_ (by first | omega | (simp; done) | (simp; omega)) _ | refine Below.alloc ?_ (by first | omega | (simp; done) | (simp; omega)) _ | apply Below.drew), by unfold Pane.list; with_reducible (repeat (first | (refine blk_new_at _ _ _ _ ?_; first | rfl | (simp; done)) | refine Blk.alloc ?_ _ | apply Blk.drew | refine Blk.setOther ?_ (by first | (simp; done) | (simp; omega)) _))⟩ ?_
  rintro W1 ⟨b1, m1⟩
  have B1 := Lib.hid b1
  have M1 := Lib.hid m1
  have x0 := m1.cell 0
  have x1 := m1.cell 1
  have x2 := m1.cell 2
  have x3 := m1.cell 3
  have x4 := m1.cell 4
  have x5 := m1.cell 5
  have x6 := m1.cell 6
  have x7 := m1.cell 7
  simp [Pane.list] at x0 x1 x2 x3 x4 x5 x6 x7
  have Z1 := Lib.hid (show w.heap.size < W1.heap.size from m1.lt)
  clear b1 m1
  refine mix.wp_region_ord (fun w' => w'.cell? ⟨w.heap.size, 0, none⟩ = some (.int .i64 x.win) ∧ w'.cell? ⟨w.heap.size, 1, none⟩ = some (.int .i64 x.mask) ∧ w'.cell? ⟨w.heap.size, 2, none⟩ = some (.int .i64 x.start) ∧ w'.cell? ⟨w.heap.size, 3, none⟩ = some (.slice h.keya h.keyl h.keyc) ∧ w'.cell? ⟨w.heap.size, 4, none⟩ = some (.int .i64 x.a.n) ∧ w'.cell? ⟨w.heap.size, 5, none⟩ = some (.int .i64 x.a.sm) ∧ w'.cell? ⟨w.heap.size, 6, none⟩ = some (.int .i64 x.a.mn) ∧ w'.cell? ⟨w.heap.size, 7, none⟩ = some (.int .i64 x.a.mx)) [9,10,13,18] [0,1,2,3,4,5,6,7,8,11,12,16,17,9,10,13,14,15,18,19,20] (by kernel_rfl) (by kernel_rfl) (fun _ _ d _ _ h => by cases d <;> exact h) ⟨x0, x1, x2, x3, x4, x5, x6, x7⟩ ?_
  clear x0 x1 x2 x3 x4 x5 x6 x7
  simp only [List.filterMap_cons, List.filterMap_nil, List.getElem?_cons_zero, List.getElem?_cons_succ, Option.map_some]
  (repeat (first | (apply mix.ord_take; (· rfl); (· rfl); (· (intro w' hSw; (try dsimp only at hSw); go_simp; try with_reducible rfl)); (try simp only [Act.put, List.setIfInBounds_toArray, List.set_cons_zero, List.set_cons_succ])) | ((refine mix.ord_pass rfl (by rfl) ?_); (try simp only [Act.put, List.setIfInBounds_toArray, List.set_cons_zero, List.set_cons_succ]))))
  refine mix.ord_hard rfl (fun K hK => ?_); go_simp
  have G4 := Lib.hid ((four_row W1 x.win x.mask x.start (h.keyl : Int) 3).keep local_int (w' := (W1.alloc (.cells #[.int .i64 x.win, .int .i64 x.mask, .int .i64 x.start, .int .i64 (h.keyl : Int)] 3)).drew) (fun b _ => rfl))
  have b2 : Below W1.heap.size W1 (W1.alloc (.cells #[.int .i64 x.win, .int .i64 x.mask, .int .i64 x.start, .int .i64 (h.keyl : Int)] 3)).drew := ((Below.refl _ _).alloc (Nat.le_refl _) _).drew
  generalize (W1.alloc (.cells #[.int .i64 x.win, .int .i64 x.mask, .int .i64 x.start, .int .i64 (h.keyl : Int)] 3)).drew = W2 at *
  have M2 := Lib.hid (M1.out.below b2 M1.out.lt)
  have B2 := Lib.hid (B1.out.trans (b2.mono B1.out.size))
  have S2 := Lib.hid (pane_cells M2.out)
  clear b2 M1 B1
  refine hK.out _ _ (S2.out) (fun hSw => ?_); clear hK K hSw; (try simp only [Act.put, List.setIfInBounds_toArray, List.set_cons_zero, List.set_cons_succ])
  (repeat (first | (apply mix.ord_take; (· rfl); (· rfl); (· (intro w' hSw; (try dsimp only at hSw); go_simp; try with_reducible rfl)); (try simp only [Act.put, List.setIfInBounds_toArray, List.set_cons_zero, List.set_cons_succ])) | ((refine mix.ord_pass rfl (by rfl) ?_); (try simp only [Act.put, List.setIfInBounds_toArray, List.set_cons_zero, List.set_cons_succ]))))
  refine mix.ord_hard rfl (fun K hK => ?_); go_simp
  refine (l07Nums_spec _ 4 4 _ _ W2 (by omega) G4.out N4.out.1).mono ?_
  rintro e W3 ⟨rfl, b3⟩
  rw [N4.out.2]
  have M3 := Lib.hid (M2.out.below b3 M2.out.lt)
  have B3 := Lib.hid (B2.out.trans (b3.mono B2.out.size))
  have S3 := Lib.hid (pane_cells M3.out)
  clear b3 M2 B2
  clear G4 N4 S2
  refine hK.out _ _ (S3.out) (fun hSw => ?_); clear hK K hSw; (try simp only [Act.put, List.setIfInBounds_toArray, List.set_cons_zero, List.set_cons_succ])
  (repeat (first | (apply mix.ord_take; (· rfl); (· rfl); (· (intro w' hSw; (try dsimp only at hSw); go_simp; try with_reducible rfl)); (try simp only [Act.put, List.setIfInBounds_toArray, List.set_cons_zero, List.set_cons_succ])) | ((refine mix.ord_pass rfl (by rfl) ?_); (try simp only [Act.put, List.setIfInBounds_toArray, List.set_cons_zero, List.set_cons_succ]))))
  refine mix.ord_hard rfl (fun K hK => ?_); go_simp
  obtain ⟨f0, rfl, r0, u0, v0⟩ := HR.out
  refine (l07Nums_spec _ h.keyl h.keyc x.key _ W3 (by omega) (GRow.below local_int r0 B3.out) NK.out.1).mono ?_
  rintro e W4 ⟨rfl, b4⟩
  rw [NK.out.2]
  have M4 := Lib.hid (M3.out.below b4 M3.out.lt)
  have B4 := Lib.hid (B3.out.trans (b4.mono B3.out.size))
  have S4 := Lib.hid (pane_cells M4.out)
  clear b4 M3 B3
  clear r0 u0 v0 NK S3
  have k1 := KC.out.1
  have k2 := KC.out.2.1
  have k3 := KC.out.2.2
  refine hK.out _ _ (S4.out) (fun hSw => ?_); clear hK K hSw; (try simp only [Act.put, List.setIfInBounds_toArray, List.set_cons_zero, List.set_cons_succ])
  (repeat (first | (apply mix.ord_take; (· rfl); (· rfl); (· (intro w' hSw; (try dsimp only at hSw); go_simp; try with_reducible rfl)); (try simp only [Act.put, List.setIfInBounds_toArray, List.set_cons_zero, List.set_cons_succ])) | ((refine mix.ord_pass rfl (by rfl) ?_); (try simp only [Act.put, List.setIfInBounds_toArray, List.set_cons_zero, List.set_cons_succ]))))
  refine mix.ord_hard rfl (fun K hK => ?_); go_simp
  refine (spec_AggText _ _ _ _ W4).mono ?_
  rintro e W5 ⟨rfl, b5⟩
  rw [NA.out]
  have M5 := Lib.hid (M4.out.below b5 M4.out.lt)
  have B5 := Lib.hid (B4.out.trans (b5.mono B4.out.size))
  have S5 := Lib.hid (pane_cells M5.out)
  clear b5 M4 B4
  refine hK.out _ _ (S5.out) (fun hSw => ?_); clear hK K hSw; (try simp only [Act.put, List.setIfInBounds_toArray, List.set_cons_zero, List.set_cons_succ])
  (repeat (first | (apply mix.ord_take; (· rfl); (· rfl); (· (intro w' hSw; (try dsimp only at hSw); go_simp; try with_reducible rfl)); (try simp only [Act.put, List.setIfInBounds_toArray, List.set_cons_zero, List.set_cons_succ])) | ((refine mix.ord_pass rfl (by rfl) ?_); (try simp only [Act.put, List.setIfInBounds_toArray, List.set_cons_zero, List.set_cons_succ]))))
  refine mix.ord_end ?_
  go_wp2_with fail
  go_ret
  exact ⟨rfl, B5.out⟩
end Go.Proofs.YtemefahhogdoaaaDoor.dat
