/-
  THE CONTRACT OF RowText of the model: a row's line, or nothing; nothing that was there is written.
-/
import Derived.Test.YtemefahhogdoaaaDoorRowSpec2
import Derived.Test.YtemefahhogdoaaaDoorDataStates
namespace Go.Proofs.YtemefahhogdoaaaDoor.dat
open Go.RowKit Go.Proofs.YtemefahhogdoaaaDoor.win
open Go.Proofs.YtemefahhogdoaaaDoor.num (Texted NumText_spec aggText spec_AggText)
open Go.Proofs.YtemefahhogdoaaaDoor.num (I64)
open Go.Proofs.YtemefahhogdoaaaDoor.agg (okB ok_bds okB_iff spec_AggOk)

/-- The row's pane. -/
def RowD.pane (x : RowD) : PaneD := ⟨x.win, x.mask, x.start, x.key, x.a⟩
def RowH.pane (h : RowH) : PaneH := ⟨h.keya, h.keyl, h.keyc⟩
set_option maxRecDepth 100000 in
set_option maxHeartbeats 2000000 in
theorem l06Pane_spec (x : RowD) (h : RowH) (w : World) :
    Calls Tryd.prog 12 #[.agg (Row.list x h).toArray] w fun e w' => e = .returned (.agg (Pane.list x.pane h.pane).toArray) ∧ Below w.heap.size w w' := by
  simp only [Row.list, Pane.list, RowD.pane, RowH.pane]
  go_enter Tryd.func12, Tryd.ntmps12
  go_wp2_with fail
  refine bodyPost_ret (v := .agg #[.int .i64 x.win, .int .i64 x.mask, .int .i64 x.start, .slice h.keya h.keyl h.keyc, .int .i64 x.a.n, .int .i64 x.a.sm, .int .i64 x.a.mn, .int .i64 x.a.mx]) (by simp [results, Tryd.results12, go_sem]) rfl ⟨rfl, ?_⟩
  repeat (first | exact Below.refl _ _ | refine Below.setCell ?_ (by first | omega | (simp; done) | (simp; omega)) _ | refine Below.alloc ?_ (by first | omega | (simp; done) | (simp; omega)) _ | apply Below.drew)

/-- The row's line. -/
def rowT (x : RowD) : List UInt8 := if okB x.a.n x.a.sm x.a.mn x.a.mx = true then [114, 111, 119] ++ paneWords x.pane ++ [32] ++ Lib.itoa x.times else []
theorem aggText_len (n s mn mx : Int) (h : okB n s mn mx = true) : (aggText n s mn mx).length ≤ 1000 := by
  have b := ok_bds ((okB_iff ..).1 h)
  have l1 := Lib.itoa_length_le n (by omega) (by omega)
  have l2 := Lib.itoa_length_le s (by omega) (by omega)
  have l3 := Lib.itoa_length_le mn (by omega) (by omega)
  have l4 := Lib.itoa_length_le mx (by omega) (by omega)
  unfold aggText
  rw [if_pos h]
  simp
  omega
theorem row_cells {w' : World} {b : Nat} {x : RowD} {h : RowH} (m1 : Blk w' b 31 (Row.list x h)) : w'.cell? ⟨b, 0, none⟩ = some (.int .i64 x.win) ∧ w'.cell? ⟨b, 1, none⟩ = some (.int .i64 x.mask) ∧ w'.cell? ⟨b, 2, none⟩ = some (.int .i64 x.start) ∧ w'.cell? ⟨b, 3, none⟩ = some (.slice h.keya h.keyl h.keyc) ∧ w'.cell? ⟨b, 4, none⟩ = some (.int .i64 x.a.n) ∧ w'.cell? ⟨b, 5, none⟩ = some (.int .i64 x.a.sm) ∧ w'.cell? ⟨b, 6, none⟩ = some (.int .i64 x.a.mn) ∧ w'.cell? ⟨b, 7, none⟩ = some (.int .i64 x.a.mx) ∧ w'.cell? ⟨b, 8, none⟩ = some (.int .i64 x.times) := by
  have x0 := m1.cell 0
  have x1 := m1.cell 1
  have x2 := m1.cell 2
  have x3 := m1.cell 3
  have x4 := m1.cell 4
  have x5 := m1.cell 5
  have x6 := m1.cell 6
  have x7 := m1.cell 7
  have x8 := m1.cell 8
  simp [Row.list] at x0 x1 x2 x3 x4 x5 x6 x7 x8
  exact ⟨x0, x1, x2, x3, x4, x5, x6, x7, x8⟩

set_option maxRecDepth 100000 in
set_option maxHeartbeats 2000000 in
theorem spec_RowText (x : RowD) (h : RowH) (fp : List Nat) (w : World) (hI : Row.Is w x h fp) (h64 : W64 [x.win, x.mask, x.start]) (hk64 : W64 x.key) (ht64 : I64 x.times) (hkl : h.keyl ≤ 2000000) :
    Calls Tryd.prog 5 #[.agg (Row.list x h).toArray] w (Texted (rowT x) w) := by
  have HR := Lib.hid hI
  have HW := Lib.hid (And.intro h64 (And.intro hk64 ht64))
  have HKL : x.key.length = h.keyl := by obtain ⟨f0, rfl, r0, _, _⟩ := hI; exact r0.1
  obtain ⟨T, hT⟩ : ∃ T, rowT x = T := ⟨_, rfl⟩
  rw [hT]
  have HT := Lib.hid hT
  clear hI h64 hk64 ht64 hT
  simp only [Row.list]
  go_enter Tryd.func5, Tryd.ntmps5
  go_wp2_with fail
  refine calls_gen (fun W => Below w.heap.size w W ∧ Blk W w.heap.size 31 (Row.list x h)) ⟨by repeat (first | exact Below.refl _ _ | refine Below.setCell ?_ (by first | omega | (simp; done) | (simp; omega)) _ | refine Below.alloc ?_ (by first | omega | (simp; done) | (simp; omega)) _ | apply Below.drew), by unfold Row.list; with_reducible (repeat (first | (refine blk_new_at _ _ _ _ ?_; first | rfl | (simp; done)) | refine Blk.alloc ?_ _ | apply Blk.drew | refine Blk.setOther ?_ (by first | (simp; done) | (simp; omega)) _))⟩ ?_
  rintro W1 ⟨b1, m1⟩
  refine (spec_AggOk _ _ _ _ W1).mono ?_
  rintro e W2 ⟨rfl, b2⟩
  have M2 := Lib.hid (m1.below b2 m1.lt)
  have B2 := Lib.hid (b1.trans (b2.mono b1.size))
  clear b1 m1 b2
  cases p1 : okB x.a.n x.a.sm x.a.mn x.a.mx with
  | false =>
    have hT := HT.out
    unfold rowT at hT
    rw [p1] at hT
    have HT2 := Lib.hid hT
    clear p1 HT hT HKL
    go_wp2_with fail
    go_ret
    rw [← HT2.out]
    exact ⟨rfl, B2.out⟩
  | true =>
    have hT := HT.out
    unfold rowT at hT
    rw [p1, if_pos rfl] at hT
    have hal := aggText_len _ _ _ _ p1
    obtain ⟨tp, htp⟩ : ∃ t, paneWords x.pane = t := ⟨_, rfl⟩
    have lp : tp.length ≤ 60000000 := by
      have l4 := behind_len (l := [x.win, x.mask, x.start, (x.key.length : Int)]) (by
        intro y hy
        simp at hy
        rcases hy with rfl | rfl | rfl | rfl
        · exact HW.out.1 _ (by simp)
        · exact HW.out.1 _ (by simp)
        · exact HW.out.1 _ (by simp)
        · omega)
      have lk := behind_len HW.out.2.1
      rw [HKL] at lk
      rw [← htp]
      show (behind [x.win, x.mask, x.start, (x.key.length : Int)] ++ behind x.key ++ [32] ++ aggText x.a.n x.a.sm x.a.mn x.a.mx).length ≤ _
      simp at l4 ⊢
      omega
    have lt := Lib.itoa_length_le x.times HW.out.2.2.1 HW.out.2.2.2
    rw [htp] at hT
    have k1 := cat_two_b [114, 111, 119] tp (by simp) (by omega) ⟨#[114, 111, 119]⟩ ⟨tp.toArray⟩ rfl rfl
    have k2 := cat_two_b ([114, 111, 119] ++ tp) [32] (by simp; omega) (by simp) (bstr ([114, 111, 119] ++ tp)) ⟨#[32]⟩ rfl rfl
    have k3 := cat_two_b ([114, 111, 119] ++ tp ++ [32]) (Lib.itoa x.times) (by simp; omega) (by omega) (bstr ([114, 111, 119] ++ tp ++ [32])) ⟨(Lib.itoa x.times).toArray⟩ rfl rfl
    rw [hT] at k3
    obtain ⟨T2, hT2⟩ : ∃ T, [114, 111, 119] ++ tp ++ [32] = T := ⟨_, rfl⟩
    rw [hT2] at k2 k3
    obtain ⟨T1, hT1⟩ : ∃ T, [114, 111, 119] ++ tp = T := ⟨_, rfl⟩
    rw [hT1] at k1 k2
    have KC := Lib.hid (And.intro k1 (And.intro k2 k3))
    have NP := Lib.hid (And.intro htp hal)
    clear hT hT1 hT2 HT p1 k1 k2 k3 htp hal lp lt HKL
    go_wp2_with fail
    have s0 := row_cells M2.out
    refine mix.wp_region_ord (fun w' => w'.cell? ⟨w.heap.size, 0, none⟩ = some (.int .i64 x.win) ∧ w'.cell? ⟨w.heap.size, 1, none⟩ = some (.int .i64 x.mask) ∧ w'.cell? ⟨w.heap.size, 2, none⟩ = some (.int .i64 x.start) ∧ w'.cell? ⟨w.heap.size, 3, none⟩ = some (.slice h.keya h.keyl h.keyc) ∧ w'.cell? ⟨w.heap.size, 4, none⟩ = some (.int .i64 x.a.n) ∧ w'.cell? ⟨w.heap.size, 5, none⟩ = some (.int .i64 x.a.sm) ∧ w'.cell? ⟨w.heap.size, 6, none⟩ = some (.int .i64 x.a.mn) ∧ w'.cell? ⟨w.heap.size, 7, none⟩ = some (.int .i64 x.a.mx) ∧ w'.cell? ⟨w.heap.size, 8, none⟩ = some (.int .i64 x.times)) [1,2,7] [0,5,6,1,2,3,4,7,8,9] (by kernel_rfl) (by kernel_rfl) (fun _ _ d _ _ h => by cases d <;> exact h) s0 ?_
    clear s0
    simp only [List.filterMap_cons, List.filterMap_nil, List.getElem?_cons_zero, List.getElem?_cons_succ, Option.map_some]
    (repeat (first | (apply mix.ord_take; (· rfl); (· rfl); (· (intro w' hSw; (try dsimp only at hSw); go_simp; try with_reducible rfl)); (try simp only [Act.put, List.setIfInBounds_toArray, List.set_cons_zero, List.set_cons_succ])) | ((refine mix.ord_pass rfl (by rfl) ?_); (try simp only [Act.put, List.setIfInBounds_toArray, List.set_cons_zero, List.set_cons_succ]))))
    refine mix.ord_hard rfl (fun K hK => ?_); go_simp
    refine (l06Pane_spec x h W2.drew).mono ?_
    rintro e W3 ⟨rfl, b3'⟩
    have b3 : Below W2.heap.size W2 W3 := (Below.refl _ _).drew.trans b3'
    have M3 := Lib.hid (M2.out.below b3 M2.out.lt)
    have B3 := Lib.hid (B2.out.trans (b3.mono B2.out.size))
    have S3 := Lib.hid (row_cells M3.out)
    clear b3 b3' M2 B2
    refine hK.out _ _ (S3.out) (fun hSw => ?_); clear hK K hSw; (try simp only [Act.put, List.setIfInBounds_toArray, List.set_cons_zero, List.set_cons_succ])
    (repeat (first | (apply mix.ord_take; (· rfl); (· rfl); (· (intro w' hSw; (try dsimp only at hSw); go_simp; try with_reducible rfl)); (try simp only [Act.put, List.setIfInBounds_toArray, List.set_cons_zero, List.set_cons_succ])) | ((refine mix.ord_pass rfl (by rfl) ?_); (try simp only [Act.put, List.setIfInBounds_toArray, List.set_cons_zero, List.set_cons_succ]))))
    refine mix.ord_hard rfl (fun K hK => ?_); go_simp
    obtain ⟨f0, rfl, r0, u0, v0⟩ := HR.out
    refine (l07Pane_spec x.pane h.pane _ W3 ⟨_, rfl, GRow.below local_int r0 B3.out, u0, v0⟩ HW.out.1 HW.out.2.1 hkl NP.out.2).mono ?_
    rintro e W4 ⟨rfl, b4⟩
    rw [NP.out.1]
    have M4 := Lib.hid (M3.out.below b4 M3.out.lt)
    have B4 := Lib.hid (B3.out.trans (b4.mono B3.out.size))
    have S4 := Lib.hid (row_cells M4.out)
    clear b4 M3 B3 S3 r0 u0 v0 NP
    have k1 := KC.out.1
    have k2 := KC.out.2.1
    have k3 := KC.out.2.2
    refine hK.out _ _ (S4.out) (fun hSw => ?_); clear hK K hSw; (try simp only [Act.put, List.setIfInBounds_toArray, List.set_cons_zero, List.set_cons_succ])
    (repeat (first | (apply mix.ord_take; (· rfl); (· rfl); (· (intro w' hSw; (try dsimp only at hSw); go_simp; try with_reducible rfl)); (try simp only [Act.put, List.setIfInBounds_toArray, List.set_cons_zero, List.set_cons_succ])) | ((refine mix.ord_pass rfl (by rfl) ?_); (try simp only [Act.put, List.setIfInBounds_toArray, List.set_cons_zero, List.set_cons_succ]))))
    refine mix.ord_hard rfl (fun K hK => ?_); go_simp
    refine (NumText_spec x.times W4 HW.out.2.2.1 HW.out.2.2.2).mono ?_
    rintro e W5 ⟨rfl, b5⟩
    have M5 := Lib.hid (M4.out.below b5 M4.out.lt)
    have B5 := Lib.hid (B4.out.trans (b5.mono B4.out.size))
    have S5 := Lib.hid (row_cells M5.out)
    clear b5 M4 B4
    refine hK.out _ _ (S5.out) (fun hSw => ?_); clear hK K hSw; (try simp only [Act.put, List.setIfInBounds_toArray, List.set_cons_zero, List.set_cons_succ])
    (repeat (first | (apply mix.ord_take; (· rfl); (· rfl); (· (intro w' hSw; (try dsimp only at hSw); go_simp; try with_reducible rfl)); (try simp only [Act.put, List.setIfInBounds_toArray, List.set_cons_zero, List.set_cons_succ])) | ((refine mix.ord_pass rfl (by rfl) ?_); (try simp only [Act.put, List.setIfInBounds_toArray, List.set_cons_zero, List.set_cons_succ]))))
    refine mix.ord_end ?_
    go_wp2_with fail
    go_ret
    exact ⟨rfl, B5.out⟩
end Go.Proofs.YtemefahhogdoaaaDoor.dat
