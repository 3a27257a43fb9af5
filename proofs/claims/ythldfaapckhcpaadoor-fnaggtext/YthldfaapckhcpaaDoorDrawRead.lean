/-
  THE DRAWS: the contract of DrawAggRead: some short text, whatever the code; nothing that was there is written.
  Condition: the code is a slice of bytes, at most 2,000,000 of them.
-/
import Derived.Test.YthldfaapckhcpaaDoorDrawText
namespace Go.Proofs.YthldfaapckhcpaaDoor.cur
open Go.RowKit
open Go.Proofs.YthldfaapckhcpaaDoor.agg (Q)
open Go.Proofs.YthldfaapckhcpaaDoor.num (spec_AggText aggText)

set_option maxHeartbeats 4000000 in
set_option maxRecDepth 100000 in
theorem DrawAggRead_any (a : Option Addr) (len cap : Nat) (w : World) (hle : len ≤ 2000000) (hcode : Code w a len) :
    Calls Tryd.prog 12 #[.slice a len cap] w (Text w) := by
  have HK := Lib.hid hcode
  clear hcode
  go_enter Tryd.func12, Tryd.ntmps12
  go_wp2_with fail
  refine (l01Open_any _ _ _ _ hle).mono ?_
  rintro e w1 ⟨rfl, rfl⟩
  have H1 := Lib.hid (curs_open (cap := cap) hle HK.out)
  have HO1 : Hid (Below w.heap.size w (w.alloc (.cells #[.slice a len cap, .int .i64 0, .int .i64 (71 + (len : Int) % 1000)] 56))) := (Below.refl _ _).alloc (Nat.le_refl _) _
  generalize w.alloc (.cells #[.slice a len cap, .int .i64 0, .int .i64 (71 + (len : Int) % 1000)] 56) = w1 at *
  clear HK
  go_wp2_with fail
  refine (agg_any _ _ _ _ 0 _ (by omega) H1.out).mono ?_
  rintro e w2 ⟨q, rfl, hc2, ho2⟩
  have H2 := Lib.hid hc2
  have HO2 := Lib.hid ((Only.of_below HO1.out).trans ho2)
  clear hc2 ho2 H1 HO1
  go_wp2_with fail
  refine (spec_AggText q.n q.s q.mn q.mx _).mono ?_
  rintro e w3 ⟨rfl, hb3⟩
  have H3 := Lib.hid (H2.out.below hb3)
  have HO3 := Lib.hid (HO2.out.then_below hb3 (Nat.le_of_lt H2.out.lt))
  clear hb3
  obtain ⟨s, hs⟩ : ∃ s : ByteArray, s = ⟨(aggText q.n q.s q.mn q.mx).toArray⟩ := ⟨_, rfl⟩
  have hsz : s.size ≤ 50 := by
    rw [hs]
    have := aggText_short q.n q.s q.mn q.mx
    simpa [ByteArray.size] using this
  rw [← hs]
  clear hs H2 HO2
  go_wp2_with fail
  refine (once_any _ _ _ _ _ 3 _ (by omega) H3.out).mono ?_
  rintro e w4 ⟨t, rfl, hc4, ho4⟩
  have H4 := Lib.hid hc4
  have HO4 := Lib.hid (HO3.out.trans ho4)
  clear hc4 ho4 H3 HO3
  cases t
  · go_wp2_with fail
    go_ret
    exact ⟨s, rfl, by omega, HO4.out.below (Nat.le_refl _) (Nat.le_refl _)⟩
  · go_wp2_with fail
    refine (pick_any _ _ _ _ _ _ _ (by omega) H4.out).mono ?_
    rintro e w5 ⟨k, rfl, k0, k1, hc5, ho5⟩
    have k2 : k ≤ s.size := by omega
    obtain ⟨k', rfl⟩ : ∃ k' : Nat, k = k' := ⟨k.toNat, by omega⟩
    have H5 := Lib.hid hc5
    have HO5 := Lib.hid (HO4.out.trans ho5)
    clear hc5 ho5 H4 HO4 k1 k0
    go_wp2_with fail
    have hsel := sel5_cell
    have hsel2 := sel5_arr
    have hsz5 := sel5_size
    have hg5 := H5.out.lt
    have n5 : ¬ w5.heap.size = w.heap.size := by omega
    go_region_with (first | (go_at_call 29; refine (pick_any w.heap.size a len cap (0 + 20 + 1 + 1 + 1) 2 _ (by omega) (hc6.belowB (B := w6.heap.size) (by repeat (first | exact Below.refl _ _ | refine Below.setCell ?_ (by first | omega | (simp; done) | (simp; omega)) _ | refine Below.alloc ?_ (by first | omega | (simp; done) | (simp; omega)) _ | apply Below.drew)) g6)).mono ?_; (rintro e w7 ⟨j, rfl, jj0, jj1, hc7, ho7⟩); have j2 : j < 2 := (by omega); have kw : IntKind.i64.wrap ((k' : Int) + j) = (k' : Int) + j := IntWalk.i64_in _ (by omega); obtain ⟨mm, hmm, hm1⟩ : ∃ mm : Nat, min (s.size : Int) ((k' : Int) + j) = (mm : Int) ∧ mm ≤ s.size := ⟨(min (s.size : Int) ((k' : Int) + j)).toNat, (by omega), (by omega)⟩; have g7 := hc7.lt; have k7 := fun (b o : Nat) (h1 : b < _) (h2 : ¬ b = w.heap.size) => ho7.cell (b := b) (o := o) h1 h2) | (go_at_call 29; refine (pick_any w.heap.size a len cap (0 + 20 + 1 + 1) 5 _ (by omega) (H5.out.belowB (B := w5.heap.size) (by repeat (first | exact Below.refl _ _ | refine Below.setCell ?_ (by first | omega | (simp; done) | (simp; omega)) _ | refine Below.alloc ?_ (by first | omega | (simp; done) | (simp; omega)) _ | apply Below.drew)) hg5)).mono ?_; (rintro e w6 ⟨r, rfl, rr0, rr1, hc6, ho6⟩); have r5 : r < 5 := (by omega); have g6 := hc6.lt; have n6 : ¬ w6.heap.size = w.heap.size := (by omega); have z6 : w5.heap.size ≤ w6.heap.size := Nat.le_trans (by first | exact Nat.le_refl _ | (simp; done)) ho6.size; have y6 : _ ≤ w6.heap.size := ho6.size; simp [go_sem, Nat.add_one_le_iff] at y6; have k6 := fun (b o : Nat) (h1 : b < _) (h2 : ¬ b = w.heap.size) => ho6.cell (b := b) (o := o) h1 h2))
    all_goals (
      have o56 : Only w.heap.size w5 w6 := Only.trans (by repeat (first | exact Only.refl _ w5 | apply Only.drew | refine Only.alloc ?_ _)) ho6
      have o67 : Only w.heap.size w6 w7 := Only.trans (by repeat (first | exact Only.refl _ w6 | apply Only.drew | refine Only.alloc ?_ _)) ho7
      have HB7 := Lib.hid (((HO5.out.trans o56).trans o67).below (B := w.heap.size) (Nat.le_refl _) (Nat.le_refl _))
      clear k6 k7 hsel hsel2 hc6 hc7 ho6 ho7 o56 o67 H5 HO5
      go_wp2_with fail
      go_ret
      refine ⟨_, rfl, ?_, ?_⟩
      · simp only [ByteArray.size_append, ByteArray.size_extract, hsz5]; omega
      · repeat (first | exact HB7.out | refine Below.alloc ?_ (by first | exact HB7.out.size | (have := HB7.out.size; simp; omega)) _ | apply Below.drew))
end Go.Proofs.YthldfaapckhcpaaDoor.cur
