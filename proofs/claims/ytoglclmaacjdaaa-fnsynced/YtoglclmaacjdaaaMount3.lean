/-
  A DISK AT WORK (program): its Disk again, in new memory.
-/
import Derived.Test.YtoglclmaacjdaaaMount2
namespace Go.Proofs.Ytoglclmaacjdaaa.dat
open Go.RowKit Go.Proofs.Ytoglclmaacjdaaa.win

theorem keep_row {w w' : World} {a : Option Addr} {len : Nat} {l : List FileD} {fp : List Nat} (h : GRow 1 RNamed w a len l fp) (hb : Below w.heap.size w w') : GRow 1 RNamed w' a len l fp := h.below local_Named hb
set_option maxRecDepth 100000 in
set_option maxHeartbeats 4000000 in
theorem disk_ (a : Option Addr) (len cap : Nat) (l : List FileD) (fp : List Nat) (w : World) (hrow : GRow 1 RNamed w a len l fp) (hlen : len ≤ 1000) (hsz : ∀ x ∈ l, x.name.size ≤ 9223372036854775807 ∧ x.safe.size ≤ 9223372036854775807 ∧ x.now.size ≤ 9223372036854775807) :
    Calls Try.prog 54 #[.slice a len cap] w (CopiedDisk w ⟨l⟩) := by
  have HX := Lib.hid hrow
  have HS := Lib.hid hsz
  clear hrow hsz
  go_enter Try.func54, Try.ntmps54
  go_wp2_with fail
  go_loopg [8] len (fun k iv wr => ∃ (j : Nat) (v : Value), j + k = len ∧ iv = .int .i64 j ∧ Blk wr w.heap.size 26 [.slice none 0 0] ∧ Blk wr (w.heap.size + 1) 26 [v] ∧ Grows 3 RFile 40 (w.heap.size + 2) wr v (l.take j) ∧ w.heap.size + 2 ≤ wr.heap.size ∧ Below w.heap.size w wr)
  case atStart => exact ⟨0, .slice none 0 0, by omega, rfl, by with_reducible (repeat (first | (refine blk_new_at _ _ _ _ ?_; first | rfl | (simp; done)) | refine Blk.alloc ?_ _ | apply Blk.drew | refine Blk.setOther ?_ (by first | (simp; done) | (simp; omega)) _)), by with_reducible (repeat (first | (refine blk_new_at _ _ _ _ ?_; first | rfl | (simp; done)) | refine Blk.alloc ?_ _ | apply Blk.drew | refine Blk.setOther ?_ (by first | (simp; done) | (simp; omega)) _)), by simpa using Grows.nil, by simp, by repeat (first | exact Below.refl _ _ | refine Below.setCell ?_ (by first | omega | (simp; done) | (simp; omega)) _ | refine Below.alloc ?_ (by first | omega | (simp; done) | (simp; omega)) _ | apply Below.drew)⟩
  case round =>
    obtain ⟨j, v, hj, rfl, hk0, hk1, hG, hsz, hB⟩ := hrel
    have HB := Lib.hid hB
    by_cases hlt : j < len
    case neg =>
      obtain rfl : j = len := by omega
      have c0 := hk1.cell 0
      have d0 := hk0.cell 0
      have f0 := hk0.frozen
      simp at c0 d0
      have HK0 := Lib.hid hk0
      have HG := Lib.hid hG
      have HZ := Lib.hid hsz
      obtain ⟨a', cap', fp', hv, hg, hc1, hc2, ho⟩ := hG.done
      have hll : (l.take j).length = j := by rw [List.take_of_length_le (by rw [HX.out.1]; exact Nat.le_refl _)]; exact HX.out.1
      have hlt0 : l.take j = l := List.take_of_length_le (by rw [HX.out.1]; exact Nat.le_refl _)
      rw [hll] at hv hg hc1
      rw [hlt0] at hg
      subst hv
      have HD := Lib.hid (And.intro hg (And.intro hc1 (And.intro hc2 ho)))
      have HC := Lib.hid (And.intro hc1 hc2)
      clear hG hg hc1 hc2 ho hB hk0 hk1 hsz hll hlt0 HG
      go_wp2_with fail
      refine body_gen (fun W => Below w.heap.size w W ∧ Blk W w.heap.size 26 [.slice a' j cap'] ∧ GRow 3 RFile W a' j l fp' ∧ Own (w.heap.size + 2) W fp') ?_ ?_
      · refine ⟨?_, ?_, ?_, ?_⟩
        · have hb := HB.out
          have hz := HZ.out
          repeat (first | exact Below.refl _ _ | refine Below.setCell ?_ (by first | omega | (simp; done) | (simp; omega)) _ | refine Below.alloc ?_ (by first | omega | (simp; done) | (simp; omega)) _ | apply Below.drew | refine Below.trans ?_ (hb.mono (by first | omega | (simp; done) | (simp; omega))))
        · (apply Blk.of_eq; (repeat (first | (with_reducible exact HK0.out) | (with_reducible apply Blk.set) | ((with_reducible apply Blk.other); · first | (simp; done) | (simp; omega)) | (with_reducible apply Blk.drew))); rfl)
        · refine HD.out.1.keep local_File (fun q hq => ?_)
          have := (HD.out.2.2.2.2 q hq).1
          rw [Below.heap_setCell _ _ _ q (by simp; omega)]
        · exact HD.out.2.2.2.keep (fun q hq => by have := (HD.out.2.2.2.2 q hq).1; rw [Below.heap_setCell _ _ _ q (by simp; omega)])
      clear HD HK0 c0 d0 f0
      rintro W ⟨bw, kw, gw, ow⟩
      have e0 := kw.cell 0
      simp at e0
      refine bodyPost_ret (v := .agg (Disk.list ⟨l⟩ ⟨a', j, cap'⟩).toArray) (by simp [results, Try.results54, go_sem, e0, Disk.list]) rfl ?_
      exact ⟨⟨a', j, cap'⟩, fp', rfl, ⟨fp', rfl, gw, HC.out.1, HC.out.2⟩, ow.mono (by omega), bw⟩
    have hlt2 : (j : Int) < (len : Int) := by omega
    have h02 : (0 : Int) ≤ (j : Int) := by omega
    obtain ⟨b, off, x, g, rfl, hbl, hx, hg, hc⟩ := cell_named HX.out hlt
    have hcr := (hB.cell (p := ⟨b, off + j, none⟩) hbl).trans hc
    have hgr := hg.below hB hg.lt
    have c1 := hk1.cell 0
    simp at c1
    have HE := Lib.hid (show l.take (j + 1) = l.take j ++ [x] by rw [List.take_add_one, hx]; rfl)
    have HSX := Lib.hid (HS.out x (List.mem_of_getElem? hx))
    have hwl : (l.take j).length ≤ j := by simp; omega
    have HG := Lib.hid hG
    have HK0 := Lib.hid hk0
    have HK1 := Lib.hid hk1
    have HZ := Lib.hid hsz
    have HGR := Lib.hid hgr
    clear hG hB hc hx hg hk0 hk1 hgr
    go_wp2_with fail
    refine mix.wp_region_tail (fun w' => w'.cell? ⟨w.heap.size + 1, 0, none⟩ = some v) [3,4,5] [0,1,2,3,4,5,6] (by kernel_rfl) (by kernel_rfl) (fun _ _ d _ _ h => by cases d <;> exact h) c1 ?_
    simp only [List.filterMap_cons, List.filterMap_nil, List.getElem?_cons_zero, List.getElem?_cons_succ, Option.map_some]
    (repeat (apply mix.ordt_take; (· rfl); (· rfl); (· (intro w' hSw; (try dsimp only at hSw); go_simp; try with_reducible rfl)); (try simp only [Act.put, List.setIfInBounds_toArray, List.set_cons_zero, List.set_cons_succ])))
    refine mix.ordt_hard rfl (fun K hK => ?_); go_simp
    refine (file_ x g wr.drew (show Blk wr.drew g 101 (Named.list x) from HGR.out)).mono ?_
    rintro e W6 ⟨rfl, b6⟩
    have hw6 : wr.heap.size ≤ W6.heap.size := b6.size
    have b6' : Below wr.heap.size wr W6 := (show Below wr.heap.size wr wr.drew by repeat (first | exact Below.refl _ _ | refine Below.setCell ?_ (by first | omega | (simp; done) | (simp; omega)) _ | refine Below.alloc ?_ (by first | omega | (simp; done) | (simp; omega)) _ | apply Below.drew)).trans b6
    have K1 := Lib.hid (HK1.out.below b6' HK1.out.lt)
    have K0 := Lib.hid (HK0.out.below b6' HK0.out.lt)
    have G6 := Lib.hid (HG.out.below local_File b6')
    have B6 := Lib.hid (HB.out.trans (b6'.mono HB.out.size))
    have Z6 := Lib.hid (Nat.le_trans HZ.out hw6)
    have d1 := K1.out.cell 0
    have x6 := K1.out.lt
    simp at d1
    clear b6 b6' hw6 c1 HG HK0 HK1 HB
    simp only [File.list]
    refine hK.out _ _ (by exact d1) (fun hSw => ?_); clear hK K hSw; (try simp only [Act.put, List.setIfInBounds_toArray, List.set_cons_zero, List.set_cons_succ])
    refine mix.ordt_hard rfl (fun K hK => ?_); go_simp
    have hb7 : Below W6.heap.size W6 (W6.alloc (.cells #[.string x.name, .string x.safe, .string x.now] 40)) := (Below.refl _ _).alloc (Nat.le_refl _) _
    have d2 : (W6.alloc (.cells #[.string x.name, .string x.safe, .string x.now] 40)).cell? ⟨w.heap.size + 1, 0, none⟩ = some v := (hb7.cell (p := ⟨w.heap.size + 1, 0, none⟩) x6).trans d1
    refine hK.out _ _ (by exact d2) (fun hSw => ?_); clear hK K hSw; (try simp only [Act.put, List.setIfInBounds_toArray, List.set_cons_zero, List.set_cons_succ])
    obtain ⟨i0, hi, hi2⟩ := Option.map_eq_some_iff.1 info_File
    simp only [Prod.mk.injEq] at hi2
    obtain ⟨hz0, hz1, hz2⟩ := hi2
    refine mix.ordt_hardb rfl rfl (fun K hK => ?_)
    have hz6 := Z6.out
    refine push_wp (v := v) local_File _ _ 24 rfl i0 _ 48 Try.underlying24 hi hz0 hz1 hz2 rfl (by decide) rfl G6.out hb7 W6.heap.size 1 rfl [.string x.name, .string x.safe, .string x.now] rfl (fun u hu => by simp at hu; rcases hu with rfl | rfl | rfl <;> rfl) (fun q u hq => ?_) x [] ⟨rfl, HSX.out.1, HSX.out.2.1, HSX.out.2.2, rfl⟩ Own.nil (by omega) (by unfold maxLen; omega) Z6.out ?_
    · exact ((blk_new W6 40 [.string x.name, .string x.safe, .string x.now]).cell q).trans hq
    intro v8 W8 hG8 hb8 hk8 hw8
    obtain ⟨a8, cap8, hv8⟩ := hG8.slice
    subst hv8
    generalize hn8 : (l.take j ++ [x]).length = n8 at *
    have HN8 := Lib.hid hn8
    clear hn8
    have hB8 : Below (w.heap.size + 2) W6 W8 := ((Below.refl _ _).alloc Z6.out _).trans hb8
    have X8 := Lib.hid (K1.out.below hB8 (by omega))
    have X0 := Lib.hid (K0.out.below hB8 (by omega))
    have G8 := Lib.hid hG8
    have BB8 := Lib.hid (B6.out.trans (hB8.mono (by omega)))
    have Z8 := Lib.hid (Nat.le_trans Z6.out hB8.size)
    have d8 := X8.out.cell 0
    have f8 := X8.out.frozen
    simp at d8
    clear hk8 hw8 hb8 hG8 hB8 d1 d2 hb7 hi hz0 hz1 hz2 hz6 x6
    refine hK.out _ _ (by exact d8) (fun hSw => ?_); clear hK K hSw; (try simp only [Act.put, List.setIfInBounds_toArray, List.set_cons_zero, List.set_cons_succ])
    (repeat (apply mix.ordt_take; (· rfl); (· rfl); (· (intro w' hSw; (try dsimp only at hSw); go_simp; try with_reducible rfl)); (try simp only [Act.put, List.setIfInBounds_toArray, List.set_cons_zero, List.set_cons_succ])))
    refine mix.ordt_end ?_; refine mix.last_step (fun K hK => ?_); go_simp
    refine hK _ _ ?_
    clear hK K
    go_wp2_with fail
    go_roundg (len - (j + 1))
    case measure => omega
    case rel =>
      have hz8 := Z8.out
      have hb9 := BB8.out
      refine ⟨j + 1, _, by omega, by go_num, ?_, X8.out.set 0 _, ?_, by simpa using hz8, ?_⟩
      · with_reducible (repeat (first | exact X0.out | (refine blk_new_at _ _ _ _ ?_; first | rfl | (simp; done)) | refine Blk.alloc ?_ _ | apply Blk.drew | refine Blk.setOther ?_ (by first | (simp; done) | (simp; omega)) _))
      · rw [HE.out]
        refine G8.out.keep local_File (fun q hq1 hq2 => ?_)
        rw [Below.heap_setCell _ _ _ q (by simp; omega)]
      · repeat (first | exact Below.refl _ _ | refine Below.setCell ?_ (by first | omega | (simp; done) | (simp; omega)) _ | refine Below.alloc ?_ (by first | omega | (simp; done) | (simp; omega)) _ | apply Below.drew | refine Below.trans ?_ (hb9.mono (by first | omega | (simp; done) | (simp; omega))))
end Go.Proofs.Ytoglclmaacjdaaa.dat
