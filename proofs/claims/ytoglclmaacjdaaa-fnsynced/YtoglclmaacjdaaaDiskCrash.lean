/-
  THE CONTRACTS OF DiskCrash on both sides: what a crash leaves of each file, in new memory.
-/
import Derived.Test.YtoglclmaacjdaaaDiskSizes
import Derived.Test.YtoglclmaacjdaaaSpecSync
namespace Go.Proofs.Ytoglclmaacjdaaa.dat
open Go.RowKit Go.Proofs.Ytoglclmaacjdaaa.win

theorem isPlace_ (a : Option Addr) (n c : Nat) (k : Nat) (w : World) (_hn : n ≤ 2000000) :
    Calls Try.prog 59 #[.slice a n c, .int .i64 (k : Int)] w fun e w' => e = .returned (.bool (decide (k < n))) ∧ w' = w := by
  by_cases h : k < n
  all_goals
    have e1 := h
    have h2 : (0 : Int) ≤ (k : Int) := by omega
    first
      | have h3 : (k : Int) < (n : Int) := by omega
      | have h3 : ¬ (k : Int) < (n : Int) := by omega
    go_enter Try.func59, Try.ntmps59
    go_wp2_with fail
    go_ret
    exact ⟨ret_bool (by simp [e1] <;> omega), rfl⟩

/-- The first j files as a crash leaves them. -/
def mixC (l : List FileD) (cuts : List Int) (j : Nat) : List FileD := (crashL l cuts).take j ++ l.drop j
theorem mixC_zero (l : List FileD) (cuts : List Int) : mixC l cuts 0 = l := by simp [mixC]
theorem mixC_all {l : List FileD} (cuts : List Int) {j : Nat} (h : l.length ≤ j) : mixC l cuts j = crashL l cuts := by
  rw [mixC, List.take_of_length_le (by rw [crashL_length]; exact h), List.drop_of_length_le h, List.append_nil]
theorem mixC_at {l : List FileD} (cuts : List Int) {j : Nat} (h : j ≤ l.length) : (mixC l cuts j)[j]? = l[j]? := by
  have hl : ((crashL l cuts).take j).length = j := by rw [List.length_take, crashL_length]; omega
  rw [mixC, List.getElem?_append_right (by omega), hl, Nat.sub_self, List.getElem?_drop, Nat.add_zero]
theorem mixC_set {l : List FileD} (cuts : List Int) {j : Nat} {x : FileD} (hx : l[j]? = some x) : (mixC l cuts j).set j (crashF x (cuts.getD j 0)) = mixC l cuts (j + 1) := by
  have hj : j < l.length := (List.getElem?_eq_some_iff.1 hx).1
  have hl : ((crashL l cuts).take j).length = j := by rw [List.length_take, crashL_length]; omega
  unfold mixC
  rw [List.set_append_right _ _ (by omega), hl, Nat.sub_self, List.drop_eq_getElem_cons hj, List.set_cons_zero, crashL_take_succ cuts hx]
  simp
theorem cut_at {l : List Int} {j : Nat} {z : Int} (h : l[j]? = some z) : l.getD j 0 = z := by simp [List.getD, h]
theorem cut_none {l : List Int} {j : Nat} (h : l.length ≤ j) : l.getD j 0 = 0 := by simp [List.getD, List.getElem?_eq_none h]

set_option maxRecDepth 100000 in
set_option maxHeartbeats 4000000 in
theorem impl_DiskCrash (x : DiskD) (h : DiskH) (fp : List Nat) (ca : Option Addr) (cn cc : Nat) (cuts : List Int) (cf : List Nat) (w : World) (hin : Disk.Is w x h fp) (hrow : GRow 1 RInt w ca cn cuts cf) (_hnc : cn ≤ cc) (_hcc : cc ≤ 9223372036854775807) (hmax : Disk.sz x ≤ 2000000) (hcl : cuts.length ≤ 2000000) :
    Calls Try.prog 17 #[.agg (Disk.list x h).toArray, .slice ca cn cc] w (CopiedDisk w ⟨crashD x.files cuts⟩) := by
  have HI := Lib.hid hin
  have HM := Lib.hid hmax
  have HC := Lib.hid hrow
  have hcn : cn ≤ 2000000 := by rw [← hrow.1]; exact hcl
  clear hin hmax hrow hcl
  obtain ⟨ls, hls⟩ : ∃ ls, crashD x.files cuts = ls := ⟨_, rfl⟩
  rw [hls]
  have HLS := Lib.hid hls
  clear hls
  simp only [Disk.list]
  go_enter Try.func17, Try.ntmps17
  go_wp2_with fail
  refine calls_gen (fun W => Below w.heap.size w W ∧ Blk W (w.heap.size + 1) 26 [.slice none 0 0]) ⟨by repeat (first | exact Below.refl _ _ | refine Below.setCell ?_ (by first | omega | (simp; done) | (simp; omega)) _ | refine Below.alloc ?_ (by first | omega | (simp; done) | (simp; omega)) _ | apply Below.drew), by with_reducible (repeat (first | (refine blk_new_at _ _ _ _ ?_; first | rfl | (simp; done)) | refine Blk.alloc ?_ _ | apply Blk.drew | refine Blk.setOther ?_ (by first | (simp; done) | (simp; omega)) _))⟩ ?_
  rintro W ⟨b0, k0⟩
  refine (mounted x h fp W (HI.out.below b0) HM.out).mono ?_
  rintro e w1 ⟨a, n, cap, fq, lx, rfl, hmo, hg, hnc, ho, b1⟩
  have B1 := Lib.hid (b0.trans (b1.mono b0.size))
  have K1 := Lib.hid (k0.below b1 k0.lt)
  have HG := Lib.hid hg
  have HO := Lib.hid (ho.mono (Nat.succ_le_of_lt k0.lt))
  have HMO := Lib.hid hmo
  have hn4 : n ≤ 4 := by rw [← hg.1]; exact hmo.len
  have HN := Lib.hid hg.1
  clear b0 k0 b1 hg ho hmo
  go_wp2_with fail
  go_loopg [13] n (fun k iv wr => ∃ j : Nat, j + k = n ∧ iv = .int .i64 j ∧ GRow 1 RNamed wr a n (mixC lx cuts j) fq ∧ Own (w.heap.size + 2) wr fq ∧ Blk wr (w.heap.size + 1) 26 [.slice none 0 0] ∧ Below w.heap.size w wr)
  case atStart => exact ⟨0, by omega, rfl, by rw [mixC_zero]; exact HG.out, HO.out, K1.out, B1.out⟩
  case round =>
    obtain ⟨j, hj, rfl, hG, hO, hK, hB⟩ := hrel
    clear HG HO K1 B1
    have HB := Lib.hid hB
    have HK := Lib.hid hK
    have HO2 := Lib.hid hO
    have HG2 := Lib.hid hG
    clear hK hO
    by_cases hlt : j < n
    case neg =>
      obtain rfl : j = n := by omega
      have E := Lib.hid (show ls = mixC lx cuts j by rw [← HLS.out, HMO.out.crash, mixC_all cuts (by rw [HN.out]; exact Nat.le_refl _)])
      have HSZ := Lib.hid (show ∀ z ∈ mixC lx cuts j, z.name.size ≤ 9223372036854775807 ∧ z.safe.size ≤ 9223372036854775807 ∧ z.now.size ≤ 9223372036854775807 by
        rw [mixC_all cuts (by rw [HN.out]; exact Nat.le_refl _)]
        exact sizes_wide (few_crash (few_of HMO.out.diskP) cuts).2)
      clear hG hB
      go_wp2_with fail
      refine (disk_ a j cap _ fq wr HG2.out (by omega) HSZ.out).mono ?_
      rintro e w4 ⟨h', fp', rfl, hi', how, b4⟩
      have B4 := Lib.hid (HB.out.trans (b4.mono HB.out.size))
      have K4 := Lib.hid (HK.out.below b4 HK.out.lt)
      have HH := Lib.hid (And.intro hi' (how.mono HB.out.size))
      have c0 := K4.out.cell 0
      have f0 := K4.out.frozen
      simp at c0
      have hbs := HB.out.size
      have HW := Lib.hid (show ∀ b ∈ fp', wr.heap.size ≤ b from fun b hb => (how.2 b hb).1)
      have hk1 := HK.out.lt
      clear hi' how b4
      obtain ⟨fa', fl', fc'⟩ := h'
      simp only [Disk.list]
      go_wp2_with fail
      refine body_gen (fun W => Below w.heap.size w W ∧ Blk W (w.heap.size + 1) 26 [.slice fa' fl' fc'] ∧ Disk.Is W ⟨ls⟩ ⟨fa', fl', fc'⟩ fp' ∧ Own w.heap.size W fp') ⟨?_, ?_, ?_, ?_⟩ ?_
      · have hb := B4.out
        repeat (first | exact Below.refl _ _ | refine Below.setCell ?_ (by first | omega | (simp; done) | (simp; omega)) _ | refine Below.alloc ?_ (by first | omega | (simp; done) | (simp; omega)) _ | apply Below.drew | refine Below.trans ?_ (hb.mono (by first | omega | (simp; done) | (simp; omega))))
      · (apply Blk.of_eq; (repeat (first | (with_reducible exact K4.out) | (with_reducible apply Blk.set) | ((with_reducible apply Blk.other); · first | (simp; done) | (simp; omega)) | (with_reducible apply Blk.drew))); rfl)
      · rw [E.out]
        refine HH.out.1.keep (fun q hq => ?_)
        have := HW.out q hq
        exact Below.heap_setCell _ ⟨w.heap.size + 1, 0, none⟩ _ q (by simp; omega)
      · refine HH.out.2.keep (fun q hq => ?_)
        have := HW.out q hq
        exact Below.heap_setCell _ ⟨w.heap.size + 1, 0, none⟩ _ q (by simp; omega)
      clear c0 f0
      rintro W ⟨bw, kw, iw, ow⟩
      have e0 := kw.cell 0
      simp at e0
      refine bodyPost_ret (v := .agg (Disk.list ⟨ls⟩ ⟨fa', fl', fc'⟩).toArray) (by simp [results, Try.results17, go_sem, e0, Disk.list]) rfl ?_
      exact ⟨⟨fa', fl', fc'⟩, fp', rfl, iw, ow, bw⟩
    obtain ⟨b, off, y, g, rfl, hbl, hy, hk, hgm, hc, hup⟩ := named_set HG2.out HO2.out.1 hlt
    rw [mixC_at cuts (by rw [HN.out]; omega)] at hy
    have hys := HMO.out.sizes y (List.mem_of_getElem? hy)
    have HYS := Lib.hid hys
    have HY := Lib.hid hy
    have HKG := Lib.hid hk
    have HU := Lib.hid hup
    have HGM := Lib.hid (HO2.out.2 g hgm).1
    have hlt2 : (j : Int) < (n : Int) := by omega
    have h02 : (0 : Int) ≤ (j : Int) := by omega
    clear hG hy hys hk hup hgm HG2
    have fin : ∀ cut : Int, cuts.getD j 0 = cut → ∀ w3, Left1 g (crashF y cut) (.tuple #[]) wr (.returned (.tuple #[])) w3 →
        GRow 1 RNamed w3 (some ⟨b, off, none⟩) n (mixC lx cuts (j + 1)) fq ∧ Own (w.heap.size + 2) w3 fq ∧ Blk w3 (w.heap.size + 1) 26 [.slice none 0 0] ∧ Below w.heap.size w w3 := by
      intro cut hcut w3 ⟨_, ap, bk⟩
      have hgs := HGM.out
      refine ⟨?_, ?_, ?_, ?_⟩
      · have := HU.out w3 _ ap bk
        rw [← hcut, mixC_set cuts HY.out] at this
        exact this
      · exact ⟨HO2.out.1, fun q hq => ⟨(HO2.out.2 q hq).1, by
          by_cases e : q = g
          · subst e; exact ⟨_, _, bk⟩
          · exact (HO2.out.2 q hq).2.same (ap.block q (HO2.out.2 q hq).2.lt (by simpa using e))⟩⟩
      · exact (ap.block _ HK.out.lt (by simp; omega)).trans HK.out
      · exact HB.out.trans (ap.below (lo := w.heap.size) (fun c hc => by simp at hc; subst hc; omega) HB.out.size)
    have FIN := Lib.hid fin
    clear fin hB
    go_wp2_with fail
    refine (isPlace_ ca cn cc j wr hcn).mono ?_
    rintro e w' ⟨rfl, rfl⟩
    by_cases hp : j < cn
    · rw [decide_eq_true hp]
      obtain ⟨b2, off2, z, f2, cs2, rfl, hbl2, hz, hcl2, hR2, hc2⟩ := HC.out.at hp
      obtain ⟨rfl, rfl⟩ := hR2
      have d0 : w'.cell? ⟨b2, off2 + j, none⟩ = some (.int .i64 z) := by
        have := (HB.out.cell (p := ⟨b2, off2 + j * 1 + 0, none⟩) hbl2).trans (hc2 0 (by omega))
        simpa using this
      have HZ := Lib.hid (cut_at hz)
      have hp2 : (j : Int) < (cn : Int) := by omega
      clear hz hc2
      go_wp2_with fail
      refine (crash_ y z g w' HKG.out (by have := HYS.out; omega) (by have := HYS.out; omega)).mono ?_
      rintro e w3 hl3
      obtain rfl := hl3.1
      have F3 := Lib.hid (FIN.out z HZ.out w3 hl3)
      clear hl3 d0
      go_wp2_with fail
      go_roundg (n - (j + 1))
      case measure => omega
      case rel => exact ⟨j + 1, by omega, by go_num, F3.out⟩
    · rw [decide_eq_false hp]
      have HZ := Lib.hid (cut_none (show cuts.length ≤ j by rw [HC.out.1]; omega))
      go_wp2_with fail
      refine (crash_ y 0 g w' HKG.out (by have := HYS.out; omega) (by have := HYS.out; omega)).mono ?_
      rintro e w3 hl3
      obtain rfl := hl3.1
      have F3 := Lib.hid (FIN.out 0 HZ.out w3 hl3)
      clear hl3
      go_wp2_with fail
      go_roundg (n - (j + 1))
      case measure => omega
      case rel => exact ⟨j + 1, by omega, by go_num, F3.out⟩
end Go.Proofs.Ytoglclmaacjdaaa.dat
