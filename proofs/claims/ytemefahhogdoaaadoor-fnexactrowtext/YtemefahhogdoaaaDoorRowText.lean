/-
  THE CONTRACTS OF (Row).nums and RowText of the program: a row's numbers, its line; nothing that was there is written.
  Conditions: the library's table of powers of ten holds what its text lays; ints of 64 bits; a key of at most 1,048,576 numbers.
-/
import Derived.Test.YtemefahhogdoaaaDoorPaneNums
import Derived.Test.YtemefahhogdoaaaDoorFreeTail
namespace Go.Proofs.YtemefahhogdoaaaDoor.dat
open Go.RowKit Go.Proofs.YtemefahhogdoaaaDoor.win
open Go.Proofs.YtemefahhogdoaaaDoor.num (Pow Pow.below Texted I64)
open Go.Proofs.YtemefahhogdoaaaDoor.agg (okB ok_bds okB_iff impl_AggOk)

theorem rowNums_eq (x : RowD) : x.nums = x.pane.nums ++ [x.times] := by simp [RowD.nums, PaneD.nums, RowD.pane]
def VN (base x0 : Nat) (x : RowD) (h : RowH) (i : Nat) (w : World) (v : Value) : Prop := match i with
  | 0 => v = .agg #[.int .i64 x.win, .int .i64 x.mask, .int .i64 x.start, .slice h.keya h.keyl h.keyc, .int .i64 x.a.n, .int .i64 x.a.sm, .int .i64 x.a.mn, .int .i64 x.a.mx, .int .i64 x.times]
  | 1 => v = .agg #[.int .i64 x.win, .int .i64 x.mask, .int .i64 x.start, .slice h.keya h.keyl h.keyc, .int .i64 x.a.n, .int .i64 x.a.sm, .int .i64 x.a.mn, .int .i64 x.a.mx]
  | 2 => Grows 1 RInt 3 base w v x.pane.nums
  | 3 => v = .pointer (some ⟨x0, 8, none⟩)
  | 4 => v = .int .i64 x.times
  | 5 => ∃ g, v = .slice (some ⟨g, 0, none⟩) 1 1 ∧ base ≤ g ∧ Blk w g 3 [.int .i64 x.times]
  | _ => True
theorem VN.keep {base x0 : Nat} {x : RowD} {h : RowH} {w w' : World} (hk : ∀ b, base ≤ b → b < w.heap.size → w'.heap[b]? = w.heap[b]?) (j : Nat) (u : Value) (hv : VN base x0 x h j w u) : VN base x0 x h j w' u := by
  unfold VN at *
  split at hv <;> first | exact hv | exact hv.keep local_int hk | (obtain ⟨g, e, h1, hf⟩ := hv; exact ⟨g, e, h1, (hk g h1 hf.lt).trans hf⟩)

set_option maxRecDepth 100000 in
set_option maxHeartbeats 4000000 in
theorem rowNums (x : RowD) (h : RowH) (fp : List Nat) (w : World) (hI : Row.Is w x h fp) (hk : h.keyl ≤ 1048576) :
    Calls Tryd.prog 18 #[.agg (Row.list x h).toArray] w (fun e w' => ∃ v, e = .returned v ∧ Grows 1 RInt 3 w.heap.size w' v x.nums ∧ Below w.heap.size w w') := by
  rw [rowNums_eq]
  have HI := Lib.hid (show Pane.Is w x.pane h.pane fp from hI)
  have hlen : x.pane.nums.length ≤ 2000000 := by
    obtain ⟨f0, rfl, r0, _, _⟩ := hI
    have := r0.1
    simp [PaneD.nums, RowD.pane]
    omega
  have HL := Lib.hid hlen
  clear hlen hI
  have HPN := Lib.hid (fun w h1 => paneNums x.pane h.pane fp w h1 (show h.keyl ≤ 2000000 by omega))
  have HRP := Lib.hid (fun w => rowPane x h w)
  simp only [Row.list, Pane.list, RowD.pane, RowH.pane] at HPN HRP
  simp only [Row.list]
  go_enter Tryd.func18, Tryd.ntmps18
  go_wp2_with fail
  refine wp_gen (fun W => Below w.heap.size w W ∧ Blk W w.heap.size 31 [.int .i64 x.win, .int .i64 x.mask, .int .i64 x.start, .slice h.keya h.keyl h.keyc, .int .i64 x.a.n, .int .i64 x.a.sm, .int .i64 x.a.mn, .int .i64 x.a.mx, .int .i64 x.times]) ⟨by repeat (first | exact Below.refl _ _ | refine Below.setCell ?_ (by first | omega | (simp; done) | (simp; omega)) _ | refine Below.alloc ?_ (by first | omega | (simp; done) | (simp; omega)) _ | apply Below.drew), by with_reducible (repeat (first | (refine blk_new_at _ _ _ _ ?_; first | rfl | (simp; done)) | refine Blk.alloc ?_ _ | apply Blk.drew | refine Blk.setOther ?_ (by first | (simp; done) | (simp; omega)) _))⟩ ?_
  rintro W1 ⟨b1, k1⟩
  have B1 := Lib.hid b1
  have K1 := Lib.hid k1
  have I1 := Lib.hid (HI.out.below b1)
  have hx0 := k1.lt
  clear b1 k1
  obtain ⟨i0, hi, hi2⟩ := Option.map_eq_some_iff.1 dat.info_int
  simp only [Prod.mk.injEq] at hi2
  obtain ⟨hz0, hz1, hz2⟩ := hi2
  have HZ := Lib.hid (And.intro hi (And.intro hz0 (And.intro hz1 hz2)))
  clear hi hz0 hz1 hz2
  refine mix.wp_region_free_tail (VN W1.heap.size w.heap.size x h) (fun _ wx => Below W1.heap.size W1 wx) 6 10 [3, 4, 5, 6, 7, 8] rfl (by kernel_rfl) (by kernel_rfl) (by kernel_rfl) (Below.refl _ _).drew ?_ ?_
  · refine ⟨?_, ?_, ?_, ?_, ?_, ?_, trivial⟩
    · intro n A W hn hG hL hP K hK
      have e0 : A.tmps.getD 1 undef = .pointer (some ⟨w.heap.size, 0, none⟩) := hL.same 1 (by decide)
      have c0 := (hG.cell (p := ⟨w.heap.size, 0, none⟩) hx0).trans (K1.out.cell 0)
      have c1 := (hG.cell (p := ⟨w.heap.size, 1, none⟩) hx0).trans (K1.out.cell 1)
      have c2 := (hG.cell (p := ⟨w.heap.size, 2, none⟩) hx0).trans (K1.out.cell 2)
      have c3 := (hG.cell (p := ⟨w.heap.size, 3, none⟩) hx0).trans (K1.out.cell 3)
      have c4 := (hG.cell (p := ⟨w.heap.size, 4, none⟩) hx0).trans (K1.out.cell 4)
      have c5 := (hG.cell (p := ⟨w.heap.size, 5, none⟩) hx0).trans (K1.out.cell 5)
      have c6 := (hG.cell (p := ⟨w.heap.size, 6, none⟩) hx0).trans (K1.out.cell 6)
      have c7 := (hG.cell (p := ⟨w.heap.size, 7, none⟩) hx0).trans (K1.out.cell 7)
      have c8 := (hG.cell (p := ⟨w.heap.size, 8, none⟩) hx0).trans (K1.out.cell 8)
      simp at c0 c1 c2 c3 c4 c5 c6 c7 c8
      go_simp
      exact hK _ _ rfl hG (fun _ _ h => h)
    · intro n A W hn hG hL hP K hK
      have e1 : A.tmps.getD 3 undef = .agg #[.int .i64 x.win, .int .i64 x.mask, .int .i64 x.start, .slice h.keya h.keyl h.keyc, .int .i64 x.a.n, .int .i64 x.a.sm, .int .i64 x.a.mn, .int .i64 x.a.mx, .int .i64 x.times] := hP 0 (by kernel_rfl) _ rfl
      go_simp
      refine (HRP.out W).mono ?_
      rintro e w' ⟨rfl, hb⟩
      exact hK _ _ rfl (hG.trans (hb.mono hG.size)) (VN.keep (fun b _ h2 => hb.block b h2))
    · intro n A W hn hG hL hP K hK
      have e1 : A.tmps.getD 4 undef = .agg #[.int .i64 x.win, .int .i64 x.mask, .int .i64 x.start, .slice h.keya h.keyl h.keyc, .int .i64 x.a.n, .int .i64 x.a.sm, .int .i64 x.a.mn, .int .i64 x.a.mx] := hP 1 (by kernel_rfl) _ rfl
      go_simp
      refine (HPN.out W (I1.out.below hG)).mono ?_
      rintro e w' ⟨v, rfl, hGr, hb⟩
      exact hK _ _ (Grows.lower hGr hG.size) (hG.trans (hb.mono hG.size)) (VN.keep (fun b _ h2 => hb.block b h2))
    · intro n A W hn hG hL hP K hK
      have e0 : A.tmps.getD 1 undef = .pointer (some ⟨w.heap.size, 0, none⟩) := hL.same 1 (by decide)
      go_simp
      exact hK _ _ rfl hG (fun _ _ h => h)
    · intro n A W hn hG hL hP K hK
      have e1 : A.tmps.getD 6 undef = .pointer (some ⟨w.heap.size, 8, none⟩) := hP 3 (by kernel_rfl) _ rfl
      have c8 := (hG.cell (p := ⟨w.heap.size, 8, none⟩) hx0).trans (K1.out.cell 8)
      simp at c8
      go_simp
      exact hK _ _ rfl hG (fun _ _ h => h)
    · intro n A W hn hG hL hP K hK
      have e1 : A.tmps.getD 7 undef = .int .i64 x.times := hP 4 (by kernel_rfl) _ rfl
      have e1' : A.tmps[7]?.getD undef = .int .i64 x.times := by simpa using e1
      go_simp
      exact hK _ _ ⟨W.heap.size, rfl, hG.size, blk_new W _ _⟩ (hG.alloc hG.size _) (VN.keep (fun b _ h2 => Below.heap_alloc _ _ _ h2))
  · intro W f hG hV
    have g2 : Grows 1 RInt 3 W1.heap.size W (f 5) x.pane.nums := hV 2 _ (by omega) rfl
    obtain ⟨g, e5, hg, k5⟩ : ∃ g, f 8 = .slice (some ⟨g, 0, none⟩) 1 1 ∧ W1.heap.size ≤ g ∧ Blk W g 3 [.int .i64 x.times] := hV 5 _ (by omega) rfl
    obtain ⟨a2, c2, e2⟩ := g2.slice
    have HG := Lib.hid g2
    have HK := Lib.hid k5
    have HB := Lib.hid hG
    have H2 := Lib.hid e2
    generalize hq : x.pane.nums.length = q at *
    have HQ := Lib.hid hq
    rw [e2] at HG
    clear g2 k5 hG hV hq
    simp [mix.lit]
    rw [e2, e5]
    clear e2 H2
    go_wp2_with (at_builtin; refine push local_int rfl _ _ 22 rfl i0 (.int .i64 0) 8 Tryd.underlying22 HZ.out.1 HZ.out.2.1 HZ.out.2.2.1 HZ.out.2.2.2 rfl (by decide) rfl HG.out (Below.refl _ _) g 1 rfl [.int .i64 x.times] rfl (fun u hu => by simp at hu; subst hu; rfl) (fun j u hj => (HK.out.cell j).trans hj) x.times [] ⟨rfl, rfl⟩ Own.nil (by have := HL.out; have := HQ.out; omega) (by have := HL.out; have := HQ.out; unfold maxLen; omega) HB.out.size ?_; intro v' w4 hG4 hb4)
    go_ret
    exact ⟨_, rfl, Grows.lower hG4 B1.out.size, B1.out.trans ((HB.out.trans hb4).mono B1.out.size)⟩

theorem W64.nums {x : RowD} (h64 : W64 [x.win, x.mask, x.start]) (hk64 : W64 x.key) (ht64 : I64 x.times) (hok : okB x.a.n x.a.sm x.a.mn x.a.mx = true) (hl : x.key.length ≤ 9223372036854775807) : W64 x.nums := by
  have hb := ok_bds ((okB_iff _ _ _ _).1 hok)
  intro z hz
  simp [RowD.nums] at hz
  rcases hz with rfl | rfl | rfl | rfl | hz | rfl | rfl | rfl | rfl | rfl
  · exact h64 _ (by simp)
  · exact h64 _ (by simp)
  · exact h64 _ (by simp)
  · omega
  · exact hk64 _ hz
  · omega
  · omega
  · omega
  · omega
  · exact ht64

set_option maxRecDepth 100000 in
set_option maxHeartbeats 2000000 in
theorem impl_RowText (x : RowD) (h : RowH) (fp : List Nat) (w : World) (hI : Row.Is w x h fp) (h64 : W64 [x.win, x.mask, x.start]) (hk64 : W64 x.key) (ht64 : I64 x.times) (hkl : h.keyl ≤ 1048576) (hp : Pow w) :
    Calls Tryd.prog 7 #[.agg (Row.list x h).toArray] w (Texted (rowT x) w) := by
  have HI := Lib.hid hI
  have HW := Lib.hid (And.intro h64 (And.intro hk64 ht64))
  have HKL : x.key.length = h.keyl := by obtain ⟨f0, rfl, r0, _, _⟩ := hI; exact r0.1
  have HP := Lib.hid hp
  obtain ⟨T, hT⟩ : ∃ T, rowT x = T := ⟨_, rfl⟩
  rw [hT]
  have HT := Lib.hid hT
  have HN := Lib.hid (fun w h1 => rowNums x h fp w h1 hkl)
  have HLK := Lib.hid (And.intro HKL hkl)
  clear hI h64 hk64 ht64 hp hT HKL hkl
  simp only [Row.list] at HN
  simp only [Row.list]
  go_enter Tryd.func7, Tryd.ntmps7
  go_wp2_with fail
  refine calls_gen (fun W => Below w.heap.size w W ∧ Blk W w.heap.size 31 [.int .i64 x.win, .int .i64 x.mask, .int .i64 x.start, .slice h.keya h.keyl h.keyc, .int .i64 x.a.n, .int .i64 x.a.sm, .int .i64 x.a.mn, .int .i64 x.a.mx, .int .i64 x.times]) ⟨by repeat (first | exact Below.refl _ _ | refine Below.setCell ?_ (by first | omega | (simp; done) | (simp; omega)) _ | refine Below.alloc ?_ (by first | omega | (simp; done) | (simp; omega)) _ | apply Below.drew), by with_reducible (repeat (first | (refine blk_new_at _ _ _ _ ?_; first | rfl | (simp; done)) | refine Blk.alloc ?_ _ | apply Blk.drew | refine Blk.setOther ?_ (by first | (simp; done) | (simp; omega)) _))⟩ ?_
  rintro W1 ⟨b1, k1⟩
  refine (impl_AggOk x.a.n x.a.sm x.a.mn x.a.mx W1).mono ?_
  rintro e W2 ⟨rfl, b2⟩
  have B2 := Lib.hid (b1.trans (b2.mono b1.size))
  have K2 := Lib.hid (k1.below b2 k1.lt)
  clear b1 k1 b2
  cases hok : okB x.a.n x.a.sm x.a.mn x.a.mx with
  | false =>
    have E := Lib.hid (show T = [] by rw [← HT.out]; unfold rowT; simp [hok])
    clear hok
    go_wp2_with fail
    go_ret
    exact ⟨by rw [E.out]; rfl, B2.out⟩
  | true =>
  have E := Lib.hid (show T = lineT [114, 111, 119] x.nums by rw [← HT.out]; exact rowT_line x hok)
  have HWN := Lib.hid (W64.nums HW.out.1 HW.out.2.1 HW.out.2.2 hok (by have := HLK.out; omega))
  clear hok
  have c0 := K2.out.cell 0
  have c1 := K2.out.cell 1
  have c2 := K2.out.cell 2
  have c3 := K2.out.cell 3
  have c4 := K2.out.cell 4
  have c5 := K2.out.cell 5
  have c6 := K2.out.cell 6
  have c7 := K2.out.cell 7
  have c8 := K2.out.cell 8
  simp at c0 c1 c2 c3 c4 c5 c6 c7 c8
  go_wp2_with fail
  refine (HN.out W2 (HI.out.below B2.out)).mono ?_
  rintro e W3 ⟨v, rfl, hG, b3⟩
  have B3 := Lib.hid (B2.out.trans (b3.mono B2.out.size))
  obtain ⟨a', cap', fp', rfl, hg, hc1, hc2, _⟩ := hG.done
  have HG := Lib.hid hg
  have hln : x.nums.length ≤ 2000000 := by
    have := HLK.out
    simp [RowD.nums]
    omega
  have HLN := Lib.hid hln
  obtain ⟨q, hq⟩ : ∃ q, x.nums.length = q := ⟨_, rfl⟩
  rw [hq] at HG HLN ⊢
  clear c0 c1 c2 c3 c4 c5 c6 c7 c8 b3 hG hg hln hq hc1 hc2
  go_wp2_with fail
  refine (lineText [114, 111, 119] a' q cap' x.nums fp' W3 (by simp) HG.out HLN.out HWN.out (HP.out.below B3.out HP.out.2)).mono ?_
  rintro e W4 ⟨rfl, b4⟩
  have B4 := Lib.hid (B3.out.trans (b4.mono B3.out.size))
  rw [← E.out]
  clear b4
  go_wp2_with fail
  go_ret
  exact ⟨rfl, B4.out⟩
end Go.Proofs.YtemefahhogdoaaaDoor.dat
