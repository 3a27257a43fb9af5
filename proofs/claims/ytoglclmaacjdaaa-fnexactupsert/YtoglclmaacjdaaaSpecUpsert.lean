/-
  THE CONTRACT OF Upsert of the model: rows put into rows, one by one; nothing that was there is written.
-/
import Derived.Test.YtoglclmaacjdaaaSpecUpsertA
import Derived.Test.YtoglclmaacjdaaaPaneAtF
import Derived.Test.YtoglclmaacjdaaaStateOk
namespace Go.Proofs.Ytoglclmaacjdaaa.dat
open Go.RowKit Go.Proofs.Ytoglclmaacjdaaa.win

theorem four_at {r x : RowD} : fourB r.win r.mask r.start r.key x.pane = upsAt r x := by
  unfold fourB upsAt
  rw [Bool.eq_iff_iff]
  simp only [Bool.and_eq_true, decide_eq_true_eq, beq_iff_eq]
  rw [paneC_zero]
  simp [RowD.pane, and_assoc]
/-- Where a row of the name stands, or that there is none. -/
theorem placeR (l : List RowD) (r : RowD) : (∃ (j : Nat) (x : RowD), l[j]? = some x ∧ upsAt r x = true ∧ (∀ (i : Nat) y, i < j → l[i]? = some y → upsAt r y = false) ∧ placeOf (fourB r.win r.mask r.start r.key) (l.map RowD.pane) = (j : Int)) ∨ (placeOf (fourB r.win r.mask r.start r.key) (l.map RowD.pane) = -1 ∧ ∀ (i : Nat) y, l[i]? = some y → upsAt r y = false) := by
  cases h : l.any (upsAt r) with
  | true =>
    left
    obtain ⟨y, hy, hm⟩ := List.any_eq_true.1 h
    have hlt : l.findIdx (upsAt r) < l.length := List.findIdx_lt_length_of_exists ⟨y, hy, hm⟩
    have hat : upsAt r l[l.findIdx (upsAt r)] = true := List.findIdx_getElem
    have hno : ∀ (i : Nat) y, i < l.findIdx (upsAt r) → l[i]? = some y → upsAt r y = false := fun i y hi hy => by
      obtain ⟨h1, rfl⟩ := List.getElem?_eq_some_iff.1 hy
      have := List.not_of_lt_findIdx hi
      simpa using this
    refine ⟨_, _, List.getElem?_eq_getElem hlt, hat, hno, ?_⟩
    refine place_found (x := (l[l.findIdx (upsAt r)]).pane) (fun i y hi hy => ?_) (by rw [List.getElem?_map, List.getElem?_eq_getElem hlt]; rfl) (by rw [four_at]; exact hat)
    rw [List.getElem?_map] at hy
    obtain ⟨z, hz, rfl⟩ := Option.map_eq_some_iff.1 hy
    rw [four_at]
    exact hno i z hi hz
  | false =>
    right
    rw [List.any_eq_false] at h
    have hno : ∀ (i : Nat) y, l[i]? = some y → upsAt r y = false := fun i y hy => by simpa using h y (List.mem_of_getElem? hy)
    refine ⟨place_none (j := l.length) (fun i y _ hy => ?_) (by simp), hno⟩
    rw [List.getElem?_map] at hy
    obtain ⟨z, hz, rfl⟩ := Option.map_eq_some_iff.1 hy
    rw [four_at]
    exact hno i z hz
theorem szR_pane (l : List RowD) : szL Pane.sz (l.map RowD.pane) = szL Row.sz l := szPanes_rows l
/-- A row of a list whose keys lie elsewhere, its cells written out. -/
theorem growS_at {S : RowD → RowH → Prop} {base : Nat} {wr w : World} {v : Value} {l : List RowD} {j : Nat} (hG : Grows 9 (RSR S) 120 base wr v l) (hb : Below wr.heap.size wr w) (hj : j < l.length) :
    ∃ (b c : Nat) (x : RowD) (h : RowH), v = .slice (some ⟨b, 0, none⟩) l.length c ∧ b < wr.heap.size ∧ l[j]? = some x ∧ S x h ∧ ∀ i, i < 9 → w.cell? ⟨b, j * 9 + i, none⟩ = (Row.list x h)[i]? := by
  obtain ⟨css, F, e1, e2, e3, e4, e5, e6, hown⟩ := hG.ex
  rcases hown.2 with ⟨rfl, h0⟩ | ⟨g0, cap, cur, rfl, hbg, hh, hnc, hcm, hsz, htk⟩
  · omega
  have hg0 : g0 < wr.heap.size := (Array.getElem?_eq_some_iff.1 hh).1
  have hx : l[j]? = some l[j] := List.getElem?_eq_getElem hj
  have hc : css[j]? = some css[j] := List.getElem?_eq_getElem (by omega)
  obtain ⟨h, hcs, hS, _⟩ := e4 j _ _ _ hx hc (List.getElem?_eq_getElem (show j < F.length by omega))
  refine ⟨g0, cap, l[j], h, rfl, hg0, hx, hS, fun i hi => ?_⟩
  rw [hb.cell (p := ⟨g0, j * 9 + i, none⟩) hg0, Go.Joins.cell_of_block hh, ← hcs, ← flat_get e3 hc i hi, ← htk, List.getElem?_take, if_pos (by omega)]
  simp
/-- A list of rows, as the model answers it. -/
def GaveRows (w : World) (L : List RowD) (e : Ending) (w' : World) : Prop := ∃ v, e = .returned v ∧ Grows 9 (RSR (KeyIn w' v.ownBlock)) 120 w.heap.size w' v L ∧ Below w.heap.size w w'
theorem keep_row {W V : World} {p : Nat} {t : TypeId} {v0 v1 v2 v3 v4 v5 v6 v7 v8 : Value} (hp : Blk W p t [v0, v1, v2, v3, v4, v5, v6, v7, v8]) (h : Below W.heap.size W V) : V.cell? ⟨p, 0, none⟩ = some v0 ∧ V.cell? ⟨p, 1, none⟩ = some v1 ∧ V.cell? ⟨p, 2, none⟩ = some v2 ∧ V.cell? ⟨p, 3, none⟩ = some v3 ∧ V.cell? ⟨p, 4, none⟩ = some v4 ∧ V.cell? ⟨p, 5, none⟩ = some v5 ∧ V.cell? ⟨p, 6, none⟩ = some v6 ∧ V.cell? ⟨p, 7, none⟩ = some v7 ∧ V.cell? ⟨p, 8, none⟩ = some v8 := row_blk (hp.below h hp.lt)

set_option maxRecDepth 100000 in
set_option maxHeartbeats 8000000 in
theorem spec_Upsert_own (a : Option Addr) (n c : Nat) (l : List RowD) (fp : List Nat) (a' : Option Addr) (n' c' : Nat) (l' : List RowD) (fp' : List Nat) (w : World) (hrow : GRow 9 RRow w a n l fp) (hrow' : GRow 9 RRow w a' n' l' fp') (hz0 : szL Row.sz l ≤ 2000000) (hz1 : szL Row.sz l' ≤ 2000000) (hz : szL Row.sz l + szL Row.sz l' ≤ 2000000) :
    Calls Try.prog 37 #[.slice a n c, .slice a' n' c'] w (GaveRows w (upsertD l l')) := by
  have hn : n ≤ 2000000 := by rw [← hrow.1]; unfold szL at hz0; omega
  have hn' : n' ≤ 2000000 := by rw [← hrow'.1]; unfold szL at hz1; omega
  have R1 := Lib.hid hrow'
  have L1 := Lib.hid hrow'.1
  have Z1 := Lib.hid hz1
  have ZZ := Lib.hid (fun j => Nat.le_trans (sz_upsert_take l l' j) hz)
  have HCR := Lib.hid (l06CopyRows_ a n c l fp w hrow hz0)
  clear hrow hrow' hz0 hz1 hz
  obtain ⟨i0, hi, hz0, hz1, hz2⟩ := row_info
  have HI := Lib.hid (And.intro hi (And.intro hz0 (And.intro hz1 hz2)))
  obtain ⟨ii, hii, hi0, hi1, hi2⟩ := info_ints_
  have HII := Lib.hid (And.intro hii (And.intro hi0 (And.intro hi1 hi2)))
  clear hi hz0 hz1 hz2 hii hi0 hi1 hi2
  go_enter Try.func37, Try.ntmps37
  go_wp2_with fail
  refine HCR.out.mono ?_
  rintro e w1 ⟨v1, rfl, hg1, hb1⟩
  have HG1 := Lib.hid (growRow_keys hg1)
  have HB1 := Lib.hid hb1
  obtain ⟨va1, vc1, hv1⟩ := hg1.slice
  clear hg1 hb1 HCR
  subst hv1
  go_wp2_with fail
  go_loopg [5, 6] n' (fun k v i wr => ∃ j : Nat, j + k = n' ∧ i = .int .i64 j ∧ Below w.heap.size w wr ∧ Grows 9 (RSR (KeyIn wr v.ownBlock)) 120 w.heap.size wr v (upsertD l (l'.take j)))
  case atStart => exact ⟨0, by omega, rfl, HB1.out, HG1.out⟩
  case round =>
    obtain ⟨j, hj, rfl, hB, hG⟩ := hrel
    clear HB1 HG1
    have HB := Lib.hid hB
    have HG := Lib.hid hG
    by_cases hlt : j < n'
    case neg =>
      have hall : l'.take j = l' := List.take_of_length_le (by rw [L1.out]; omega)
      rw [hall] at hG
      have HD := Lib.hid hG
      clear hB hG HG hall
      go_wp2_with fail
      go_ret
      exact ⟨_, rfl, HD.out, HB.out⟩
    obtain ⟨wo, rfl⟩ : ∃ wo, wo = wr := ⟨_, rfl⟩
    obtain ⟨b, off, r, fr, cs, rfl, hbl, hr, hcl, hRr, hcs⟩ := R1.out.at hlt
    obtain ⟨hr', rfl, hIr⟩ := hRr
    obtain ⟨q0, q1, q2, q3, q4, q5, q6, q7, q8⟩ := row_cell9 (fun i hi => (hB.cell (p := ⟨b, off + j * 9 + i, none⟩) hbl).trans (hcs i hi))
    have hlt2 : (j : Int) < (n' : Int) := by omega
    have h02 : (0 : Int) ≤ (j : Int) := by omega
    have SZ := Lib.hid (sz_elemR hr Z1.out)
    have HNX := Lib.hid (upsert_take (rows := l) hr)
    have ZL := Lib.hid (ZZ.out j)
    obtain ⟨va, vc, hv⟩ := HG.out.slice
    obtain ⟨lst, hlst⟩ : ∃ lst, upsertD l (l'.take j) = lst := ⟨_, rfl⟩
    rw [hlst] at hv HG HNX ZL
    obtain ⟨m, hm⟩ : ∃ m, lst.length = m := ⟨_, rfl⟩
    rw [hm] at hv
    subst hv
    have HM := Lib.hid hm
    have hm2 : m ≤ 2000000 := by have := ZL.out; unfold szL at this; omega
    have hsx : Row.sz r ≤ 2000000 := SZ.out
    obtain ⟨f0, rfl, r0, u0, v0⟩ := hIr
    have hkl : hr'.keyl ≤ 2000000 := by rw [← r0.1]; exact hsx
    have HQ := Lib.hid r0
    have HQL := Lib.hid r0.1
    have hww := HB.out.size
    have HG0 := Lib.hid (show Grows 1 RInt 3 (wo.heap.size + 1) ((wo.alloc (.cells #[.int .i64 r.win, .int .i64 r.mask, .int .i64 r.start, .slice hr'.keya hr'.keyl hr'.keyc, .int .i64 r.a.n, .int .i64 r.a.sm, .int .i64 r.a.mn, .int .i64 r.a.mx, .int .i64 r.times] 120)).alloc (.cells #[] 3)) (.slice (some ⟨wo.heap.size + 1, 0, none⟩) 0 0) ([] : List Int) by
      have := made_ints (wo.alloc (.cells #[.int .i64 r.win, .int .i64 r.mask, .int .i64 r.start, .slice hr'.keya hr'.keyl hr'.keyc, .int .i64 r.a.n, .int .i64 r.a.sm, .int .i64 r.a.mn, .int .i64 r.a.mx, .int .i64 r.times] 120))
      simpa using this)
    clear hB hG hcs hcl hr hsx r0 u0 v0 hlst hm
    go_wp2_with (at_builtin; refine pushAny (R := RInt) (k := 1) (l := []) (l2 := r.key) (by decide) local_int (fun h => h.2) (fun h => h) int_one rfl (.tmp 23) (.tmp 25) 29 rfl ii (.int .i64 0) 8 Try.underlying29 HII.out.1 HII.out.2.1 HII.out.2.2.1 HII.out.2.2.2 rfl rfl HG0.out (Below.refl _ _) hr'.keya hr'.keyl hr'.keyc fr rfl (HQ.out.below local_int ((HB.out.alloc hww _).alloc (by simp; omega) _)) (by first | (simp; done) | (simp; omega)) (by first | (simp; done) | (simp; unfold maxLen; omega)) (by simp) ?_; intro v1 w1 hG1 hb1 hk1; obtain ⟨ka, kc, hv1⟩ := hG1.slice; rw [List.nil_append, HQL.out] at hv1; rw [List.nil_append] at hG1; subst hv1; have hK1 : Blk w1 wo.heap.size 120 [.int .i64 r.win, .int .i64 r.mask, .int .i64 r.start, .slice hr'.keya hr'.keyl hr'.keyc, .int .i64 r.a.n, .int .i64 r.a.sm, .int .i64 r.a.mn, .int .i64 r.a.mx, .int .i64 r.times] := Blk.below (by with_reducible (repeat (first | (refine blk_new_at _ _ _ _ ?_; first | rfl | (simp; done)) | refine Blk.alloc ?_ _ | apply Blk.drew | refine Blk.setOther ?_ (by first | (simp; done) | (simp; omega)) _))) hb1 (by omega); have f3 := hK1.frozen 3; obtain ⟨k0, k1, k2, k3, k4, k5, k6, k7, k8⟩ := row_blk hK1; have KB1 := Lib.hid hK1; have KG1 := Lib.hid hG1; have BB1 := Lib.hid hb1; clear hK1 hG1 hb1 hk1)
    obtain ⟨fk, hkd⟩ : ∃ fk, GRow 1 RInt w1 ka hr'.keyl r.key fk ∧ hr'.keyl ≤ kc ∧ kc ≤ 9223372036854775807 ∧ Own (wo.heap.size + 1) w1 fk := by
      obtain ⟨a', c', fk, hv, hg, h1, h2, ho⟩ := KG1.out.done
      rw [HQL.out] at hv hg h1
      cases hv
      exact ⟨fk, hg, h1, h2, ho⟩
    have hb1s : wo.heap.size + 1 + 1 ≤ w1.heap.size := by have := BB1.out.size; simpa using this
    refine wp_gen (fun W => Below wo.heap.size wo W ∧ Blk W wo.heap.size 120 [.int .i64 r.win, .int .i64 r.mask, .int .i64 r.start, .slice ka hr'.keyl kc, .int .i64 r.a.n, .int .i64 r.a.sm, .int .i64 r.a.mn, .int .i64 r.a.mx, .int .i64 r.times] ∧ GRow 1 RInt W ka hr'.keyl r.key fk ∧ Own (wo.heap.size + 1) W fk) ⟨?_, ?_, ?_, ?_⟩ ?_
    · exact ((((Below.refl wo.heap.size wo).alloc (Nat.le_refl _) _).alloc (by simp) _).trans (BB1.out.mono (by omega))).setCell (p := ⟨wo.heap.size, 3, none⟩) (Nat.le_refl _) _
    · exact (KB1.out.set 3 _).of_eq rfl
    · exact hkd.1.set local_int (hkd.2.2.2.ne (by omega)) _ _
    · exact hkd.2.2.2.set _ _ _
    clear f3 k0 k1 k2 k3 k4 k5 k6 k7 k8 q0 q1 q2 q3 q4 q5 q6 q7 q8 KB1 KG1 BB1 hb1s
    rintro W2 ⟨b2, x2, g2, o2⟩
    have HKD := Lib.hid (And.intro hkd.2.1 hkd.2.2.1)
    have B2 := Lib.hid b2
    have X2 := Lib.hid x2
    have G2 := Lib.hid g2
    have O2 := Lib.hid o2
    have hw2 := b2.size
    have KR := Lib.hid (fun (V : World) (hV : Below W2.heap.size W2 V) => keep_row x2 hV)
    have IR2 := Lib.hid (show Row.Is W2 r ⟨ka, hr'.keyl, kc⟩ fk from ⟨fk, rfl, g2, hkd.2.1, hkd.2.2.1⟩)
    have S0 := KR.out W2 (Below.refl _ _)
    clear b2 x2 g2 o2 hkd w1
    -- the panes of the list
    obtain ⟨ra, rc, rf, hra, hrw, hrc1, hrc2, _⟩ := HG.out.done
    simp only [Value.slice.injEq] at hra
    obtain ⟨rfl, -, rfl⟩ := hra
    rw [HM.out] at hrw hrc1
    have RK0 := Lib.hid hrw
    have HCAP := Lib.hid hrc1
    have HADR := Lib.hid (show ∀ ad, va = some ad → ∃ vb, ad = ⟨vb, 0, none⟩ from fun ad e => by
      obtain ⟨css, F, _, _, _, _, _, _, hown⟩ := HG.out.ex
      rcases hown.2 with ⟨h1, _⟩ | ⟨g0, cap, cur, h1, _⟩
      · cases h1; cases e
      · simp only [Value.slice.injEq] at h1
        obtain ⟨h1, _, _⟩ := h1
        rw [h1] at e
        cases e
        exact ⟨g0, rfl⟩)
    have HNONE := Lib.hid (show va ≠ none ∨ (m = 0 ∧ vc = 0) from by
      obtain ⟨css, F, _, _, _, _, _, _, hown⟩ := HG.out.ex
      rcases hown.2 with ⟨h1, _⟩ | ⟨g0, cap, cur, h1, _⟩
      · cases h1; exact .inr ⟨rfl, rfl⟩
      · simp only [Value.slice.injEq] at h1
        exact .inl (by rw [h1.1]; simp))
    obtain ⟨rf2, hrw2⟩ := rsr_row hrw (fun _ _ ⟨g, hg, _⟩ => ⟨g, hg⟩)
    have RL := Lib.hid hrw2
    clear hrw hrw2
    refine mix.wp_region_ord (fun V => V.cell? ⟨wo.heap.size, 0, none⟩ = some (.int .i64 r.win) ∧ V.cell? ⟨wo.heap.size, 1, none⟩ = some (.int .i64 r.mask) ∧ V.cell? ⟨wo.heap.size, 2, none⟩ = some (.int .i64 r.start) ∧ V.cell? ⟨wo.heap.size, 3, none⟩ = some (.slice ka hr'.keyl kc) ∧ V.cell? ⟨wo.heap.size, 4, none⟩ = some (.int .i64 r.a.n) ∧ V.cell? ⟨wo.heap.size, 5, none⟩ = some (.int .i64 r.a.sm) ∧ V.cell? ⟨wo.heap.size, 6, none⟩ = some (.int .i64 r.a.mn) ∧ V.cell? ⟨wo.heap.size, 7, none⟩ = some (.int .i64 r.a.mx) ∧ V.cell? ⟨wo.heap.size, 8, none⟩ = some (.int .i64 r.times)) [1,10] [0,2,3,4,5,6,7,8,9,1,10,11] (by kernel_rfl) (by kernel_rfl) (fun _ _ d _ _ h => by cases d <;> exact h) S0 ?_
    clear S0
    simp only [List.filterMap_cons, List.filterMap_nil, List.getElem?_cons_zero, List.getElem?_cons_succ, Option.map_some]
    (repeat (first | (apply mix.ord_take; (· rfl); (· rfl); (· (intro w' hSw; (try dsimp only at hSw); go_simp; try with_reducible rfl)); (try simp only [Act.put, List.setIfInBounds_toArray, List.set_cons_zero, List.set_cons_succ])) | ((refine mix.ord_pass rfl (by rfl) ?_); (try simp only [Act.put, List.setIfInBounds_toArray, List.set_cons_zero, List.set_cons_succ]))))
    refine mix.ord_hard rfl (fun K hK => ?_); go_simp
    refine (l06Panes va m vc lst rf2 _ (RL.out.below local_Row (B2.out.trans (Below.refl _ _).drew)) hm2).mono ?_
    rintro e W3 ⟨a3, n3, c3, f3, rfl, g3, h31, h32, b3⟩
    have hb3 : Below W2.heap.size W2 W3 := (Below.refl _ _).drew.trans b3
    have B3 := Lib.hid hb3
    have S3 := Lib.hid (KR.out W3 hb3)
    have G3 := Lib.hid (And.intro g3 (And.intro h31 h32))
    clear hb3 b3 g3 h31 h32
    refine hK.out _ _ (S3.out) (fun hSw => ?_); clear hK K hSw; (try simp only [Act.put, List.setIfInBounds_toArray, List.set_cons_zero, List.set_cons_succ])
    refine mix.ord_hard rfl (fun K hK => ?_); go_simp
    refine (spec_PaneAtF a3 n3 c3 (lst.map RowD.pane) f3 r.win r.mask r.start ka hr'.keyl kc r.key fk W3 G3.out.1 G3.out.2.1 G3.out.2.2 (G2.out.below local_int B3.out) HKD.out.1 HKD.out.2 (by rw [szR_pane]; exact ZL.out) SZ.out).mono ?_
    rintro e W4 ⟨rfl, b4⟩
    obtain ⟨pl, hpl⟩ : ∃ pl, placeOf (fourB r.win r.mask r.start r.key) (lst.map RowD.pane) = pl := ⟨_, rfl⟩
    rw [hpl]
    have hpc := placeR lst r
    rw [hpl] at hpc
    have HPC := Lib.hid hpc
    have hb4 : Below W2.heap.size W2 W4 := B3.out.trans (b4.mono B3.out.size)
    have B4 := Lib.hid hb4
    have S4 := Lib.hid (KR.out W4 hb4)
    clear hb4 b4 hpl hpc
    refine hK.out _ _ (S4.out) (fun hSw => ?_); clear hK K hSw; (try simp only [Act.put, List.setIfInBounds_toArray, List.set_cons_zero, List.set_cons_succ])
    (repeat (first | (apply mix.ord_take; (· rfl); (· rfl); (· (intro w' hSw; (try dsimp only at hSw); go_simp; try with_reducible rfl)); (try simp only [Act.put, List.setIfInBounds_toArray, List.set_cons_zero, List.set_cons_succ])) | ((refine mix.ord_pass rfl (by rfl) ?_); (try simp only [Act.put, List.setIfInBounds_toArray, List.set_cons_zero, List.set_cons_succ]))))
    refine mix.ord_end ?_
    clear S3 G3 B3 S4
    have hw4 := B4.out.size
    have B04 := Lib.hid (B2.out.trans (B4.out.mono hw2))
    have X4 := Lib.hid (X2.out.below B4.out X2.out.lt)
    have IR4 := Lib.hid (IR2.out.below B4.out)
    have O4 := Lib.hid (O2.out.below B4.out)
    have x4l := X4.out.lt
    obtain ⟨k0, k1, k2, k3, k4, k5, k6, k7, k8⟩ := row_blk X4.out
    clear B2 X2 G2 O2 IR2 B4
    rcases HPC.out with ⟨i, x, hx, hat, hno, rfl⟩ | ⟨rfl, hno⟩
    · have him : i < m := by rw [← HM.out]; exact (List.getElem?_eq_some_iff.1 hx).1
      have HE := Lib.hid (upsOne_set hno hx hat)
      clear hx hat hno
      have hi2 : (i : Int) < (m : Int) := by omega
      have hi0 : (0 : Int) ≤ (i : Int) := by omega
      have hG4 := (HG.out.turn (S' := KeyIn W4 (Value.slice va m vc).ownBlock) (fun _ _ k => k.below B04.out))
      have hlt0 := HG.out.lt
      obtain ⟨b0, c0, u0, u1, u2, u3, u4, u5, u6, u7, u8, hv0, hb0, hb1, hu, hfz, hgs, hap⟩ := growS_set (j := i) (y := r) (h := ⟨ka, hr'.keyl, kc⟩) hG4 B04.out (by rw [HM.out]; exact him) ⟨fk, IR4.out, fun b hb e => by have h1 := (hlt0 b e).2; have h2 := (O4.out.2 b hb).1; omega⟩
      simp only [Value.slice.injEq] at hv0
      obtain ⟨rfl, -, -⟩ := hv0
      obtain ⟨z0, z1, z2, z3, z4, z5, z6, z7, z8⟩ := hu
      have hgs2 := hgs.turn (S' := KeyIn (W4.setCells b0 (i * 9) (Row.list r ⟨ka, hr'.keyl, kc⟩)) (some b0)) (fun y hy k => by
        obtain ⟨g, hg, hne⟩ := k
        exact ⟨g, hg.keep (fun q hq => hap.block q (hg.lt q hq) (by simp; exact fun e => hne q hq (by rw [e]; rfl))), fun q hq e => hne q hq e⟩)
      have HGS := Lib.hid hgs2
      have HBS := Lib.hid ((HB.out.trans (B04.out.mono hww)).trans (hap.below (lo := w.heap.size) (fun q hq => by simp at hq; omega) (by omega)))
      clear hgs hgs2 hap hG4 hlt0 hb0 hb1
      simp only [Row.list] at HGS HBS
      simp only [World.setCells] at HGS HBS
      have hge : (0 : Int) ≤ (i : Int) := hi0
      go_wp2_with fail
      go_roundg (n' - (j + 1))
      case measure => omega
      case rel => exact ⟨j + 1, by omega, by go_num, HBS.out, by rw [HNX.out, HE.out]; exact HGS.out⟩
    · have hno2 := Lib.hid hno
      clear hno HPC
      have RLK := Lib.hid RK0.out
      have hmle := HCAP.out
      have hneg : ¬ (0 : Int) ≤ -1 := by omega
      go_wp2_with fail
      clear k0 k1 k2 k3 k4 k5 k6 k7 k8
      go_loopg [9] m (fun k kv w2 => ∃ t : Nat, t + k = m ∧ kv = .int .i64 (t : Int) ∧ (∀ (q : Nat) y, q < t → lst[q]? = some y → gtB r y = false) ∧ Below W4.heap.size W4 w2)
      case atStart => exact ⟨0, by omega, rfl, fun q y hq => absurd hq (by omega), Below.refl _ _⟩
      case round =>
        obtain ⟨t, ht, rfl, hgt, hB2⟩ := hrel
        obtain ⟨w2, rfl⟩ : ∃ w2, w2 = wr := ⟨_, rfl⟩
        have HGT := Lib.hid hgt
        have HB2 := Lib.hid hB2
        have hw2 := hB2.size
        have X2 := Lib.hid (X4.out.below hB2 x4l)
        have hB02 := B04.out.trans (hB2.mono B04.out.size)
        clear hgt hB2
        by_cases htl : t < m
        case neg =>
          obtain rfl : t = m := by omega
          have HE := Lib.hid (upsOne_ins (i := t) hno2.out (by rw [HM.out]; exact Nat.le_refl _) (fun q y hq hy => HGT.out q y hq hy) (fun y hy => by have := (List.getElem?_eq_some_iff.1 hy).1; rw [HM.out] at this; omega))
          have htt : decide ((t : Int) < (t : Int)) = false := decide_eq_false (by omega)
          clear hB02
          go_wp2_with fail
          refine mix.wp_region_ord (fun _ => True) [9,11,12] [0,1,2,3,4,5,6,7,8,10,9,11,12,13,14] (by kernel_rfl) (by kernel_rfl) (fun _ _ d _ _ h => by cases d <;> exact h) trivial ?_
          simp only [List.filterMap_cons, List.filterMap_nil, List.getElem?_cons_zero, List.getElem?_cons_succ, Option.map_some]
          (repeat (first | (apply mix.ord_take; (· rfl); (· rfl); (· (intro w' hSw; (try dsimp only at hSw); go_simp; try with_reducible rfl)); (try simp only [Act.put, List.setIfInBounds_toArray, List.set_cons_zero, List.set_cons_succ])) | ((refine mix.ord_pass rfl (by rfl) ?_); (try simp only [Act.put, List.setIfInBounds_toArray, List.set_cons_zero, List.set_cons_succ]))))
          refine mix.ord_hard rfl (fun K hK => ?_); go_simp
          refine hK.out _ _ (trivial) (fun hSw => ?_); clear hK K hSw; (try simp only [Act.put, List.setIfInBounds_toArray, List.set_cons_zero, List.set_cons_succ])
          refine mix.ord_hard rfl (fun K hK => ?_); go_simp
          refine hK.out _ _ (trivial) (fun hSw => ?_); clear hK K hSw; (try simp only [Act.put, List.setIfInBounds_toArray, List.set_cons_zero, List.set_cons_succ])
          refine mix.ord_hard rfl (fun K hK => ?_); go_simp
          refine hK.out _ _ (trivial) (fun hSw => ?_); clear hK K hSw; (try simp only [Act.put, List.setIfInBounds_toArray, List.set_cons_zero, List.set_cons_succ])
          (repeat (first | (apply mix.ord_take; (· rfl); (· rfl); (· (intro w' hSw; (try dsimp only at hSw); go_simp; try with_reducible rfl)); (try simp only [Act.put, List.setIfInBounds_toArray, List.set_cons_zero, List.set_cons_succ])) | ((refine mix.ord_pass rfl (by rfl) ?_); (try simp only [Act.put, List.setIfInBounds_toArray, List.set_cons_zero, List.set_cons_succ]))))
          refine mix.ord_end ?_
          have hb6 : Below W4.heap.size W4 w2.drew := HB2.out.drew
          clear X2
          generalize w2.drew = W6 at *
          cases va with
          | none =>
            obtain ⟨rfl, rfl⟩ : t = 0 ∧ vc = 0 := by
              rcases HNONE.out with h | h
              · exact absurd rfl h
              · exact h
            have hW06 := B04.out.trans (hb6.mono B04.out.size)
            have HW06 := Lib.hid hW06
            have HB6 := Lib.hid (HB.out.trans (hW06.mono hww))
            have IR6 := Lib.hid (show ∃ g, Row.Is W6 r ⟨ka, hr'.keyl, kc⟩ g from ⟨fk, IR4.out.below hb6⟩)
            have X6 := Lib.hid (X4.out.below hb6 x4l)
            have KX6 := Lib.hid (fun (V : World) (hV : Below W6.heap.size W6 V) => keep_row X6.out hV)
            obtain ⟨fS, hrs⟩ : ∃ fS, GRow 9 (RSR (fun x h => ∃ g, Row.Is W6 x h g)) wo none 0 lst fS := RLK.out.conv (fun _ x f ⟨hh, e, ⟨g, hg, _⟩, _⟩ => ⟨[], hh, e, ⟨g, hg.below hW06⟩, rfl⟩)
            clear hb6 hW06
            have hdr0 : lst.drop 0 = [] := List.drop_of_length_le (by rw [HM.out]; omega)
            have HDR := Lib.hid (fun (V : World) (aa : Option Addr) (n0 : Nat) (h0 : n0 = 0) => show GRow 9 (RSR (fun x h => ∃ g, Row.Is W6 x h g)) V aa n0 (lst.drop 0) [] by rw [hdr0, h0]; exact GRow.nil)
            clear hdr0
            obtain ⟨fT, hT⟩ := hrs.take (t := 0) (by omega)
            have HT := Lib.hid (hT.below (local_rsr _) HW06.out)
            have HGP := Lib.hid (made_rows (RSR (fun x h => ∃ g, Row.Is W6 x h g)) W6)
            have htl3 : (lst.take 0).length ≤ 2000000 := by simp
            have hdl3 : (lst.drop 0).length ≤ 2000000 := by rw [List.length_drop, HM.out]; omega
            clear hT hrs
            go_wp2_with (at_builtin; refine halt_u (.tmp 62) (.tmp 65) _ _ rfl ?_)
            unfold HaltU
            refine pushAny (R := RSR (fun x h => ∃ g, Row.Is W6 x h g)) (k := 9) (l := []) (l2 := lst.take 0) (by decide) (local_rsr _) rsr_f rsr_ind rsr_one rfl (.tmp 62) (.tmp 65) 46 rfl i0 _ 88 Try.underlying46 HI.out.1 HI.out.2.1 HI.out.2.2.1 HI.out.2.2.2 rfl rfl HGP.out (Below.refl _ _) _ _ _ fT rfl (HT.out.below (local_rsr _) ((Below.refl _ _).alloc (Nat.le_refl _) _)) (by first | (simp; done) | (simp; omega)) (by first | (simp; done) | (simp; unfold maxLen; omega)) (by simp) ?_
            intro v7 w7 hG7 hb7 hk7
            rw [List.nil_append] at hG7
            have hW7 : Below W6.heap.size W6 w7 := ((Below.refl _ _).alloc (Nat.le_refl _) _).trans hb7
            obtain ⟨y0, y1, y2, y3, y4, y5, y6, y7, y8⟩ := KX6.out w7 hW7
            have G7 := Lib.hid hG7
            have B7 := Lib.hid hW7
            clear hG7 hb7 hk7 hW7
            go_wp2_with (at_builtin; refine halt_u (.tmp 67) (.tmp 69) _ _ rfl ?_)
            unfold HaltU
            refine push2 (R := RSR (fun x h => ∃ g, Row.Is W6 x h g)) (k := 9) (wr := w7) (local_rsr _) rfl (.tmp 67) (.tmp 69) 46 rfl i0 _ 88 Try.underlying46 HI.out.1 HI.out.2.1 HI.out.2.2.1 HI.out.2.2.2 rfl (by decide) rfl G7.out ((Below.refl _ _).alloc (Nat.le_refl _) _) w7.heap.size 1 rfl (Row.list r ⟨ka, hr'.keyl, kc⟩) rfl row_one (fun q u hq => ((blk_new w7 120 (Row.list r ⟨ka, hr'.keyl, kc⟩)).cell q).trans hq) r [] ⟨_, rfl, IR6.out, rfl⟩ Own.nil (by omega) (by unfold maxLen; omega) B7.out.size ?_
            intro v8 w8 hG8 hb8 _ _
            have hW8 : Below W6.heap.size W6 w8 := (B7.out.trans (((Below.refl _ _).alloc (Nat.le_refl _) _).mono B7.out.size)).trans hb8
            have G8 := Lib.hid hG8
            have B8 := Lib.hid hW8
            clear hG8 hb8 hW8
            go_wp2_with (at_builtin; refine halt_u (.tmp 71) (.tmp 74) _ _ rfl ?_)
            unfold HaltU
            refine pushAny (R := RSR (fun x h => ∃ g, Row.Is W6 x h g)) (k := 9) (l := lst.take 0 ++ [r]) (l2 := lst.drop 0) (by decide) (local_rsr _) rsr_f rsr_ind rsr_one rfl (.tmp 71) (.tmp 74) 46 rfl i0 _ 88 Try.underlying46 HI.out.1 HI.out.2.1 HI.out.2.2.1 HI.out.2.2.2 rfl rfl G8.out (Below.refl _ _) _ _ _ [] rfl (HDR.out _ _ _ (by omega)) (by first | (simp; done) | (simp; omega)) (by first | (simp; done) | (simp; unfold maxLen; omega)) B8.out.size ?_
            intro v9 w9 hG9 hb9 _
            have hW9 : Below W6.heap.size W6 w9 := B8.out.trans hb9
            have G9 := Lib.hid hG9
            have B9 := Lib.hid hW9
            clear hG9 hb9 hW9
            go_wp2_with fail
            have hEnd : Grows 9 (RSR (KeyIn w9 v9.ownBlock)) 120 w.heap.size w9 v9 (lst.take 0 ++ r :: lst.drop 0) := by
              have h1 := G9.out
              rw [List.append_assoc] at h1
              refine (h1.turn (fun y hy ⟨g, hg⟩ => KeyIn.young (o := none) ⟨g, hg, fun b _ e => by cases e⟩ B9.out (fun b e => (h1.lt b e).1))).lower ?_
              exact HB6.out.size
            have HEnd := Lib.hid hEnd
            have HBE := Lib.hid (HB6.out.trans (B9.out.mono HB6.out.size))
            clear hEnd
            go_roundg (n' - (j + 1))
            case measure => omega
            case rel => exact ⟨j + 1, by omega, by go_num, HBE.out, by rw [HNX.out, HE.out]; exact HEnd.out⟩
          | some ad =>
            obtain ⟨vb, rfl⟩ : ∃ vb, ad = ⟨vb, 0, none⟩ := HADR.out ad rfl
            by_cases hcap : t = vc
            · subst hcap
              have hW06 := B04.out.trans (hb6.mono B04.out.size)
              have HW06 := Lib.hid hW06
              have HB6 := Lib.hid (HB.out.trans (hW06.mono hww))
              have IR6 := Lib.hid (show ∃ g, Row.Is W6 r ⟨ka, hr'.keyl, kc⟩ g from ⟨fk, IR4.out.below hb6⟩)
              have X6 := Lib.hid (X4.out.below hb6 x4l)
              have KX6 := Lib.hid (fun (V : World) (hV : Below W6.heap.size W6 V) => keep_row X6.out hV)
              obtain ⟨fS, hrs⟩ : ∃ fS, GRow 9 (RSR (fun x h => ∃ g, Row.Is W6 x h g)) wo (some ⟨vb, 0, none⟩) t lst fS := RLK.out.conv (fun _ x f ⟨hh, e, ⟨g, hg, _⟩, _⟩ => ⟨[], hh, e, ⟨g, hg.below hW06⟩, rfl⟩)
              clear hb6 hW06
              have hdr0 : lst.drop t = [] := List.drop_of_length_le (by rw [HM.out]; omega)
              have HDR := Lib.hid (fun (V : World) (aa : Option Addr) (n0 : Nat) (h0 : n0 = 0) => show GRow 9 (RSR (fun x h => ∃ g, Row.Is W6 x h g)) V aa n0 (lst.drop t) [] by rw [hdr0, h0]; exact GRow.nil)
              clear hdr0
              obtain ⟨fT, hT⟩ := hrs.take (t := t) (by omega)
              have HT := Lib.hid (hT.below (local_rsr _) HW06.out)
              have HGP := Lib.hid (made_rows (RSR (fun x h => ∃ g, Row.Is W6 x h g)) W6)
              have htl3 : (lst.take t).length ≤ 2000000 := by simp; omega
              have hdl3 : (lst.drop t).length ≤ 2000000 := by rw [List.length_drop, HM.out]; omega
              clear hT hrs
              go_wp2_with (at_builtin; refine halt_u (.tmp 62) (.tmp 65) _ _ rfl ?_)
              unfold HaltU
              refine pushAny (R := RSR (fun x h => ∃ g, Row.Is W6 x h g)) (k := 9) (l := []) (l2 := lst.take t) (by decide) (local_rsr _) rsr_f rsr_ind rsr_one rfl (.tmp 62) (.tmp 65) 46 rfl i0 _ 88 Try.underlying46 HI.out.1 HI.out.2.1 HI.out.2.2.1 HI.out.2.2.2 rfl rfl HGP.out (Below.refl _ _) _ _ _ fT rfl (HT.out.below (local_rsr _) ((Below.refl _ _).alloc (Nat.le_refl _) _)) (by first | (simp; done) | (simp; omega)) (by first | (simp; done) | (simp; unfold maxLen; omega)) (by simp) ?_
              intro v7 w7 hG7 hb7 hk7
              rw [List.nil_append] at hG7
              have hW7 : Below W6.heap.size W6 w7 := ((Below.refl _ _).alloc (Nat.le_refl _) _).trans hb7
              obtain ⟨y0, y1, y2, y3, y4, y5, y6, y7, y8⟩ := KX6.out w7 hW7
              have G7 := Lib.hid hG7
              have B7 := Lib.hid hW7
              clear hG7 hb7 hk7 hW7
              go_wp2_with (at_builtin; refine halt_u (.tmp 67) (.tmp 69) _ _ rfl ?_)
              unfold HaltU
              refine push2 (R := RSR (fun x h => ∃ g, Row.Is W6 x h g)) (k := 9) (wr := w7) (local_rsr _) rfl (.tmp 67) (.tmp 69) 46 rfl i0 _ 88 Try.underlying46 HI.out.1 HI.out.2.1 HI.out.2.2.1 HI.out.2.2.2 rfl (by decide) rfl G7.out ((Below.refl _ _).alloc (Nat.le_refl _) _) w7.heap.size 1 rfl (Row.list r ⟨ka, hr'.keyl, kc⟩) rfl row_one (fun q u hq => ((blk_new w7 120 (Row.list r ⟨ka, hr'.keyl, kc⟩)).cell q).trans hq) r [] ⟨_, rfl, IR6.out, rfl⟩ Own.nil (by omega) (by unfold maxLen; omega) B7.out.size ?_
              intro v8 w8 hG8 hb8 _ _
              have hW8 : Below W6.heap.size W6 w8 := (B7.out.trans (((Below.refl _ _).alloc (Nat.le_refl _) _).mono B7.out.size)).trans hb8
              have G8 := Lib.hid hG8
              have B8 := Lib.hid hW8
              clear hG8 hb8 hW8
              go_wp2_with (at_builtin; refine halt_u (.tmp 71) (.tmp 74) _ _ rfl ?_)
              unfold HaltU
              refine pushAny (R := RSR (fun x h => ∃ g, Row.Is W6 x h g)) (k := 9) (l := lst.take t ++ [r]) (l2 := lst.drop t) (by decide) (local_rsr _) rsr_f rsr_ind rsr_one rfl (.tmp 71) (.tmp 74) 46 rfl i0 _ 88 Try.underlying46 HI.out.1 HI.out.2.1 HI.out.2.2.1 HI.out.2.2.2 rfl rfl G8.out (Below.refl _ _) _ _ _ [] rfl (HDR.out _ _ _ (by omega)) (by first | (simp; done) | (simp; omega)) (by first | (simp; done) | (simp; unfold maxLen; omega)) B8.out.size ?_
              intro v9 w9 hG9 hb9 _
              have hW9 : Below W6.heap.size W6 w9 := B8.out.trans hb9
              have G9 := Lib.hid hG9
              have B9 := Lib.hid hW9
              clear hG9 hb9 hW9
              go_wp2_with fail
              have hEnd : Grows 9 (RSR (KeyIn w9 v9.ownBlock)) 120 w.heap.size w9 v9 (lst.take t ++ r :: lst.drop t) := by
                have h1 := G9.out
                rw [List.append_assoc] at h1
                refine (h1.turn (fun y hy ⟨g, hg⟩ => KeyIn.young (o := none) ⟨g, hg, fun b _ e => by cases e⟩ B9.out (fun b e => (h1.lt b e).1))).lower ?_
                exact HB6.out.size
              have HEnd := Lib.hid hEnd
              have HBE := Lib.hid (HB6.out.trans (B9.out.mono HB6.out.size))
              clear hEnd
              go_roundg (n' - (j + 1))
              case measure => omega
              case rel => exact ⟨j + 1, by omega, by go_num, HBE.out, by rw [HNX.out, HE.out]; exact HEnd.out⟩
            · have hcap2 : t < vc := by omega
              have hW06 := B04.out.trans (hb6.mono B04.out.size)
              have HW06 := Lib.hid hW06
              have HB6 := Lib.hid (HB.out.trans (hW06.mono hww))
              have IR6 := Lib.hid (show ∃ g, Row.Is W6 r ⟨ka, hr'.keyl, kc⟩ g from ⟨fk, IR4.out.below hb6⟩)
              have X6 := Lib.hid (X4.out.below hb6 x4l)
              have KX6 := Lib.hid (fun (V : World) (hV : Below W6.heap.size W6 V) => keep_row X6.out hV)
              obtain ⟨fS, hrs⟩ : ∃ fS, GRow 9 (RSR (fun x h => ∃ g, Row.Is W6 x h g)) wo (some ⟨vb, 0, none⟩) t lst fS := RLK.out.conv (fun _ x f ⟨hh, e, ⟨g, hg, _⟩, _⟩ => ⟨[], hh, e, ⟨g, hg.below hW06⟩, rfl⟩)
              clear hb6 hW06
              have hdr0 : lst.drop t = [] := List.drop_of_length_le (by rw [HM.out]; omega)
              have HDR := Lib.hid (fun (V : World) (aa : Option Addr) (n0 : Nat) (h0 : n0 = 0) => show GRow 9 (RSR (fun x h => ∃ g, Row.Is W6 x h g)) V aa n0 (lst.drop t) [] by rw [hdr0, h0]; exact GRow.nil)
              clear hdr0
              obtain ⟨fT, hT⟩ := hrs.take (t := t) (by omega)
              have HT := Lib.hid (hT.below (local_rsr _) HW06.out)
              have HGP := Lib.hid (made_rows (RSR (fun x h => ∃ g, Row.Is W6 x h g)) W6)
              have htl3 : (lst.take t).length ≤ 2000000 := by simp; omega
              have hdl3 : (lst.drop t).length ≤ 2000000 := by rw [List.length_drop, HM.out]; omega
              clear hT hrs
              go_wp2_with (at_builtin; refine halt_u (.tmp 62) (.tmp 65) _ _ rfl ?_)
              unfold HaltU
              refine pushAny (R := RSR (fun x h => ∃ g, Row.Is W6 x h g)) (k := 9) (l := []) (l2 := lst.take t) (by decide) (local_rsr _) rsr_f rsr_ind rsr_one rfl (.tmp 62) (.tmp 65) 46 rfl i0 _ 88 Try.underlying46 HI.out.1 HI.out.2.1 HI.out.2.2.1 HI.out.2.2.2 rfl rfl HGP.out (Below.refl _ _) _ _ _ fT rfl (HT.out.below (local_rsr _) ((Below.refl _ _).alloc (Nat.le_refl _) _)) (by first | (simp; done) | (simp; omega)) (by first | (simp; done) | (simp; unfold maxLen; omega)) (by simp) ?_
              intro v7 w7 hG7 hb7 hk7
              rw [List.nil_append] at hG7
              have hW7 : Below W6.heap.size W6 w7 := ((Below.refl _ _).alloc (Nat.le_refl _) _).trans hb7
              obtain ⟨y0, y1, y2, y3, y4, y5, y6, y7, y8⟩ := KX6.out w7 hW7
              have G7 := Lib.hid hG7
              have B7 := Lib.hid hW7
              clear hG7 hb7 hk7 hW7
              go_wp2_with (at_builtin; refine halt_u (.tmp 67) (.tmp 69) _ _ rfl ?_)
              unfold HaltU
              refine push2 (R := RSR (fun x h => ∃ g, Row.Is W6 x h g)) (k := 9) (wr := w7) (local_rsr _) rfl (.tmp 67) (.tmp 69) 46 rfl i0 _ 88 Try.underlying46 HI.out.1 HI.out.2.1 HI.out.2.2.1 HI.out.2.2.2 rfl (by decide) rfl G7.out ((Below.refl _ _).alloc (Nat.le_refl _) _) w7.heap.size 1 rfl (Row.list r ⟨ka, hr'.keyl, kc⟩) rfl row_one (fun q u hq => ((blk_new w7 120 (Row.list r ⟨ka, hr'.keyl, kc⟩)).cell q).trans hq) r [] ⟨_, rfl, IR6.out, rfl⟩ Own.nil (by omega) (by unfold maxLen; omega) B7.out.size ?_
              intro v8 w8 hG8 hb8 _ _
              have hW8 : Below W6.heap.size W6 w8 := (B7.out.trans (((Below.refl _ _).alloc (Nat.le_refl _) _).mono B7.out.size)).trans hb8
              have G8 := Lib.hid hG8
              have B8 := Lib.hid hW8
              clear hG8 hb8 hW8
              go_wp2_with (at_builtin; refine halt_u (.tmp 71) (.tmp 74) _ _ rfl ?_)
              unfold HaltU
              refine pushAny (R := RSR (fun x h => ∃ g, Row.Is W6 x h g)) (k := 9) (l := lst.take t ++ [r]) (l2 := lst.drop t) (by decide) (local_rsr _) rsr_f rsr_ind rsr_one rfl (.tmp 71) (.tmp 74) 46 rfl i0 _ 88 Try.underlying46 HI.out.1 HI.out.2.1 HI.out.2.2.1 HI.out.2.2.2 rfl rfl G8.out (Below.refl _ _) _ _ _ [] rfl (HDR.out _ _ _ (by omega)) (by first | (simp; done) | (simp; omega)) (by first | (simp; done) | (simp; unfold maxLen; omega)) B8.out.size ?_
              intro v9 w9 hG9 hb9 _
              have hW9 : Below W6.heap.size W6 w9 := B8.out.trans hb9
              have G9 := Lib.hid hG9
              have B9 := Lib.hid hW9
              clear hG9 hb9 hW9
              go_wp2_with fail
              have hEnd : Grows 9 (RSR (KeyIn w9 v9.ownBlock)) 120 w.heap.size w9 v9 (lst.take t ++ r :: lst.drop t) := by
                have h1 := G9.out
                rw [List.append_assoc] at h1
                refine (h1.turn (fun y hy ⟨g, hg⟩ => KeyIn.young (o := none) ⟨g, hg, fun b _ e => by cases e⟩ B9.out (fun b e => (h1.lt b e).1))).lower ?_
                exact HB6.out.size
              have HEnd := Lib.hid hEnd
              have HBE := Lib.hid (HB6.out.trans (B9.out.mono HB6.out.size))
              clear hEnd
              go_roundg (n' - (j + 1))
              case measure => omega
              case rel => exact ⟨j + 1, by omega, by go_num, HBE.out, by rw [HNX.out, HE.out]; exact HEnd.out⟩
        obtain ⟨bl, cl, x, h, hvx, hbx, hx, hKx, hcx⟩ := growS_at HG.out hB02 (by rw [HM.out]; exact htl)
        simp only [Value.slice.injEq] at hvx
        obtain ⟨rfl, -, rfl⟩ := hvx
        obtain ⟨q0, q1, q2, q3, q4, q5, q6, q7, q8⟩ := row_cell9 hcx
        have htl2 : (t : Int) < (m : Int) := by omega
        have ht0 : (0 : Int) ≤ (t : Int) := by omega
        have htc : t < vc := by omega
        have hblw : bl < w2.heap.size := Nat.lt_of_lt_of_le hbx hB02.size
        have HX := Lib.hid hx
        obtain ⟨fx, hIx, _⟩ := hKx
        have IX := Lib.hid (hIx.below hB02)
        have SX := Lib.hid (sz_elemR hx ZL.out)
        obtain ⟨cv, hcv⟩ : ∃ cv, paneC x.pane r.pane = cv := ⟨_, rfl⟩
        have HCV := Lib.hid hcv
        have HSS := Lib.hid (fun (V : World) (hV : Below w2.heap.size w2 V) => (show (V.cell? ⟨wo.heap.size, 0, none⟩ = some (.int .i64 r.win) ∧ V.cell? ⟨wo.heap.size, 1, none⟩ = some (.int .i64 r.mask) ∧ V.cell? ⟨wo.heap.size, 2, none⟩ = some (.int .i64 r.start) ∧ V.cell? ⟨wo.heap.size, 3, none⟩ = some (.slice ka hr'.keyl kc) ∧ V.cell? ⟨wo.heap.size, 4, none⟩ = some (.int .i64 r.a.n) ∧ V.cell? ⟨wo.heap.size, 5, none⟩ = some (.int .i64 r.a.sm) ∧ V.cell? ⟨wo.heap.size, 6, none⟩ = some (.int .i64 r.a.mn) ∧ V.cell? ⟨wo.heap.size, 7, none⟩ = some (.int .i64 r.a.mx) ∧ V.cell? ⟨wo.heap.size, 8, none⟩ = some (.int .i64 r.times)) ∧ (V.cell? ⟨bl, t * 9, none⟩ = some (.int .i64 x.win) ∧ V.cell? ⟨bl, t * 9 + 1, none⟩ = some (.int .i64 x.mask) ∧ V.cell? ⟨bl, t * 9 + 2, none⟩ = some (.int .i64 x.start) ∧ V.cell? ⟨bl, t * 9 + 3, none⟩ = some (.slice h.keya h.keyl h.keyc) ∧ V.cell? ⟨bl, t * 9 + 4, none⟩ = some (.int .i64 x.a.n) ∧ V.cell? ⟨bl, t * 9 + 5, none⟩ = some (.int .i64 x.a.sm) ∧ V.cell? ⟨bl, t * 9 + 6, none⟩ = some (.int .i64 x.a.mn) ∧ V.cell? ⟨bl, t * 9 + 7, none⟩ = some (.int .i64 x.a.mx) ∧ V.cell? ⟨bl, t * 9 + 8, none⟩ = some (.int .i64 x.times)) from ⟨keep_row X2.out hV, (hV.cell (p := ⟨bl, t * 9, none⟩) hblw).trans q0, (hV.cell (p := ⟨bl, t * 9 + 1, none⟩) hblw).trans q1, (hV.cell (p := ⟨bl, t * 9 + 2, none⟩) hblw).trans q2, (hV.cell (p := ⟨bl, t * 9 + 3, none⟩) hblw).trans q3, (hV.cell (p := ⟨bl, t * 9 + 4, none⟩) hblw).trans q4, (hV.cell (p := ⟨bl, t * 9 + 5, none⟩) hblw).trans q5, (hV.cell (p := ⟨bl, t * 9 + 6, none⟩) hblw).trans q6, (hV.cell (p := ⟨bl, t * 9 + 7, none⟩) hblw).trans q7, (hV.cell (p := ⟨bl, t * 9 + 8, none⟩) hblw).trans q8⟩))
        have hPx := fun W => l06Pane x h W
        have hPr := fun W => l06Pane r ⟨ka, hr'.keyl, kc⟩ W
        simp only [Row.list, Pane.list, RowD.pane] at hPx hPr
        have HPX := Lib.hid hPx
        have HPR := Lib.hid hPr
        have S0 := HSS.out w2 (Below.refl _ _)
        clear hcx hx hIx hcv q0 q1 q2 q3 q4 q5 q6 q7 q8 hPx hPr hB02
        go_wp2_with fail
        refine mix.wp_region_ord (fun V => (V.cell? ⟨wo.heap.size, 0, none⟩ = some (.int .i64 r.win) ∧ V.cell? ⟨wo.heap.size, 1, none⟩ = some (.int .i64 r.mask) ∧ V.cell? ⟨wo.heap.size, 2, none⟩ = some (.int .i64 r.start) ∧ V.cell? ⟨wo.heap.size, 3, none⟩ = some (.slice ka hr'.keyl kc) ∧ V.cell? ⟨wo.heap.size, 4, none⟩ = some (.int .i64 r.a.n) ∧ V.cell? ⟨wo.heap.size, 5, none⟩ = some (.int .i64 r.a.sm) ∧ V.cell? ⟨wo.heap.size, 6, none⟩ = some (.int .i64 r.a.mn) ∧ V.cell? ⟨wo.heap.size, 7, none⟩ = some (.int .i64 r.a.mx) ∧ V.cell? ⟨wo.heap.size, 8, none⟩ = some (.int .i64 r.times)) ∧ (V.cell? ⟨bl, t * 9, none⟩ = some (.int .i64 x.win) ∧ V.cell? ⟨bl, t * 9 + 1, none⟩ = some (.int .i64 x.mask) ∧ V.cell? ⟨bl, t * 9 + 2, none⟩ = some (.int .i64 x.start) ∧ V.cell? ⟨bl, t * 9 + 3, none⟩ = some (.slice h.keya h.keyl h.keyc) ∧ V.cell? ⟨bl, t * 9 + 4, none⟩ = some (.int .i64 x.a.n) ∧ V.cell? ⟨bl, t * 9 + 5, none⟩ = some (.int .i64 x.a.sm) ∧ V.cell? ⟨bl, t * 9 + 6, none⟩ = some (.int .i64 x.a.mn) ∧ V.cell? ⟨bl, t * 9 + 7, none⟩ = some (.int .i64 x.a.mx) ∧ V.cell? ⟨bl, t * 9 + 8, none⟩ = some (.int .i64 x.times))) [9,11,12] [0,1,2,3,4,5,6,7,8,10,9,11,12,13,14] (by kernel_rfl) (by kernel_rfl) (fun _ _ d _ _ h => by cases d <;> exact h) S0 ?_
        clear S0
        simp only [List.filterMap_cons, List.filterMap_nil, List.getElem?_cons_zero, List.getElem?_cons_succ, Option.map_some]
        (repeat (first | (apply mix.ord_take; (· rfl); (· rfl); (· (intro w' hSw; (try dsimp only at hSw); go_simp; try with_reducible rfl)); (try simp only [Act.put, List.setIfInBounds_toArray, List.set_cons_zero, List.set_cons_succ])) | ((refine mix.ord_pass rfl (by rfl) ?_); (try simp only [Act.put, List.setIfInBounds_toArray, List.set_cons_zero, List.set_cons_succ]))))
        refine mix.ord_hard rfl (fun K hK => ?_); go_simp
        refine (HPX.out _).mono ?_
        rintro e V1 ⟨rfl, b1⟩
        have c1 : Below w2.heap.size w2 V1 := (Below.refl _ _).drew.trans b1
        have S1 := Lib.hid (HSS.out V1 c1)
        have C1 := Lib.hid c1
        clear b1 c1
        refine hK.out _ _ (S1.out) (fun hSw => ?_); clear hK K hSw; (try simp only [Act.put, List.setIfInBounds_toArray, List.set_cons_zero, List.set_cons_succ])
        refine mix.ord_hard rfl (fun K hK => ?_); go_simp
        refine (HPR.out _).mono ?_
        rintro e V2 ⟨rfl, b2⟩
        have c2 : Below w2.heap.size w2 V2 := C1.out.trans (b2.mono C1.out.size)
        have S2 := Lib.hid (HSS.out V2 c2)
        have C2 := Lib.hid c2
        clear b2 c2
        refine hK.out _ _ (S2.out) (fun hSw => ?_); clear hK K hSw; (try simp only [Act.put, List.setIfInBounds_toArray, List.set_cons_zero, List.set_cons_succ])
        refine mix.ord_hard rfl (fun K hK => ?_); go_simp
        have hcmp := spec_PaneCmp x.pane ⟨h.keya, h.keyl, h.keyc⟩ fx r.pane ⟨ka, hr'.keyl, kc⟩ fk V2 (row_pane_is (IX.out.below C2.out)) (row_pane_is (IR4.out.below (HB2.out.trans (C2.out.mono hw2)))) SX.out SZ.out
        rw [HCV.out] at hcmp
        simp only [Pane.list, RowD.pane] at hcmp
        refine hcmp.mono ?_
        clear hcmp
        rintro e V3 ⟨rfl, b3⟩
        have c3 : Below w2.heap.size w2 V3 := C2.out.trans (b3.mono C2.out.size)
        have S3 := Lib.hid (HSS.out V3 c3)
        have C3 := Lib.hid (HB2.out.trans (c3.mono hw2))
        clear b3 c3
        refine hK.out _ _ (S3.out) (fun hSw => ?_); clear hK K hSw; (try simp only [Act.put, List.setIfInBounds_toArray, List.set_cons_zero, List.set_cons_succ])
        by_cases hle : cv ≤ 0
        · have HN := Lib.hid (show ∀ (q : Nat) y, q < t + 1 → lst[q]? = some y → gtB r y = false from fun q y hq hy => by
            by_cases e : q = t
            · subst e; rw [HX.out] at hy; cases hy; unfold gtB; rw [HCV.out]; simp; omega
            · exact HGT.out q y (by omega) hy)
          (repeat (first | (apply mix.ord_take; (· rfl); (· rfl); (· (intro w' hSw; (try dsimp only at hSw); go_simp; try with_reducible rfl)); (try simp only [Act.put, List.setIfInBounds_toArray, List.set_cons_zero, List.set_cons_succ])) | ((refine mix.ord_pass rfl (by rfl) ?_); (try simp only [Act.put, List.setIfInBounds_toArray, List.set_cons_zero, List.set_cons_succ]))))
          refine mix.ord_end ?_
          go_wp2_with fail
          go_roundg (m - (t + 1))
          case measure => omega
          case rel => exact ⟨t + 1, by omega, by go_num, HN.out, C3.out⟩
        · have HE := Lib.hid (upsOne_ins (i := t) hno2.out (by rw [HM.out]; omega) (fun q y hq hy => HGT.out q y hq hy) (fun y hy => by rw [HX.out] at hy; cases hy; unfold gtB; rw [HCV.out]; simp; omega))
          (repeat (first | (apply mix.ord_take; (· rfl); (· rfl); (· (intro w' hSw; (try dsimp only at hSw); go_simp; try with_reducible rfl)); (try simp only [Act.put, List.setIfInBounds_toArray, List.set_cons_zero, List.set_cons_succ])) | ((refine mix.ord_pass rfl (by rfl) ?_); (try simp only [Act.put, List.setIfInBounds_toArray, List.set_cons_zero, List.set_cons_succ]))))
          refine mix.ord_end ?_
          have hb6 := C3.out
          obtain ⟨W6, rfl⟩ : ∃ W6, W6 = V3 := ⟨_, rfl⟩
          have hW06 := B04.out.trans (hb6.mono B04.out.size)
          have HW06 := Lib.hid hW06
          have HB6 := Lib.hid (HB.out.trans (hW06.mono hww))
          have IR6 := Lib.hid (show ∃ g, Row.Is W6 r ⟨ka, hr'.keyl, kc⟩ g from ⟨fk, IR4.out.below hb6⟩)
          have X6 := Lib.hid (X4.out.below hb6 x4l)
          have KX6 := Lib.hid (fun (V : World) (hV : Below W6.heap.size W6 V) => keep_row X6.out hV)
          obtain ⟨fS, hrs⟩ : ∃ fS, GRow 9 (RSR (fun x h => ∃ g, Row.Is W6 x h g)) wo (some ⟨bl, 0, none⟩) m lst fS := RLK.out.conv (fun _ x f ⟨hh, e, ⟨g, hg, _⟩, _⟩ => ⟨[], hh, e, ⟨g, hg.below hW06⟩, rfl⟩)
          clear hb6 hW06
          obtain ⟨fD, hD⟩ := hrs.drop (t := t) (by omega)
          rw [Nat.zero_add] at hD
          have HDR := Lib.hid (hD.below (local_rsr _) HW06.out)
          clear hD
          obtain ⟨fT, hT⟩ := hrs.take (t := t) (by omega)
          have HT := Lib.hid (hT.below (local_rsr _) HW06.out)
          have HGP := Lib.hid (made_rows (RSR (fun x h => ∃ g, Row.Is W6 x h g)) W6)
          have htl3 : (lst.take t).length ≤ 2000000 := by simp; omega
          have hdl3 : (lst.drop t).length ≤ 2000000 := by rw [List.length_drop, HM.out]; omega
          clear hT hrs
          go_wp2_with (at_builtin; refine halt_u (.tmp 62) (.tmp 65) _ _ rfl ?_)
          unfold HaltU
          refine pushAny (R := RSR (fun x h => ∃ g, Row.Is W6 x h g)) (k := 9) (l := []) (l2 := lst.take t) (by decide) (local_rsr _) rsr_f rsr_ind rsr_one rfl (.tmp 62) (.tmp 65) 46 rfl i0 _ 88 Try.underlying46 HI.out.1 HI.out.2.1 HI.out.2.2.1 HI.out.2.2.2 rfl rfl HGP.out (Below.refl _ _) _ _ _ fT rfl (HT.out.below (local_rsr _) ((Below.refl _ _).alloc (Nat.le_refl _) _)) (by first | (simp; done) | (simp; omega)) (by first | (simp; done) | (simp; unfold maxLen; omega)) (by simp) ?_
          intro v7 w7 hG7 hb7 hk7
          rw [List.nil_append] at hG7
          have hW7 : Below W6.heap.size W6 w7 := ((Below.refl _ _).alloc (Nat.le_refl _) _).trans hb7
          obtain ⟨y0, y1, y2, y3, y4, y5, y6, y7, y8⟩ := KX6.out w7 hW7
          have G7 := Lib.hid hG7
          have B7 := Lib.hid hW7
          clear hG7 hb7 hk7 hW7
          go_wp2_with (at_builtin; refine halt_u (.tmp 67) (.tmp 69) _ _ rfl ?_)
          unfold HaltU
          refine push2 (R := RSR (fun x h => ∃ g, Row.Is W6 x h g)) (k := 9) (wr := w7) (local_rsr _) rfl (.tmp 67) (.tmp 69) 46 rfl i0 _ 88 Try.underlying46 HI.out.1 HI.out.2.1 HI.out.2.2.1 HI.out.2.2.2 rfl (by decide) rfl G7.out ((Below.refl _ _).alloc (Nat.le_refl _) _) w7.heap.size 1 rfl (Row.list r ⟨ka, hr'.keyl, kc⟩) rfl row_one (fun q u hq => ((blk_new w7 120 (Row.list r ⟨ka, hr'.keyl, kc⟩)).cell q).trans hq) r [] ⟨_, rfl, IR6.out, rfl⟩ Own.nil (by omega) (by unfold maxLen; omega) B7.out.size ?_
          intro v8 w8 hG8 hb8 _ _
          have hW8 : Below W6.heap.size W6 w8 := (B7.out.trans (((Below.refl _ _).alloc (Nat.le_refl _) _).mono B7.out.size)).trans hb8
          have G8 := Lib.hid hG8
          have B8 := Lib.hid hW8
          clear hG8 hb8 hW8
          go_wp2_with (at_builtin; refine halt_u (.tmp 71) (.tmp 74) _ _ rfl ?_)
          unfold HaltU
          refine pushAny (R := RSR (fun x h => ∃ g, Row.Is W6 x h g)) (k := 9) (l := lst.take t ++ [r]) (l2 := lst.drop t) (by decide) (local_rsr _) rsr_f rsr_ind rsr_one rfl (.tmp 71) (.tmp 74) 46 rfl i0 _ 88 Try.underlying46 HI.out.1 HI.out.2.1 HI.out.2.2.1 HI.out.2.2.2 rfl rfl G8.out (Below.refl _ _) _ _ _ fD rfl (HDR.out.below (local_rsr _) B8.out) (by first | (simp; done) | (simp; omega)) (by first | (simp; done) | (simp; unfold maxLen; omega)) B8.out.size ?_
          intro v9 w9 hG9 hb9 _
          have hW9 : Below W6.heap.size W6 w9 := B8.out.trans hb9
          have G9 := Lib.hid hG9
          have B9 := Lib.hid hW9
          clear hG9 hb9 hW9
          go_wp2_with fail
          have hEnd : Grows 9 (RSR (KeyIn w9 v9.ownBlock)) 120 w.heap.size w9 v9 (lst.take t ++ r :: lst.drop t) := by
            have h1 := G9.out
            rw [List.append_assoc] at h1
            refine (h1.turn (fun y hy ⟨g, hg⟩ => KeyIn.young (o := none) ⟨g, hg, fun b _ e => by cases e⟩ B9.out (fun b e => (h1.lt b e).1))).lower ?_
            exact HB6.out.size
          have HEnd := Lib.hid hEnd
          have HBE := Lib.hid (HB6.out.trans (B9.out.mono HB6.out.size))
          clear hEnd
          go_roundg (n' - (j + 1))
          case measure => omega
          case rel => exact ⟨j + 1, by omega, by go_num, HBE.out, by rw [HNX.out, HE.out]; exact HEnd.out⟩

theorem spec_Upsert (a : Option Addr) (n c : Nat) (l : List RowD) (fp : List Nat) (a' : Option Addr) (n' c' : Nat) (l' : List RowD) (fp' : List Nat) (w : World) (hrow : GRow 9 RRow w a n l fp) (_u0 : n ≤ c) (_v0 : c ≤ 9223372036854775807) (hrow' : GRow 9 RRow w a' n' l' fp') (_u1 : n' ≤ c') (_v1 : c' ≤ 9223372036854775807) (hz0 : szL Row.sz l ≤ 2000000) (hz1 : szL Row.sz l' ≤ 2000000) (hz : szL Row.sz l + szL Row.sz l' ≤ 2000000) :
    Calls Try.prog 37 #[.slice a n c, .slice a' n' c'] w fun e w' => ∃ (a : Option Addr) (n c : Nat) (f : List Nat), e = .returned (.slice a n c) ∧ GRow 9 RRow w' a n (upsertD l l') f ∧ n ≤ c ∧ c ≤ 9223372036854775807 ∧ Below w.heap.size w w' := by
  refine (spec_Upsert_own a n c l fp a' n' c' l' fp' w hrow hrow' hz0 hz1 hz).mono ?_
  rintro e w' ⟨v, rfl, hG, hb⟩
  obtain ⟨a2, c2, f2, rfl, hg, h1, h2, _⟩ := hG.done
  obtain ⟨f3, h3⟩ := rsr_row hg (fun _ _ ⟨g, hg, _⟩ => ⟨g, hg⟩)
  exact ⟨a2, _, c2, f3, rfl, h3, h1, h2, hb⟩
end Go.Proofs.Ytoglclmaacjdaaa.dat
