/-
  THE CONTRACT OF MergeOrder of the model: the order of all records; nothing that was there is written.
-/
import Derived.Test.YtpoojmodebgioaaGreatDoorMergeImpl
import Derived.Test.YtpoojmodebgioaaGreatDoorMixOrd
namespace Go.Proofs.YtpoojmodebgioaaGreatDoor.dat
open Go.RowKit Go.Proofs.YtpoojmodebgioaaGreatDoor.win

def rdCells (rd : List Nat) : List Value := rd.map fun n : Nat => Value.int .i64 (n : Int)
theorem rdCells_at {rd : List Nat} {j : Nat} (h : j < rd.length) : (rdCells rd)[j]? = some (.int .i64 ((rd.getD j 0 : Nat) : Int)) := by
  unfold rdCells
  rw [List.getElem?_map, List.getElem?_eq_getElem h, List.getD_eq_getElem?_getD, List.getElem?_eq_getElem h]
  rfl
theorem rdCells_next {rd : List Nat} {b : Nat} : (rdCells rd).set b (.int .i64 (((rd.getD b 0 : Nat) : Int) + 1)) = rdCells (rdNext rd b) := by
  unfold rdCells rdNext
  rw [List.map_set]
  congr 1
theorem Logs.at {w : World} {b off : Nat} {L : List PartD} {H : List PartH} (h : Logs w (some ⟨b, off, none⟩) L H) {i : Nat} {x : PartD} (hx : L[i]? = some x) : ∃ (hh : PartH) (f : List Nat), Part.Is w x hh f ∧ w.cell? ⟨b, off + i, none⟩ = some (.slice hh.recsa hh.recsl hh.recsc) ∧ b < w.heap.size ∧ hh.recsl = x.recs.length := by
  obtain ⟨b', off', hh, f, e, h2, h3, h4, h5⟩ := h.el i x hx
  cases e
  refine ⟨hh, f, h4, h5, h2, ?_⟩
  obtain ⟨f0, _, r0, _⟩ := h4
  exact r0.1.symm
theorem scan_no {c : ConfD} {L : List PartD} {rd : List Nat} {j : Nat} (h : opn L rd j = false) : scan c L rd (j + 1) = scan c L rd j := by
  rw [scan, if_neg (fun e => by rw [h] at e; cases e.1)]
theorem scan_first {c : ConfD} {L : List PartD} {rd : List Nat} {j : Nat} (h : opn L rd j = true) (h0 : scan c L rd j < 0) : scan c L rd (j + 1) = (j : Int) := by
  rw [scan, if_pos ⟨h, .inl h0⟩]
theorem scan_less {c : ConfD} {L : List PartD} {rd : List Nat} {j b : Nat} (h : opn L rd j = true) (hb : scan c L rd j = (b : Int)) (hl : mk c L j (rd.getD j 0) < mk c L b (rd.getD b 0)) : scan c L rd (j + 1) = (j : Int) := by
  rw [scan, if_pos ⟨h, .inr (by rw [hb]; simpa using hl)⟩]
theorem scan_more {c : ConfD} {L : List PartD} {rd : List Nat} {j b : Nat} (hb : scan c L rd j = (b : Int)) (hl : ¬ mk c L j (rd.getD j 0) < mk c L b (rd.getD b 0)) : scan c L rd (j + 1) = scan c L rd j := by
  rw [scan, if_neg]
  rintro ⟨_, h | h⟩
  · omega
  · rw [hb] at h
    exact hl (by simpa using h)
theorem mk_is {c : ConfD} {L : List PartD} {p k : Nat} {x : PartD} (hx : L[p]? = some x) : mk c L p k = markD c x (k : Int) := by
  unfold mk markD
  rw [recsOf_at hx, Int.toNat_natCast]
theorem made_zero (n : Nat) : madeCells #[Value.int .i64 0] n = (rdCells (List.replicate n 0)).toArray := by
  have h := made_eq [Value.int .i64 0] (by simp) n
  simp only [List.length_singleton, Nat.mul_one] at h
  rw [h]
  unfold rdCells
  simp [List.flatten_replicate_singleton]
/-- The merge under way, in the model: what came stands in vo, how many of each part in block gr. -/
structure MergingS (c : ConfD) (L : List PartD) (w : World) (gr : Nat) (K : List Value) (n : Nat) (vo : Value) (wr : World) : Prop where
  ex : ∃ out rd, n + out.length = totalD L ∧ Under c L out rd ∧ Blk wr gr 3 (rdCells rd) ∧ Grows 2 RPos 36 (w.heap.size + 1) wr vo out ∧ vo.ownBlock ≠ some gr
  conf : Blk wr w.heap.size 27 K
  below : Below w.heap.size w wr

set_option maxRecDepth 100000 in
set_option maxHeartbeats 8000000 in
theorem spec_MergeOrder_any (c : ConfD) (ch : ConfigH) (cf : List Nat) (a : Option Addr) (len cap : Nat) (L : List PartD) (fp : List Nat) (w : World) (hc : Config.Is w c ch cf) (hrow : GRow 1 RPart w a len L fp) (u1 : len ≤ cap) (u2 : cap ≤ 9223372036854775807) (zl : szL Part.sz L ≤ 2000000) :
    Calls Tryz.prog 10 #[.agg (Config.list c ch).toArray, .slice a len cap] w (GiveP w (mergeD c L)) := by
  have hl := hrow.1
  obtain ⟨H, hlog⟩ := logs_of hrow
  have HC := Lib.hid hc
  have HG := Lib.hid hrow
  have HL := Lib.hid hlog
  have HZ := Lib.hid (fun x (hx : x ∈ L) => show Part.sz x ≤ 2000000 by
    obtain ⟨i, hi, rfl⟩ := List.getElem_of_mem hx
    have := sz_elem_le Part.sz L (List.getElem?_eq_getElem hi)
    unfold szL at zl
    omega)
  have HO := Lib.hid (fun w h1 h2 => spec_LogsOk c ch cf a len cap L fp w h1 h2 u1 u2)
  have HMK := Lib.hid (fun x h f n w h1 h2 h3 => spec_MarkOf_any c ch cf x h f n w h1 h2 h3)
  clear hc hrow hlog zl
  simp only [Config.list, Part.list] at HO HMK ⊢
  go_enter Tryz.func10, Tryz.ntmps10
  go_wp2_with fail
  refine calls_gen (fun W => Below w.heap.size w W ∧ Blk W w.heap.size 27 (Config.list c ch) ∧ Grows 2 RPos 36 (w.heap.size + 1) W (.slice (some ⟨w.heap.size + 1, 0, none⟩) 0 0) ([] : List (Int × Int))) ⟨by repeat (first | exact Below.refl _ _ | refine Below.setCell ?_ (by first | omega | (simp; done) | (simp; omega)) _ | refine Below.alloc ?_ (by first | omega | (simp; done) | (simp; omega)) _ | apply Below.drew), by unfold Config.list; with_reducible (repeat (first | (refine blk_new_at _ _ _ _ ?_; first | rfl | (simp; done)) | refine Blk.alloc ?_ _ | apply Blk.drew | refine Blk.setOther ?_ (by first | (simp; done) | (simp; omega)) _)), ?_⟩ ?_
  · have := Grows.made (k := 2) (R := RPos) (e := 36) (base := w.heap.size + 1) (w := w.alloc (.cells (Config.list c ch).toArray 27)) #[] 0 (by simp) (by simp [maxLen]) rfl
    simpa [Config.list] using this
  rintro W1 ⟨b1, k1, g1⟩
  refine (HO.out _ (HC.out.below b1) (HG.out.below local_Part b1)).mono ?_
  rintro e' W2 ⟨rfl, b2⟩
  have B2 := Lib.hid (b1.trans (b2.mono b1.size))
  have K2 := Lib.hid (k1.below b2 k1.lt)
  have G2 := Lib.hid (g1.below local_Pos b2)
  clear b1 b2 k1 g1
  cases hlg : logsB c L with
  | false =>
    have HM := Lib.hid (show mergeD c L = [] by unfold mergeD; rw [hlg]; rfl)
    clear hlg
    go_wp2_with fail
    go_ret
    rw [HM.out]
    exact givep_of G2.out (Nat.le_succ _) B2.out
  | true =>
  have HM := Lib.hid (show mergeD c L = ordD c L by unfold mergeD; rw [hlg]; rfl)
  have hbd := logs_bounds hlg
  have htt := logs_total hlg
  have h3 : len ≤ 3 := by omega
  have h1 : 1 ≤ len := by omega
  obtain ⟨b, off, -, -, rfl, hbw, -⟩ := HL.out.el 0 (L[0]'(by omega)) (List.getElem?_eq_getElem (by omega))
  clear hlg hbd
  have hmake := fun w => run_make_n (P := Tryz.prog) 25 3 (.int .i64 0) 1 8 Tryz.underlying25 info_int .i64 .i64 len (by omega) (by omega) w
  go_wp2_with fail
  clear hmake
  go_loopg [5] (totalD L) (fun n vo wr => MergingS c L w W2.heap.size (Config.list c ch) n vo wr)
  case atStart =>
    have hg := G2.out.lt _ rfl
    refine ⟨⟨[], List.replicate L.length 0, by simp, Under.start c L, ?_, G2.out.below local_Pos ((Below.refl _ _).alloc (Nat.le_refl _) _), ?_⟩, K2.out.alloc _, B2.out.alloc B2.out.size _⟩
    · rw [made_zero, hl]
      exact blk_new _ _ _
    · simp [Value.ownBlock]
      omega
  case round =>
    obtain ⟨⟨out, rd, hn, hU, hR, hGo, hne⟩, hK, hB⟩ := hrel
    obtain ⟨ao, co, rfl⟩ := hGo.slice
    have HU := Lib.hid hU
    have HR := Lib.hid hR
    have HK := Lib.hid hK
    have HB := Lib.hid hB
    have HGo := Lib.hid hGo
    have HNE := Lib.hid hne
    have hout := hU.le_total
    have hrl := hU.len
    have hw2 : w.heap.size < W2.heap.size := K2.out.lt
    have hwr : W2.heap.size < wr.heap.size := hR.lt
    clear hU hR hK hB hGo hne G2 B2 K2
    generalize wr = wo at *
    go_wp2_with fail
    go_loopg [7, 8] len (fun k best p wi => ∃ j : Nat, j + k = len ∧ p = .int .i64 j ∧ best = .int .i64 (scan c L rd j) ∧ Below wo.heap.size wo wi)
    case atStart => exact ⟨0, by omega, rfl, rfl, Below.refl _ _⟩
    case round =>
      obtain ⟨j, hj, rfl, rfl, hbi⟩ := hrel
      have HBI := Lib.hid hbi
      have BI := Lib.hid (HB.out.trans (hbi.mono HB.out.size))
      by_cases hlt : j < len
      case neg =>
        obtain rfl : j = len := by omega
        clear hbi
        rcases scan_spec c L rd j with ⟨hs, hno⟩ | ⟨B, hs, hnx⟩
        · have HD := Lib.hid (HU.out.done (fun p hp => hno p (by omega)))
          rw [hs]
          clear hs hno
          go_wp2_with fail
          go_ret
          rw [HM.out, ← HD.out]
          exact givep_of (HGo.out.below local_Pos HBI.out) (Nat.le_succ _) BI.out
        · have hnx' : Next c L rd L.length B := by rw [hl]; exact hnx
          have hst := HU.out.step hnx'
          have HST := Lib.hid hst
          have hBj := hnx.1
          obtain ⟨y, hy⟩ : ∃ y, L[B]? = some y := ⟨L[B]'(by omega), List.getElem?_eq_getElem (by omega)⟩
          have zy := HZ.out y (List.mem_of_getElem? hy)
          have hkn : rd.getD B 0 < y.recs.length := by have := of_decide_eq_true hnx.2.1; rwa [recsOf_at hy] at this
          have hyl : y.recs.length ≤ 2000000 := by unfold Part.sz szL at zy; omega
          obtain ⟨kb, hkb⟩ : ∃ k : Int, ((rd.getD B 0 : Nat) : Int) = k := ⟨_, rfl⟩
          have hkb1 : 0 ≤ kb ∧ kb ≤ 2000000 := by omega
          have RI := Lib.hid (HR.out.below HBI.out HR.out.lt)
          have d1 : wr.cell? ⟨W2.heap.size, B, none⟩ = some (.int .i64 kb) := (RI.out.cell B).trans (by rw [rdCells_at (by omega), hkb])
          have hB2 : (B : Int) < (j : Int) := by omega
          have hB0 : (0 : Int) ≤ (B : Int) := by omega
          have hB3 : ¬ (B : Int) < 0 := by omega
          have hgl := RI.out.lt
          have GI := Lib.hid (HGo.out.below local_Pos HBI.out)
          have KI := Lib.hid (HK.out.below HBI.out HK.out.lt)
          have HKB := Lib.hid hkb
          have hwr2 := BI.out.size
          obtain ⟨i0, hi, hi2⟩ := Option.map_eq_some_iff.1 info_Pos
          simp only [Prod.mk.injEq] at hi2
          obtain ⟨hz0, hz1, hz2⟩ := hi2
          have h72 : out.length < 72 := by have := hst.1; omega
          rw [hs]
          clear hs hnx hnx' hst hy zy hkn hyl hkb
          go_wp2_with (at_builtin; refine push2 local_Pos rfl _ _ 31 rfl i0 (.agg #[.int .i64 0, .int .i64 0]) 16 Tryz.underlying31 hi hz0 hz1 hz2 rfl (by decide) rfl GI.out ((Below.refl _ _).alloc (Nat.le_refl _) _) wr.heap.size 1 rfl [.int .i64 B, .int .i64 kb] rfl (fun u hu => by simp at hu; rcases hu with rfl | rfl <;> rfl) (fun j u hj => ((blk_new wr 36 [.int .i64 B, .int .i64 kb]).cell j).trans hj) ((B : Int), kb) [] ⟨rfl, rfl⟩ Own.nil (by omega) (by unfold maxLen; omega) (by omega) ?_; intro v' w6 hG6 hb6 hk6 hw6; have R6 := Lib.hid (show Blk w6 W2.heap.size 3 (rdCells rd) from (hk6 _ (by simp; omega) HNE.out).trans (RI.out.alloc _)); have r6 := R6.out.cell B; have f6 := R6.out.frozen; rw [rdCells_at (by omega), HKB.out] at r6; have G6 := Lib.hid hG6; have B6 := Lib.hid (show Below (w.heap.size + 1) wr w6 from ((Below.refl _ _).alloc (by omega) _).trans hb6); have N6 := Lib.hid (show v'.ownBlock ≠ some W2.heap.size from by rcases hw6 with e | e <;> rw [e]; exact HNE.out; simp; omega); clear hG6 hb6 hk6 hw6 d1)
          have hwv : IntKind.i64.wrap (kb + 1) = kb + 1 := by rw [IntKind.wrap_i64]; omega
          go_roundg (totalD L - (out.length + 1))
          case measure => have := HST.out.1; omega
          case rel =>
            have h1 := HST.out.2
            rw [HKB.out] at h1
            refine ⟨⟨_, _, by have := HST.out.1; simp; omega, h1, ?_, ?_, N6.out⟩, ?_, ?_⟩
            · have := R6.out.set B (.int .i64 (((rd.getD B 0 : Nat) : Int) + 1))
              rw [rdCells_next] at this
              rw [HKB.out] at this
              exact this
            · exact G6.out.stay local_Pos (fun _ _ _ _ h => h.2) (fun b hb => Below.heap_setCell _ _ _ b (fun e => N6.out (by rw [hb, e])))
            · exact (KI.out.below B6.out (Nat.lt_succ_self _)).setOther (by simp; omega) _
            · exact ((BI.out.trans (B6.out.mono (Nat.le_succ _))).setCell (by simp; omega) _)
      obtain ⟨x, hx⟩ : ∃ x, L[j]? = some x := ⟨L[j]'(by omega), List.getElem?_eq_getElem (by omega)⟩
      obtain ⟨hh, ff, hIs, hcl, -, hrec⟩ := (HL.out.below BI.out).at hx
      obtain ⟨ra, rl, rc⟩ := hh
      simp only at hcl hrec
      obtain ⟨kj, hkj⟩ : ∃ k : Int, ((rd.getD j 0 : Nat) : Int) = k := ⟨_, rfl⟩
      have d0 : wr.cell? ⟨W2.heap.size, j, none⟩ = some (.int .i64 kj) := (hbi.cell (p := ⟨W2.heap.size, j, none⟩) HR.out.lt).trans ((HR.out.cell j).trans (by rw [rdCells_at (by omega), hkj]))
      have hopn : opn L rd j = decide (kj < (rl : Int)) := by unfold opn; rw [recsOf_at hx, ← hrec, ← hkj]; simp
      have hlt2 : (j : Int) < (len : Int) := by omega
      have h02 : (0 : Int) ≤ (j : Int) := by omega
      have HX := Lib.hid hx
      have HKJ := Lib.hid hkj
      have HIS := Lib.hid hIs
      clear hx hIs hkj hbi hrec
      cases ho : opn L rd j with
      | false =>
        have HS := Lib.hid (scan_no (c := c) ho)
        rw [ho] at hopn
        have hop := hopn.symm
        clear hopn ho
        obtain ⟨q, hq⟩ : ∃ q, scan c L rd j = q := ⟨_, rfl⟩
        rw [hq] at HS ⊢
        clear hq
        go_wp2_with fail
        go_quiet (fail)
        go_wp2_with fail
        go_roundg (len - (j + 1))
        case measure => omega
        case rel => exact ⟨j + 1, by omega, by go_num, by rw [HS.out], below_drewN HBI.out _⟩
      | true =>
      rw [ho] at hopn
      have hop := hopn.symm
      have HOP := Lib.hid ho
      clear hopn ho
      rcases scan_spec c L rd j with ⟨hs, -⟩ | ⟨B, hs, hnx⟩
      · have HS := Lib.hid (scan_first (c := c) HOP.out (by rw [hs]; omega))
        rw [hs]
        clear hs
        go_wp2_with fail
        go_quiet (fail)
        go_wp2_with fail
        go_roundg (len - (j + 1))
        case measure => omega
        case rel => exact ⟨j + 1, by omega, by go_num, by rw [HS.out], below_drewN HBI.out _⟩
      · have hBj := hnx.1
        obtain ⟨y, hy⟩ : ∃ y, L[B]? = some y := ⟨L[B]'(by omega), List.getElem?_eq_getElem (by omega)⟩
        obtain ⟨hy', fy, hIy, hcy, -, -⟩ := (HL.out.below BI.out).at hy
        obtain ⟨sa, sl, sc⟩ := hy'
        simp only at hcy
        obtain ⟨kb, hkb⟩ : ∃ k : Int, ((rd.getD B 0 : Nat) : Int) = k := ⟨_, rfl⟩
        have d1 : wr.cell? ⟨W2.heap.size, B, none⟩ = some (.int .i64 kb) := (HBI.out.cell (p := ⟨W2.heap.size, B, none⟩) HR.out.lt).trans ((HR.out.cell B).trans (by rw [rdCells_at (by omega), hkb]))
        have hm1 : mk c L j (rd.getD j 0) = markD c x kj := by rw [mk_is HX.out, HKJ.out]
        have hm2 : mk c L B (rd.getD B 0) = markD c y kb := by rw [mk_is hy, hkb]
        have hB2 : (B : Int) < (len : Int) := by omega
        have hB0 : (0 : Int) ≤ (B : Int) := by omega
        have hB3 : ¬ (B : Int) < 0 := by omega
        have zx := HZ.out x (List.mem_of_getElem? HX.out)
        have zy := HZ.out y (List.mem_of_getElem? hy)
        have HIY := Lib.hid hIy
        have kk := HK.out.below HBI.out HK.out.lt
        have c0 := kk.cell 0
        have c1 := kk.cell 1
        have c2 := kk.cell 2
        have c3 := kk.cell 3
        have c4 := kk.cell 4
        simp [Config.list] at c0 c1 c2 c3 c4
        have HSL := Lib.hid (fun h => scan_less (c := c) HOP.out hs h)
        have HSM := Lib.hid (fun h => scan_more (c := c) hs h)
        rw [hm1, hm2] at HSL HSM
        rw [hs] at HSM ⊢
        clear hnx hy hIy hkb hm1 hm2 hs kk
        obtain ⟨m1, hm1⟩ : ∃ m, markD c x kj = m := ⟨_, rfl⟩
        obtain ⟨m2, hm2⟩ : ∃ m, markD c y kb = m := ⟨_, rfl⟩
        have M1 := Lib.hid (fun w h1 h2 => HMK.out x ⟨ra, rl, rc⟩ ff kj w h1 h2 zx)
        have M2 := Lib.hid (fun w h1 h2 => HMK.out y ⟨sa, sl, sc⟩ fy kb w h1 h2 zy)
        rw [hm1] at M1 HSL HSM
        rw [hm2] at M2 HSL HSM
        clear hm1 hm2
        go_wp2_with fail
        refine mix.wp_region_ord (fun w' => w'.cell? ⟨w.heap.size, 0, none⟩ = some (.int .i64 c.d) ∧ w'.cell? ⟨w.heap.size, 1, none⟩ = some (.slice ch.wsa ch.wsl ch.wsc) ∧ w'.cell? ⟨w.heap.size, 2, none⟩ = some (.slice ch.msa ch.msl ch.msc) ∧ w'.cell? ⟨w.heap.size, 3, none⟩ = some (.int .i64 c.dl) ∧ w'.cell? ⟨w.heap.size, 4, none⟩ = some (.int .i64 c.lt) ∧ w'.cell? ⟨b, off + j, none⟩ = some (.slice ra rl rc) ∧ w'.cell? ⟨b, off + B, none⟩ = some (.slice sa sl sc) ∧ w'.cell? ⟨W2.heap.size, j, none⟩ = some (.int .i64 kj) ∧ w'.cell? ⟨W2.heap.size, B, none⟩ = some (.int .i64 kb)) [24,34] [0,1,2,3,4,5,6,7,8,9,10,11,12,13,14,15,16,17,18,19,20,21,22,23,25,26,27,28,29,30,31,32,33,24,34,35,36,37] (by kernel_rfl) (by kernel_rfl) (fun _ _ d _ _ h => by cases d <;> exact h) ⟨c0, c1, c2, c3, c4, hcl, hcy, d0, d1⟩ ?_
        have HS0 : Hid ((fun w' => w'.cell? ⟨w.heap.size, 0, none⟩ = some (.int .i64 c.d) ∧ w'.cell? ⟨w.heap.size, 1, none⟩ = some (.slice ch.wsa ch.wsl ch.wsc) ∧ w'.cell? ⟨w.heap.size, 2, none⟩ = some (.slice ch.msa ch.msl ch.msc) ∧ w'.cell? ⟨w.heap.size, 3, none⟩ = some (.int .i64 c.dl) ∧ w'.cell? ⟨w.heap.size, 4, none⟩ = some (.int .i64 c.lt) ∧ w'.cell? ⟨b, off + j, none⟩ = some (.slice ra rl rc) ∧ w'.cell? ⟨b, off + B, none⟩ = some (.slice sa sl sc) ∧ w'.cell? ⟨W2.heap.size, j, none⟩ = some (.int .i64 kj) ∧ w'.cell? ⟨W2.heap.size, B, none⟩ = some (.int .i64 kb)) wr.drew) := ⟨c0, c1, c2, c3, c4, hcl, hcy, d0, d1⟩
        clear c0 c1 c2 c3 c4 hcl hcy d0 d1
        simp only [List.filterMap_cons, List.filterMap_nil, List.getElem?_cons_zero, List.getElem?_cons_succ, Option.map_some]
        (repeat (first | (apply mix.ord_take; (· rfl); (· rfl); (· (intro w' hSw; (try dsimp only at hSw); go_simp; try with_reducible rfl)); (try simp only [Act.put, List.setIfInBounds_toArray, List.set_cons_zero, List.set_cons_succ])) | ((refine mix.ord_pass rfl (by rfl) ?_); (try simp only [Act.put, List.setIfInBounds_toArray, List.set_cons_zero, List.set_cons_succ]))))
        refine mix.ord_hard rfl (fun K hK => ?_); go_simp
        refine (M1.out _ (HC.out.below BI.out.drew) (HIS.out.below (Below.refl _ _).drew)).mono ?_
        rintro e W5 ⟨rfl, b5⟩
        have bq5 := (Below.refl wr.heap.size wr).drew.trans b5
        have HS1 : Hid ((fun w' => w'.cell? ⟨w.heap.size, 0, none⟩ = some (.int .i64 c.d) ∧ w'.cell? ⟨w.heap.size, 1, none⟩ = some (.slice ch.wsa ch.wsl ch.wsc) ∧ w'.cell? ⟨w.heap.size, 2, none⟩ = some (.slice ch.msa ch.msl ch.msc) ∧ w'.cell? ⟨w.heap.size, 3, none⟩ = some (.int .i64 c.dl) ∧ w'.cell? ⟨w.heap.size, 4, none⟩ = some (.int .i64 c.lt) ∧ w'.cell? ⟨b, off + j, none⟩ = some (.slice ra rl rc) ∧ w'.cell? ⟨b, off + B, none⟩ = some (.slice sa sl sc) ∧ w'.cell? ⟨W2.heap.size, j, none⟩ = some (.int .i64 kj) ∧ w'.cell? ⟨W2.heap.size, B, none⟩ = some (.int .i64 kb)) W5) := by
          obtain ⟨e0, e1, e2, e3, e4, e5, e6, e7, e8⟩ := HS0.out
          exact ⟨(b5.cell (p := ⟨w.heap.size, 0, none⟩) (World.block_lt_of_cell? _ _ e0)).trans e0, (b5.cell (p := ⟨w.heap.size, 1, none⟩) (World.block_lt_of_cell? _ _ e1)).trans e1, (b5.cell (p := ⟨w.heap.size, 2, none⟩) (World.block_lt_of_cell? _ _ e2)).trans e2, (b5.cell (p := ⟨w.heap.size, 3, none⟩) (World.block_lt_of_cell? _ _ e3)).trans e3, (b5.cell (p := ⟨w.heap.size, 4, none⟩) (World.block_lt_of_cell? _ _ e4)).trans e4, (b5.cell (p := ⟨b, off + j, none⟩) (World.block_lt_of_cell? _ _ e5)).trans e5, (b5.cell (p := ⟨b, off + B, none⟩) (World.block_lt_of_cell? _ _ e6)).trans e6, (b5.cell (p := ⟨W2.heap.size, j, none⟩) (World.block_lt_of_cell? _ _ e7)).trans e7, (b5.cell (p := ⟨W2.heap.size, B, none⟩) (World.block_lt_of_cell? _ _ e8)).trans e8⟩
        have B5 := Lib.hid bq5
        clear b5 bq5 HS0
        refine hK.out _ _ (HS1.out) (fun hSw => ?_); clear hK K hSw; (try simp only [Act.put, List.setIfInBounds_toArray, List.set_cons_zero, List.set_cons_succ])
        (repeat (first | (apply mix.ord_take; (· rfl); (· rfl); (· (intro w' hSw; (try dsimp only at hSw); go_simp; try with_reducible rfl)); (try simp only [Act.put, List.setIfInBounds_toArray, List.set_cons_zero, List.set_cons_succ])) | ((refine mix.ord_pass rfl (by rfl) ?_); (try simp only [Act.put, List.setIfInBounds_toArray, List.set_cons_zero, List.set_cons_succ]))))
        refine mix.ord_hard rfl (fun K hK => ?_); go_simp
        refine (M2.out _ (HC.out.below (BI.out.trans (B5.out.mono BI.out.size))) (HIY.out.below B5.out)).mono ?_
        rintro e W6 ⟨rfl, b6⟩
        have HS2 : Hid ((fun w' => w'.cell? ⟨w.heap.size, 0, none⟩ = some (.int .i64 c.d) ∧ w'.cell? ⟨w.heap.size, 1, none⟩ = some (.slice ch.wsa ch.wsl ch.wsc) ∧ w'.cell? ⟨w.heap.size, 2, none⟩ = some (.slice ch.msa ch.msl ch.msc) ∧ w'.cell? ⟨w.heap.size, 3, none⟩ = some (.int .i64 c.dl) ∧ w'.cell? ⟨w.heap.size, 4, none⟩ = some (.int .i64 c.lt) ∧ w'.cell? ⟨b, off + j, none⟩ = some (.slice ra rl rc) ∧ w'.cell? ⟨b, off + B, none⟩ = some (.slice sa sl sc) ∧ w'.cell? ⟨W2.heap.size, j, none⟩ = some (.int .i64 kj) ∧ w'.cell? ⟨W2.heap.size, B, none⟩ = some (.int .i64 kb)) W6) := by
          obtain ⟨e0, e1, e2, e3, e4, e5, e6, e7, e8⟩ := HS1.out
          exact ⟨(b6.cell (p := ⟨w.heap.size, 0, none⟩) (World.block_lt_of_cell? _ _ e0)).trans e0, (b6.cell (p := ⟨w.heap.size, 1, none⟩) (World.block_lt_of_cell? _ _ e1)).trans e1, (b6.cell (p := ⟨w.heap.size, 2, none⟩) (World.block_lt_of_cell? _ _ e2)).trans e2, (b6.cell (p := ⟨w.heap.size, 3, none⟩) (World.block_lt_of_cell? _ _ e3)).trans e3, (b6.cell (p := ⟨w.heap.size, 4, none⟩) (World.block_lt_of_cell? _ _ e4)).trans e4, (b6.cell (p := ⟨b, off + j, none⟩) (World.block_lt_of_cell? _ _ e5)).trans e5, (b6.cell (p := ⟨b, off + B, none⟩) (World.block_lt_of_cell? _ _ e6)).trans e6, (b6.cell (p := ⟨W2.heap.size, j, none⟩) (World.block_lt_of_cell? _ _ e7)).trans e7, (b6.cell (p := ⟨W2.heap.size, B, none⟩) (World.block_lt_of_cell? _ _ e8)).trans e8⟩
        have B6 := Lib.hid (HBI.out.trans ((B5.out.trans (b6.mono B5.out.size)).mono HBI.out.size))
        clear b6 HS1 B5
        refine hK.out _ _ (HS2.out) (fun hSw => ?_); clear hK K hSw; (try simp only [Act.put, List.setIfInBounds_toArray, List.set_cons_zero, List.set_cons_succ])
        clear HS2
        by_cases hmm : m1 < m2
        · have HS := Lib.hid (HSL.out hmm)
          (repeat (first | (apply mix.ord_take; (· rfl); (· rfl); (· (intro w' hSw; (try dsimp only at hSw); go_simp; try with_reducible rfl)); (try simp only [Act.put, List.setIfInBounds_toArray, List.set_cons_zero, List.set_cons_succ])) | ((refine mix.ord_pass rfl (by rfl) ?_); (try simp only [Act.put, List.setIfInBounds_toArray, List.set_cons_zero, List.set_cons_succ]))))
          refine mix.ord_end ?_
          go_wp2_with fail
          go_roundg (len - (j + 1))
          case measure => omega
          case rel => exact ⟨j + 1, by omega, by go_num, by rw [HS.out], B6.out⟩
        · have HS := Lib.hid (HSM.out (by omega))
          (repeat (first | (apply mix.ord_take; (· rfl); (· rfl); (· (intro w' hSw; (try dsimp only at hSw); go_simp; try with_reducible rfl)); (try simp only [Act.put, List.setIfInBounds_toArray, List.set_cons_zero, List.set_cons_succ])) | ((refine mix.ord_pass rfl (by rfl) ?_); (try simp only [Act.put, List.setIfInBounds_toArray, List.set_cons_zero, List.set_cons_succ]))))
          refine mix.ord_end ?_
          go_wp2_with fail
          go_roundg (len - (j + 1))
          case measure => omega
          case rel => exact ⟨j + 1, by omega, by go_num, by rw [HS.out], B6.out⟩
end Go.Proofs.YtpoojmodebgioaaGreatDoor.dat
