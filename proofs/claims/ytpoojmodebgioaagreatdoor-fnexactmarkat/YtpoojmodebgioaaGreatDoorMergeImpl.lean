/-
  THE CONTRACT OF MergeOrder of the program: the order of all records, in memory of its own; nothing that was there is written.
-/
import Derived.Test.YtpoojmodebgioaaGreatDoorReadNext
import Derived.Test.YtpoojmodebgioaaGreatDoorDataPos
namespace Go.Proofs.YtpoojmodebgioaaGreatDoor.dat
open Go.RowKit Go.Proofs.YtpoojmodebgioaaGreatDoor.win
open Go.Proofs.YtpoojmodebgioaaGreatDoor.num (Env Env.next)

theorem logs_bounds {c : ConfD} {L : List PartD} (h : logsB c L = true) : 1 ≤ L.length ∧ L.length ≤ 3 ∧ ∀ x ∈ L, x.recs.length ≤ 24 ∧ ∀ s ∈ x.recs, s.size ≤ 60 := by
  unfold logsB at h
  simp only [Bool.and_eq_true, List.all_eq_true, decide_eq_true_eq] at h
  obtain ⟨⟨_, h1⟩, h2⟩ := h
  refine ⟨by omega, by omega, fun x hx => ?_⟩
  have := h2 x hx
  unfold partB at this
  simp only [Bool.and_eq_true, List.all_eq_true, decide_eq_true_eq] at this
  refine ⟨by omega, fun s hs => ?_⟩
  have := this.2 s hs
  unfold recB at this
  have := of_decide_eq_true this
  omega
theorem total_le : ∀ {L : List PartD} {m : Nat}, (∀ x ∈ L, x.recs.length ≤ m) → totalD L ≤ L.length * m
  | [], m, _ => by simp [totalD]
  | x :: L, m, h => by
    have h1 := h x (by simp)
    have h2 := total_le (L := L) (m := m) (fun y hy => h y (by simp [hy]))
    simp only [totalD, List.map_cons, List.sum_cons, List.length_cons] at h2 ⊢
    rw [Nat.succ_mul]
    omega
theorem logs_total {c : ConfD} {L : List PartD} (h : logsB c L = true) : totalD L ≤ 72 := by
  obtain ⟨_, h2, h3⟩ := logs_bounds h
  have := total_le (L := L) (m := 24) (fun x hx => (h3 x hx).1)
  have : L.length * 24 ≤ 3 * 24 := Nat.mul_le_mul_right _ h2
  omega
theorem mkR_next (c : ConfD) (L : List PartD) (H : List PartH) {rd : List Nat} {p : Nat} (hp : p < rd.length) {s : ByteArray} (hs : (recsOf L p)[rd.getD p 0]? = some s) :
    mkR c L H (rdNext rd p) p = ⟨(mkR c L H rd p).part, (mkR c L H rd p).a, (mkR c L H rd p).n, (mkR c L H rd p).c, ((rd.getD p 0 : Nat) : Int) + 1, markB c (mkR c L H rd p).mark s⟩ := by
  unfold mkR rdNext
  rw [getD_set hp, if_pos rfl]
  simp only [mk, markL_succ hs, RdD.mk.injEq, true_and, and_true]
  omega
theorem after_next {c : ConfD} {L : List PartD} {H : List PartH} {rd : List Nat} {k p : Nat} {r : List RdD} (h : Readers c L H rd k (mkR c L H rd p :: r)) (hk : p < k) (h3 : k ≤ 3) (hp : p < rd.length) (hn : (mkR c L H rd p).n = (recsOf L p).length) (hop : opn L rd p = true) :
    Readers c L H (rdNext rd p) k (behind (mkR c L H (rdNext rd p) p) r) ∧ Heap (behind (mkR c L H (rdNext rd p) p) r) := by
  have hlen := h.len
  simp at hlen
  have hlt : rd.getD p 0 < (recsOf L p).length := of_decide_eq_true hop
  have hget : (rdNext rd p).getD p 0 = rd.getD p 0 + 1 := by rw [rdNext, getD_set hp, if_pos rfl]
  have hn2 : (mkR c L H (rdNext rd p) p).n = (recsOf L p).length := hn
  have hrd : (mkR c L H (rdNext rd p) p).read = ((rd.getD p 0 + 1 : Nat) : Int) := by show (((rdNext rd p).getD p 0 : Nat) : Int) = _; rw [hget]
  unfold behind
  rw [hrd, hn2]
  by_cases e : rd.getD p 0 + 1 = (recsOf L p).length
  · rw [if_pos (by omega)]
    have ho : opn L (rdNext rd p) p = false := by unfold opn; rw [hget]; exact decide_eq_false (by omega)
    have hpp := pop_heap (x := mkR c L H (rdNext rd p) p) (r := r) (by omega)
    exact ⟨(h.last hp ho).perm hpp.1, hpp.2⟩
  · rw [if_neg (by omega)]
    have ho : opn L (rdNext rd p) p = true := by unfold opn; rw [hget]; exact decide_eq_true (by omega)
    have hdd := down_heap (l := mkR c L H (rdNext rd p) p :: r) (by simp; omega)
    exact ⟨(h.more hk hp ho).perm hdd.1, hdd.2⟩
theorem info_Pos : (Tryz.prog.info? 36).map (fun i => (i.zero, i.size, i.bytes)) = some (some (.agg #[.int .i64 0, .int .i64 0]), 2, 16) := by kernel_rfl
/-- A row of positions in new memory. -/
def GiveP (w : World) (l : List (Int × Int)) (r : Ending) (w' : World) : Prop := ∃ (a : Option Addr) (n c' : Nat) (f : List Nat), r = .returned (.slice a n c') ∧ GRow 2 RPos w' a n l f ∧ n ≤ c' ∧ c' ≤ 9223372036854775807 ∧ Own w.heap.size w' f ∧ Below w.heap.size w w'
theorem givep_nil {w w' : World} (hB : Below w.heap.size w w') : GiveP w [] (.returned (.slice none 0 0)) w' := ⟨none, 0, 0, [], rfl, GRow.nil, Nat.le_refl _, Nat.zero_le _, Own.nil, hB⟩
theorem givep_of {w wr : World} {base : Nat} {v : Value} {l : List (Int × Int)} (h : Grows 2 RPos 36 base wr v l) (hb : w.heap.size ≤ base) (hB : Below w.heap.size w wr) : GiveP w l (.returned v) wr := by
  obtain ⟨a, cap, fp, rfl, h1, h2, h3, h4⟩ := h.done
  exact ⟨a, _, cap, fp, rfl, h1, h2, h3, h4.mono hb, hB⟩
theorem row_blk {base : Nat} {w : World} {v : Value} {l : List RdD} (hG : Grows 4 RRd 99 base w v l) (hl : 0 < l.length) : ∃ g cap rest, v = .slice (some ⟨g, 0, none⟩) l.length cap ∧ base ≤ g ∧ Blk w g 99 (rdFlat l ++ rest) ∧ l.length ≤ cap ∧ cap ≤ maxLen ∧ (rdFlat l ++ rest).length = cap * 4 := by
  obtain ⟨css, F, h1, h2, h3, h4, h5, h6, ho⟩ := hG.ex
  rcases ho.2 with ⟨_, h0⟩ | ⟨g, cap, cur, rfl, hbg, hg, hnc, hcm, hcs, htake⟩
  · omega
  · have e := rd_css h1 h2 h4
    have hd : cur.toList = rdFlat l ++ cur.toList.drop (l.length * 4) := by
      conv => lhs; rw [← List.take_append_drop (l.length * 4) cur.toList]
      rw [htake, e]
    refine ⟨g, cap, cur.toList.drop (l.length * 4), rfl, hbg, ?_, hnc, hcm, by rw [← hd]; simpa using hcs⟩
    show w.heap[g]? = some (.cells (rdFlat l ++ cur.toList.drop (l.length * 4)).toArray _ (0, 0))
    rw [← hd]
    simpa using hg
theorem HB.belowB {B : Nat} {w w' : World} {q g cap : Nat} {l : List RdD} {rest : List Value} (h : HB w q g cap l rest) (hb : Below B w w') (hq : q < B) (hg : g < B) : HB w' q g cap l rest :=
  ⟨h.box.below hb hq, h.row.below hb hg, h.ne, h.le, h.mx, h.sz⟩
/-- The merge under way: what came stands in vo, the heap in box q. -/
structure Merging (c : ConfD) (L : List PartD) (H : List PartH) (w : World) (q : Nat) (K : List Value) (n : Nat) (vo : Value) (wr : World) : Prop where
  ex : ∃ out rd l vq aq cq, n + out.length = totalD L ∧ Under c L out rd ∧ Readers c L H rd L.length l ∧ Heap l ∧ vq = .slice aq l.length cq ∧ Blk wr q 64 [vq] ∧ (l ≠ [] → ∃ g cap rest, HB wr q g cap l rest ∧ w.heap.size < g ∧ g < q) ∧ Grows 2 RPos 36 (q + 1) wr vo out
  conf : Blk wr w.heap.size 27 K
  below : Below w.heap.size w wr

set_option maxRecDepth 100000 in
set_option maxHeartbeats 4000000 in
theorem impl_MergeOrder_any (c : ConfD) (ch : ConfigH) (cf : List Nat) (a : Option Addr) (len cap : Nat) (L : List PartD) (fp : List Nat) (w : World) (hc : Config.Is w c ch cf) (hrow : GRow 1 RPart w a len L fp) (u1 : len ≤ cap) (u2 : cap ≤ 9223372036854775807) (hE : Env w) :
    Calls Tryz.prog 9 #[.agg (Config.list c ch).toArray, .slice a len cap] w (GiveP w (mergeD c L)) := by
  have hl := hrow.1
  obtain ⟨H, hlog⟩ := logs_of hrow
  have HC := Lib.hid hc
  have HE := Lib.hid hE
  have HG := Lib.hid hrow
  have HL := Lib.hid hlog
  have HO := Lib.hid (fun w h1 h2 => impl_LogsOk c ch cf a len cap L fp w h1 h2 u1 u2)
  clear hc hE hrow hlog
  simp only [Config.list] at HO ⊢
  go_enter Tryz.func9, Tryz.ntmps9
  go_wp2_with fail
  refine calls_gen (fun W => Below w.heap.size w W ∧ Blk W w.heap.size 27 (Config.list c ch)) ⟨by repeat (first | exact Below.refl _ _ | refine Below.setCell ?_ (by first | omega | (simp; done) | (simp; omega)) _ | refine Below.alloc ?_ (by first | omega | (simp; done) | (simp; omega)) _ | apply Below.drew), by unfold Config.list; with_reducible (repeat (first | (refine blk_new_at _ _ _ _ ?_; first | rfl | (simp; done)) | refine Blk.alloc ?_ _ | apply Blk.drew | refine Blk.setOther ?_ (by first | (simp; done) | (simp; omega)) _))⟩ ?_
  rintro W1 ⟨b1, k1⟩
  refine (HO.out _ (HC.out.below b1) (HG.out.below local_Part b1)).mono ?_
  rintro e' W2 ⟨rfl, b2⟩
  have B2 := Lib.hid (b1.trans (b2.mono b1.size))
  have K2 := Lib.hid (k1.below b2 k1.lt)
  clear b1 b2 k1
  cases hlg : logsB c L with
  | false =>
    have HM := Lib.hid (show mergeD c L = [] by unfold mergeD; rw [hlg]; rfl)
    clear hlg
    go_wp2_with fail
    go_ret
    rw [HM.out]
    exact givep_nil B2.out
  | true =>
  have HM := Lib.hid (show mergeD c L = ordD c L by unfold mergeD; rw [hlg]; rfl)
  have hbd := logs_bounds hlg
  have htt := logs_total hlg
  have HBD := Lib.hid hbd
  have h3 : len ≤ 3 := by omega
  clear hlg hbd
  go_wp2_with fail
  refine (impl_readersOf c a len cap L H W2 (HL.out.below B2.out) hl h3).mono ?_
  rintro e' W3 ⟨v, l, rfl, hG3, hR3, hH3, b3⟩
  obtain ⟨aq, cq, rfl⟩ := hG3.slice
  have B3 := Lib.hid (B2.out.trans (b3.mono B2.out.size))
  have K3 := Lib.hid (K2.out.below b3 K2.out.lt)
  have G3 := Lib.hid hG3
  have R3 := Lib.hid hR3
  have H3 := Lib.hid hH3
  have hw2 : w.heap.size < W2.heap.size := K2.out.lt
  have hw3 : W2.heap.size ≤ W3.heap.size := b3.size
  clear b3 hG3 hR3 hH3 K2
  go_wp2_with fail
  go_loopg [5] (totalD L) (fun n vo wr => Merging c L H w W3.heap.size (Config.list c ch) n vo wr)
  case atStart =>
    refine ⟨⟨[], List.replicate L.length 0, l, _, aq, cq, by simp, Under.start c L, (by show Readers c L H (zeros L) L.length l; rw [hl]; exact R3.out), H3.out, rfl, by with_reducible (repeat (first | (refine blk_new_at _ _ _ _ ?_; first | rfl | (simp; done)) | refine Blk.alloc ?_ _ | apply Blk.drew | refine Blk.setOther ?_ (by first | (simp; done) | (simp; omega)) _)), fun hne => ?_, Grows.nil⟩, by with_reducible (repeat (first | exact K3.out | (refine blk_new_at _ _ _ _ ?_; first | rfl | (simp; done)) | refine Blk.alloc ?_ _ | apply Blk.drew | refine Blk.setOther ?_ (by first | (simp; done) | (simp; omega)) _)), by repeat (first | exact Below.refl _ _ | refine Below.setCell ?_ (by first | omega | (simp; done) | (simp; omega)) _ | refine Below.alloc ?_ (by first | omega | (simp; done) | (simp; omega)) _ | apply Below.drew | refine Below.trans ?_ (B3.out.mono (by first | omega | (simp; done) | (simp; omega))))⟩
    obtain ⟨g, cap', rest, e, hg, hb, h1, h2, h4⟩ := row_blk G3.out (List.length_pos_iff.2 hne)
    have hbl := hb.lt
    exact ⟨g, cap', rest, ⟨by rw [← e]; with_reducible (repeat (first | (refine blk_new_at _ _ _ _ ?_; first | rfl | (simp; done)) | refine Blk.alloc ?_ _ | apply Blk.drew | refine Blk.setOther ?_ (by first | (simp; done) | (simp; omega)) _)), by with_reducible (repeat (first | exact hb | (refine blk_new_at _ _ _ _ ?_; first | rfl | (simp; done)) | refine Blk.alloc ?_ _ | apply Blk.drew | refine Blk.setOther ?_ (by first | (simp; done) | (simp; omega)) _)), by omega, h1, h2, h4⟩, by omega, hbl⟩
  case round =>
    obtain ⟨⟨out, rd, l', vq, aq', cq', hn, hU, hR, hHp, rfl, hbq, hHB, hGo⟩, hK, hB⟩ := hrel
    have hout := hU.le_total
    obtain ⟨ao, co, rfl⟩ := hGo.slice
    have q0 := hbq.cell 0
    simp at q0
    have HU := Lib.hid hU
    have HR := Lib.hid hR
    have HK := Lib.hid hK
    have HB := Lib.hid hB
    have HGo := Lib.hid hGo
    clear G3 R3 H3 K3 hbq
    cases l' with
    | nil =>
      simp only [List.length_nil] at q0
      have HD := Lib.hid (hU.done hR.none)
      clear hU hR hHp hHB hK hB hGo
      go_wp2_with fail
      go_ret
      rw [HM.out, ← HD.out]
      exact givep_of HGo.out (by omega) HB.out
    | cons x r =>
    obtain ⟨g, cap', rest, hHB', hwg, hgq⟩ := hHB (by simp)
    have HHB := Lib.hid hHB'
    obtain ⟨p, rfl, hnx⟩ := hR.first hHp
    have HNX := Lib.hid hnx
    have hrl := hR.len
    simp only [List.length_cons] at hrl q0
    have hpl := hnx.1
    obtain ⟨xp, hxp⟩ : ∃ xp, L[p]? = some xp := ⟨L[p], List.getElem?_eq_getElem hpl⟩
    obtain ⟨bb, oo, hh, ff, -, -, hHp2, hIs, -⟩ := (HL.out.below hB).el p xp hxp
    obtain ⟨f0, -, r0, -, -⟩ := hIs
    have hrec := recsOf_at hxp
    have hopn := hnx.2.1
    have hlt : rd.getD p 0 < xp.recs.length := by have := of_decide_eq_true hopn; rwa [hrec] at this
    have hmem : xp ∈ L := List.mem_of_getElem? hxp
    have hb24 := HBD.out.2.2 xp hmem
    obtain ⟨k, hk⟩ : ∃ k, rd.getD p 0 = k := ⟨_, rfl⟩
    rw [hk] at hlt
    obtain ⟨b, off, s, f, cs, ea, hbl, hs, hcl, hRs, hcs⟩ := r0.at (show k < hh.recsl by rw [← r0.1]; exact hlt)
    obtain ⟨rfl, -, rfl⟩ := hRs
    have hcell : wr.cell? ⟨b, off + k, none⟩ = some (.string s) := by have := hcs 0 (by omega); simpa using this
    have hsz : s.size ≤ 60 := hb24.2 s (List.mem_of_getElem? hs)
    have hxn : (mkR c L H rd p).n = xp.recs.length := by show (H.getD p ⟨none, 0, 0⟩).recsl = _; rw [List.getD_eq_getElem?_getD, hHp2]; exact r0.1.symm
    have hxa : (mkR c L H rd p).a = some ⟨b, off, none⟩ := by show (H.getD p ⟨none, 0, 0⟩).recsa = _; rw [List.getD_eq_getElem?_getD, hHp2]; exact ea
    have hxr : (mkR c L H rd p).read = (k : Int) := by show ((rd.getD p 0 : Nat) : Int) = _; rw [hk]
    have hprd : p < rd.length := by rw [hU.len]; exact hpl
    have hst := hU.step hnx
    rw [hk] at hst
    have HST := Lib.hid hst
    have hmn := mkR_next c L H hprd (by rw [hrec, hk]; exact hs)
    rw [hk] at hmn
    have haf := after_next hR hpl (by omega) hprd (by rw [hrec]; exact hxn) hopn
    rw [hmn] at haf
    have HAF := Lib.hid haf
    have HN := Lib.hid (impl_readNext c ch cf W3.heap.size g cap' (mkR c L H rd p) r rest k b off s wr (HC.out.below hB) (HE.out.next hB) hHB' (by omega) hxr (by rw [hxn]; exact hlt) (by rw [hxn]; omega) hxa hcell (by omega))
    obtain ⟨x', hx'⟩ : ∃ x', (⟨(mkR c L H rd p).part, (mkR c L H rd p).a, (mkR c L H rd p).n, (mkR c L H rd p).c, (k : Int) + 1, markB c (mkR c L H rd p).mark s⟩ : RdD) = x' := ⟨_, rfl⟩
    rw [hx'] at HN HAF
    rw [mkR_part] at HN
    have c0 := hK.cell 0
    have c1 := hK.cell 1
    have c2 := hK.cell 2
    have c3 := hK.cell 3
    have c4 := hK.cell 4
    simp [Config.list] at c0 c1 c2 c3 c4
    simp only [Config.list] at HN
    have hkw := hK.lt
    have q1 : (0 : Int) < ((r.length + 1 : Nat) : Int) := by omega
    obtain ⟨i0, hi, hi2⟩ := Option.map_eq_some_iff.1 info_Pos
    simp only [Prod.mk.injEq] at hi2
    obtain ⟨hz0, hz1, hz2⟩ := hi2
    have h72 : out.length < 72 := by have := hst.1; omega
    clear hU hR hHp hHB hK hB hGo hHB' hnx hxp hHp2 r0 hrec hopn hlt hmem hb24 hk ea hbl hs hcl hcs hcell hsz hxn hxa hxr hst hmn haf hx' HU HR HNX
    go_wp2_with fail
    refine HN.out.mono ?_
    rintro e W5 ⟨rfl, ⟨rest', h5⟩, a5⟩
    have H5 := Lib.hid h5
    have q5 := h5.box.lt
    have B5 := Lib.hid (HB.out.trans (a5.below (lo := w.heap.size) (by simp; omega) HB.out.size))
    have K5 := Lib.hid (show Blk W5 w.heap.size 27 (Config.list c ch) from (a5.block _ HK.out.lt (by simp; omega)).trans HK.out)
    have G5 := Lib.hid (HGo.out.keep (w' := W5) local_Pos (fun b h1 h2 => a5.block b h2 (by simp; omega)))
    clear h5 a5 c0 c1 c2 c3 c4 q0 HGo HN HHB HB HK
    go_wp2_with (at_builtin; refine push local_Pos rfl _ _ 31 rfl i0 (.agg #[.int .i64 0, .int .i64 0]) 16 Tryz.underlying31 hi hz0 hz1 hz2 rfl (by decide) rfl G5.out ((Below.refl _ _).alloc (Nat.le_refl _) _) W5.heap.size 1 rfl [.int .i64 p, .int .i64 k] rfl (fun u hu => by simp at hu; rcases hu with rfl | rfl <;> rfl) (fun j u hj => ((blk_new W5 36 [.int .i64 p, .int .i64 k]).cell j).trans hj) ((p : Int), (k : Int)) [] ⟨rfl, rfl⟩ Own.nil (by omega) (by unfold maxLen; omega) (by omega) ?_; intro v' w6 hG6 hb6)
    have hB6 : Below (W3.heap.size + 1) W5 w6 := ((Below.refl _ _).alloc (by omega) _).trans hb6
    have hH6 := H5.out.belowB hB6 (by omega) (by omega)
    have hK6 := K5.out.below hB6 (by omega)
    have hB7 := B5.out.trans (hB6.mono (by omega))
    go_roundg (totalD L - (out.length + 1))
    case measure => have := HST.out.1; omega
    case rel => exact ⟨⟨_, _, _, _, _, _, by have := HST.out.1; simp; omega, HST.out.2, by exact HAF.out.1, HAF.out.2, rfl, hH6.box, fun _ => ⟨g, cap', rest', hH6, hwg, hgq⟩, hG6⟩, hK6, hB7⟩
end Go.Proofs.YtpoojmodebgioaaGreatDoor.dat
