/-
  THE CONTRACTS OF dimsOf, rollsUp of the program: nothing that was there is written.
-/
import Derived.Test.YtpcekmllmnfmmaaGreatCubePane
namespace Go.Proofs.YtpcekmllmnfmmaaGreat.dat
open Go.RowKit Go.Proofs.YtpcekmllmnfmmaaGreat.win

/-- How many of the first j a mask keeps. -/
def rank (m : Int) : Nat → Nat
  | 0 => 0
  | j + 1 => rank m j + if bitB m j then 1 else 0
theorem rank_mono (m : Int) {i j : Nat} (h : i ≤ j) : rank m i ≤ rank m j := by
  induction j with
  | zero => obtain rfl : i = 0 := by omega
            exact Nat.le_refl _
  | succ j ih =>
    by_cases e : i = j + 1
    · subst e; exact Nat.le_refl _
    · have := ih (by omega); simp only [rank]; omega
theorem rank_ones (m : Int) : (rank m 3 : Int) = ones m := by
  unfold ones
  simp only [rank]
  cases bitB m 0 <;> cases bitB m 1 <;> cases bitB m 2 <;> simp
theorem rank_lt {m : Int} {j : Nat} (hj : j < 3) (h : bitB m j = true) : rank m j < rank m 3 := by
  have h1 := rank_mono m (show j + 1 ≤ 3 by omega)
  simp only [rank, h, if_true] at h1
  simp only [rank]
  omega
/-- A number of dimsOf. -/
def dimV (m : Int) (key : List Int) (i : Nat) : Int := if bitB m i then key[rank m i]?.getD 0 else 0
/-- dimsOf. -/
def dimsD (m : Int) (key : List Int) (n : Nat) : List Int := (List.range n).map (dimV m key)
def dimsTo (m : Int) (key : List Int) (n j : Nat) : List Value := (List.range n).map fun i => .int .i64 (if i < j then dimV m key i else 0)
theorem dimsTo_zero (m : Int) (key : List Int) (n : Nat) : dimsTo m key n 0 = List.replicate n (.int .i64 0) := by
  unfold dimsTo
  simp [List.map_const']
theorem dimsTo_no {m : Int} {key : List Int} {n j : Nat} (h : bitB m j = false) : dimsTo m key n (j + 1) = dimsTo m key n j := by
  unfold dimsTo
  apply List.map_congr_left
  intro i _
  by_cases h1 : i < j
  · rw [if_pos h1, if_pos (by omega)]
  · by_cases h2 : i = j
    · subst h2; rw [if_pos (by omega), if_neg (by omega)]; unfold dimV; rw [h]; rfl
    · rw [if_neg (by omega), if_neg h1]
theorem dimsTo_yes {m : Int} {key : List Int} {n j : Nat} {x : Int} (h : bitB m j = true) (hx : key[rank m j]? = some x) : (dimsTo m key n j).set j (.int .i64 x) = dimsTo m key n (j + 1) := by
  apply List.ext_getElem?
  intro i
  unfold dimsTo
  rw [List.getElem?_set]
  simp only [List.getElem?_map, List.length_map, List.length_range]
  by_cases e : j = i
  · subst e
    by_cases hn : j < n
    · simp [hn, dimV, h, hx]
    · simp [hn]
  · rw [if_neg e]
    by_cases hn : i < n
    · simp only [List.getElem?_range hn, Option.map_some]
      by_cases h1 : i < j
      · rw [if_pos h1, if_pos (by omega)]
      · rw [if_neg h1, if_neg (by omega)]
    · simp [hn]
theorem dimsTo_all (m : Int) (key : List Int) (n : Nat) : dimsTo m key n n = (dimsD m key n).map (Value.int .i64) := by
  unfold dimsTo dimsD
  rw [List.map_map]
  apply List.map_congr_left
  intro i hi
  rw [if_pos (by simpa using hi)]
  rfl

set_option maxRecDepth 100000 in
set_option maxHeartbeats 4000000 in
theorem dimsOf (c : ConfD) (ch : ConfigH) (cf : List Nat) (p : PaneD) (h : PaneH) (f : List Nat) (i : Nat) (m : Int) (w : World) (hc : Config.Is w c ch cf) (hp : Pane.Is w p h f) (hok : confD c = true) (hpi : p.mask = i) (hi : i < ch.msl) (hu : c.ms[i]? = some m) (hkl : (p.key.length : Int) = ones m) :
    Calls Tryz.prog 40 #[.agg (Config.list c ch).toArray, .agg (Pane.list p h).toArray] w (GiveI w (dimsD m p.key c.d.toNat)) := by
  have hd := conf_dims hok
  have hm := conf_mask hok hu
  obtain ⟨n, hn⟩ : ∃ n : Nat, c.d = (n : Int) := ⟨c.d.toNat, by omega⟩
  have hn3 : n ≤ 3 := by omega
  rw [hn, Int.toNat_natCast]
  have HC := Lib.hid hc
  have HK := Lib.hid (fun W j hcW hj => keeps c ch cf i j m W hcW hi hu hm.1 hm.2 hj)
  obtain ⟨g0, rfl, q0, x0, y0⟩ := hp
  have HQ := Lib.hid q0
  have HKL := Lib.hid (show p.key.length = rank m 3 by have := rank_ones m; omega)
  have hql : h.keyl = rank m 3 := by rw [← q0.1]; exact HKL.out
  have HQL := Lib.hid hql
  have hmk := run_make_n (P := Tryz.prog) 23 3 (.int .i64 0) 1 8 Tryz.underlying23 info_int .i64 .i64 n (by omega) (by omega)
  rw [show madeCells (Value.cells (.int .i64 0)) (n * 1) = (dimsTo m p.key n 0).toArray by rw [dimsTo_zero]; have := made_eq [Value.int .i64 0] (by decide) n; simpa [Value.cells] using this] at hmk
  have HN := Lib.hid hn
  clear hc q0 x0 y0 hkl hu hm hok hd hql
  simp only [Config.list, Pane.list] at *
  rw [hn] at HK
  rw [hpi, hn]
  clear hn
  go_enter Tryz.func40, Tryz.ntmps40
  go_wp2_with fail
  go_loopg [6, 13] n (fun k nx v wr => ∃ j : Nat, j + k = n ∧ nx = .int .i64 (rank m j : Nat) ∧ v = .int .i64 j ∧ Below w.heap.size w wr ∧ Blk wr w.heap.size 33 [.int .i64 (n : Int), .slice ch.wsa ch.wsl ch.wsc, .slice ch.msa ch.msl ch.msc, .int .i64 c.dl, .int .i64 c.lt] ∧ Blk wr (w.heap.size + 1) 62 [.int .i64 p.win, .int .i64 i, .int .i64 p.start, .slice h.keya h.keyl h.keyc, .int .i64 p.a.n, .int .i64 p.a.sm, .int .i64 p.a.mn, .int .i64 p.a.mx] ∧ Blk wr (w.heap.size + 1 + 1) 3 (dimsTo m p.key n j))
  case atStart => exact ⟨0, by omega, rfl, rfl, by repeat (first | exact Below.refl _ _ | refine Below.setCell ?_ (by first | omega | (simp; done) | (simp; omega)) _ | refine Below.alloc ?_ (by first | omega | (simp; done) | (simp; omega)) _ | apply Below.drew), by with_reducible (repeat (first | (refine blk_new_at _ _ _ _ ?_; first | rfl | (simp; done)) | refine Blk.alloc ?_ _ | apply Blk.drew | refine Blk.setOther ?_ (by first | (simp; done) | (simp; omega)) _)), by with_reducible (repeat (first | (refine blk_new_at _ _ _ _ ?_; first | rfl | (simp; done)) | refine Blk.alloc ?_ _ | apply Blk.drew | refine Blk.setOther ?_ (by first | (simp; done) | (simp; omega)) _)), blk_new_at _ _ _ _ (by simp)⟩
  case round =>
    obtain ⟨j, hj, rfl, rfl, hB, hK, hP, hD⟩ := hrel
    clear hmk
    have BB := Lib.hid hB
    have KK := Lib.hid hK
    have PP := Lib.hid hP
    have DD := Lib.hid hD
    by_cases hlt : j < n
    case neg =>
      obtain rfl : j = n := by omega
      have hrow : GRow 1 RInt wr (some ⟨w.heap.size + 1 + 1, 0, none⟩) j (dimsD m p.key j) [w.heap.size + 1 + 1] := row_in hD 0 j _ (by simp [dimsD]) (fun t x hx => by rw [dimsTo_all, Nat.zero_add, List.getElem?_map, hx]; rfl)
      have RW := Lib.hid hrow
      clear hB hK hP hD hrow
      go_wp2_with fail
      go_ret
      exact ⟨_, _, _, _, rfl, RW.out, Nat.le_refl _, by omega, ⟨by simp, fun b hb => by simp at hb; subst hb; exact ⟨by omega, _, _, DD.out⟩⟩, BB.out⟩
    have hlt2 : (j : Int) < (n : Int) := by omega
    have h02 : (0 : Int) ≤ (j : Int) := by omega
    have a0 := hK.cell 0
    have a1 := hK.cell 1
    have a2 := hK.cell 2
    have a3 := hK.cell 3
    have a4 := hK.cell 4
    have b1 := hP.cell 1
    simp at a0 a1 a2 a3 a4 b1
    clear hB hK hP hD
    go_wp2_with fail
    refine (HK.out wr j (HC.out.below BB.out) (by omega)).mono ?_
    rintro e W2 ⟨rfl, b2⟩
    have B2 := Lib.hid (BB.out.trans (b2.mono BB.out.size))
    have K2 := Lib.hid (KK.out.below b2 KK.out.lt)
    have P2 := Lib.hid (PP.out.below b2 PP.out.lt)
    have D2 := Lib.hid (DD.out.below b2 DD.out.lt)
    clear b2 a0 a1 a2 a3 a4 b1
    cases hp : bitB m j with
    | false =>
      have HR := Lib.hid (show rank m (j + 1) = rank m j by simp [rank, hp])
      have HT := Lib.hid (dimsTo_no (key := p.key) (n := n) hp)
      clear hp
      go_wp2_with fail
      go_roundg (n - (j + 1))
      case measure => omega
      case rel => exact ⟨j + 1, by omega, by rw [HR.out], by go_num, B2.out, K2.out, P2.out, by rw [HT.out]; exact D2.out⟩
    | true =>
      have hr3 := rank_lt (show j < 3 by omega) hp
      have HR := Lib.hid (show rank m (j + 1) = rank m j + 1 by simp [rank, hp])
      obtain ⟨b, off, x, fx, cs, ha, hbl, hx, hcl, hRx, hcs⟩ := HQ.out.at (show rank m j < h.keyl by rw [HQL.out]; exact hr3)
      obtain ⟨rfl, rfl⟩ := hRx
      have HT := Lib.hid (dimsTo_yes (n := n) hp hx)
      obtain ⟨t, ht⟩ : ∃ t, rank m j = t := ⟨_, rfl⟩
      have hr3' : rank m 3 ≤ 3 := by simp only [rank]; cases bitB m 0 <;> cases bitB m 1 <;> cases bitB m 2 <;> simp
      have c0 : W2.cell? ⟨b, off + t, none⟩ = some (.int .i64 x) := by have := (B2.out.cell (p := ⟨b, off + rank m j * 1 + 0, none⟩) hbl).trans (hcs 0 (by omega)); rw [ht] at this; simpa using this
      have q3 := P2.out.cell 3
      have pl := P2.out.lt
      simp at q3
      rw [ha] at q3
      have htl : (t : Int) < (h.keyl : Int) := by rw [← ht, HQL.out]; omega
      have ht0 : (0 : Int) ≤ (t : Int) := by omega
      have ht3 : t ≤ 3 := by omega
      have z0 : ∃ v, W2.cell? ⟨w.heap.size + 1 + 1, j, none⟩ = some v := ⟨_, (D2.out.cell j).trans (List.getElem?_eq_getElem (by simp [dimsTo]; exact hlt))⟩
      obtain ⟨zv, zc⟩ := z0
      have zf := D2.out.frozen j
      have zl := D2.out.lt
      rw [ht] at HR ⊢
      clear hp hr3 hr3' hx hcl hcs ha ht
      go_wp2_with fail
      go_roundg (n - (j + 1))
      case measure => omega
      case rel =>
        refine ⟨j + 1, by omega, by rw [HR.out]; go_num, by go_num, B2.out.setCell (by simp; omega) _, K2.out.setOther (by simp; omega) _, P2.out.setOther (by simp) _, ?_⟩
        rw [← HT.out]
        exact D2.out.set j _
end Go.Proofs.YtpcekmllmnfmmaaGreat.dat
