/-
  THE CONTRACTS OF keeps, cellOf, dimsOf, paneAt of the program: from dimensions to cells and back; nothing that was there is written.
-/
import Derived.Test.YtpcekmllmnfmmaaGreatCubeMap
import Derived.Test.YtpcekmllmnfmmaaGreatCubeMath
namespace Go.Proofs.YtpcekmllmnfmmaaGreat.dat
open Go.RowKit Go.Proofs.YtpcekmllmnfmmaaGreat.win

theorem below_drawn {B : Nat} {w W : World} (h : Below B w W) (n : Nat) : Below B w (W.drewN n) := ⟨h.os, h.tape, h.output, h.size, h.block⟩
def dimAt (m : Int) (l : List Int) (i : Nat) : Int := if bitB m i then l[i]?.getD 0 else 0
/-- cellOf. -/
def cellD (m : Int) (win mask start : Int) (l : List Int) : CellD := ⟨win, mask, start, dimAt m l 0, dimAt m l 1, dimAt m l 2⟩
def dimTo (m : Int) (l : List Int) (j i : Nat) : Int := if i < j then dimAt m l i else 0
theorem dimTo_all {m : Int} {l : List Int} {i : Nat} : dimTo m l l.length i = dimAt m l i := by
  unfold dimTo
  by_cases h : i < l.length
  · rw [if_pos h]
  · rw [if_neg h]
    unfold dimAt
    rw [List.getElem?_eq_none (by omega)]
    simp
theorem dimTo_no {m : Int} {l : List Int} {j : Nat} (h : bitB m j = false) (i : Nat) : dimTo m l (j + 1) i = dimTo m l j i := by
  unfold dimTo
  by_cases h1 : i < j
  · rw [if_pos h1, if_pos (by omega)]
  · by_cases h2 : i = j
    · subst h2; rw [if_pos (by omega), if_neg (by omega)]; unfold dimAt; rw [h]; simp
    · rw [if_neg (by omega), if_neg h1]
theorem dimTo_other {m : Int} {l : List Int} {i j : Nat} (h : i ≠ j) : dimTo m l (j + 1) i = dimTo m l j i := by
  unfold dimTo
  by_cases h1 : i < j
  · rw [if_pos h1, if_pos (by omega)]
  · rw [if_neg (by omega), if_neg h1]
theorem dimTo_yes {m : Int} {l : List Int} {j : Nat} {x : Int} (h : bitB m j = true) (hx : l[j]? = some x) : dimTo m l (j + 1) j = x := by
  unfold dimTo
  rw [if_pos (by omega)]
  unfold dimAt
  rw [h, hx]; rfl

set_option maxRecDepth 100000 in
set_option maxHeartbeats 2000000 in
theorem keeps (c : ConfD) (ch : ConfigH) (cf : List Nat) (i j : Nat) (m : Int) (w : World) (hc : Config.Is w c ch cf) (hi : i < ch.msl) (hu : c.ms[i]? = some m) (h0 : 0 ≤ m) (h8 : m < 8) (hj : j < 3) :
    Calls Tryz.prog 75 #[.agg (Config.list c ch).toArray, .int .i64 i, .int .i64 j] w fun e w' => e = .returned (.bool (bitB m j)) ∧ Below w.heap.size w w' := by
  obtain ⟨f0, f1, rfl, r0, u0, v0, r1, u1, v1⟩ := hc
  obtain ⟨b, off, x, f, cs, ha, hbl, hx, hcl, hR, hcell⟩ := r1.at hi
  obtain rfl : x = m := by rw [hu] at hx; exact (Option.some.inj hx).symm
  obtain ⟨rfl, rfl⟩ := hR
  have e0 := hcell 0 (by omega)
  simp at e0
  have E0 := Lib.hid e0
  have hi2 : (i : Int) < (ch.msl : Int) := by omega
  have hi0 : (0 : Int) ≤ (i : Int) := by omega
  have HA := Lib.hid ha
  have hjj : j = 0 ∨ j = 1 ∨ j = 2 := by omega
  have HB := Lib.hid (mask_bit h0 h8 hj)
  rw [← HB.out]
  clear r0 u0 v0 r1 u1 v1 hcell hu hx hcl e0 ha h0 h8 HB
  have HM := Lib.hid (fun w => flip_call (impl_MaskIn ((2 : Int) ^ j) x w (by rcases hjj with rfl | rfl | rfl <;> decide)))
  simp only [Config.list]
  rcases hjj with rfl | rfl | rfl
  all_goals (
    simp only [Int.pow_succ, Int.pow_zero, Int.reduceMul] at HM ⊢
    go_enter Tryz.func75, Tryz.ntmps75
    go_wp2_with fail
    refine wp_gen (fun W => Below w.heap.size w W ∧ Blk W w.heap.size 33 (Config.list c ch)) ⟨by repeat (first | exact Below.refl _ _ | refine Below.setCell ?_ (by first | omega | (simp; done) | (simp; omega)) _ | refine Below.alloc ?_ (by first | omega | (simp; done) | (simp; omega)) _ | apply Below.drew), by unfold Config.list; with_reducible (repeat (first | (refine blk_new_at _ _ _ _ ?_; first | rfl | (simp; done)) | refine Blk.alloc ?_ _ | apply Blk.drew | refine Blk.setOther ?_ (by first | (simp; done) | (simp; omega)) _))⟩ ?_
    rintro W1 ⟨b1, k1⟩
    have B1 := Lib.hid b1
    have c2 := k1.cell 2
    simp [Config.list] at c2
    rw [HA.out] at c2
    have g0 : W1.cell? ⟨b, off + i, none⟩ = some (.int .i64 x) := (b1.cell (p := ⟨b, off + i, none⟩) hbl).trans E0.out
    clear k1 b1
    go_quiet (first | (go_at_call 73; exact Calls.quiet_of_same (HM.out _)))
    go_wp2_with fail
    go_ret
    exact ⟨rfl, below_drawn B1.out _⟩)

set_option maxRecDepth 100000 in
set_option maxHeartbeats 2000000 in
theorem cellOf (c : ConfD) (ch : ConfigH) (cf : List Nat) (win : Int) (i : Nat) (start : Int) (a : Option Addr) (len cap : Nat) (l : List Int) (fp : List Nat) (m : Int) (w : World) (hc : Config.Is w c ch cf) (hi : i < ch.msl) (hu : c.ms[i]? = some m) (h0 : 0 ≤ m) (h8 : m < 8) (hl3 : len ≤ 3) (hrow : GRow 1 RInt w a len l fp) :
    Calls Tryz.prog 39 #[.agg (Config.list c ch).toArray, .int .i64 win, .int .i64 i, .int .i64 start, .slice a len cap] w fun e w' => e = .returned (Cell.v (cellD m win i start l)) ∧ Below w.heap.size w w' := by
  have HC := Lib.hid hc
  have HG := Lib.hid hrow
  have HL := Lib.hid hrow.1
  have HK := Lib.hid (fun w j h3 hc => keeps c ch cf i j m w hc hi hu h0 h8 h3)
  clear hc hrow hu h0 h8
  simp only [Config.list, Cell.v, Cell.list] at *
  go_enter Tryz.func39, Tryz.ntmps39
  go_wp2_with fail
  go_loopg [20] len (fun k v wr => ∃ j : Nat, j + k = len ∧ v = .int .i64 j ∧ Below w.heap.size w wr ∧ Blk wr w.heap.size 33 (Config.list c ch) ∧ Blk wr (w.heap.size + 1) 72 [.int .i64 0, .int .i64 0, .int .i64 0, .int .i64 0, .int .i64 0, .int .i64 0] ∧
    Blk wr (w.heap.size + 1 + 1) 72 [.int .i64 win, .int .i64 i, .int .i64 start, .int .i64 (dimTo m l j 0), .int .i64 (dimTo m l j 1), .int .i64 (dimTo m l j 2)])
  case atStart => exact ⟨0, by omega, rfl, by repeat (first | exact Below.refl _ _ | refine Below.setCell ?_ (by first | omega | (simp; done) | (simp; omega)) _ | refine Below.alloc ?_ (by first | omega | (simp; done) | (simp; omega)) _ | apply Below.drew), by unfold Config.list; with_reducible (repeat (first | (refine blk_new_at _ _ _ _ ?_; first | rfl | (simp; done)) | refine Blk.alloc ?_ _ | apply Blk.drew | refine Blk.setOther ?_ (by first | (simp; done) | (simp; omega)) _)), by with_reducible (repeat (first | (refine blk_new_at _ _ _ _ ?_; first | rfl | (simp; done)) | refine Blk.alloc ?_ _ | apply Blk.drew | refine Blk.setOther ?_ (by first | (simp; done) | (simp; omega)) _)), by simp only [dimTo, Nat.not_lt_zero, if_false]; with_reducible (repeat (first | (refine blk_new_at _ _ _ _ ?_; first | rfl | (simp; done)) | refine Blk.alloc ?_ _ | apply Blk.drew | refine Blk.setOther ?_ (by first | (simp; done) | (simp; omega)) _))⟩
  case round =>
    obtain ⟨j, hj, rfl, hB, hK, hZ, hX⟩ := hrel
    have HB := Lib.hid hB
    have KK := Lib.hid hK
    have ZZ := Lib.hid hZ
    have XX := Lib.hid hX
    by_cases hlt : j < len
    case neg =>
      obtain rfl : j = len := by omega
      have x0 := hX.cell 0
      have x1 := hX.cell 1
      have x2 := hX.cell 2
      have x3 := hX.cell 3
      have x4 := hX.cell 4
      have x5 := hX.cell 5
      have z0 := hZ.cell 0
      have z1 := hZ.cell 1
      have z2 := hZ.cell 2
      have z3 := hZ.cell 3
      have z4 := hZ.cell 4
      have z5 := hZ.cell 5
      have zf := hZ.frozen
      have xl := hX.lt
      simp only [← HL.out, dimTo_all] at x0 x1 x2 x3 x4 x5
      simp at x0 x1 x2 x3 x4 x5 z0 z1 z2 z3 z4 z5
      clear hB hK hZ hX KK ZZ XX
      go_wp2_with fail
      refine bodyPost_ret (v := .agg #[.int .i64 win, .int .i64 i, .int .i64 start, .int .i64 (dimAt m l 0), .int .i64 (dimAt m l 1), .int .i64 (dimAt m l 2)]) (by simp [results, Tryz.results39, go_sem, z0, z1, z2, z3, z4, z5]) rfl ⟨rfl, ?_⟩
      repeat (first | exact Below.refl _ _ | refine Below.setCell ?_ (by first | omega | (simp; done) | (simp; omega)) _ | refine Below.alloc ?_ (by first | omega | (simp; done) | (simp; omega)) _ | apply Below.drew | refine Below.trans ?_ (HB.out.mono (by first | omega | (simp; done) | (simp; omega))))
    obtain ⟨b, off, x, f, cs, rfl, hbl, hx, hcl, hR, hcs⟩ := HG.out.at hlt
    obtain ⟨rfl, rfl⟩ := hR
    have c0 : wr.cell? ⟨b, off + j, none⟩ = some (.int .i64 x) := by have := (hB.cell (p := ⟨b, off + j * 1 + 0, none⟩) hbl).trans (hcs 0 (by omega)); simpa using this
    have hlt2 : (j : Int) < (len : Int) := by omega
    have h02 : (0 : Int) ≤ (j : Int) := by omega
    have h32 : (j : Int) < 3 := by omega
    have a0 := hK.cell 0
    have a1 := hK.cell 1
    have a2 := hK.cell 2
    have a3 := hK.cell 3
    have a4 := hK.cell 4
    simp [Config.list] at a0 a1 a2 a3 a4
    have HX := Lib.hid hx
    clear hB hK hZ hX hcs hcl hx
    go_wp2_with fail
    refine (HK.out wr j (by omega) (HC.out.below HB.out)).mono ?_
    rintro e W2 ⟨rfl, b2⟩
    have B2 := Lib.hid (HB.out.trans (b2.mono HB.out.size))
    have K2 := Lib.hid (KK.out.below b2 KK.out.lt)
    have Z2 := Lib.hid (ZZ.out.below b2 ZZ.out.lt)
    have X2 := Lib.hid (XX.out.below b2 XX.out.lt)
    clear b2 a0 a1 a2 a3 a4 c0
    cases hp : bitB m j with
    | false =>
      have HP := Lib.hid hp
      clear hp
      go_wp2_with fail
      go_roundg (len - (j + 1))
      case measure => omega
      case rel => exact ⟨j + 1, by omega, by go_num, B2.out, K2.out, Z2.out, by rw [dimTo_no HP.out, dimTo_no HP.out, dimTo_no HP.out]; exact X2.out⟩
    | true =>
      have HY := Lib.hid (dimTo_yes (l := l) hp HX.out)
      clear hp
      have hjj : j = 0 ∨ j = 1 ∨ j = 2 := by omega
      have y3 := X2.out.cell (3 + j)
      have yf := X2.out.frozen (3 + j)
      have yl := X2.out.lt
      have hy : W2.cell? ⟨w.heap.size + 1 + 1, 3 + j, none⟩ = some (.int .i64 (dimTo m l j j)) := by rw [y3]; rcases hjj with rfl | rfl | rfl <;> rfl
      clear y3
      go_wp2_with fail
      go_roundg (len - (j + 1))
      case measure => omega
      case rel =>
        refine ⟨j + 1, by omega, by go_num, B2.out.setCell (by simp; omega) _, K2.out.setOther (by simp; omega) _, Z2.out.setOther (by simp) _, ?_⟩
        refine (X2.out.set (3 + j) _).of_eq ?_
        rcases hjj with rfl | rfl | rfl
        · rw [HY.out, dimTo_other (i := 1) (j := 0) (by omega), dimTo_other (i := 2) (j := 0) (by omega)]; rfl
        · rw [HY.out, dimTo_other (i := 0) (j := 1) (by omega), dimTo_other (i := 2) (j := 1) (by omega)]; rfl
        · rw [HY.out, dimTo_other (i := 0) (j := 2) (by omega), dimTo_other (i := 1) (j := 2) (by omega)]; rfl
end Go.Proofs.YtpcekmllmnfmmaaGreat.dat
