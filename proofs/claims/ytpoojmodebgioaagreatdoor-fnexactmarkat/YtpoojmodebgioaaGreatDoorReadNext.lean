/-
  readNext: the first reader's next record; the heap behind it.
-/
import Derived.Test.YtpoojmodebgioaaGreatDoorReadersOf
namespace Go.Proofs.YtpoojmodebgioaaGreatDoor.dat
open Go.RowKit Go.Proofs.YtpoojmodebgioaaGreatDoor.win
open Go.Proofs.YtpoojmodebgioaaGreatDoor.num (Env Env.next)

theorem HB.keep {w w' : World} {q g cap : Nat} {l : List RdD} {rest : List Value} (h : HB w q g cap l rest) (hb : Below w.heap.size w w') : HB w' q g cap l rest :=
  ⟨h.box.below hb h.box.lt, h.row.below hb h.row.lt, h.ne, h.le, h.mx, h.sz⟩
theorem HB.off {w : World} {q g cap c : Nat} {l : List RdD} {rest : List Value} (h : HB w q g cap l rest) (hq : q ≠ c) (hg : g ≠ c) (o : Nat) (v : Value) : HB (w.setCell ⟨c, o, none⟩ v) q g cap l rest :=
  ⟨h.box.setOther hq v, h.row.setOther hg v, h.ne, h.le, h.mx, h.sz⟩
theorem apart_new {fp : List Nat} {a w : World} (h : Apart fp a w) {c : Nat} (hc : a.heap.size ≤ c) (o : Nat) (v : Value) : Apart fp a (w.setCell ⟨c, o, none⟩ v) :=
  ⟨h.os, h.tape, h.output, Nat.le_trans h.size (by simp [World.setCell]), fun b hb hn => (Below.heap_setCell w ⟨c, o, none⟩ v b (by show b ≠ c; omega)).trans (h.block b hb hn)⟩
/-- What is left of the heap behind a record. -/
def behind (x' : RdD) (r : List RdD) : List RdD := if x'.read = (x'.n : Int) then popL (x' :: r) else downL (x' :: r)

set_option maxRecDepth 100000 in
set_option maxHeartbeats 2000000 in
theorem impl_readNext (c : ConfD) (ch : ConfigH) (cf : List Nat) (q g cap : Nat) (x : RdD) (r : List RdD) (rest : List Value) (k b off : Nat) (s : ByteArray) (w : World) (hc : Config.Is w c ch cf) (hE : Env w) (hH : HB w q g cap (x :: r) rest) (hr : r.length ≤ 2)
    (hk : x.read = (k : Int)) (hkn : k < x.n) (hn : x.n ≤ 2000000) (ha : x.a = some ⟨b, off, none⟩) (hs : w.cell? ⟨b, off + k, none⟩ = some (.string s)) (hsz : s.size ≤ 2000000) :
    Calls Tryz.prog 36 #[.pointer (some ⟨q, 0, none⟩), .agg (Config.list c ch).toArray] w fun e w' => e = .returned (.agg #[.int .i64 x.part, .int .i64 k]) ∧ (∃ rest', HB w' q g cap (behind ⟨x.part, x.a, x.n, x.c, (k : Int) + 1, markB c x.mark s⟩ r) rest') ∧ Apart [q, g] w w' := by
  obtain ⟨xp, xa, xn, xc, xr, xm⟩ := x
  simp only at hk hkn hn ha
  subst hk ha
  have HC := Lib.hid hc
  have HE := Lib.hid hE
  have HH := Lib.hid hH
  have HS := Lib.hid hs
  clear hc hE hH hs
  have q0 := HH.out.box.cell 0
  have ql := HH.out.box.lt
  simp at q0
  have q1 : (0 : Int) < ((r.length + 1 : Nat) : Int) := by omega
  simp only [Config.list]
  go_enter Tryz.func36, Tryz.ntmps36
  go_wp2_with fail
  refine wp_gen (fun W => Below w.heap.size w W ∧ Blk W w.heap.size 27 (Config.list c ch) ∧ Blk W (w.heap.size + 1) 36 [.int .i64 0, .int .i64 0]) ⟨by repeat (first | exact Below.refl _ _ | refine Below.setCell ?_ (by first | omega | (simp; done) | (simp; omega)) _ | refine Below.alloc ?_ (by first | omega | (simp; done) | (simp; omega)) _ | apply Below.drew), by unfold Config.list; with_reducible (repeat (first | (refine blk_new_at _ _ _ _ ?_; first | rfl | (simp; done)) | refine Blk.alloc ?_ _ | apply Blk.drew | refine Blk.setOther ?_ (by first | (simp; done) | (simp; omega)) _)), by with_reducible (repeat (first | (refine blk_new_at _ _ _ _ ?_; first | rfl | (simp; done)) | refine Blk.alloc ?_ _ | apply Blk.drew | refine Blk.setOther ?_ (by first | (simp; done) | (simp; omega)) _))⟩ ?_
  rintro W0 ⟨b0, k0, p0⟩
  have B0 := Lib.hid b0
  have K0 := Lib.hid k0
  have P0 := Lib.hid p0
  have H0 := Lib.hid (HH.out.keep b0)
  have S0 := Lib.hid ((b0.cell (p := ⟨b, off + k, none⟩) (World.block_lt_of_cell? _ _ HS.out)).trans HS.out)
  have g0 := H0.out.row.cell 0
  have g1 := H0.out.row.cell 1
  have g2 := H0.out.row.cell 2
  have g3 := H0.out.row.cell 3
  simp [rdFlat, RdD.list] at g0 g1 g2 g3
  have gl := H0.out.row.lt
  have HQW := Lib.hid HH.out.box.lt
  have HGW := Lib.hid HH.out.row.lt
  clear b0 k0 p0 q0 ql q1 HH HS
  go_cut [6] (fun v wx => ∃ bx, v = .pointer (some ⟨bx, 0, none⟩) ∧ W0.heap.size ≤ bx ∧ Blk wx bx 36 [.int .i64 xp, .int .i64 k] ∧ Below W0.heap.size W0 wx)
  case first =>
    go_region
    all_goals (go_wp2_with fail; go_meet)
    all_goals exact ⟨_, rfl, Nat.le_refl _, (blk_new _ _ _).drew, ((Below.refl _ _).alloc (Nat.le_refl _) _).drew⟩
  case rest =>
  obtain ⟨bx, rfl, hbx, kx, bw⟩ := hcut
  generalize wc = W1 at *
  have B1 := Lib.hid (B0.out.trans (bw.mono B0.out.size))
  have K1 := Lib.hid (K0.out.below bw K0.out.lt)
  have P1 := Lib.hid (P0.out.below bw P0.out.lt)
  have H1 := Lib.hid (H0.out.keep bw)
  have S1 := Lib.hid ((bw.cell (p := ⟨b, off + k, none⟩) (World.block_lt_of_cell? _ _ S0.out)).trans S0.out)
  have X1 := Lib.hid kx
  have hpl : w.heap.size + 1 < bx := Nat.lt_of_lt_of_le P0.out.lt hbx
  have hgx : g < bx := Nat.lt_of_lt_of_le H0.out.row.lt hbx
  have hqx : q < bx := Nat.lt_of_lt_of_le H0.out.box.lt hbx
  clear bw kx hbx B0 K0 P0 H0 S0 g0 g1 g2 g3 gl
  have k0 := K1.out.cell 0
  have k1 := K1.out.cell 1
  have k2 := K1.out.cell 2
  have k3 := K1.out.cell 3
  have k4 := K1.out.cell 4
  have g1 := H1.out.row.cell 1
  have g2 := H1.out.row.cell 2
  have g3 := H1.out.row.cell 3
  simp [rdFlat, RdD.list] at g1 g2 g3
  simp [Config.list] at k0 k1 k2 k3 k4
  have hk2 : (k : Int) < (xn : Int) := by omega
  have hk0 : (0 : Int) ≤ (k : Int) := by omega
  go_wp2_with fail
  refine mix.wp_region_tail (fun w' => w'.cell? ⟨w.heap.size, 0, none⟩ = some (.int .i64 c.d) ∧ w'.cell? ⟨w.heap.size, 1, none⟩ = some (.slice ch.wsa ch.wsl ch.wsc) ∧ w'.cell? ⟨w.heap.size, 2, none⟩ = some (.slice ch.msa ch.msl ch.msc) ∧ w'.cell? ⟨w.heap.size, 3, none⟩ = some (.int .i64 c.dl) ∧ w'.cell? ⟨w.heap.size, 4, none⟩ = some (.int .i64 c.lt) ∧ w'.cell? ⟨g, 1, none⟩ = some (.slice (some ⟨b, off, none⟩) xn xc) ∧ w'.cell? ⟨g, 2, none⟩ = some (.int .i64 k) ∧ w'.cell? ⟨g, 3, none⟩ = some (.int .i64 xm) ∧ w'.cell? ⟨b, off + k, none⟩ = some (.string s)) [16] [0,1,2,3,4,5,6,7,8,9,10,11,12,13,14,15,16,17,18] (by kernel_rfl) (by kernel_rfl) (fun _ _ d _ _ h => by cases d <;> exact h) ⟨k0, k1, k2, k3, k4, g1, g2, g3, S1.out⟩ ?_
  simp only [List.filterMap_cons, List.filterMap_nil, List.getElem?_cons_zero, List.getElem?_cons_succ, Option.map_some]
  (repeat (apply mix.ordt_take; (· rfl); (· rfl); (· (intro w' hSw; (try dsimp only at hSw); go_simp; try with_reducible rfl)); (try simp only [Act.put, List.setIfInBounds_toArray, List.set_cons_zero, List.set_cons_succ])))
  refine mix.ordt_hard rfl (fun K hK => ?_); go_simp
  refine (markBehind c ch cf xm s W1.drew (HC.out.below B1.out.drew) hsz (HE.out.next B1.out.drew)).mono ?_
  rintro e W2 ⟨rfl, b2⟩
  have bq := (Below.refl W1.heap.size W1).drew.trans b2
  have B2 := Lib.hid (B1.out.trans (bq.mono B1.out.size))
  have K2 := Lib.hid (K1.out.below bq K1.out.lt)
  have P2 := Lib.hid (P1.out.below bq P1.out.lt)
  have H2 := Lib.hid (H1.out.keep bq)
  have X2 := Lib.hid (X1.out.below bq X1.out.lt)
  have e0 := (bq.cell (p := ⟨w.heap.size, 0, none⟩) K1.out.lt).trans k0
  have e1 := (bq.cell (p := ⟨w.heap.size, 1, none⟩) K1.out.lt).trans k1
  have e2 := (bq.cell (p := ⟨w.heap.size, 2, none⟩) K1.out.lt).trans k2
  have e3 := (bq.cell (p := ⟨w.heap.size, 3, none⟩) K1.out.lt).trans k3
  have e4 := (bq.cell (p := ⟨w.heap.size, 4, none⟩) K1.out.lt).trans k4
  have f1 := (bq.cell (p := ⟨g, 1, none⟩) H1.out.row.lt).trans g1
  have f2 := (bq.cell (p := ⟨g, 2, none⟩) H1.out.row.lt).trans g2
  have f3 := (bq.cell (p := ⟨g, 3, none⟩) H1.out.row.lt).trans g3
  have s2 := (bq.cell (p := ⟨b, off + k, none⟩) (World.block_lt_of_cell? _ _ S1.out)).trans S1.out
  have gf := H2.out.row.frozen
  have HSS := Lib.hid (And.intro e0 (And.intro e1 (And.intro e2 (And.intro e3 (And.intro e4 (And.intro f1 (And.intro f2 (And.intro f3 s2))))))))
  clear b2 bq k0 k1 k2 k3 k4 g1 g2 g3 e0 e1 e2 e3 e4 s2 B1 K1 P1 H1 X1 S1
  refine hK.out _ _ (by exact HSS.out) (fun hSw => ?_); clear hK K hSw; (try simp only [Act.put, List.setIfInBounds_toArray, List.set_cons_zero, List.set_cons_succ])
  clear HSS
  (repeat (apply mix.ordt_take; (· rfl); (· rfl); (· (intro w' hSw; (try dsimp only at hSw); go_simp; try with_reducible rfl)); (try simp only [Act.put, List.setIfInBounds_toArray, List.set_cons_zero, List.set_cons_succ])))
  refine mix.ordt_end ?_; refine mix.last_step (fun K hK => ?_); go_simp
  refine hK _ _ ?_
  clear hK K
  go_wp2_with fail
  have hqw : q < w.heap.size := HQW.out
  have hgw : g < w.heap.size := HGW.out
  refine wp_gen (fun W => HB W q g cap (⟨xp, some ⟨b, off, none⟩, xn, xc, (k : Int) + 1, markB c xm s⟩ :: r) rest ∧ Apart [q, g] w W ∧ Blk W (w.heap.size + 1) 36 [.int .i64 0, .int .i64 0] ∧ Blk W bx 36 [.int .i64 xp, .int .i64 k]) ⟨?_, ?_, (P2.out.setOther (by simp; omega) _).setOther (by simp; omega) _, (X2.out.setOther (by simp; omega) _).setOther (by simp; omega) _⟩ ?_
  · have a3 : Apart [g] W2 ((W2.setCell ⟨g, 3, none⟩ (.int .i64 (markB c xm s))).setCell ⟨g, 2, none⟩ (.int .i64 ((k : Int) + 1))) := ((Apart.refl [g] W2).setCell (by simp) _ _).setCell (by simp) _ _
    exact H2.out.other (((H2.out.row.set 3 _).set 2 _).of_eq rfl) rfl a3
  · exact ((Apart.of_below (fp := [q, g]) B2.out).setCell (by simp) _ _).setCell (by simp) _ _
  rintro W3 ⟨h3, a3, p3, x3⟩
  have H3 := Lib.hid h3
  have A3 := Lib.hid a3
  have P3 := Lib.hid p3
  have X3 := Lib.hid x3
  have i1 := h3.row.cell 1
  have i2 := h3.row.cell 2
  simp [rdFlat, RdD.list] at i1 i2
  clear h3 a3 p3 x3 H2 B2 K2 P2 X2 f1 f2 f3 gf
  go_quiet (fail)
  generalize hwd : W3.drewN nq = Wd at *
  have hbd : Below W3.heap.size W3 Wd := by rw [← hwd]; exact below_drewN (Below.refl _ _) _
  have H3_ := Lib.hid (H3.out.keep hbd)
  have A3_ := Lib.hid (A3.out.trans (Apart.of_below hbd))
  have P3_ := Lib.hid (P3.out.below hbd P3.out.lt)
  have X3_ := Lib.hid (X3.out.below hbd X3.out.lt)
  clear H3 A3 P3 X3 hbd hwd i1 i2
  have H3 := H3_
  have A3 := A3_
  have P3 := P3_
  have X3 := X3_
  clear H3_ A3_ P3_ X3_
  by_cases hkx : (k : Int) + 1 = (xn : Int)
  · have HBE := Lib.hid (show behind ⟨xp, some ⟨b, off, none⟩, xn, xc, (k : Int) + 1, markB c xm s⟩ r = popL (⟨xp, some ⟨b, off, none⟩, xn, xc, (k : Int) + 1, markB c xm s⟩ :: r) from if_pos hkx)
    have hke : ((k : Int) + 1 == (xn : Int)) = true := by simpa using hkx
    clear hkx
    go_wp2_with fail
    refine (heap_Pop H3.out hr).mono ?_
    rintro e W4 ⟨⟨v, rfl⟩, ⟨rest', h4⟩, a4⟩
    have H4 := Lib.hid h4
    have A4 := Lib.hid (A3.out.trans a4)
    have P4 := Lib.hid (show Blk W4 (w.heap.size + 1) 36 [.int .i64 0, .int .i64 0] from (a4.block _ P3.out.lt (by simp; omega)).trans P3.out)
    have X4 := Lib.hid (show Blk W4 bx 36 [.int .i64 xp, .int .i64 k] from (a4.block _ X3.out.lt (by simp; omega)).trans X3.out)
    have x0 := X4.out.cell 0
    have x1 := X4.out.cell 1
    have y0 := P4.out.cell 0
    have y1 := P4.out.cell 1
    have yf := P4.out.frozen
    simp at x0 x1 y0 y1
    clear h4 a4 H3 A3 P3 X3
    go_wp2_with fail
    refine body_gen (fun W => (∃ rest', HB W q g cap (behind ⟨xp, some ⟨b, off, none⟩, xn, xc, (k : Int) + 1, markB c xm s⟩ r) rest') ∧ Blk W (w.heap.size + 1) 36 [.int .i64 xp, .int .i64 k] ∧ Apart [q, g] w W) ⟨⟨rest', ?_⟩, ((P4.out.set 0 _).set 1 _).of_eq rfl, ?_⟩ ?_
    · rw [HBE.out]
      exact (H4.out.off (c := w.heap.size + 1) (by omega) (by omega) _ _).off (by omega) (by omega) _ _
    · exact apart_new (apart_new A4.out (by omega) _ _) (by omega) _ _
    rintro W ⟨h5, k5, a5⟩
    have z0 := k5.cell 0
    have z1 := k5.cell 1
    simp at z0 z1
    refine bodyPost_ret (v := .agg #[.int .i64 xp, .int .i64 k]) (by simp [results, Tryz.results36, go_sem, z0, z1]) rfl ?_
    exact ⟨rfl, h5, a5⟩
  · have HBE := Lib.hid (show behind ⟨xp, some ⟨b, off, none⟩, xn, xc, (k : Int) + 1, markB c xm s⟩ r = downL (⟨xp, some ⟨b, off, none⟩, xn, xc, (k : Int) + 1, markB c xm s⟩ :: r) from if_neg hkx)
    have hke : ((k : Int) + 1 == (xn : Int)) = false := by simpa using hkx
    clear hkx
    go_wp2_with fail
    refine (heap_Fix H3.out hr).mono ?_
    rintro e W4 ⟨rfl, ⟨rest', h4⟩, a4⟩
    have H4 := Lib.hid h4
    have A4 := Lib.hid (A3.out.trans a4)
    have P4 := Lib.hid (show Blk W4 (w.heap.size + 1) 36 [.int .i64 0, .int .i64 0] from (a4.block _ P3.out.lt (by simp; omega)).trans P3.out)
    have X4 := Lib.hid (show Blk W4 bx 36 [.int .i64 xp, .int .i64 k] from (a4.block _ X3.out.lt (by simp; omega)).trans X3.out)
    have x0 := X4.out.cell 0
    have x1 := X4.out.cell 1
    have y0 := P4.out.cell 0
    have y1 := P4.out.cell 1
    have yf := P4.out.frozen
    simp at x0 x1 y0 y1
    clear h4 a4 H3 A3 P3 X3
    go_wp2_with fail
    refine body_gen (fun W => (∃ rest', HB W q g cap (behind ⟨xp, some ⟨b, off, none⟩, xn, xc, (k : Int) + 1, markB c xm s⟩ r) rest') ∧ Blk W (w.heap.size + 1) 36 [.int .i64 xp, .int .i64 k] ∧ Apart [q, g] w W) ⟨⟨rest', ?_⟩, ((P4.out.set 0 _).set 1 _).of_eq rfl, ?_⟩ ?_
    · rw [HBE.out]
      exact (H4.out.off (c := w.heap.size + 1) (by omega) (by omega) _ _).off (by omega) (by omega) _ _
    · exact apart_new (apart_new A4.out (by omega) _ _) (by omega) _ _
    rintro W ⟨h5, k5, a5⟩
    have z0 := k5.cell 0
    have z1 := k5.cell 1
    simp at z0 z1
    refine bodyPost_ret (v := .agg #[.int .i64 xp, .int .i64 k]) (by simp [results, Tryz.results36, go_sem, z0, z1]) rfl ?_
    exact ⟨rfl, h5, a5⟩
end Go.Proofs.YtpoojmodebgioaaGreatDoor.dat
