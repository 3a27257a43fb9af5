/-
  THE CONTRACTS OF paneAt and dimsOf of the program: the pane of a cell, and the dimensions of a pane, in new memory; nothing that was there is written.
-/
import Derived.Test.YtpcekmllmnfmmaaGreatCubeCell
import Derived.WalkArith
namespace Go.Proofs.YtpcekmllmnfmmaaGreat.dat
open Go.RowKit Go.Proofs.YtpcekmllmnfmmaaGreat.win

/-- The pane of a cell. -/
def paneOf (c : ConfD) (m : Int) (x : CellD) (a : AggD) : PaneD := ⟨x.win, x.mask, x.start, keyD c m ([x.d0, x.d1, x.d2].take c.d.toNat), a⟩
theorem row_in {W : World} {g : Nat} {t : TypeId} {vs : List Value} (hb : Blk W g t vs) (off n : Nat) (l : List Int) (hl : l.length = n) (h : ∀ (i : Nat) x, l[i]? = some x → vs[off + i]? = some (.int .i64 x)) : GRow 1 RInt W (some ⟨g, off, none⟩) n l [g] := by
  refine ⟨hl, .inr ⟨g, off, List.replicate n [], rfl, hb.lt, by simp, by simp, fun i x f hx hf => ?_⟩⟩
  obtain rfl : f = [] := (List.mem_replicate.1 (List.mem_of_getElem? hf)).2
  refine ⟨[.int .i64 x], rfl, ⟨rfl, rfl⟩, fun j hj => ?_⟩
  obtain rfl : j = 0 := by omega
  rw [Nat.mul_one, Nat.add_zero, hb.cell]
  exact h i x hx

set_option maxRecDepth 100000 in
set_option maxHeartbeats 4000000 in
theorem paneAt_ (c : ConfD) (ch : ConfigH) (cf : List Nat) (x : CellD) (i : Nat) (m : Int) (a : AggD) (w : World) (hc : Config.Is w c ch cf) (hok : confD c = true) (hxi : x.mask = i) (hi : i < ch.msl) (hu : c.ms[i]? = some m) :
    Calls Tryz.prog 76 #[.agg (Config.list c ch).toArray, Cell.v x, aggV a] w fun e w' => ∃ (h : PaneH) (f : List Nat), e = .returned (.agg (Pane.list (paneOf c m x a) h).toArray) ∧ Pane.Is w' (paneOf c m x a) h f ∧ Own w.heap.size w' f ∧ Below w.heap.size w w' := by
  have hd := conf_dims hok
  have hm := conf_mask hok hu
  obtain ⟨n, hn⟩ : ∃ n : Nat, c.d = (n : Int) := ⟨c.d.toNat, by omega⟩
  have hn3 : n ≤ 3 := by omega
  unfold paneOf
  rw [hn, Int.toNat_natCast]
  obtain ⟨key, hkey⟩ : ∃ key, keyD c m ([x.d0, x.d1, x.d2].take n) = key := ⟨_, rfl⟩
  rw [hkey]
  have HKEY := Lib.hid hkey
  have HC := Lib.hid hc
  obtain ⟨f0, f1, hff, r0, u0, v0, r1, u1, v1⟩ := hc
  obtain ⟨b, off, y, f, cs, ha, hbl, hy, hcl, hR, hcell⟩ := r1.at hi
  obtain rfl : y = m := by rw [hu] at hy; exact (Option.some.inj hy).symm
  obtain ⟨rfl, rfl⟩ := hR
  have e0 := hcell 0 (by omega)
  simp at e0
  have E0 := Lib.hid e0
  have hi2 : (i : Int) < (ch.msl : Int) := by omega
  have hi0 : (0 : Int) ≤ (i : Int) := by omega
  have HA := Lib.hid ha
  have hKO := fun W g hcW hrow => impl_KeyOf c ch cf y (some ⟨g, 3, none⟩) n 3 ([x.d0, x.d1, x.d2].take n) [g] W hcW (WalkArith.wf_i64 (by omega)) hrow hn3 (by omega)
  simp only [Config.list, hkey] at hKO
  rw [ha, hn] at hKO
  have HKO := Lib.hid hKO
  have HT := Lib.hid (show ([x.d0, x.d1, x.d2].take n).length = n by simp; omega)
  clear hKO
  have HN := Lib.hid hn
  have hn0 : (0 : Int) ≤ (n : Int) := by omega
  have hn33 : (n : Int) ≤ 3 := by omega
  clear r0 u0 v0 r1 u1 v1 hcell hu hy hcl e0 ha hff hkey hd hm hok
  simp only [Config.list, Cell.v, Cell.list, aggV, Pane.list]
  rw [hxi]
  rw [hn]
  clear hn
  go_enter Tryz.func76, Tryz.ntmps76
  go_wp2_with fail
  refine wp_gen (fun W => Below w.heap.size w W ∧ Blk W w.heap.size 33 [.int .i64 (n : Int), .slice ch.wsa ch.wsl ch.wsc, .slice ch.msa ch.msl ch.msc, .int .i64 c.dl, .int .i64 c.lt] ∧ Blk W (w.heap.size + 1) 72 [.int .i64 x.win, .int .i64 i, .int .i64 x.start, .int .i64 x.d0, .int .i64 x.d1, .int .i64 x.d2] ∧ Blk W (w.heap.size + 1 + 1) 60 [.int .i64 a.n, .int .i64 a.sm, .int .i64 a.mn, .int .i64 a.mx] ∧ Blk W (w.heap.size + 1 + 1 + 1) 62 [.int .i64 0, .int .i64 0, .int .i64 0, .slice none 0 0, .int .i64 0, .int .i64 0, .int .i64 0, .int .i64 0]) ⟨by repeat (first | exact Below.refl _ _ | refine Below.setCell ?_ (by first | omega | (simp; done) | (simp; omega)) _ | refine Below.alloc ?_ (by first | omega | (simp; done) | (simp; omega)) _ | apply Below.drew), by with_reducible (repeat (first | (refine blk_new_at _ _ _ _ ?_; first | rfl | (simp; done)) | refine Blk.alloc ?_ _ | apply Blk.drew | refine Blk.setOther ?_ (by first | (simp; done) | (simp; omega)) _)), by with_reducible (repeat (first | (refine blk_new_at _ _ _ _ ?_; first | rfl | (simp; done)) | refine Blk.alloc ?_ _ | apply Blk.drew | refine Blk.setOther ?_ (by first | (simp; done) | (simp; omega)) _)), by with_reducible (repeat (first | (refine blk_new_at _ _ _ _ ?_; first | rfl | (simp; done)) | refine Blk.alloc ?_ _ | apply Blk.drew | refine Blk.setOther ?_ (by first | (simp; done) | (simp; omega)) _)), by with_reducible (repeat (first | (refine blk_new_at _ _ _ _ ?_; first | rfl | (simp; done)) | refine Blk.alloc ?_ _ | apply Blk.drew | refine Blk.setOther ?_ (by first | (simp; done) | (simp; omega)) _))⟩ ?_
  rintro W1 ⟨b1, k1, m1, a1, p1⟩
  have B1 := Lib.hid b1
  have M1 := Lib.hid m1
  have A1 := Lib.hid a1
  have P1 := Lib.hid p1
  have c0 := k1.cell 0
  have c1 := k1.cell 1
  have c2 := k1.cell 2
  have c3 := k1.cell 3
  have c4 := k1.cell 4
  have d1 := m1.cell 1
  have ml := m1.lt
  simp at c0 c1 c2 c3 c4 d1
  rw [HA.out] at c2
  have g0 : W1.cell? ⟨b, off + i, none⟩ = some (.int .i64 y) := (b1.cell (p := ⟨b, off + i, none⟩) hbl).trans E0.out
  clear k1 m1 b1 a1 p1
  refine mix.wp_region_mix [11] (by kernel_rfl) (by kernel_rfl) ?_
  refine mix.mix_seg 11 rfl ?_; simp only [List.take_succ_cons, List.take_zero, List.drop_succ_cons, List.drop_zero]; (repeat still_step)
  (try refine wpStill_nil ?_); refine mix.at_cons (fun K hK => ?_); go_simp
  refine (HKO.out W1.drew (w.heap.size + 1) (HC.out.below B1.out.drew) (row_in M1.out.drew 3 n _ HT.out (fun j z hz => ?_))).mono ?_
  · rw [List.getElem?_take] at hz
    split at hz
    · match j, hz with
      | 0, hz => simpa using hz
      | 1, hz => simpa using hz
      | 2, hz => simpa using hz
      | j + 3, hz => simp at hz
    · cases hz
  rintro e W2 ⟨a2, n2, c2', f2, rfl, hr2, q1, q2, ho2, b2⟩
  have bq : Below W1.heap.size W1 W2 := (Below.refl _ _).drew.trans b2
  have B2 := Lib.hid (B1.out.trans (bq.mono B1.out.size))
  have mm := M1.out.below bq M1.out.lt
  have aa := A1.out.below bq A1.out.lt
  have pp := P1.out.below bq P1.out.lt
  have P2 := Lib.hid pp
  have m0 := mm.cell 0
  have m1 := mm.cell 1
  have m2 := mm.cell 2
  have a0 := aa.cell 0
  have a1 := aa.cell 1
  have a2' := aa.cell 2
  have a3 := aa.cell 3
  have p0 := pp.cell 0
  have p1 := pp.cell 1
  have p2 := pp.cell 2
  have p3 := pp.cell 3
  have p4 := pp.cell 4
  have p5 := pp.cell 5
  have p6 := pp.cell 6
  have p7 := pp.cell 7
  have pf := pp.frozen
  simp at m0 m1 m2 a0 a1 a2' a3 p0 p1 p2 p3 p4 p5 p6 p7
  have HR2 := Lib.hid (And.intro hr2 (And.intro q1 q2))
  have HO2 := Lib.hid (show Own w.heap.size W2 f2 from ho2.mono (by have := B1.out.size; simpa using this))
  have HF2 := Lib.hid (show ∀ z ∈ f2, z ≠ w.heap.size + 1 + 1 + 1 from fun z hz => by have h1 := (ho2.2 z hz).1; have h2 := P1.out.lt; simp at h1; omega)
  clear bq mm aa pp hr2 q1 q2 ho2 b2 c0 c1 c2 c3 c4 d1 g0
  refine hK _ _ ?_; clear hK K
  refine mix.mix_end ?_; (repeat still_step)
  refine wpStill_nil ?_
  go_wp2_with fail
  refine bodyPost_ret (v := .agg #[.int .i64 x.win, .int .i64 i, .int .i64 x.start, .slice a2 n2 c2', .int .i64 a.n, .int .i64 a.sm, .int .i64 a.mn, .int .i64 a.mx]) (by simp [results, Tryz.results76, go_sem, p0, p1, p2, p3, p4, p5, p6, p7]) rfl ⟨⟨a2, n2, c2'⟩, f2, rfl, ?_, ?_, ?_⟩
  · refine ⟨f2, rfl, ?_, HR2.out.2.1, HR2.out.2.2⟩
    show GRow 1 RInt _ a2 n2 key f2
    repeat (with_reducible first | exact HR2.out.1 | refine GRow.set local_int ?_ HF2.out _ _)
  · repeat (with_reducible first | exact HO2.out | refine Own.set ?_ _ _ _)
  · repeat (first | (with_reducible exact B2.out) | (with_reducible refine Below.setCell ?_ ?_ _; rotate_left 1; · simp; omega))
end Go.Proofs.YtpcekmllmnfmmaaGreat.dat
