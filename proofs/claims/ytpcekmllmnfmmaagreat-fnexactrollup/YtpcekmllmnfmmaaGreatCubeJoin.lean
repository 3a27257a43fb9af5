/-
  THE CONTRACT OF THE CUBE'S join: what it answers, and what the map holds then; nothing but the map is written.
-/
import Derived.Test.YtpcekmllmnfmmaaGreatCubeMap
import Derived.Test.YtpcekmllmnfmmaaGreatCubeMath
import Derived.Test.YtpcekmllmnfmmaaGreatAggJoin
import Derived.Deep.RegionHeld3
import Derived.Deep.DeepCutAuto
namespace Go.Proofs.YtpcekmllmnfmmaaGreat.dat
open Go.RowKit Go.Proofs.YtpcekmllmnfmmaaGreat.win

theorem lookup_run {ε : Type} {M : MapK ε} {w : World} {b n : Nat} {F : CellD → Option ε} (h : MapAt M w b n F) {k : CellD} (hk : Cell.Wf k) : (Instr.lookup M.T (.map (some b)) (Cell.v k) false).run Tryz.prog w = .ok (M.v ((F k).getD M.zero)) w := by
  obtain ⟨D, h, t1, t2⟩ := h
  obtain ⟨v, ps, hrun, hv⟩ := h.lookup law_cell M.und (M.hz w) (M.made M.zero) (key_cell hk)
  obtain ⟨c, rfl, hc⟩ := M.inv hv
  rw [t1 k hk] at hc
  rw [hrun]
  cases hF : F k with
  | none => rw [hF] at hc; rw [M.dinj (congrArg Prod.fst hc)]; rfl
  | some a => rw [hF] at hc; rw [M.dinj (congrArg Prod.fst hc)]; rfl
/-- What a cell holds behind a join. -/
def joinC (o : Option AggD) (a : AggD) : Option AggD := if joinA (o.getD zeroA) a = zeroA then none else some (joinA (o.getD zeroA) a)
/-- What the region leaves: the joined in a box. -/
def JBox (q : AggD) (W : World) (v : Value) (wx : World) : Prop := ∃ bx : Nat, v = .pointer (some ⟨bx, 0, none⟩) ∧ W.heap.size ≤ bx ∧ Blk wx bx 60 [.int .i64 q.n, .int .i64 q.sm, .int .i64 q.mn, .int .i64 q.mx] ∧ Below W.heap.size W wx
theorem jbox_after {q : AggD} {W wz : World} {n : Nat} (hn : n = wz.heap.size) (h : Below W.heap.size W wz) : JBox q W (.pointer (some ⟨n, 0, none⟩)) (wz.alloc (.cells #[.int .i64 q.n, .int .i64 q.sm, .int .i64 q.mn, .int .i64 q.mx] 60)) := by
  subst hn
  exact ⟨_, rfl, h.size, by with_reducible (repeat (first | (refine blk_new_at _ _ _ _ ?_; first | rfl | (simp; done)) | refine Blk.alloc ?_ _ | apply Blk.drew | refine Blk.setOther ?_ (by first | (simp; done) | (simp; omega)) _)), h.alloc h.size _⟩
theorem jbox_before {q : AggD} {W wz : World} {t : TypeId} {z0 z1 z2 z3 : Value} (hb : Below (W.alloc (.cells #[z0, z1, z2, z3] t)).drew.heap.size (W.alloc (.cells #[z0, z1, z2, z3] t)).drew wz) (ht : t = 60) :
    JBox q W (.pointer (some ⟨W.heap.size, 0, none⟩)) ((((wz.setCell ⟨W.heap.size, 0, none⟩ (.int .i64 q.n)).setCell ⟨W.heap.size, 1, none⟩ (.int .i64 q.sm)).setCell ⟨W.heap.size, 2, none⟩ (.int .i64 q.mn)).setCell ⟨W.heap.size, 3, none⟩ (.int .i64 q.mx)) := by
  subst ht
  have hk : Blk wz W.heap.size 60 [z0, z1, z2, z3] := (blk_new W 60 [z0, z1, z2, z3]).drew.below hb (by simp)
  refine ⟨W.heap.size, rfl, Nat.le_refl _, ((((hk.set 0 _).set 1 _).set 2 _).set 3 _).of_eq rfl, ?_⟩
  refine (((Below.setCell ?_ (by simp) _).setCell (by simp) _).setCell (by simp) _).setCell (by simp) _
  exact ((Below.refl W.heap.size W).alloc (Nat.le_refl _) _).drew.trans (hb.mono (by simp))
theorem blk4_cells {W : World} {p : Nat} {t : TypeId} {v0 v1 v2 v3 : Value} (k : Blk W p t [v0, v1, v2, v3]) : W.cell? ⟨p, 0, none⟩ = some v0 ∧ W.cell? ⟨p, 1, none⟩ = some v1 ∧ W.cell? ⟨p, 2, none⟩ = some v2 ∧ W.cell? ⟨p, 3, none⟩ = some v3 :=
  ⟨by simpa using k.cell 0, by simpa using k.cell 1, by simpa using k.cell 2, by simpa using k.cell 3⟩
theorem blk6_cells {W : World} {p : Nat} {t : TypeId} {v0 v1 v2 v3 v4 v5 : Value} (k : Blk W p t [v0, v1, v2, v3, v4, v5]) : W.cell? ⟨p, 0, none⟩ = some v0 ∧ W.cell? ⟨p, 1, none⟩ = some v1 ∧ W.cell? ⟨p, 2, none⟩ = some v2 ∧ W.cell? ⟨p, 3, none⟩ = some v3 ∧ W.cell? ⟨p, 4, none⟩ = some v4 ∧ W.cell? ⟨p, 5, none⟩ = some v5 :=
  ⟨by simpa using k.cell 0, by simpa using k.cell 1, by simpa using k.cell 2, by simpa using k.cell 3, by simpa using k.cell 4, by simpa using k.cell 5⟩
theorem grown_apart {w w' : World} {b : Nat} (h : w.grownBy w' (some b)) : Apart [b] w w' := ⟨h.os, h.tape, h.output, h.size, fun i hi hn => h.block i hi (fun e => hn (by simp at e; simp [e]))⟩
theorem join_keep {W w' : World} {p q b : Nat} {k : CellD} {old : Value} {t u : TypeId} {v6 v7 v8 v9 : Value} (hk : Blk W p t (Cell.list k)) (hq : Blk W q u [v6, v7, v8, v9])
    (hl : ∀ w', Below W.heap.size W w' → (Instr.lookup 68 (.map (some b)) (.agg #[.int .i64 k.win, .int .i64 k.mask, .int .i64 k.start, .int .i64 k.d0, .int .i64 k.d1, .int .i64 k.d2]) false).run Tryz.prog w' = .ok old w') (h : Below W.heap.size W w') :
    w'.cell? ⟨p, 0, none⟩ = some (.int .i64 k.win) ∧ w'.cell? ⟨p, 1, none⟩ = some (.int .i64 k.mask) ∧ w'.cell? ⟨p, 2, none⟩ = some (.int .i64 k.start) ∧ w'.cell? ⟨p, 3, none⟩ = some (.int .i64 k.d0) ∧ w'.cell? ⟨p, 4, none⟩ = some (.int .i64 k.d1) ∧ w'.cell? ⟨p, 5, none⟩ = some (.int .i64 k.d2) ∧
      w'.cell? ⟨q, 0, none⟩ = some v6 ∧ w'.cell? ⟨q, 1, none⟩ = some v7 ∧ w'.cell? ⟨q, 2, none⟩ = some v8 ∧ w'.cell? ⟨q, 3, none⟩ = some v9 ∧
      (Instr.lookup 68 (.map (some b)) (.agg #[.int .i64 k.win, .int .i64 k.mask, .int .i64 k.start, .int .i64 k.d0, .int .i64 k.d1, .int .i64 k.d2]) false).run Tryz.prog w' = .ok old w' := by
  have kk := hk.below h hk.lt
  have qq := hq.below h hq.lt
  have c0 := kk.cell 0
  have c1 := kk.cell 1
  have c2 := kk.cell 2
  have c3 := kk.cell 3
  have c4 := kk.cell 4
  have c5 := kk.cell 5
  simp [Cell.list] at c0 c1 c2 c3 c4 c5
  exact ⟨c0, c1, c2, c3, c4, c5, by simpa using qq.cell 0, by simpa using qq.cell 1, by simpa using qq.cell 2, by simpa using qq.cell 3, hl w' h⟩

set_option maxRecDepth 100000 in
set_option maxHeartbeats 4000000 in
theorem cubeJoin (b n : Nat) (F : CellD → Option AggD) (k : CellD) (a : AggD) (w : World) (hm : MapAt cubeK w b n F) (hn : n < 8000000) (hk : Cell.Wf k) :
    Calls Tryz.prog 38 #[.map (some b), Cell.v k, aggV a] w fun e w' => e = .returned (.bool (joinOk ((F k).getD zeroA) a)) ∧ MapAt cubeK w' b (n + 1) (upd F k (joinC (F k) a)) ∧ Apart [b] w w' := by
  obtain ⟨q, hq⟩ : ∃ q, (F k).getD zeroA = q := ⟨_, rfl⟩
  obtain ⟨r, hr⟩ : ∃ r, joinA q a = r := ⟨_, rfl⟩
  obtain ⟨ok, hok⟩ : ∃ ok, joinOk q a = ok := ⟨_, rfl⟩
  have hJ : ∀ w, Calls Tryz.prog 74 #[.agg #[.int .i64 q.n, .int .i64 q.sm, .int .i64 q.mn, .int .i64 q.mx], .agg #[.int .i64 a.n, .int .i64 a.sm, .int .i64 a.mn, .int .i64 a.mx]] w fun e w' => e = .returned (.tuple #[.agg #[.int .i64 r.n, .int .i64 r.sm, .int .i64 r.mn, .int .i64 r.mx], .bool ok]) ∧ Below w.heap.size w w' := by
    intro w
    have := agg.impl_AggJoin q.n q.sm q.mn q.mx a.n a.sm a.mn a.mx w
    rw [← hr, ← hok]
    exact this
  have HJ := Lib.hid hJ
  have hE : joinC (F k) a = if r = zeroA then none else some r := by unfold joinC; rw [hq, hr]
  have HE := Lib.hid hE
  have HK := Lib.hid hk
  have HM := Lib.hid hm
  have HOK := Lib.hid hok
  have hbl := hm.lt
  have hL : ∀ w', Below w.heap.size w w' → (Instr.lookup 68 (.map (some b)) (.agg #[.int .i64 k.win, .int .i64 k.mask, .int .i64 k.start, .int .i64 k.d0, .int .i64 k.d1, .int .i64 k.d2]) false).run Tryz.prog w' = .ok (.agg #[.int .i64 q.n, .int .i64 q.sm, .int .i64 q.mn, .int .i64 q.mx]) w' := by
    intro w' hb
    have := lookup_run (hm.below hb) hk
    rw [show (F k).getD cubeK.zero = q from hq] at this
    exact this
  have HL := Lib.hid hL
  rw [hq, hok, hE]
  clear hJ hE hk hm hok hL hq hr
  simp only [Cell.v, Cell.list, aggV]
  go_enter Tryz.func38, Tryz.ntmps38
  go_wp2_with fail
  refine wp_gen (fun W => Below w.heap.size w W ∧ Blk W w.heap.size 72 (Cell.list k) ∧ Blk W (w.heap.size + 1) 60 [.int .i64 a.n, .int .i64 a.sm, .int .i64 a.mn, .int .i64 a.mx]) ⟨by repeat (first | exact Below.refl _ _ | refine Below.setCell ?_ (by first | omega | (simp; done) | (simp; omega)) _ | refine Below.alloc ?_ (by first | omega | (simp; done) | (simp; omega)) _ | apply Below.drew), by unfold Cell.list; with_reducible (repeat (first | (refine blk_new_at _ _ _ _ ?_; first | rfl | (simp; done)) | refine Blk.alloc ?_ _ | apply Blk.drew | refine Blk.setOther ?_ (by first | (simp; done) | (simp; omega)) _)), by with_reducible (repeat (first | (refine blk_new_at _ _ _ _ ?_; first | rfl | (simp; done)) | refine Blk.alloc ?_ _ | apply Blk.drew | refine Blk.setOther ?_ (by first | (simp; done) | (simp; omega)) _))⟩ ?_
  rintro W0 ⟨b0, k0, q0⟩
  have B0 := Lib.hid b0
  have K0 := Lib.hid k0
  have Q0 := Lib.hid q0
  obtain ⟨c0, c1, c2, c3, c4, c5, d0, d1, d2, d3, l0⟩ := join_keep (W := W0) k0 q0 (fun w' h => HL.out w' (b0.trans (h.mono b0.size))) (Below.refl _ _)
  clear b0 k0 q0
  go_cut [7, 8] (fun v u wx => u = .bool ok ∧ JBox r W0 v wx)
  case first =>
    go_region_held3 (fun w' => w'.cell? ⟨w.heap.size, 0, none⟩ = some (.int .i64 k.win) ∧ w'.cell? ⟨w.heap.size, 1, none⟩ = some (.int .i64 k.mask) ∧ w'.cell? ⟨w.heap.size, 2, none⟩ = some (.int .i64 k.start) ∧ w'.cell? ⟨w.heap.size, 3, none⟩ = some (.int .i64 k.d0) ∧ w'.cell? ⟨w.heap.size, 4, none⟩ = some (.int .i64 k.d1) ∧ w'.cell? ⟨w.heap.size, 5, none⟩ = some (.int .i64 k.d2) ∧ w'.cell? ⟨w.heap.size + 1, 0, none⟩ = some (.int .i64 a.n) ∧ w'.cell? ⟨w.heap.size + 1, 1, none⟩ = some (.int .i64 a.sm) ∧ w'.cell? ⟨w.heap.size + 1, 2, none⟩ = some (.int .i64 a.mn) ∧ w'.cell? ⟨w.heap.size + 1, 3, none⟩ = some (.int .i64 a.mx) ∧
        (Instr.lookup 68 (.map (some b)) (.agg #[.int .i64 k.win, .int .i64 k.mask, .int .i64 k.start, .int .i64 k.d0, .int .i64 k.d1, .int .i64 k.d2]) false).run Tryz.prog w' = .ok (.agg #[.int .i64 q.n, .int .i64 q.sm, .int .i64 q.mn, .int .i64 q.mx]) w')
      ((refine join_keep (W := W0) K0.out Q0.out (fun w' h => HL.out w' (B0.out.trans (h.mono B0.out.size))) ?_; repeat (first | exact hbz | apply Below.drew | exact Below.refl _ _ | refine Below.setCell ?_ (by first | (simp; done) | (have := hZ.out.size; simp at this ⊢; omega)) _ | refine Below.alloc ?_ (by first | (simp; done) | (have := hZ.out.size; simp at this ⊢; omega)) _)))
      (first | (go_at_call 74; refine (HJ.out _).mono ?_; rintro e wz ⟨rfl, hq⟩; have hQ := Lib.hid hq; have hbz : Below W0.heap.size W0 wz := (by first | exact (Below.refl _ _).drew.trans hq | exact ((Below.refl _ _).alloc (Nat.le_refl _) _).drew.trans (hq.mono (by simp))); have hZ := Lib.hid hbz; obtain ⟨kz, fz⟩ := agg.bcell hq; clear hq))
    all_goals (go_wp2_with fail; go_meet)
    all_goals first
      | (with_reducible exact ⟨rfl, jbox_after rfl hZ.out⟩)
      | exact ⟨rfl, jbox_before hQ.out rfl⟩
  case rest =>
    obtain ⟨rfl, bx, rfl, hbx, kb, hbw⟩ := hcut
    generalize wc = W2 at *
    have B2 := Lib.hid (B0.out.trans (hbw.mono B0.out.size))
    have K2 := Lib.hid (K0.out.below hbw K0.out.lt)
    have HM2 := Lib.hid (HM.out.below B2.out)
    have KB := Lib.hid kb
    have hne : bx ≠ b := by have := B0.out.size; omega
    have hne2 : w.heap.size ≠ b := by omega
    have HN2 := Lib.hid (And.intro hne hne2)
    have kc := K2.out
    have e0 := kc.cell 0
    have e1 := kc.cell 1
    have e2 := kc.cell 2
    have e3 := kc.cell 3
    have e4 := kc.cell 4
    have e5 := kc.cell 5
    have f0 := kb.cell 0
    have f1 := kb.cell 1
    have f2 := kb.cell 2
    have f3 := kb.cell 3
    simp [Cell.list] at e0 e1 e2 e3 e4 e5 f0 f1 f2 f3
    clear hbw kb kc c0 c1 c2 c3 c4 c5 d0 d1 d2 d3 l0
    have ap2 : Apart [b] w W2 := Apart.of_below B2.out
    have AP2 := Lib.hid ap2
    clear ap2
    by_cases hr : r = zeroA
    · subst hr
      simp only [zeroA] at f0 f1 f2 f3 KB
      go_wp2_with (first | (at_mapUpdate; refine lay_map cubeK _ rfl _ _ _ _ rfl rfl b n F rfl HM2.out (by omega) k rfl HK.out zeroA rfl ?_; intro w3 hm3 hg3 hs3 hd3; have g0 : Blk w3 bx _ _ := (hg3.block bx KB.out.lt (by simp; exact HN2.out.1)).trans KB.out; have g1 : Blk w3 w.heap.size _ _ := (hg3.block w.heap.size K2.out.lt (by simp; exact HN2.out.2)).trans K2.out; unfold Cell.list at g1; obtain ⟨q0, q1, q2, q3⟩ := blk4_cells g0; obtain ⟨p0, p1, p2, p3, p4, p5⟩ := blk6_cells g1; have G3 := Lib.hid (AP2.out.trans (grown_apart hg3)); have M3 := Lib.hid hm3; clear g0 g1 hg3 hs3 hd3 hm3) | (at_delete; refine drop_map cubeK _ rfl _ _ _ _ rfl rfl rfl b (n + 1) _ rfl M3.out k rfl HK.out ?_; intro w4 hm4 hg4 hs4 hd4; have G4 := Lib.hid (G3.out.trans (grown_apart hg4)); have M4 := Lib.hid hm4; clear hg4 hs4 hd4 hm4))
      go_ret
      refine ⟨rfl, ?_, G4.out⟩
      have : upd (upd F k (some zeroA)) k none = upd F k none := by funext x; unfold upd; by_cases e : x = k <;> simp [e]
      rw [← this]
      exact M4.out
    · have hne4 : ¬ (r.n = 0 ∧ r.sm = 0 ∧ r.mn = 0 ∧ r.mx = 0) := fun ⟨h1, h2, h3, h4⟩ => hr ((AggD.eq_iff r zeroA).1 ⟨h1, h2, h3, h4⟩)
      go_wp2_with (at_mapUpdate; refine lay_map cubeK _ rfl _ _ _ _ rfl rfl b n F rfl HM2.out (by omega) k rfl HK.out r rfl ?_; intro w3 hm3 hg3 hs3 hd3; have g0 : Blk w3 bx _ _ := (hg3.block bx KB.out.lt (by simp; exact HN2.out.1)).trans KB.out; obtain ⟨q0, q1, q2, q3⟩ := blk4_cells g0; have G3 := Lib.hid (AP2.out.trans (grown_apart hg3)); have M3 := Lib.hid hm3; clear g0 hg3 hs3 hd3 hm3)
      all_goals (
        go_ret
        exact ⟨rfl, M3.out, G3.out⟩)
end Go.Proofs.YtpcekmllmnfmmaaGreat.dat
