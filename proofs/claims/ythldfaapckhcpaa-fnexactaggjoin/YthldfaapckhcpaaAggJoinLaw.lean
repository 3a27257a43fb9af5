/-
  THE WALK OF THE LAW FnExactAggJoin, out of the contracts: it answers true, and nothing that was there is written.
-/
import Derived.Test.YthldfaapckhcpaaAggJoin
import Derived.Deep.RegionHeld3
import Derived.Deep.DeepCutAuto
namespace Go.Proofs.Ythldfaapckhcpaa.agg
open Go.RowKit

/-- A block's first four cells hold an aggregate. -/
def Box4 (w : World) (g : Nat) (a : Q) : Prop :=
  w.cell? ⟨g, 0, none⟩ = some (.int .i64 a.n) ∧ w.cell? ⟨g, 1, none⟩ = some (.int .i64 a.s) ∧ w.cell? ⟨g, 2, none⟩ = some (.int .i64 a.mn) ∧ w.cell? ⟨g, 3, none⟩ = some (.int .i64 a.mx)

theorem Box4.below {B : Nat} {w w' : World} {g : Nat} {a : Q} (h : Box4 w g a) (hb : Below B w w') (hg : g < B) : Box4 w' g a :=
  ⟨(hb.cell (p := ⟨g, 0, none⟩) hg).trans h.1, (hb.cell (p := ⟨g, 1, none⟩) hg).trans h.2.1, (hb.cell (p := ⟨g, 2, none⟩) hg).trans h.2.2.1, (hb.cell (p := ⟨g, 3, none⟩) hg).trans h.2.2.2⟩

theorem box_alloc (w : World) (q : Q) (t : TypeId) : Box4 (w.alloc (.cells #[.int .i64 q.n, .int .i64 q.s, .int .i64 q.mn, .int .i64 q.mx] t)) w.heap.size q := by
  refine ⟨?_, ?_, ?_, ?_⟩ <;> simp [go_sem]

theorem box_set {w : World} {g : Nat} (q x : Q) (h : Box4 w g x) :
    Box4 ((((w.setCell ⟨g, 0, none⟩ (.int .i64 q.n)).setCell ⟨g, 1, none⟩ (.int .i64 q.s)).setCell ⟨g, 2, none⟩ (.int .i64 q.mn)).setCell ⟨g, 3, none⟩ (.int .i64 q.mx)) g q := by
  obtain ⟨h0, h1, h2, h3⟩ := h
  refine ⟨?_, ?_, ?_, ?_⟩ <;> simp [go_sem, h0, h1, h2, h3]

theorem keep8 {W w' : World} {p q : Nat} {a b : Q} (ha : Box4 W p a) (hb : Box4 W q b) (hp : p < W.heap.size) (hq : q < W.heap.size) (h : Below W.heap.size W w') :
    w'.cell? ⟨p, 0, none⟩ = some (.int .i64 a.n) ∧ w'.cell? ⟨p, 1, none⟩ = some (.int .i64 a.s) ∧ w'.cell? ⟨p, 2, none⟩ = some (.int .i64 a.mn) ∧ w'.cell? ⟨p, 3, none⟩ = some (.int .i64 a.mx) ∧ w'.cell? ⟨q, 0, none⟩ = some (.int .i64 b.n) ∧ w'.cell? ⟨q, 1, none⟩ = some (.int .i64 b.s) ∧ w'.cell? ⟨q, 2, none⟩ = some (.int .i64 b.mn) ∧ w'.cell? ⟨q, 3, none⟩ = some (.int .i64 b.mx) := by
  obtain ⟨a0, a1, a2, a3⟩ := ha.below h hp
  exact ⟨a0, a1, a2, a3, hb.below h hq⟩

/-- What a statement 'x, ok := AggJoin(..)' leaves behind, in a world W before it. -/
def JoinLeft (W : World) (sa sb : Value) (wx : World) (q : Q) (t : Bool) : Prop :=
  ∃ g : Nat, sa = .pointer (some ⟨g, 0, none⟩) ∧ sb = .bool t ∧ Below W.heap.size W wx ∧ W.heap.size ≤ g ∧ g < wx.heap.size ∧ Box4 wx g q

set_option maxHeartbeats 1000000 in
theorem walk_AggJoin (n s mn mx n' s' mn' mx' : Int) (w : World) (_ : (Lit.int .i64 n).wf = true) (_ : (Lit.int .i64 s).wf = true) (_ : (Lit.int .i64 mn).wf = true) (_ : (Lit.int .i64 mx).wf = true) (_ : (Lit.int .i64 n').wf = true) (_ : (Lit.int .i64 s').wf = true) (_ : (Lit.int .i64 mn').wf = true) (_ : (Lit.int .i64 mx').wf = true) :
    Calls Try.prog 7 #[.agg #[.int .i64 n, .int .i64 s, .int .i64 mn, .int .i64 mx], .agg #[.int .i64 n', .int .i64 s', .int .i64 mn', .int .i64 mx']] w fun e w' => e = .returned (.bool true) ∧ Below w.heap.size w w' := by
  go_enter Try.func7, Try.ntmps7
  go_wp2_with fail
  have base : Below w.heap.size w ((w.alloc (.cells #[.int .i64 n, .int .i64 s, .int .i64 mn, .int .i64 mx] 35)).alloc (.cells #[.int .i64 n', .int .i64 s', .int .i64 mn', .int .i64 mx'] 35)) := ((Below.refl _ _).alloc (Nat.le_refl _) _).alloc (by simp) _
  have hx1 : Box4 ((w.alloc (.cells #[.int .i64 n, .int .i64 s, .int .i64 mn, .int .i64 mx] 35)).alloc (.cells #[.int .i64 n', .int .i64 s', .int .i64 mn', .int .i64 mx'] 35)) w.heap.size ⟨n, s, mn, mx⟩ := by refine ⟨?_, ?_, ?_, ?_⟩ <;> simp [go_sem]
  have hx2 : Box4 ((w.alloc (.cells #[.int .i64 n, .int .i64 s, .int .i64 mn, .int .i64 mx] 35)).alloc (.cells #[.int .i64 n', .int .i64 s', .int .i64 mn', .int .i64 mx'] 35)) (w.heap.size + 1) ⟨n', s', mn', mx'⟩ := by refine ⟨?_, ?_, ?_, ?_⟩ <;> simp [go_sem]
  have y2 : w.heap.size + 1 < ((w.alloc (.cells #[.int .i64 n, .int .i64 s, .int .i64 mn, .int .i64 mx] 35)).alloc (.cells #[.int .i64 n', .int .i64 s', .int .i64 mn', .int .i64 mx'] 35)).heap.size := by simp
  generalize (w.alloc (.cells #[.int .i64 n, .int .i64 s, .int .i64 mn, .int .i64 mx] 35)).alloc (.cells #[.int .i64 n', .int .i64 s', .int .i64 mn', .int .i64 mx'] 35) = wa at *
  have y1 : w.heap.size < wa.heap.size := by omega
  obtain ⟨a0, a1, a2, a3⟩ := hx1
  obtain ⟨b0, b1, b2, b3⟩ := hx2
  dsimp only at a0 a1 a2 a3 b0 b1 b2 b3
  go_upto_region 1 with fail
  go_cut [5, 6] (fun sa sb wx => JoinLeft wa sa sb wx (joinV n s mn mx n' s' mn' mx') (joinT n s mn mx n' s' mn' mx'))
  case first =>
    go_region_held3 (fun w' => w'.cell? ⟨w.heap.size, 0, none⟩ = some (.int .i64 n) ∧ w'.cell? ⟨w.heap.size, 1, none⟩ = some (.int .i64 s) ∧ w'.cell? ⟨w.heap.size, 2, none⟩ = some (.int .i64 mn) ∧ w'.cell? ⟨w.heap.size, 3, none⟩ = some (.int .i64 mx) ∧ w'.cell? ⟨w.heap.size + 1, 0, none⟩ = some (.int .i64 n') ∧ w'.cell? ⟨w.heap.size + 1, 1, none⟩ = some (.int .i64 s') ∧ w'.cell? ⟨w.heap.size + 1, 2, none⟩ = some (.int .i64 mn') ∧ w'.cell? ⟨w.heap.size + 1, 3, none⟩ = some (.int .i64 mx')) ((refine keep8 (a := ⟨n, s, mn, mx⟩) (b := ⟨n', s', mn', mx'⟩) ⟨a0, a1, a2, a3⟩ ⟨b0, b1, b2, b3⟩ y1 y2 ?_; repeat (first | exact Below.refl _ _ | refine Below.setCell ?_ (by first | omega | (simp; done) | (simp; omega)) _ | refine Below.alloc ?_ (by first | omega | (simp; done) | (simp; omega)) _ | apply Below.drew | refine Below.trans ?_ (hb1.mono (by first | omega | (simp; done) | (simp; omega))))))
      (first | (go_at_call 18; refine (toAgg_x _ _ _ _ _).mono ?_; rintro e w' ⟨rfl, rfl⟩) | (go_at_call 12; refine (spec_AggJoin _ _ _ _ _ _ _ _ _).mono ?_; rintro e w1 ⟨rfl, hb1⟩; obtain ⟨k1, f1⟩ := bcell hb1; have z3 : wa.heap.size ≤ w1.heap.size := Nat.le_trans (by simp <;> omega) hb1.size))
    all_goals (go_wp2_with fail; go_meet)
    all_goals (
      have zz := hb1.size
      simp only [World.size_alloc, World.size_drew] at zz
      refine ⟨_, rfl, rfl, ?_, ?_, ?_, ?_⟩
      · repeat (first | exact Below.refl _ _ | refine Below.setCell ?_ (by first | omega | (simp; done) | (simp; omega)) _ | refine Below.alloc ?_ (by first | omega | (simp; done) | (simp; omega)) _ | apply Below.drew | refine Below.trans ?_ (hb1.mono (by first | omega | (simp; done) | (simp; omega))))
      · first | omega | (simp; done) | (simp; omega)
      · first | omega | (simp; done) | (simp; omega)
      · first | (with_reducible exact box_alloc _ _ _) | ((with_reducible refine box_set _ zero ?_); refine Box4.below ?_ hb1 (by first | omega | (simp; done) | (simp; omega)); refine ⟨?_, ?_, ?_, ?_⟩ <;> simp [go_sem, zero]))
  case rest =>
    obtain ⟨g, rfl, rfl, hb, hg, hgs, hx⟩ := hcut
    generalize wc = wd at *
    clear wc
    obtain ⟨a0, a1, a2, a3⟩ : Box4 wd w.heap.size ⟨n, s, mn, mx⟩ := Box4.below ⟨a0, a1, a2, a3⟩ hb y1
    obtain ⟨b0, b1, b2, b3⟩ : Box4 wd (w.heap.size + 1) ⟨n', s', mn', mx'⟩ := Box4.below ⟨b0, b1, b2, b3⟩ hb y2
    replace base := base.trans (hb.mono (by omega))
    replace y1 := Nat.lt_of_lt_of_le y1 hb.size
    replace y2 := Nat.lt_of_lt_of_le y2 hb.size
    dsimp only at a0 a1 a2 a3 b0 b1 b2 b3
    clear hb hg
    rename_i r0 r1 r2 r3 r4 r5 r6 r7
    clear r0 r1 r2 r3 r4 r5 r6 r7
    go_upto_region 2 with fail
    go_cut [7, 8] (fun sa sb wx => JoinLeft wd sa sb wx (joinV n s mn mx n' s' mn' mx') (joinT n s mn mx n' s' mn' mx'))
    case first =>
      go_region_held3 (fun w' => w'.cell? ⟨w.heap.size, 0, none⟩ = some (.int .i64 n) ∧ w'.cell? ⟨w.heap.size, 1, none⟩ = some (.int .i64 s) ∧ w'.cell? ⟨w.heap.size, 2, none⟩ = some (.int .i64 mn) ∧ w'.cell? ⟨w.heap.size, 3, none⟩ = some (.int .i64 mx) ∧ w'.cell? ⟨w.heap.size + 1, 0, none⟩ = some (.int .i64 n') ∧ w'.cell? ⟨w.heap.size + 1, 1, none⟩ = some (.int .i64 s') ∧ w'.cell? ⟨w.heap.size + 1, 2, none⟩ = some (.int .i64 mn') ∧ w'.cell? ⟨w.heap.size + 1, 3, none⟩ = some (.int .i64 mx')) ((refine keep8 (a := ⟨n, s, mn, mx⟩) (b := ⟨n', s', mn', mx'⟩) ⟨a0, a1, a2, a3⟩ ⟨b0, b1, b2, b3⟩ y1 y2 ?_; repeat (first | exact Below.refl _ _ | refine Below.setCell ?_ (by first | omega | (simp; done) | (simp; omega)) _ | refine Below.alloc ?_ (by first | omega | (simp; done) | (simp; omega)) _ | apply Below.drew | refine Below.trans ?_ (hb1.mono (by first | omega | (simp; done) | (simp; omega))))))
        (first | (go_at_call 18; refine (toAgg_x _ _ _ _ _).mono ?_; rintro e w' ⟨rfl, rfl⟩) | (go_at_call 11; refine (impl_AggJoin _ _ _ _ _ _ _ _ _).mono ?_; rintro e w1 ⟨rfl, hb1⟩; obtain ⟨k1, f1⟩ := bcell hb1; have z3 : wd.heap.size ≤ w1.heap.size := Nat.le_trans (by simp <;> omega) hb1.size))
      all_goals (go_wp2_with fail; go_meet)
      all_goals (
        have zz := hb1.size
        simp only [World.size_alloc, World.size_drew] at zz
        refine ⟨_, rfl, rfl, ?_, ?_, ?_, ?_⟩
        · repeat (first | exact Below.refl _ _ | refine Below.setCell ?_ (by first | omega | (simp; done) | (simp; omega)) _ | refine Below.alloc ?_ (by first | omega | (simp; done) | (simp; omega)) _ | apply Below.drew | refine Below.trans ?_ (hb1.mono (by first | omega | (simp; done) | (simp; omega))))
        · first | omega | (simp; done) | (simp; omega)
        · first | omega | (simp; done) | (simp; omega)
        · first | (with_reducible exact box_alloc _ _ _) | ((with_reducible refine box_set _ zero ?_); refine Box4.below ?_ hb1 (by first | omega | (simp; done) | (simp; omega)); refine ⟨?_, ?_, ?_, ?_⟩ <;> simp [go_sem, zero]))
    case rest =>
      obtain ⟨g2, rfl, rfl, hb, hg, hgs2, hx2⟩ := hcut
      obtain ⟨c0, c1, c2, c3⟩ := hx.below hb hgs
      obtain ⟨d0, d1, d2, d3⟩ := hx2
      clear a0 a1 a2 a3 b0 b1 b2 b3 hx
      go_wp2_with fail
      refine (eqAgg_same _ _ _ _ _).mono ?_
      rintro e w3 ⟨rfl, hb3⟩
      go_wp2_with fail
      go_ret
      exact ⟨rfl, (base.trans (hb.mono (by omega))).trans (hb3.mono (by have := hb.size; omega))⟩
end Go.Proofs.Ythldfaapckhcpaa.agg
