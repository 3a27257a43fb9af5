/-
  THE WALKS OF THE LAWS FnExactWinOk, FnExactTimeOk, FnExactCovers AND FnExactFiner, out of the contracts: each answers true, and nothing that was there is written.
-/
import Derived.Test.YtoaallfoackjaaaWinOk
import Derived.Deep.RegionHeld3
import Derived.Deep.DeepCutAuto
namespace Go.Proofs.Ytoaallfoackjaaa.win
open Go.RowKit

theorem wf_low {s : Int} (h : (Lit.int .i64 s).wf = true) : -9223372036854775808 ≤ s := by
  simp [Lit.wf, IntKind.min, IntKind.max, IntKind.signed, IntKind.bits] at h; omega

set_option maxHeartbeats 400000 in
theorem walk_TimeOk (t : Int) (w : World) (_ : (Lit.int .i64 t).wf = true) :
    Calls Try.prog 6 #[.int .i64 t] w fun e w' => e = .returned (.bool true) ∧ Below w.heap.size w w' := by
  go_enter Try.func6, Try.ntmps6
  go_wp2_with fail
  refine (spec_TimeOk _ _).mono ?_
  rintro e w1 ⟨rfl, rfl⟩
  go_wp2_with fail
  refine (impl_TimeOk _ _).mono ?_
  rintro e w1 ⟨rfl, rfl⟩
  go_wp2_with fail
  go_ret
  exact ⟨rfl, Below.refl _ _⟩

theorem bcell {W w1 : World} (hb : Below W.heap.size W w1) : (∀ b o, b < W.heap.size → w1.cell? ⟨b, o, none⟩ = W.cell? ⟨b, o, none⟩) ∧ (∀ b o, b < W.heap.size → w1.frozen? ⟨b, o, none⟩ = W.frozen? ⟨b, o, none⟩) :=
  ⟨fun b o h => hb.cell (p := ⟨b, o, none⟩) h, fun b o h => hb.frozen (p := ⟨b, o, none⟩) h⟩

theorem impl_WinOk' (z l : Int) (w : World) : Calls Try.prog 24 #[.agg #[.int .i64 z, .int .i64 l]] w fun e w' => e = .returned (.bool (winB z l)) ∧ Below w.heap.size w w' :=
  (impl_WinOk z l w).mono (by rintro e w' ⟨rfl, rfl⟩; exact ⟨rfl, (Below.refl _ _).alloc (Nat.le_refl _) _⟩)
theorem spec_WinOk' (z l : Int) (w : World) : Calls Try.prog 14 #[.agg #[.int .i64 z, .int .i64 l]] w fun e w' => e = .returned (.bool (winB z l)) ∧ Below w.heap.size w w' :=
  (spec_WinOk z l w).mono (by rintro e w' ⟨rfl, rfl⟩; exact ⟨rfl, (Below.refl _ _).alloc (Nat.le_refl _) _⟩)

set_option maxHeartbeats 400000 in
theorem walk_WinOk (z l : Int) (w : World) (_ : (Lit.int .i64 z).wf = true) (_ : (Lit.int .i64 l).wf = true) :
    Calls Try.prog 5 #[.agg #[.int .i64 z, .int .i64 l]] w fun e w' => e = .returned (.bool true) ∧ Below w.heap.size w w' := by
  go_enter Try.func5, Try.ntmps5
  go_wp2_with fail
  refine (toWin _ _ _).mono ?_
  rintro e w1 ⟨rfl, hb1⟩
  obtain ⟨k1, f1⟩ := bcell hb1
  go_wp2_with fail
  refine (spec_WinOk' _ _ _).mono ?_
  rintro e w2 ⟨rfl, hb2⟩
  replace hb2 := hb1.trans (hb2.mono hb1.size)
  clear k1 f1 hb1
  obtain ⟨k2, f2⟩ := bcell hb2
  go_wp2_with fail
  refine (toWin _ _ _).mono ?_
  rintro e w3 ⟨rfl, hb3⟩
  replace hb3 := hb2.trans (hb3.mono hb2.size)
  clear k2 f2 hb2
  obtain ⟨k3, f3⟩ := bcell hb3
  go_wp2_with fail
  refine (impl_WinOk' _ _ _).mono ?_
  rintro e w4 ⟨rfl, hb4⟩
  replace hb4 := hb3.trans (hb4.mono hb3.size)
  clear k3 f3 hb3
  obtain ⟨k4, f4⟩ := bcell hb4
  go_wp2_with fail
  go_ret
  exact ⟨rfl, ((Below.refl _ _).alloc (Nat.le_refl _) _).trans (hb4.mono (by simp; try omega))⟩

set_option maxHeartbeats 400000 in
theorem walk_Covers (z l s t : Int) (w : World) (_ : (Lit.int .i64 z).wf = true) (_ : (Lit.int .i64 l).wf = true) (hs : (Lit.int .i64 s).wf = true) (_ : (Lit.int .i64 t).wf = true) :
    Calls Try.prog 8 #[.agg #[.int .i64 z, .int .i64 l], .int .i64 s, .int .i64 t] w fun e w' => e = .returned (.bool true) ∧ Below w.heap.size w w' := by
  go_enter Try.func8, Try.ntmps8
  go_wp2_with fail
  refine (toWin _ _ _).mono ?_
  rintro e w1 ⟨rfl, hb1⟩
  obtain ⟨k1, f1⟩ := bcell hb1
  go_wp2_with fail
  refine (spec_Covers _ _ _ _ _).mono ?_
  rintro e w2 ⟨rfl, hb2⟩
  replace hb2 := hb1.trans (hb2.mono hb1.size)
  clear k1 f1 hb1
  obtain ⟨k2, f2⟩ := bcell hb2
  go_wp2_with fail
  refine (toWin _ _ _).mono ?_
  rintro e w3 ⟨rfl, hb3⟩
  replace hb3 := hb2.trans (hb3.mono hb2.size)
  clear k2 f2 hb2
  obtain ⟨k3, f3⟩ := bcell hb3
  go_wp2_with fail
  refine (impl_Covers _ _ _ _ _ (wf_low hs)).mono ?_
  rintro e w4 ⟨rfl, hb4⟩
  replace hb4 := hb3.trans (hb4.mono hb3.size)
  clear k3 f3 hb3
  obtain ⟨k4, f4⟩ := bcell hb4
  go_wp2_with fail
  go_ret
  exact ⟨rfl, ((Below.refl _ _).alloc (Nat.le_refl _) _).trans (hb4.mono (by simp; try omega))⟩

/-- A block's first two cells. -/
def Box2 (w : World) (g : Nat) (z l : Int) : Prop := w.cell? ⟨g, 0, none⟩ = some (.int .i64 z) ∧ w.cell? ⟨g, 1, none⟩ = some (.int .i64 l)
theorem Box2.below {B : Nat} {w w' : World} {g : Nat} {z l : Int} (h : Box2 w g z l) (hb : Below B w w') (hg : g < B) : Box2 w' g z l :=
  ⟨(hb.cell (p := ⟨g, 0, none⟩) hg).trans h.1, (hb.cell (p := ⟨g, 1, none⟩) hg).trans h.2⟩
theorem keep4 {W w' : World} {p q : Nat} {z l z' l' : Int} (ha : Box2 W p z l) (hb : Box2 W q z' l') (hp : p < W.heap.size) (hq : q < W.heap.size) (h : Below W.heap.size W w') :
    w'.cell? ⟨p, 0, none⟩ = some (.int .i64 z) ∧ w'.cell? ⟨p, 1, none⟩ = some (.int .i64 l) ∧ w'.cell? ⟨q, 0, none⟩ = some (.int .i64 z') ∧ w'.cell? ⟨q, 1, none⟩ = some (.int .i64 l') := by
  obtain ⟨a0, a1⟩ := ha.below h hp
  exact ⟨a0, a1, hb.below h hq⟩

set_option maxHeartbeats 1000000 in
theorem walk_Finer (z l z' l' : Int) (w : World) (_ : (Lit.int .i64 z).wf = true) (_ : (Lit.int .i64 l).wf = true) (_ : (Lit.int .i64 z').wf = true) (_ : (Lit.int .i64 l').wf = true) :
    Calls Try.prog 9 #[.agg #[.int .i64 z, .int .i64 l], .agg #[.int .i64 z', .int .i64 l']] w fun e w' => e = .returned (.bool true) ∧ Below w.heap.size w w' := by
  go_enter Try.func9, Try.ntmps9
  go_wp2_with fail
  have base : Below w.heap.size w ((w.alloc (.cells #[.int .i64 z, .int .i64 l] 40)).alloc (.cells #[.int .i64 z', .int .i64 l'] 40)) := ((Below.refl _ _).alloc (Nat.le_refl _) _).alloc (by simp) _
  have hx1 : Box2 ((w.alloc (.cells #[.int .i64 z, .int .i64 l] 40)).alloc (.cells #[.int .i64 z', .int .i64 l'] 40)) w.heap.size z l := by refine ⟨?_, ?_⟩ <;> simp [go_sem]
  have hx2 : Box2 ((w.alloc (.cells #[.int .i64 z, .int .i64 l] 40)).alloc (.cells #[.int .i64 z', .int .i64 l'] 40)) (w.heap.size + 1) z' l' := by refine ⟨?_, ?_⟩ <;> simp [go_sem]
  have y2 : w.heap.size + 1 < ((w.alloc (.cells #[.int .i64 z, .int .i64 l] 40)).alloc (.cells #[.int .i64 z', .int .i64 l'] 40)).heap.size := by simp
  generalize (w.alloc (.cells #[.int .i64 z, .int .i64 l] 40)).alloc (.cells #[.int .i64 z', .int .i64 l'] 40) = wa at *
  have y1 : w.heap.size < wa.heap.size := by omega
  obtain ⟨a0, a1⟩ := hx1
  obtain ⟨b0, b1⟩ := hx2
  go_upto_region 1 with fail
  go_cut [5] (fun v wx => v = .bool (finerB z l z' l') ∧ Below wa.heap.size wa wx)
  case first =>
    go_region_held3 (fun w' => w'.cell? ⟨w.heap.size, 0, none⟩ = some (.int .i64 z) ∧ w'.cell? ⟨w.heap.size, 1, none⟩ = some (.int .i64 l) ∧ w'.cell? ⟨w.heap.size + 1, 0, none⟩ = some (.int .i64 z') ∧ w'.cell? ⟨w.heap.size + 1, 1, none⟩ = some (.int .i64 l')) ((refine keep4 ⟨a0, a1⟩ ⟨b0, b1⟩ y1 y2 ?_; repeat (first | exact Below.refl _ _ | refine Below.setCell ?_ (by first | omega | (simp; done) | (simp; omega)) _ | refine Below.alloc ?_ (by first | omega | (simp; done) | (simp; omega)) _ | apply Below.drew | refine Below.trans ?_ (hb1.mono (by first | omega | (simp; done) | (simp; omega))))))
      (first | (go_at_call 23; refine (toWin_x _ _ _).mono ?_; rintro e w' ⟨rfl, rfl⟩) | (go_at_call 31; refine (spec_Finer _ _ _ _ _).mono ?_; rintro e w1 ⟨rfl, hb1⟩; obtain ⟨k1, f1⟩ := bcell hb1; have z3 : wa.heap.size ≤ w1.heap.size := Nat.le_trans (by simp <;> omega) hb1.size))
    all_goals (go_wp2_with fail; go_meet)
    all_goals (
      refine ⟨rfl, ?_⟩
      repeat (first | exact Below.refl _ _ | refine Below.setCell ?_ (by first | omega | (simp; done) | (simp; omega)) _ | refine Below.alloc ?_ (by first | omega | (simp; done) | (simp; omega)) _ | apply Below.drew | refine Below.trans ?_ (hb1.mono (by first | omega | (simp; done) | (simp; omega)))))
  case rest =>
    obtain ⟨rfl, hb⟩ := hcut
    generalize wc = wd at *
    clear wc
    obtain ⟨a0, a1⟩ : Box2 wd w.heap.size z l := Box2.below ⟨a0, a1⟩ hb y1
    obtain ⟨b0, b1⟩ : Box2 wd (w.heap.size + 1) z' l' := Box2.below ⟨b0, b1⟩ hb y2
    replace base := base.trans (hb.mono (by omega))
    replace y1 := Nat.lt_of_lt_of_le y1 hb.size
    replace y2 := Nat.lt_of_lt_of_le y2 hb.size
    clear hb
    rename_i r0 r1 r2 r3
    clear r0 r1 r2 r3
    go_upto_region 2 with fail
    go_cut [6] (fun v wx => v = .bool (finerB z l z' l') ∧ Below wd.heap.size wd wx)
    case first =>
      go_region_held3 (fun w' => w'.cell? ⟨w.heap.size, 0, none⟩ = some (.int .i64 z) ∧ w'.cell? ⟨w.heap.size, 1, none⟩ = some (.int .i64 l) ∧ w'.cell? ⟨w.heap.size + 1, 0, none⟩ = some (.int .i64 z') ∧ w'.cell? ⟨w.heap.size + 1, 1, none⟩ = some (.int .i64 l')) ((refine keep4 ⟨a0, a1⟩ ⟨b0, b1⟩ y1 y2 ?_; repeat (first | exact Below.refl _ _ | refine Below.setCell ?_ (by first | omega | (simp; done) | (simp; omega)) _ | refine Below.alloc ?_ (by first | omega | (simp; done) | (simp; omega)) _ | apply Below.drew | refine Below.trans ?_ (hb1.mono (by first | omega | (simp; done) | (simp; omega))))))
        (first | (go_at_call 23; refine (toWin_x _ _ _).mono ?_; rintro e w' ⟨rfl, rfl⟩) | (go_at_call 22; refine (impl_Finer _ _ _ _ _).mono ?_; rintro e w1 ⟨rfl, hb1⟩; obtain ⟨k1, f1⟩ := bcell hb1; have z3 : wd.heap.size ≤ w1.heap.size := Nat.le_trans (by simp <;> omega) hb1.size))
      all_goals (go_wp2_with fail; go_meet)
      all_goals (
        refine ⟨rfl, ?_⟩
        repeat (first | exact Below.refl _ _ | refine Below.setCell ?_ (by first | omega | (simp; done) | (simp; omega)) _ | refine Below.alloc ?_ (by first | omega | (simp; done) | (simp; omega)) _ | apply Below.drew | refine Below.trans ?_ (hb1.mono (by first | omega | (simp; done) | (simp; omega)))))
    case rest =>
      obtain ⟨rfl, hb⟩ := hcut
      go_wp2_with fail
      go_ret
      exact ⟨rfl, base.trans (hb.mono (by omega))⟩
end Go.Proofs.Ytoaallfoackjaaa.win
