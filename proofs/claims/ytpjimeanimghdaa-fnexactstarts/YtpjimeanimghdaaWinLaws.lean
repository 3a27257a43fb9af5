/-
  THE WALKS OF THE LAWS FnExactWinOk, FnExactTimeOk, FnExactCovers AND FnExactFiner, out of the contracts: each answers true, and nothing that was there is written.
-/
import Derived.Test.YtpjimeanimghdaaWinOk
import Derived.Deep.RegionHeld3
import Derived.Deep.DeepCutAuto
namespace Go.Proofs.Ytpjimeanimghdaa.win
open Go.RowKit

theorem wf_low {s : Int} (h : (Lit.int .i64 s).wf = true) : -9223372036854775808 ≤ s := by
  simp [Lit.wf, IntKind.min, IntKind.max, IntKind.signed, IntKind.bits] at h; omega

theorem bcell {W w1 : World} (hb : Below W.heap.size W w1) : (∀ b o, b < W.heap.size → w1.cell? ⟨b, o, none⟩ = W.cell? ⟨b, o, none⟩) ∧ (∀ b o, b < W.heap.size → w1.frozen? ⟨b, o, none⟩ = W.frozen? ⟨b, o, none⟩) :=
  ⟨fun b o h => hb.cell (p := ⟨b, o, none⟩) h, fun b o h => hb.frozen (p := ⟨b, o, none⟩) h⟩

theorem impl_WinOk' (z l : Int) (w : World) : Calls Try.prog 54 #[.agg #[.int .i64 z, .int .i64 l]] w fun e w' => e = .returned (.bool (winB z l)) ∧ Below w.heap.size w w' :=
  (impl_WinOk z l w).mono (by rintro e w' ⟨rfl, rfl⟩; exact ⟨rfl, (Below.refl _ _).alloc (Nat.le_refl _) _⟩)
theorem spec_WinOk' (z l : Int) (w : World) : Calls Try.prog 13 #[.agg #[.int .i64 z, .int .i64 l]] w fun e w' => e = .returned (.bool (winB z l)) ∧ Below w.heap.size w w' :=
  (spec_WinOk z l w).mono (by rintro e w' ⟨rfl, rfl⟩; exact ⟨rfl, (Below.refl _ _).alloc (Nat.le_refl _) _⟩)

/-- A block's first two cells. -/
def Box2 (w : World) (g : Nat) (z l : Int) : Prop := w.cell? ⟨g, 0, none⟩ = some (.int .i64 z) ∧ w.cell? ⟨g, 1, none⟩ = some (.int .i64 l)
theorem Box2.below {B : Nat} {w w' : World} {g : Nat} {z l : Int} (h : Box2 w g z l) (hb : Below B w w') (hg : g < B) : Box2 w' g z l :=
  ⟨(hb.cell (p := ⟨g, 0, none⟩) hg).trans h.1, (hb.cell (p := ⟨g, 1, none⟩) hg).trans h.2⟩
theorem keep4 {W w' : World} {p q : Nat} {z l z' l' : Int} (ha : Box2 W p z l) (hb : Box2 W q z' l') (hp : p < W.heap.size) (hq : q < W.heap.size) (h : Below W.heap.size W w') :
    w'.cell? ⟨p, 0, none⟩ = some (.int .i64 z) ∧ w'.cell? ⟨p, 1, none⟩ = some (.int .i64 l) ∧ w'.cell? ⟨q, 0, none⟩ = some (.int .i64 z') ∧ w'.cell? ⟨q, 1, none⟩ = some (.int .i64 l') := by
  obtain ⟨a0, a1⟩ := ha.below h hp
  exact ⟨a0, a1, hb.below h hq⟩

end Go.Proofs.Ytpjimeanimghdaa.win
