/-
  THE DRAWS: the contracts of l01Open, big and DrawAggJoin: two aggregates' numbers, whatever the code; nothing that was there is written.
  Condition: the code is a slice of bytes, at most 2,000,000 of them.
-/
import Derived.Test.YthldfaapckhcpaaDoorCurAgg
namespace Go.Proofs.YthldfaapckhcpaaDoor.cur
open Go.RowKit
open Go.Proofs.YthldfaapckhcpaaDoor.agg (Q Own4 Box4 own_alloc own_set box_alloc zero IsRow bcell)

/-- A code as an argument: a slice value whose elements are bytes. -/
def Code (w : World) (a : Option Addr) (len : Nat) : Prop :=
  0 < len → ∃ b off, a = some ⟨b, off, none⟩ ∧ b < w.heap.size ∧ ∀ i, i < len → ∃ v : Int, 0 ≤ v ∧ v ≤ 255 ∧ w.cell? ⟨b, off + i, none⟩ = some (.int .u8 v)

theorem Code.below {w w' : World} {a : Option Addr} {len : Nat} (h : Code w a len) (hb : Below w.heap.size w w') : Code w' a len := fun h0 => by
  obtain ⟨b, off, e, h1, h2⟩ := h h0
  refine ⟨b, off, e, Nat.lt_of_lt_of_le h1 hb.size, fun i hi => ?_⟩
  obtain ⟨v, v0, v1, hc⟩ := h2 i hi
  exact ⟨v, v0, v1, (hb.cell (p := ⟨b, off + i, none⟩) h1).trans hc⟩

theorem code_of_row {w : World} {a : Option Addr} {len cap : Nat} {zs : List Int} (h : IsRow .u8 w a len cap zs) : Code w a len := by
  rcases h with ⟨rfl, rfl, rfl, rfl⟩ | ⟨x, rfl, hl, hm, hz, hc, hw⟩
  · exact fun h0 => absurd h0 (by omega)
  · intro h0
    obtain ⟨b, off, spot⟩ := x
    have h1 := hc 0 (by omega)
    have hspot : spot = none := by simpa [Addr.add] using World.cell?_spot h1
    subst hspot
    have hb : b < w.heap.size := by
      have h2 : w.cell? ⟨b, off, none⟩ = some (.int .u8 (zs.getD 0 0)) := by simpa [Addr.add] using h1
      exact cell_lt h2
    refine ⟨b, off, rfl, hb, fun i hi => ?_⟩
    have h2 := hc i (by omega)
    have e : (⟨b, off, none⟩ : Addr).add i = ⟨b, off + i, none⟩ := by
      by_cases h0 : i = 0
      · subst h0; rfl
      · simp [Addr.add, h0]
    rw [e] at h2
    have hwf := hw (zs.getD i 0) (by rw [List.getD_eq_getElem?_getD, List.getElem?_eq_getElem (by omega)]; simp)
    have hbd : 0 ≤ zs.getD i 0 ∧ zs.getD i 0 ≤ 255 := by simpa [Lit.wf, IntKind.min, IntKind.max, IntKind.signed, IntKind.bits] using hwf
    exact ⟨_, hbd.1, hbd.2, h2⟩

set_option maxHeartbeats 400000 in
theorem big_yes (a : Option Addr) (len cap : Nat) (w : World) (h : 1048576 < len) : Calls Tryd.prog 7 #[.slice a len cap] w fun e w' => e = .returned (.bool true) ∧ w = w' := by
  have hd : decide ((1048576 : Int) < (len : Int)) = true := by simp; omega
  go_enter Tryd.func7, Tryd.ntmps7
  go_wp2
  go_ret
  exact ⟨rfl, rfl⟩

set_option maxHeartbeats 400000 in
theorem big_no (a : Option Addr) (len cap : Nat) (w : World) (h : ¬ 1048576 < len) : Calls Tryd.prog 7 #[.slice a len cap] w fun e w' => e = .returned (.bool false) ∧ w = w' := by
  have hd : decide ((1048576 : Int) < (len : Int)) = false := by simp; omega
  go_enter Tryd.func7, Tryd.ntmps7
  go_wp2
  go_ret
  exact ⟨rfl, rfl⟩

set_option maxHeartbeats 400000 in
theorem l01Open_any (a : Option Addr) (len cap : Nat) (w : World) (hle : len ≤ 2000000) :
    Calls Tryd.prog 19 #[.slice a len cap] w fun e w' => e = .returned (.pointer (some ⟨w.heap.size, 0, none⟩)) ∧ w.alloc (.cells #[.slice a len cap, .int .i64 0, .int .i64 (71 + (len : Int) % 1000)] 56) = w' := by
  go_enter Tryd.func19, Tryd.ntmps19
  go_wp2
  go_ret
  exact ⟨rfl, rfl⟩

theorem curs_open {a : Option Addr} {len cap : Nat} {w : World} (hle : len ≤ 2000000) (hc : Code w a len) :
    Curs w.heap.size a len cap 0 (w.alloc (.cells #[.slice a len cap, .int .i64 0, .int .i64 (71 + (len : Int) % 1000)] 56)) := by
  refine ⟨0, 71 + (len : Int) % 1000, by omega, by omega, by omega, by omega, by simp, hle, by simp [go_sem], by simp [go_sem], by simp [go_sem], fun j => by simp [go_sem], fun h0 => ?_⟩
  obtain ⟨b, off, e, h1, h2⟩ := hc h0
  refine ⟨b, off, e, h1, by simp; omega, fun i hi => ?_⟩
  obtain ⟨v, v0, v1, hv⟩ := h2 i hi
  exact ⟨v, v0, v1, by rw [World.cell?_alloc_past _ _ _ h1]; exact hv⟩

/-- Stores into two blocks, one behind the other. -/
theorem below_set8 {w : World} {g : Nat} (a b c d e f h i : Value) : Below g w ((((((((w.setCell ⟨g, 0, none⟩ a).setCell ⟨g, 1, none⟩ b).setCell ⟨g, 2, none⟩ c).setCell ⟨g, 3, none⟩ d).setCell ⟨g + 1, 0, none⟩ e).setCell ⟨g + 1, 1, none⟩ f).setCell ⟨g + 1, 2, none⟩ h).setCell ⟨g + 1, 3, none⟩ i) :=
  (agg.below_set4 a b c d).trans ((agg.below_set4 (g := g + 1) e f h i).mono (by omega))

/-- What DrawAggJoin answers, and what it leaves. -/
def Pair (w : World) (e : Ending) (w' : World) : Prop :=
  ∃ p q : Q, e = .returned (.tuple #[.agg #[.int .i64 p.n, .int .i64 p.s, .int .i64 p.mn, .int .i64 p.mx], .agg #[.int .i64 q.n, .int .i64 q.s, .int .i64 q.mn, .int .i64 q.mx]]) ∧ Below w.heap.size w w'

end Go.Proofs.YthldfaapckhcpaaDoor.cur
