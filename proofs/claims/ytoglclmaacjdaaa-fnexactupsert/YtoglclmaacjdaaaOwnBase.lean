/-
  ROWS THAT A CALL MAKES: a new row of numbers; what a loop that collects bears; small facts on owned rows.
-/
import Derived.Test.YtoglclmaacjdaaaWinOk
import Derived.Test.YtoglclmaacjdaaaStartsMath
import Derived.Deep.OwnRows
import Derived.Deep.LoopGhost
import Derived.Maps.AppendAt
namespace Go.Proofs.Ytoglclmaacjdaaa.win
open Go.RowKit

theorem info_int : (Try.prog.info? 3).map (fun i => (i.zero, i.size, i.bytes)) = some (some (.int .i64 0), 1, 8) := by kernel_rfl

/-- make([]int, 0, m). -/
theorem run_make0 (m : Nat) (hm : m ≤ 100000) (w : World) :
    (Instr.makeSlice 29 (.int .i64 0) (.int .i64 (m : Int))).run Try.prog w = .ok (.slice (some ⟨w.heap.size, 0, none⟩) 0 m) (w.alloc (.cells (madeCells #[.int .i64 0] m) 3)) := by
  obtain ⟨i, hi, hzz⟩ := Option.map_eq_some_iff.1 info_int
  simp only [Prod.mk.injEq] at hzz
  obtain ⟨hz, hs, hb⟩ := hzz
  have hr := run_make (P := Try.prog) w 29 3 i (.int .i64 0) Try.underlying29 hi hz .i64 .i64 0 m (Int.le_refl _) (by omega) (by rw [hb]; omega) (by omega)
  simp only [Int.toNat_zero, Int.toNat_natCast, hs, Nat.mul_one] at hr
  exact hr

/-- A row of numbers in new memory. -/
def Given (w : World) (xs : List Int) (e : Ending) (w' : World) : Prop :=
  ∃ a len cap, e = .returned (.slice a len cap) ∧ w'.ownsRow w.heap.size 3 1 (.slice a len cap) xs.length (xs.map (Value.int .i64)) ∧ Below w.heap.size w w'

theorem ownBlock_ge {base n size : Nat} {w : World} {e : TypeId} {v : Value} {xs : List Value} (h : w.ownsRow base e size v n xs) : ∀ k, v.ownBlock = some k → base ≤ k := by
  intro k hk
  rcases h.2 with ⟨rfl, _⟩ | ⟨g, cap, cur, rfl, hb, _⟩
  · simp [Value.ownBlock] at hk
  · simp [Value.ownBlock] at hk; omega

def ints (l : List Int) : List Value := l.map (Value.int .i64)

/-- What a loop that collects bears: the row so far in slot v, the box of the parameter as it was, all else below as before. -/
structure Coll (W0 : World) (v : Value) (xs : List Int) (wr : World) : Prop where
  owns : wr.ownsRow W0.heap.size 3 1 v xs.length (ints xs)
  below : Below W0.heap.size W0 wr

theorem own_below {base : Nat} {e : TypeId} {size n : Nat} {w w' : World} {v : Value} {xs : List Value} (h : w.ownsRow base e size v n xs) (hb : Below w.heap.size w w') : w'.ownsRow base e size v n xs := by
  refine ⟨h.1, ?_⟩
  rcases h.2 with h | ⟨g, cap, cur, hv, hg, hh, r⟩
  · exact .inl h
  · exact .inr ⟨g, cap, cur, hv, hg, (hb.block g (Array.getElem?_eq_some_iff.1 hh).1).trans hh, r⟩

theorem ownsRow_less {b b' : Nat} {w : World} {e : TypeId} {size n : Nat} {v : Value} {xs : List Value} (h : w.ownsRow b e size v n xs) (hb : b' ≤ b) : w.ownsRow b' e size v n xs := by
  refine ⟨h.1, ?_⟩
  rcases h.2 with h | ⟨g, cap, cur, hv, hg, r⟩
  · exact .inl h
  · exact .inr ⟨g, cap, cur, hv, by omega, r⟩
theorem ownsRow_slice {b : Nat} {w : World} {e : TypeId} {size n : Nat} {v : Value} {xs : List Value} (h : w.ownsRow b e size v n xs) : ∃ a len cap, v = .slice a len cap := by
  rcases h.2 with ⟨h, _⟩ | ⟨g, cap, cur, hv, _⟩
  · exact ⟨_, _, _, h⟩
  · exact ⟨_, _, _, hv⟩
theorem given_of {w W0 wr : World} {v : Value} {xs : List Int} (hc : Coll W0 v xs wr) (h0 : Below w.heap.size w W0) : Given w xs (.returned v) wr := by
  obtain ⟨a, len, cap, rfl⟩ := ownsRow_slice hc.owns
  exact ⟨a, len, cap, rfl, ownsRow_less hc.owns h0.size, h0.trans (hc.below.mono h0.size)⟩
end Go.Proofs.Ytoglclmaacjdaaa.win
