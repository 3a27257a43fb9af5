/-
  ROWS OF NUMBERS IN MEMORY, AND THE CONTRACTS OF eqIntS, markIntS AND heldIntS: two slices of the same numbers are the same; a row that is marked holds the marks, and nothing else is written.
  Condition: at most 2,000,000 numbers.
-/
import Derived.Test.YtoglclmaacjdaaaOwnBase
import Derived.Deep.LoopGhost
import Derived.Deep.OwnRows
import Derived.WalkSmall
import Derived.Laws.OwnMore
namespace Go.Proofs.Ytoglclmaacjdaaa.win
open Go.RowKit

/-- A slice value's elements are these numbers (nothing is said of an empty one). -/
def Row (w : World) (a : Option Addr) (len : Nat) (l : List Int) : Prop :=
  l.length = len ∧ (0 < len → ∃ b off, a = some ⟨b, off, none⟩ ∧ b < w.heap.size ∧ ∀ i, i < len → w.cell? ⟨b, off + i, none⟩ = some (.int .i64 (l.getD i 0)))

theorem Row.below {w w' : World} {a : Option Addr} {len : Nat} {l : List Int} (h : Row w a len l) (hb : Below w.heap.size w w') : Row w' a len l :=
  ⟨h.1, fun h0 => by
    obtain ⟨b, off, e, hlt, hc⟩ := h.2 h0
    exact ⟨b, off, e, Nat.lt_of_lt_of_le hlt hb.size, fun i hi => (hb.cell (p := ⟨b, off + i, none⟩) hlt).trans (hc i hi)⟩⟩

/-- A row of the call's own, as cells. -/
theorem row_of_own {base : Nat} {w : World} {a : Option Addr} {len cap : Nat} {xs : List Int} (h : w.ownsRow base 3 1 (.slice a len cap) xs.length (ints xs)) : len = xs.length ∧ Row w a len xs := by
  rcases h.2 with ⟨hv, h0⟩ | ⟨g, cap', cur, hv, hg, hb, hc, hm, hs, ht⟩
  · cases hv
    exact ⟨h0.symm, h0, fun h => by omega⟩
  · cases hv
    refine ⟨rfl, rfl, fun h0 => ⟨g, 0, rfl, (Array.getElem?_eq_some_iff.1 hb).1, fun i hi => ?_⟩⟩
    have h1 : cur[i]? = some (.int .i64 (xs.getD i 0)) := by
      have h2 : (ints xs)[i]? = some (.int .i64 (xs.getD i 0)) := by simp [ints, List.getD_eq_getElem?_getD, hi]
      rw [← ht, List.getElem?_take] at h2
      rw [if_pos (by omega)] at h2
      simpa using h2
    simp [World.cell?, hb, h1]

set_option maxHeartbeats 400000 in
theorem eqIntS_same (a a' : Option Addr) (len cap cap' : Nat) (l : List Int) (w : World) (hmax : len ≤ 2000000) (hrow : Row w a len l) (hrow' : Row w a' len l) :
    Calls Try.prog 82 #[.slice a len cap, .slice a' len cap'] w fun e w' => e = .returned (.bool true) ∧ Below w.heap.size w w' := by
  have HC := Lib.hid hrow.2
  have HC' := Lib.hid hrow'.2
  clear hrow hrow'
  go_enter Try.func82, Try.ntmps82
  go_wp2_with fail
  go_loopg [5] len (fun k i wr => ∃ j : Nat, j + k = len ∧ i = .int .i64 j ∧ Below w.heap.size w wr)
  case atStart => exact ⟨0, by omega, rfl, Below.refl _ _⟩
  case round =>
    obtain ⟨j, hj, rfl, hb⟩ := hrel
    by_cases hlt : j < len
    · obtain ⟨b, off, rfl, hbl, hc⟩ := HC.out (by omega)
      obtain ⟨b', off', rfl, hbl', hc'⟩ := HC'.out (by omega)
      obtain ⟨v, hveq⟩ : ∃ v, l.getD j 0 = v := ⟨_, rfl⟩
      have hcell : wr.cell? ⟨b, off + j, none⟩ = some (.int .i64 v) := by
        rw [hb.cell (p := ⟨b, off + j, none⟩) hbl, ← hveq]
        exact hc j hlt
      have hcell' : wr.cell? ⟨b', off' + j, none⟩ = some (.int .i64 v) := by
        rw [hb.cell (p := ⟨b', off' + j, none⟩) hbl', ← hveq]
        exact hc' j hlt
      have hlt2 : (j : Int) < (len : Int) := by omega
      have h02 : (0 : Int) ≤ (j : Int) := by omega
      have HB := Lib.hid hb
      clear hb hveq hc hc' HC HC'
      go_wp2_with fail
      go_quiet (fail)
      go_wp2_with fail
      go_roundg (len - (j + 1))
      case measure => omega
      case rel => exact ⟨j + 1, by omega, by go_num, below_drewN HB.out _⟩
    · have HB := Lib.hid hb
      clear hb
      go_wp2_with fail
      go_ret
      exact ⟨rfl, HB.out⟩

set_option maxHeartbeats 400000 in
theorem heldIntS (a : Option Addr) (len cap k : Nat) (w : World) (hmax : len ≤ 2000000) (hk : k ≤ 1000000000) (hrow : Row w a len (ap k 1 len)) :
    Calls Try.prog 92 #[.slice a len cap, .int .i64 k] w fun e w' => e = .returned (.int .i64 ((k : Int) + (len : Int))) ∧ Below w.heap.size w w' := by
  have HC := Lib.hid hrow.2
  clear hrow
  go_enter Try.func92, Try.ntmps92
  go_wp2_with fail
  go_loopg [1, 5] len (fun r sk i wr => ∃ j : Nat, j + r = len ∧ sk = .int .i64 ((k : Int) + (j : Int)) ∧ i = .int .i64 j ∧ Below w.heap.size w wr)
  case atStart => exact ⟨0, by omega, by simp, rfl, Below.refl _ _⟩
  case round =>
    obtain ⟨j, hj, rfl, rfl, hb⟩ := hrel
    by_cases hlt : j < len
    · obtain ⟨b, off, rfl, hbl, hc⟩ := HC.out (by omega)
      have hcell : wr.cell? ⟨b, off + j, none⟩ = some (.int .i64 ((k : Int) + (j : Int))) := by
        rw [hb.cell (p := ⟨b, off + j, none⟩) hbl, hc j hlt, ap_getD _ _ hlt, Int.one_mul]
      have HB := Lib.hid hb
      clear hb hc HC
      have hlt2 : (j : Int) < (len : Int) := by omega
      have h02 : (0 : Int) ≤ (j : Int) := by omega
      go_wp2_with fail
      go_roundg (len - (j + 1))
      case measure => omega
      case rel => exact ⟨j + 1, by omega, by rw [show (k : Int) + (j : Int) + 1 = (k : Int) + ((j + 1 : Nat) : Int) by omega], by go_num, HB.out⟩
    · have HB := Lib.hid hb
      clear hb
      obtain rfl : j = len := by omega
      go_wp2_with fail
      go_ret
      exact ⟨rfl, HB.out⟩

theorem ownsRow_form {w : World} {base : Nat} {e : TypeId} {size : Nat} {v : Value} {n : Nat} {xs : List Value} (h : w.ownsRow base e size v n xs) (hn : 0 < n) : ∃ g cap, v = .slice (some ⟨g, 0, none⟩) n cap ∧ base ≤ g := by
  rcases h.2 with ⟨_, h0⟩ | ⟨g, cap, cur, hv, hb, _⟩
  · omega
  · exact ⟨g, cap, hv, hb⟩

/-- A row of which the first j are marked from k on. -/
def marked (k j : Nat) (xs : List Int) : List Value := ints (ap k 1 j) ++ (ints xs).drop j
theorem marked_zero (k : Nat) (xs : List Int) : marked k 0 xs = ints xs := by simp [marked, ap, ints]
theorem marked_all (k : Nat) (xs : List Int) : marked k xs.length xs = ints (ap k 1 xs.length) := by simp [marked, ints]
theorem marked_succ (k : Nat) (xs : List Int) {j : Nat} (h : j < xs.length) : (marked k j xs).set j (.int .i64 ((k : Int) + (j : Int))) = marked k (j + 1) xs := by
  have hl : (ints (ap k 1 j)).length = j := by simp [ints, ap_length]
  unfold marked
  rw [List.set_append_right _ _ (by rw [hl]; exact Nat.le_refl _), hl, Nat.sub_self, ap_succ]
  have hd : (ints xs).drop j = (ints xs)[j]'(by simpa [ints] using h) :: (ints xs).drop (j + 1) := List.drop_eq_getElem_cons _
  rw [hd, List.set_cons_zero]
  simp [ints]

/-- What markIntS answers, and what it leaves: the row holds the marks, all other blocks are as they were. -/
def Marked (w : World) (base : Nat) (a : Option Addr) (len cap k : Nat) (e : Ending) (w' : World) : Prop :=
  e = .returned (.int .i64 ((k : Int) + (len : Int))) ∧ w'.ownsRow base 3 1 (.slice a len cap) len (ints (ap k 1 len)) ∧ Below base w w'

set_option maxHeartbeats 1000000 in
theorem markIntS (a : Option Addr) (len cap k base : Nat) (xs : List Int) (w : World) (hmax : len ≤ 2000000) (hk : k ≤ 1000000000) (hown : w.ownsRow base 3 1 (.slice a len cap) xs.length (ints xs)) :
    Calls Try.prog 91 #[.slice a len cap, .int .i64 k] w (Marked w base a len cap k) := by
  obtain ⟨hlen, _⟩ := row_of_own hown
  have HO := Lib.hid hown
  have HL := Lib.hid hlen
  clear hown hlen
  go_enter Try.func91, Try.ntmps91
  go_wp2_with fail
  go_loopg [1, 5] len (fun r sk i wr => ∃ j : Nat, j + r = len ∧ sk = .int .i64 ((k : Int) + (j : Int)) ∧ i = .int .i64 j ∧ Below base w wr ∧ wr.ownsRow base 3 1 (.slice a len cap) xs.length (marked k j xs))
  case atStart => exact ⟨0, by omega, by simp, rfl, Below.refl _ _, by rw [marked_zero]; exact HO.out⟩
  case round =>
    obtain ⟨j, hj, rfl, rfl, hb, hown⟩ := hrel
    by_cases hlt : j < len
    · obtain ⟨g, cap', hv, hg⟩ := ownsRow_form hown (by rw [← HL.out]; omega)
      cases hv
      have hcell : ∃ u, wr.cell? ⟨g, j, none⟩ = some u := by
        rw [hown.cellAt j (by rw [← HL.out]; omega)]
        have : j < (marked k j xs).length := by rw [hown.1, Nat.mul_one]; omega
        exact ⟨_, List.getElem?_eq_getElem this⟩
      obtain ⟨u, hcell⟩ := hcell
      have hfr : wr.frozen? ⟨g, j, none⟩ = false := hown.frozenAt j
      have hst := Lib.hid (hown.stored j (.int .i64 ((k : Int) + (j : Int))))
      have HB := Lib.hid hb
      have hlt2 : (j : Int) < (xs.length : Int) := by omega
      have h02 : (0 : Int) ≤ (j : Int) := by omega
      clear hb hown HO
      go_wp2_with fail
      go_roundg (xs.length - (j + 1))
      case measure => omega
      case rel =>
        refine ⟨j + 1, by omega, by rw [show (k : Int) + (j : Int) + 1 = (k : Int) + ((j + 1 : Nat) : Int) by omega], by go_num, HB.out.setCell (p := ⟨g, j, none⟩) hg _, ?_⟩
        rw [← marked_succ k xs hlt]
        exact hst.out.1
    · have HB := Lib.hid hb
      have HW := Lib.hid hown
      clear hb hown
      obtain rfl : j = len := by omega
      go_wp2_with fail
      go_ret
      refine ⟨rfl, ?_, HB.out⟩
      have := HW.out
      rw [← HL.out] at this
      have e : marked k j xs = ints (ap k 1 j) := by rw [HL.out]; exact marked_all k xs
      rw [e] at this
      exact this

/-- The same with marks from 1 on. -/
theorem heldIntS1 (a : Option Addr) (len cap : Nat) (w : World) (hmax : len ≤ 2000000) (hrow : Row w a len (ap 1 1 len)) :
    Calls Try.prog 92 #[.slice a len cap, .int .i64 1] w fun e w' => e = .returned (.int .i64 (1 + (len : Int))) ∧ Below w.heap.size w w' :=
  heldIntS a len cap 1 w hmax (by omega) hrow
theorem markIntS1 (a : Option Addr) (len cap base : Nat) (xs : List Int) (w : World) (hmax : len ≤ 2000000) (hown : w.ownsRow base 3 1 (.slice a len cap) xs.length (ints xs)) :
    Calls Try.prog 91 #[.slice a len cap, .int .i64 1] w fun e w' => e = .returned (.int .i64 (1 + (len : Int))) ∧ w'.ownsRow base 3 1 (.slice a len cap) len (ints (ap 1 1 len)) ∧ Below base w w' :=
  markIntS a len cap 1 base xs w hmax (by omega) hown
end Go.Proofs.Ytoglclmaacjdaaa.win
