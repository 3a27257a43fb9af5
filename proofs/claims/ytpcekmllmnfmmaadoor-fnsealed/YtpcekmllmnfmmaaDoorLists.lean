/-
  THE CONTRACTS OF slices.Index, slices.Contains, allDiffer AND allOf, over windows and over numbers: what each call answers; nothing that was there is written.
  Condition: at most 2,000,000 elements.
-/
import Derived.Test.YtpcekmllmnfmmaaDoorWinRows
import Derived.Test.YtpcekmllmnfmmaaDoorBlk
namespace Go.Proofs.YtpcekmllmnfmmaaDoor.win
open Go.RowKit

theorem mem_take_succ {α : Type} [DecidableEq α] {l : List α} {d : α} {j : Nat} (h : j < l.length) (v : α) : v ∈ l.take (j + 1) ↔ v ∈ l.take j ∨ l.getD j d = v := by
  rw [List.take_add_one, List.getElem?_eq_getElem h, List.mem_append, List.getD_eq_getElem?_getD, List.getElem?_eq_getElem h]
  simp [eq_comm]
theorem mem_of_getD {α : Type} {l : List α} {d : α} {j : Nat} (h : j < l.length) {v : α} (e : l.getD j d = v) : v ∈ l := by
  rw [List.getD_eq_getElem?_getD, List.getElem?_eq_getElem h] at e
  simp at e
  rw [← e]; exact List.getElem_mem h
theorem nodup_take_succ {α : Type} [DecidableEq α] {l : List α} {d : α} {j : Nat} (h : j < l.length) : (l.take (j + 1)).Nodup ↔ (l.take j).Nodup ∧ l.getD j d ∉ l.take j := by
  rw [List.take_add_one, List.getElem?_eq_getElem h, List.getD_eq_getElem?_getD, List.getElem?_eq_getElem h]
  simp only [Option.toList_some, Option.getD_some]
  rw [List.nodup_append]
  simp only [List.nodup_cons, List.not_mem_nil, not_false_eq_true, List.nodup_nil, and_self, List.mem_cons, or_false, true_and]
  constructor
  · rintro ⟨h1, h2⟩
    exact ⟨h1, fun hm => h2 _ hm _ rfl rfl⟩
  · rintro ⟨h1, h2⟩
    exact ⟨h1, fun x hx y hy e => h2 (by rw [← hy, ← e]; exact hx)⟩
theorem nodup_of_take {α : Type} {l : List α} {j : Nat} (h : ¬ (l.take j).Nodup) : ¬ l.Nodup := fun hn => h (hn.sublist (List.take_sublist _ _))

theorem all_no {α : Type} {l : List α} {d : α} {p : α → Bool} {j : Nat} (h : j < l.length) (e : p (l.getD j d) = false) : l.all p = false := by
  rw [List.all_eq_false]
  exact ⟨l.getD j d, mem_of_getD h rfl, by rw [e]; simp⟩
theorem all_take_succ {α : Type} {l : List α} {d : α} {p : α → Bool} {j : Nat} (h : j < l.length) (ha : (l.take j).all p = true) (e : p (l.getD j d) = true) : (l.take (j + 1)).all p = true := by
  rw [List.getD_eq_getElem?_getD, List.getElem?_eq_getElem h] at e
  rw [List.take_add_one, List.getElem?_eq_getElem h, List.all_append, ha]
  simpa using e

theorem Row.take {w : World} {a : Option Addr} {len : Nat} {l : List Int} (h : Row w a len l) {j : Nat} (hj : j ≤ len) : Row w a j (l.take j) := by
  refine ⟨by rw [List.length_take, h.1]; omega, fun h0 => ?_⟩
  obtain ⟨b, off, e, hb, hc⟩ := h.2 (by omega)
  refine ⟨b, off, e, hb, fun i hi => ?_⟩
  rw [hc i (by omega), List.getD_eq_getElem?_getD, List.getD_eq_getElem?_getD, List.getElem?_take, if_pos hi]
theorem WRow.take {w : World} {a : Option Addr} {len : Nat} {l : List (Int × Int)} (h : WRow w a len l) {j : Nat} (hj : j ≤ len) : WRow w a j (l.take j) := by
  refine ⟨by rw [List.length_take, h.1]; omega, fun h0 => ?_⟩
  obtain ⟨b, off, e, hb, hc⟩ := h.2 (by omega)
  refine ⟨b, off, e, hb, fun i hi => ?_⟩
  rw [List.getD_eq_getElem?_getD, List.getElem?_take, if_pos hi, ← List.getD_eq_getElem?_getD]
  exact hc i (by omega)

/-- An index, or -1. -/
def Found (t : Bool) (w : World) (e : Ending) (w' : World) : Prop := ∃ i : Int, e = .returned (.int .i64 i) ∧ decide (0 ≤ i) = t ∧ Below w.heap.size w w'

def dimB (n : Int) : Bool := upB n 99
end Go.Proofs.YtpcekmllmnfmmaaDoor.win
