/-
  THE CONTRACTS OF AggText, of the program and of its model: both answer the four numerals with a blank between each two, or nothing.
  Conditions: the four numbers are ints of 64 bits; for the program's the library's table of powers of ten holds what its text lays.
-/
import Derived.Test.YtemefahhogdoaaaDoorNumLaw
import Derived.Test.YtemefahhogdoaaaDoorStr
import Derived.Test.YtemefahhogdoaaaDoorAggOk
import Derived.Deep.RegionHeld3
namespace Go.Proofs.YtemefahhogdoaaaDoor.num
open Go.RowKit
open Go.Proofs.YtemefahhogdoaaaDoor.agg (okB okB_iff OkP ok_bds spec_AggOk impl_AggOk toAgg)

def aggText (n s mn mx : Int) : List UInt8 := if okB n s mn mx = true then Lib.itoa n ++ ([32] ++ (Lib.itoa s ++ ([32] ++ (Lib.itoa mn ++ ([32] ++ Lib.itoa mx))))) else []

/-- A block's first four cells hold ints. -/
def Ints4 (w : World) (g : Nat) (a b c d : Int) : Prop :=
  g < w.heap.size ∧ w.cell? ⟨g, 0, none⟩ = some (.int .i64 a) ∧ w.cell? ⟨g, 1, none⟩ = some (.int .i64 b) ∧ w.cell? ⟨g, 2, none⟩ = some (.int .i64 c) ∧ w.cell? ⟨g, 3, none⟩ = some (.int .i64 d)
theorem Ints4.below {B : Nat} {w w' : World} {g : Nat} {a b c d : Int} (h : Ints4 w g a b c d) (hb : Below B w w') (hg : g < B) : Ints4 w' g a b c d :=
  ⟨Nat.lt_of_lt_of_le h.1 hb.size, (hb.cell (p := ⟨g, 0, none⟩) hg).trans h.2.1, (hb.cell (p := ⟨g, 1, none⟩) hg).trans h.2.2.1, (hb.cell (p := ⟨g, 2, none⟩) hg).trans h.2.2.2.1, (hb.cell (p := ⟨g, 3, none⟩) hg).trans h.2.2.2.2⟩
theorem ints4_alloc (w : World) (a b c d : Int) (t : TypeId) : Ints4 (w.alloc (.cells #[.int .i64 a, .int .i64 b, .int .i64 c, .int .i64 d] t)) w.heap.size a b c d := by
  refine ⟨by simp, ?_, ?_, ?_, ?_⟩ <;> simp [go_sem]

/-- A block's first four cells hold texts, and may be written. -/
def Strs4 (w : World) (g : Nat) (a b c d : ByteArray) : Prop :=
  g < w.heap.size ∧ (w.cell? ⟨g, 0, none⟩ = some (.string a) ∧ w.cell? ⟨g, 1, none⟩ = some (.string b) ∧ w.cell? ⟨g, 2, none⟩ = some (.string c) ∧ w.cell? ⟨g, 3, none⟩ = some (.string d)) ∧ ∀ j, w.frozen? ⟨g, j, none⟩ = false
theorem Strs4.below {B : Nat} {w w' : World} {g : Nat} {a b c d : ByteArray} (h : Strs4 w g a b c d) (hb : Below B w w') (hg : g < B) : Strs4 w' g a b c d :=
  ⟨Nat.lt_of_lt_of_le h.1 hb.size, ⟨(hb.cell (p := ⟨g, 0, none⟩) hg).trans h.2.1.1, (hb.cell (p := ⟨g, 1, none⟩) hg).trans h.2.1.2.1, (hb.cell (p := ⟨g, 2, none⟩) hg).trans h.2.1.2.2.1, (hb.cell (p := ⟨g, 3, none⟩) hg).trans h.2.1.2.2.2⟩, fun j => (hb.frozen (p := ⟨g, j, none⟩) hg).trans (h.2.2 j)⟩
theorem strs4_alloc (w : World) (a b c d : ByteArray) (t : TypeId) : Strs4 (w.alloc (.cells #[.string a, .string b, .string c, .string d] t)) w.heap.size a b c d := by
  refine ⟨by simp, ⟨?_, ?_, ?_, ?_⟩, fun j => ?_⟩ <;> simp [go_sem]
theorem strs_set0 {w : World} {g : Nat} {a b c d : ByteArray} (h : Strs4 w g a b c d) (x : ByteArray) : Strs4 (w.setCell ⟨g, 0, none⟩ (.string x)) g x b c d := by
  obtain ⟨h0, ⟨a0, a1, a2, a3⟩, hf⟩ := h
  exact ⟨by simpa [World.setCell] using h0, ⟨by simp [go_sem, a0], by simp [go_sem, a1], by simp [go_sem, a2], by simp [go_sem, a3]⟩, fun j => by rw [World.frozen?_setCell]; exact hf j⟩
theorem strs_set1 {w : World} {g : Nat} {a b c d : ByteArray} (h : Strs4 w g a b c d) (x : ByteArray) : Strs4 (w.setCell ⟨g, 1, none⟩ (.string x)) g a x c d := by
  obtain ⟨h0, ⟨a0, a1, a2, a3⟩, hf⟩ := h
  exact ⟨by simpa [World.setCell] using h0, ⟨by simp [go_sem, a0], by simp [go_sem, a1], by simp [go_sem, a2], by simp [go_sem, a3]⟩, fun j => by rw [World.frozen?_setCell]; exact hf j⟩
theorem strs_set2 {w : World} {g : Nat} {a b c d : ByteArray} (h : Strs4 w g a b c d) (x : ByteArray) : Strs4 (w.setCell ⟨g, 2, none⟩ (.string x)) g a b x d := by
  obtain ⟨h0, ⟨a0, a1, a2, a3⟩, hf⟩ := h
  exact ⟨by simpa [World.setCell] using h0, ⟨by simp [go_sem, a0], by simp [go_sem, a1], by simp [go_sem, a2], by simp [go_sem, a3]⟩, fun j => by rw [World.frozen?_setCell]; exact hf j⟩
theorem strs_set3 {w : World} {g : Nat} {a b c d : ByteArray} (h : Strs4 w g a b c d) (x : ByteArray) : Strs4 (w.setCell ⟨g, 3, none⟩ (.string x)) g a b c x := by
  obtain ⟨h0, ⟨a0, a1, a2, a3⟩, hf⟩ := h
  exact ⟨by simpa [World.setCell] using h0, ⟨by simp [go_sem, a0], by simp [go_sem, a1], by simp [go_sem, a2], by simp [go_sem, a3]⟩, fun j => by rw [World.frozen?_setCell]; exact hf j⟩
theorem set_below {w : World} {g o : Nat} (v : Value) : Below g w (w.setCell ⟨g, o, none⟩ v) := Below.setCell (p := ⟨g, o, none⟩) (Below.refl g w) (Nat.le_refl g) v

/-- An int of 64 bits. -/
def I64 (n : Int) : Prop := -9223372036854775808 ≤ n ∧ n ≤ 9223372036854775807

/-- What words answers, and what it leaves. -/
def Worded (n s mn mx : Int) (w : World) (e : Ending) (w' : World) : Prop :=
  ∃ B, e = .returned (.slice (some ⟨B, 0, none⟩) 4 4) ∧ Strs4 w' B (str (Lib.itoa n)) (str (Lib.itoa s)) (str (Lib.itoa mn)) (str (Lib.itoa mx)) ∧ w.heap.size ≤ B ∧ Below w.heap.size w w'

theorem cat_ba (t : ByteArray) (x : List UInt8) (ht : t = ⟨x.toArray⟩) (y : List UInt8) (hx : x.length ≤ 1000) (hy : y.length ≤ 1000) :
    ∃ u : ByteArray, u = ⟨(x ++ y).toArray⟩ ∧ ∀ w, (Op.stringOp .add t ⟨y.toArray⟩).run Tryd.prog w = .ok (.string u) w := by
  subst ht
  exact ⟨_, rfl, fun w => run_string_add_lists w x y (by omega) (by omega)⟩
theorem cat_str (x y : List UInt8) (hx : x.length ≤ 1000) (hy : y.length ≤ 1000) :
    ∃ u : ByteArray, u = ⟨(x ++ y).toArray⟩ ∧ ∀ w, (Op.stringOp .add ⟨x.toArray⟩ ⟨y.toArray⟩).run Tryd.prog w = .ok (.string u) w :=
  cat_ba _ x rfl y hx hy

theorem keep4 {W w' : World} {g : Nat} {a b c d : Int} (h : Ints4 W g a b c d) (hb : Below W.heap.size W w') :
    w'.cell? ⟨g, 0, none⟩ = some (.int .i64 a) ∧ w'.cell? ⟨g, 1, none⟩ = some (.int .i64 b) ∧ w'.cell? ⟨g, 2, none⟩ = some (.int .i64 c) ∧ w'.cell? ⟨g, 3, none⟩ = some (.int .i64 d) :=
  (h.below hb h.1).2

theorem below_more {W a b c : World} (h : Below W.heap.size W a) (hd : b = a ∨ b = a.drew) (k : Below b.heap.size b c) : Below W.heap.size W c := by
  rcases hd with rfl | rfl
  · exact h.trans (k.mono h.size)
  · exact h.trans ((Below.drew (Below.refl a.heap.size a)).trans k |>.mono h.size)

set_option maxHeartbeats 1000000 in
theorem spec_AggText (n s mn mx : Int) (w : World) :
    Calls Tryd.prog 24 #[.agg #[.int .i64 n, .int .i64 s, .int .i64 mn, .int .i64 mx]] w (Texted (aggText n s mn mx) w) := by
  by_cases h : okB n s mn mx = true
  · have b := ok_bds ((okB_iff ..).1 h)
    have HN : Hid (I64 n) := ⟨by omega, by omega⟩
    have HS : Hid (I64 s) := ⟨by omega, by omega⟩
    have HMN : Hid (I64 mn) := ⟨by omega, by omega⟩
    have HMX : Hid (I64 mx) := ⟨by omega, by omega⟩
    clear b
    have hT : aggText n s mn mx = Lib.itoa n ++ ([32] ++ (Lib.itoa s ++ ([32] ++ (Lib.itoa mn ++ ([32] ++ Lib.itoa mx))))) := by unfold aggText; rw [if_pos h]
    have HT := Lib.hid hT
    clear hT
    go_enter Tryd.func24, Tryd.ntmps24
    go_wp2_with fail
    refine (spec_AggOk _ _ _ _ _).mono ?_
    rintro e w1 ⟨rfl, hb1⟩
    have hI := (ints4_alloc w n s mn mx 29).below hb1 (by simp)
    have B1 := Lib.hid (((Below.refl w.heap.size w).alloc (Nat.le_refl _) _).trans (hb1.mono (by simp)))
    have I1 := Lib.hid hI
    obtain ⟨-, i0, i1, i2, i3⟩ := hI
    clear hb1
    have hacc := Below.refl w1.heap.size w1
    have l1 := Lib.itoa_length_le n HN.out.1 HN.out.2
    have l2 := Lib.itoa_length_le s HS.out.1 HS.out.2
    have l3 := Lib.itoa_length_le mn HMN.out.1 HMN.out.2
    have l4 := Lib.itoa_length_le mx HMX.out.1 HMX.out.2
    obtain ⟨t1, h1, f1⟩ := cat_str (Lib.itoa n) [32] (by omega) (by simp)
    obtain ⟨t2, h2, f2⟩ := cat_ba t1 _ h1 (Lib.itoa s) (by simp; omega) (by omega)
    obtain ⟨t3, h3, f3⟩ := cat_ba t2 _ h2 [32] (by simp; omega) (by simp)
    obtain ⟨t4, h4, f4⟩ := cat_ba t3 _ h3 (Lib.itoa mn) (by simp; omega) (by omega)
    obtain ⟨t5, h5, f5⟩ := cat_ba t4 _ h4 [32] (by simp; omega) (by simp)
    obtain ⟨t6, h6, f6⟩ := cat_ba t5 _ h5 (Lib.itoa mx) (by simp; omega) (by omega)
    have H6 := Lib.hid h6
    clear h1 h2 h3 h4 h5 h6 l1 l2 l3 l4
    go_wp2_with fail
    go_region_held3 (fun w' => w'.cell? ⟨w.heap.size, 0, none⟩ = some (.int .i64 n) ∧ w'.cell? ⟨w.heap.size, 1, none⟩ = some (.int .i64 s) ∧ w'.cell? ⟨w.heap.size, 2, none⟩ = some (.int .i64 mn) ∧ w'.cell? ⟨w.heap.size, 3, none⟩ = some (.int .i64 mx)) ((first | exact keep4 I1.out hacc | exact keep4 I1.out hacc.drew))
      (first | (go_at_call 13; refine (NumText_spec _ _ ?_ ?_).mono ?_; (first | exact HN.out.1 | exact HS.out.1 | exact HMN.out.1 | exact HMX.out.1); (first | exact HN.out.2 | exact HS.out.2 | exact HMN.out.2 | exact HMX.out.2); (rintro e wk ⟨rfl, hbk⟩); have hacc := below_more hacc (by first | exact .inl rfl | exact .inr rfl) hbk; clear hbk))
    all_goals (
      clear f1 f2 f3 f4 f5 f6
      go_wp2_with fail
      go_ret
      rw [HT.out]
      refine ⟨?_, B1.out.trans (by first | exact hacc.mono B1.out.size | exact hacc.drew.mono B1.out.size)⟩
      rw [show t6 = _ from H6.out]
      simp)
  · have h' : okB n s mn mx = false := by simpa using h
    have hT : Hid (aggText n s mn mx = []) := by unfold aggText; rw [if_neg h]; rfl
    clear h
    go_enter Tryd.func24, Tryd.ntmps24
    go_wp2_with fail
    refine (spec_AggOk _ _ _ _ _).mono ?_
    rintro e w1 ⟨rfl, hb1⟩
    have B1 := Lib.hid (((Below.refl w.heap.size w).alloc (Nat.le_refl _) _).trans (hb1.mono (by simp)))
    clear hb1
    go_wp2_with fail
    go_ret
    rw [hT.out]
    exact ⟨rfl, B1.out⟩
end Go.Proofs.YtemefahhogdoaaaDoor.num
