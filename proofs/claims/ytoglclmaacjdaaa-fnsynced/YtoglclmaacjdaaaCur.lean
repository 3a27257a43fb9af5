/-
  THE DRAWS: what a cursor over a code is in memory, and the contract of pick: it answers a number below n, and writes nothing but the cursor.
  Condition: the cursor is one (a block of its own, its code a row of bytes elsewhere), and has been asked fewer than 2^40 times.
-/
import Derived.Test.YtoglclmaacjdaaaRows
import Derived.WalkKit
import Derived.WalkSpells
import Derived.WalkLawsBesides
import Derived.BigQuiet
import Derived.Deep.QuietTactic
import Derived.Lib.Hide
import Derived.IntWalk
namespace Go.Proofs.Ytoglclmaacjdaaa.cur
open Go.RowKit

/-- All that was there, block g aside, is as it was. -/
structure Only (g : Nat) (w w' : World) : Prop where
  os : w'.os = w.os
  tape : w'.tape = w.tape
  output : w'.output = w.output
  size : w.heap.size ≤ w'.heap.size
  block : ∀ k, k < w.heap.size → k ≠ g → w'.heap[k]? = w.heap[k]?

theorem Only.refl (g : Nat) (w : World) : Only g w w := ⟨rfl, rfl, rfl, Nat.le_refl _, fun _ _ _ => rfl⟩
theorem Only.trans {g : Nat} {a b c : World} (h : Only g a b) (k : Only g b c) : Only g a c :=
  ⟨k.os.trans h.os, k.tape.trans h.tape, k.output.trans h.output, Nat.le_trans h.size k.size, fun i hi hn => (k.block i (Nat.lt_of_lt_of_le hi h.size) hn).trans (h.block i hi hn)⟩
theorem Only.of_below {g : Nat} {w w' : World} (h : Below w.heap.size w w') : Only g w w' := ⟨h.os, h.tape, h.output, h.size, fun k hk _ => h.block k hk⟩
theorem Only.drewN {g : Nat} {a w : World} (h : Only g a w) (n : Nat) : Only g a (w.drewN n) := ⟨h.os, h.tape, h.output, h.size, h.block⟩
theorem Only.drew {g : Nat} {a w : World} (h : Only g a w) : Only g a w.drew := ⟨h.os, h.tape, h.output, h.size, h.block⟩
theorem Only.setCell {g : Nat} {a w : World} (h : Only g a w) (o : Nat) (v : Value) : Only g a (w.setCell ⟨g, o, none⟩ v) :=
  h.trans ⟨rfl, rfl, rfl, by simp [World.setCell], fun k _ hn => Below.heap_setCell _ _ _ _ (by exact hn)⟩
theorem Only.alloc {g : Nat} {a w : World} (h : Only g a w) (o : Obj) : Only g a (w.alloc o) :=
  h.trans ⟨rfl, rfl, rfl, by simp, fun k hk _ => Below.heap_alloc _ _ _ hk⟩
theorem Only.below {g B : Nat} {w w' : World} (h : Only g w w') (hg : B ≤ g) (hB : B ≤ w.heap.size) : Below B w w' :=
  ⟨h.os, h.tape, h.output, h.size, fun k hk => h.block k (by omega) (by omega)⟩
theorem Only.cell {g : Nat} {w w' : World} (h : Only g w w') {b o : Nat} (hb : b < w.heap.size) (hn : b ≠ g) : w'.cell? ⟨b, o, none⟩ = w.cell? ⟨b, o, none⟩ := World.cell?_of_block (w := w) (a := ⟨b, o, none⟩) (h.block b hb hn)
theorem Only.frozen {g : Nat} {w w' : World} (h : Only g w w') {b o : Nat} (hb : b < w.heap.size) (hn : b ≠ g) : w'.frozen? ⟨b, o, none⟩ = w.frozen? ⟨b, o, none⟩ := World.frozen?_of_block (w := w) (a := ⟨b, o, none⟩) (h.block b hb hn)

/-- A slice value's elements are bytes, in a block below g. -/
def Bytes (g : Nat) (w : World) (a : Option Addr) (len : Nat) : Prop :=
  0 < len → ∃ b off, a = some ⟨b, off, none⟩ ∧ b < g ∧ b < w.heap.size ∧ ∀ i, i < len → ∃ v : Int, 0 ≤ v ∧ v ≤ 255 ∧ w.cell? ⟨b, off + i, none⟩ = some (.int .u8 v)

theorem Bytes.only {g : Nat} {w w' : World} {a : Option Addr} {len : Nat} (h : Bytes g w a len) (ho : Only g w w') : Bytes g w' a len := fun h0 => by
  obtain ⟨b, off, e, h1, h2, h3⟩ := h h0
  refine ⟨b, off, e, h1, Nat.lt_of_lt_of_le h2 ho.size, fun i hi => ?_⟩
  obtain ⟨v, v0, v1, hc⟩ := h3 i hi
  exact ⟨v, v0, v1, (ho.cell h2 (by omega)).trans hc⟩

/-- Block g is a cursor over this code that has been asked at most m times. -/
def Curs (g : Nat) (a : Option Addr) (len cap m : Nat) (w : World) : Prop :=
  ∃ pos seed : Int, 0 ≤ pos ∧ pos ≤ m ∧ 0 ≤ seed ∧ seed ≤ 70000 ∧ g < w.heap.size ∧ len ≤ 2000000 ∧
    w.cell? ⟨g, 0, none⟩ = some (.slice a len cap) ∧ w.cell? ⟨g, 1, none⟩ = some (.int .i64 pos) ∧ w.cell? ⟨g, 2, none⟩ = some (.int .i64 seed) ∧ (∀ j, w.frozen? ⟨g, j, none⟩ = false) ∧ Bytes g w a len

/-- A call that leaves block g alone leaves the cursor. -/
theorem Curs.below {g : Nat} {a : Option Addr} {len cap m : Nat} {w w' : World} (h : Curs g a len cap m w) (hb : Below w.heap.size w w') : Curs g a len cap m w' := by
  obtain ⟨pos, seed, h1, h2, h3, h4, h5, h6, c0, c1, c2, hf, hB⟩ := h
  exact ⟨pos, seed, h1, h2, h3, h4, Nat.lt_of_lt_of_le h5 hb.size, h6, (hb.cell (p := ⟨g, 0, none⟩) h5).trans c0, (hb.cell (p := ⟨g, 1, none⟩) h5).trans c1, (hb.cell (p := ⟨g, 2, none⟩) h5).trans c2, fun j => (hb.frozen (p := ⟨g, j, none⟩) h5).trans (hf j), hB.only (Only.of_below hb)⟩

theorem Curs.more {g : Nat} {a : Option Addr} {len cap m m' : Nat} {w : World} (h : Curs g a len cap m w) (hm : m ≤ m') : Curs g a len cap m' w := by
  obtain ⟨pos, seed, h1, h2, h⟩ := h
  exact ⟨pos, seed, h1, by omega, h⟩

/-- What pick answers, and what it leaves. -/
def Picked (g : Nat) (a : Option Addr) (len cap m : Nat) (n : Int) (w : World) (e : Ending) (w' : World) : Prop :=
  ∃ r : Int, e = .returned (.int .i64 r) ∧ 0 ≤ r ∧ (r < n ∨ r = 0) ∧ Curs g a len cap (m + 1) w' ∧ Only g w w'

theorem curs_step {g : Nat} {a : Option Addr} {len cap m : Nat} {w : World} {pos seed : Int} (h1 : 0 ≤ pos) (h2 : pos ≤ m) (h3 : 0 ≤ seed) (h4 : seed ≤ 70000) (h5 : g < w.heap.size) (h6 : len ≤ 2000000)
    (c0 : w.cell? ⟨g, 0, none⟩ = some (.slice a len cap)) (c1 : w.cell? ⟨g, 1, none⟩ = some (.int .i64 pos)) (c2 : w.cell? ⟨g, 2, none⟩ = some (.int .i64 seed)) (hf : ∀ j, w.frozen? ⟨g, j, none⟩ = false) (hB : Bytes g w a len) :
    Curs g a len cap (m + 1) (w.setCell ⟨g, 1, none⟩ (.int .i64 (pos + 1))) ∧ Only g w (w.setCell ⟨g, 1, none⟩ (.int .i64 (pos + 1))) := by
  have ho : Only g w (w.setCell ⟨g, 1, none⟩ (.int .i64 (pos + 1))) := (Only.refl g w).setCell 1 _
  refine ⟨⟨pos + 1, seed, by omega, by omega, h3, h4, Nat.lt_of_lt_of_le h5 ho.size, h6, ?_, ?_, ?_, fun j => ?_, hB.only ho⟩, ho⟩
  · rw [World.cell?_setCell_other _ _ _ _ (by simp)]; exact c0
  · exact World.cell?_setCell_same _ _ _ c1
  · rw [World.cell?_setCell_other _ _ _ _ (by simp)]; exact c2
  · rw [World.frozen?_setCell]; exact hf j

/-- The cursor behind draws, and behind a store of its seed. -/
theorem Bytes.drewN {g : Nat} {w : World} {a : Option Addr} {len : Nat} (h : Bytes g w a len) (n : Nat) : Bytes g (w.drewN n) a len := h.only ((Only.refl g w).drewN n)

set_option maxRecDepth 100000 in
set_option maxHeartbeats 400000 in
theorem pick_small (g : Nat) (a : Option Addr) (len cap m : Nat) (n : Int) (w : World) (hn : n < 2) (hc : Curs g a len cap m w) :
    Calls Try.prog 49 #[.pointer (some ⟨g, 0, none⟩), .int .i64 n] w (Picked g a len cap m n w) := by
  have H := Lib.hid hc
  clear hc
  go_enter Try.func49, Try.ntmps49
  go_wp2
  go_ret
  exact ⟨0, rfl, by omega, .inr rfl, H.out.more (by omega), Only.refl _ _⟩

set_option maxRecDepth 100000 in
set_option maxHeartbeats 1000000 in
theorem pick_in (g : Nat) (a : Option Addr) (len cap m : Nat) (n : Int) (w : World) (hn : 2 ≤ n) (hm : m ≤ 1099511627776) (pos seed : Int) (h1 : 0 ≤ pos) (h2 : pos ≤ m) (h3 : 0 ≤ seed) (h4 : seed ≤ 70000) (h5 : g < w.heap.size) (h6 : len ≤ 2000000)
    (c0 : w.cell? ⟨g, 0, none⟩ = some (.slice a len cap)) (c1 : w.cell? ⟨g, 1, none⟩ = some (.int .i64 pos)) (c2 : w.cell? ⟨g, 2, none⟩ = some (.int .i64 seed)) (hf : ∀ j, w.frozen? ⟨g, j, none⟩ = false) (hB : Bytes g w a len) (hlt : pos < (len : Int)) :
    Calls Try.prog 49 #[.pointer (some ⟨g, 0, none⟩), .int .i64 n] w (Picked g a len cap m n w) := by
  obtain ⟨p, rfl⟩ : ∃ p : Nat, pos = p := ⟨pos.toNat, by omega⟩
  obtain ⟨b, off, rfl, hbg, hbw, hbc⟩ := hB (by omega)
  obtain ⟨v, v0, v1, hv⟩ := hbc p (by omega)
  have HB := Lib.hid hB
  have HC := Lib.hid hbc
  clear hB hbc
  go_enter Try.func49, Try.ntmps49
  go_wp2
  go_quiet (fail)
  go_wp2
  go_quiet (fail)
  go_wp2
  go_ret
  rename_i nq1
  obtain ⟨k1, k2⟩ := curs_step (m := m) (w := w.drewN (nq1 + nq)) h1 h2 h3 h4 h5 h6 c0 c1 c2 hf (HB.out.drewN _)
  exact ⟨v % n, rfl, Int.emod_nonneg _ (by omega), .inl (Int.emod_lt_of_pos _ (by omega)), k1, ((Only.refl g w).drewN _).trans k2⟩

set_option maxRecDepth 100000 in
set_option maxHeartbeats 1000000 in
theorem pick_out0 (g : Nat) (a : Option Addr) (cap m : Nat) (n : Int) (w : World) (hn : 2 ≤ n) (hm : m ≤ 1099511627776) (pos seed : Int) (h1 : 0 ≤ pos) (h2 : pos ≤ m) (h3 : 0 ≤ seed) (h4 : seed ≤ 70000) (h5 : g < w.heap.size)
    (c0 : w.cell? ⟨g, 0, none⟩ = some (.slice a 0 cap)) (c1 : w.cell? ⟨g, 1, none⟩ = some (.int .i64 pos)) (c2 : w.cell? ⟨g, 2, none⟩ = some (.int .i64 seed)) (hf : ∀ j, w.frozen? ⟨g, j, none⟩ = false) :
    Calls Try.prog 49 #[.pointer (some ⟨g, 0, none⟩), .int .i64 n] w (Picked g a 0 cap m n w) := by
  have hlt : decide (pos < 0) = false := by simp; omega
  go_enter Try.func49, Try.ntmps49
  go_wp2
  go_quiet (fail)
  go_wp2
  go_ret
  obtain ⟨k1, k2⟩ := curs_step (m := m) (len := 0) (cap := cap) (w := (w.drewN nq).setCell ⟨g, 2, none⟩ (.int .i64 ((seed * 1103 + 12345) % 65521))) (seed := (seed * 1103 + 12345) % 65521) h1 h2 (by omega) (by omega)
    (by rw [show ((w.drewN nq).setCell ⟨g, 2, none⟩ (.int .i64 ((seed * 1103 + 12345) % 65521))).heap.size = w.heap.size by simp [World.setCell]]; exact h5) (by omega)
    ((World.cell?_setCell_other _ _ _ _ (by simp)).trans c0) ((World.cell?_setCell_other _ _ _ _ (by simp)).trans c1) (World.cell?_setCell_same _ _ _ c2) (fun j => (World.frozen?_setCell _ _ _ _).trans (hf j)) (fun h => absurd h (by omega))
  exact ⟨0, rfl, by omega, .inr rfl, k1, (((Only.refl g w).drewN nq).setCell 2 _).trans k2⟩

theorem quo7 {x : Int} (h : 0 ≤ x) (h' : x ≤ 70000) : IntKind.i64.wrap (x.tdiv 7) = x / 7 := by
  rw [Int.tdiv_eq_ediv_of_nonneg h]; exact IntWalk.i64_in _ (by omega)

set_option maxRecDepth 100000 in
set_option maxHeartbeats 1000000 in
theorem pick_out (g : Nat) (a : Option Addr) (len cap m : Nat) (n : Int) (w : World) (hn : 2 ≤ n) (hm : m ≤ 1099511627776) (pos seed : Int) (h1 : 0 ≤ pos) (h2 : pos ≤ m) (h3 : 0 ≤ seed) (h4 : seed ≤ 70000) (h5 : g < w.heap.size) (h6 : len ≤ 2000000) (h0 : 0 < len)
    (c0 : w.cell? ⟨g, 0, none⟩ = some (.slice a len cap)) (c1 : w.cell? ⟨g, 1, none⟩ = some (.int .i64 pos)) (c2 : w.cell? ⟨g, 2, none⟩ = some (.int .i64 seed)) (hf : ∀ j, w.frozen? ⟨g, j, none⟩ = false) (hB : Bytes g w a len) (hge : (len : Int) ≤ pos) :
    Calls Try.prog 49 #[.pointer (some ⟨g, 0, none⟩), .int .i64 n] w (Picked g a len cap m n w) := by
  have hlt : decide (pos < (len : Int)) = false := by simp; omega
  obtain ⟨p, rfl⟩ : ∃ p : Nat, pos = p := ⟨pos.toNat, by omega⟩
  obtain ⟨b, off, rfl, hbg, hbw, hbc⟩ := hB h0
  have i0 : 0 ≤ (p : Int) % (len : Int) := Int.emod_nonneg _ (by omega)
  have i1 : (p : Int) % (len : Int) < (len : Int) := Int.emod_lt_of_pos _ (by omega)
  obtain ⟨v, v0, v1, hv⟩ := hbc ((p : Int) % (len : Int)).toNat (by omega)
  have HB := Lib.hid hB
  have HC := Lib.hid hbc
  clear hB hbc
  have hne : ¬ g = b := by omega
  go_enter Try.func49, Try.ntmps49
  go_wp2
  go_quiet (fail)
  go_wp2
  have d0 : ((w.drewN nq).setCell ⟨g, 2, none⟩ (.int .i64 ((seed * 1103 + 12345) % 65521))).cell? ⟨g, 0, none⟩ = some (.slice (some ⟨b, off, none⟩) len cap) := (World.cell?_setCell_other _ _ _ _ (by simp)).trans c0
  have d1 : ((w.drewN nq).setCell ⟨g, 2, none⟩ (.int .i64 ((seed * 1103 + 12345) % 65521))).cell? ⟨g, 1, none⟩ = some (.int .i64 p) := (World.cell?_setCell_other _ _ _ _ (by simp)).trans c1
  have d2 : ((w.drewN nq).setCell ⟨g, 2, none⟩ (.int .i64 ((seed * 1103 + 12345) % 65521))).cell? ⟨g, 2, none⟩ = some (.int .i64 ((seed * 1103 + 12345) % 65521)) := World.cell?_setCell_same _ _ _ c2
  have d3 : ((w.drewN nq).setCell ⟨g, 2, none⟩ (.int .i64 ((seed * 1103 + 12345) % 65521))).cell? ⟨b, off + ((p : Int) % (len : Int)).toNat, none⟩ = some (.int .u8 v) := (World.cell?_setCell_other _ _ _ _ (by simp)).trans hv
  have df : ∀ j, ((w.drewN nq).setCell ⟨g, 2, none⟩ (.int .i64 ((seed * 1103 + 12345) % 65521))).frozen? ⟨g, j, none⟩ = false := fun j => (World.frozen?_setCell _ _ _ _).trans (hf j)
  have ho : Hid (Only g w ((w.drewN nq).setCell ⟨g, 2, none⟩ (.int .i64 ((seed * 1103 + 12345) % 65521)))) := ((Only.refl g w).drewN nq).setCell 2 _
  have s0 : 0 ≤ (seed * 1103 + 12345) % 65521 := by omega
  have s1 : (seed * 1103 + 12345) % 65521 ≤ 70000 := by omega
  generalize (w.drewN nq).setCell ⟨g, 2, none⟩ (.int .i64 ((seed * 1103 + 12345) % 65521)) = w2 at *
  generalize (seed * 1103 + 12345) % 65521 = sd at *
  clear c0 c1 c2 hf hv
  have q7 := quo7 s0 s1
  have n0 : ¬ len = 0 := by omega
  have n1 : ((len : Int) == 0) = false := by simp; omega
  have n2 : ¬ (len : Int) = 0 := by omega
  have t0 : (p : Int).tmod (len : Int) = (p : Int) % (len : Int) := Int.tmod_eq_emod_of_nonneg (by omega)
  have a7 : IntKind.i64.wrap (sd / 7 + v) = sd / 7 + v := IntWalk.i64_in _ (by omega)
  have b0 : 0 ≤ sd / 7 + v := by omega
  have b1 : sd / 7 + v ≤ 100000 := by omega
  go_quiet (fail)
  go_wp2
  go_ret
  obtain ⟨k1, k2⟩ := curs_step (m := m) (w := w2.drewN nq) h1 h2 s0 s1 (Nat.lt_of_lt_of_le h5 ho.out.size) h6 d0 d1 d2 df ((HB.out.only ho.out).drewN _)
  exact ⟨(sd / 7 + v) % n, rfl, Int.emod_nonneg _ (by omega), .inl (Int.emod_lt_of_pos _ (by omega)), k1, (ho.out.drewN _).trans k2⟩

theorem pick_any (g : Nat) (a : Option Addr) (len cap m : Nat) (n : Int) (w : World) (hm : m ≤ 1099511627776) (hc : Curs g a len cap m w) :
    Calls Try.prog 49 #[.pointer (some ⟨g, 0, none⟩), .int .i64 n] w (Picked g a len cap m n w) := by
  by_cases hn : n < 2
  · exact pick_small g a len cap m n w hn hc
  · obtain ⟨pos, seed, h1, h2, h3, h4, h5, h6, c0, c1, c2, hf, hB⟩ := hc
    by_cases hlt : pos < (len : Int)
    · exact pick_in g a len cap m n w (by omega) hm pos seed h1 h2 h3 h4 h5 h6 c0 c1 c2 hf hB hlt
    · by_cases h0 : len = 0
      · subst h0; exact pick_out0 g a cap m n w (by omega) hm pos seed h1 h2 h3 h4 h5 c0 c1 c2 hf
      · exact pick_out g a len cap m n w (by omega) hm pos seed h1 h2 h3 h4 h5 h6 (by omega) c0 c1 c2 hf hB (by omega)
end Go.Proofs.Ytoglclmaacjdaaa.cur
