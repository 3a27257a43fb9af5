/-
  THE CONTRACTS OF slices.Clone of numbers, of (Row).copied of the program and of l06CopyRows of the model: copies in memory of the call's own; nothing that was there is written.
-/
import Derived.Test.YtoglclmaacjdaaaDataStates
import Derived.Test.YtoglclmaacjdaaaLent2
import Derived.Lib.SliceRun
namespace Go.Proofs.Ytoglclmaacjdaaa.dat
open Go.RowKit Go.Proofs.Ytoglclmaacjdaaa.win

theorem info_ints_ : ∃ i, Try.prog.info? 3 = some i ∧ i.zero = some (.int .i64 0) ∧ i.size = 1 ∧ i.bytes = 8 := by
  obtain ⟨i, hi, h⟩ := Option.map_eq_some_iff.1 info_int
  simp only [Prod.mk.injEq] at h
  exact ⟨i, hi, h.1, h.2.1, h.2.2⟩
theorem made_ints (W : World) : Grows 1 RInt 3 W.heap.size (W.alloc (.cells #[] 3)) (.slice (some ⟨W.heap.size, 0, none⟩) 0 0) ([] : List Int) :=
  Grows.made (k := 1) (R := RInt) (e := 3) (base := W.heap.size) (w := W) #[] 0 (Nat.le_refl _) (Nat.zero_le _) (by simp)
/-- A copy of numbers. -/
def ClonedI (w : World) (l : List Int) (e : Ending) (w' : World) : Prop := ∃ (a : Option Addr) (c : Nat) (fp : List Nat), e = .returned (.slice a l.length c) ∧ GRow 1 RInt w' a l.length l fp ∧ l.length ≤ c ∧ c ≤ 9223372036854775807 ∧ Own w.heap.size w' fp ∧ Below w.heap.size w w'

set_option maxRecDepth 100000 in
set_option maxHeartbeats 1000000 in
theorem cloneI (a : Option Addr) (n c : Nat) (l : List Int) (fp : List Nat) (w : World) (hrow : GRow 1 RInt w a n l fp) (hn : n ≤ 2000000) :
    Calls Try.prog 107 #[.slice a n c] w (ClonedI w l) := by
  have hl := hrow.1
  have q22 : ∀ (w : World) (a : Option Addr) (n c n' c' : Nat), (binOp .eql 29 (.slice a n c) (.slice none n' c')).run Try.prog w = .ok (.bool a.isNone) w := fun w a n c n' c' => Lib.run_eql_slice_nil w _ _ a n c n' c' Try.underlying29
  obtain ⟨i0, hi, hz0, hz1, hz2⟩ := info_ints_
  cases a with
  | none =>
    obtain rfl : n = 0 := by
      obtain ⟨_, ⟨h0, _⟩ | ⟨b, off, F, ha, _⟩⟩ := hrow
      · exact h0
      · cases ha
    obtain rfl : l = [] := List.length_eq_zero_iff.1 hl
    clear hrow
    go_enter Try.func107, Try.ntmps107
    go_wp2_with fail
    go_ret
    exact ⟨none, 0, [], rfl, GRow.nil, Nat.le_refl _, Nat.zero_le _, Own.nil, Below.refl _ _⟩
  | some ad =>
  have HQ := Lib.hid hrow
  have HL := Lib.hid hl
  have HG0 := Lib.hid (made_ints w)
  clear hrow hl
  go_enter Try.func107, Try.ntmps107
  go_wp2_with (at_builtin; refine pushAny (R := RInt) (k := 1) (l := []) (l2 := l) (by decide) local_int (fun h => h.2) (fun h => h) int_one rfl (.tmp 5) (.tmp 6) 29 rfl i0 (.int .i64 0) 8 Try.underlying29 hi hz0 hz1 hz2 rfl rfl HG0.out (Below.refl _ _) (some ad) n c fp rfl (HQ.out.below local_int (by repeat (first | exact Below.refl _ _ | refine Below.setCell ?_ (by first | omega | (simp; done) | (simp; omega)) _ | refine Below.alloc ?_ (by first | omega | (simp; done) | (simp; omega)) _ | apply Below.drew))) (by simp; omega) (by simp; unfold maxLen; omega) (by simp) ?_; intro v1 w1 hG1 hb1 hk1; rw [List.nil_append] at hG1; have KG1 := Lib.hid hG1; have BB1 := Lib.hid hb1; clear hG1 hb1 hk1)
  go_ret
  obtain ⟨a', c', fk, rfl, hg, h1, h2, ho⟩ := KG1.out.done
  exact ⟨a', c', fk, rfl, hg, h1, h2, ho, ((Below.refl w.heap.size w).alloc (Nat.le_refl _) _).trans BB1.out⟩

theorem row_blk {W : World} {p : Nat} {t : TypeId} {v0 v1 v2 v3 v4 v5 v6 v7 v8 : Value} (k : Blk W p t [v0, v1, v2, v3, v4, v5, v6, v7, v8]) :
    W.cell? ⟨p, 0, none⟩ = some v0 ∧ W.cell? ⟨p, 1, none⟩ = some v1 ∧ W.cell? ⟨p, 2, none⟩ = some v2 ∧ W.cell? ⟨p, 3, none⟩ = some v3 ∧ W.cell? ⟨p, 4, none⟩ = some v4 ∧ W.cell? ⟨p, 5, none⟩ = some v5 ∧ W.cell? ⟨p, 6, none⟩ = some v6 ∧ W.cell? ⟨p, 7, none⟩ = some v7 ∧ W.cell? ⟨p, 8, none⟩ = some v8 :=
  ⟨by simpa using k.cell 0, by simpa using k.cell 1, by simpa using k.cell 2, by simpa using k.cell 3, by simpa using k.cell 4, by simpa using k.cell 5, by simpa using k.cell 6, by simpa using k.cell 7, by simpa using k.cell 8⟩
/-- A box of nine cells is written, cell by cell. -/
theorem nine {W : World} {b : Nat} {t : TypeId} {u0 u1 u2 u3 u4 u5 u6 u7 u8 : Value} (hb : Blk W b t [u0, u1, u2, u3, u4, u5, u6, u7, u8]) (v0 v1 v2 v3 v4 v5 v6 v7 v8 : Value) :
    Blk (((((((((W.setCell ⟨b, 0, none⟩ v0).setCell ⟨b, 1, none⟩ v1).setCell ⟨b, 2, none⟩ v2).setCell ⟨b, 3, none⟩ v3).setCell ⟨b, 4, none⟩ v4).setCell ⟨b, 5, none⟩ v5).setCell ⟨b, 6, none⟩ v6).setCell ⟨b, 7, none⟩ v7).setCell ⟨b, 8, none⟩ v8) b t [v0, v1, v2, v3, v4, v5, v6, v7, v8] ∧
    (∀ c, c ≠ b → (((((((((W.setCell ⟨b, 0, none⟩ v0).setCell ⟨b, 1, none⟩ v1).setCell ⟨b, 2, none⟩ v2).setCell ⟨b, 3, none⟩ v3).setCell ⟨b, 4, none⟩ v4).setCell ⟨b, 5, none⟩ v5).setCell ⟨b, 6, none⟩ v6).setCell ⟨b, 7, none⟩ v7).setCell ⟨b, 8, none⟩ v8).heap[c]? = W.heap[c]?) ∧
    ∀ lo, lo ≤ b → Below lo W (((((((((W.setCell ⟨b, 0, none⟩ v0).setCell ⟨b, 1, none⟩ v1).setCell ⟨b, 2, none⟩ v2).setCell ⟨b, 3, none⟩ v3).setCell ⟨b, 4, none⟩ v4).setCell ⟨b, 5, none⟩ v5).setCell ⟨b, 6, none⟩ v6).setCell ⟨b, 7, none⟩ v7).setCell ⟨b, 8, none⟩ v8) := by
  refine ⟨(((((((((hb.set 0 v0).set 1 v1).set 2 v2).set 3 v3).set 4 v4).set 5 v5).set 6 v6).set 7 v7).set 8 v8).of_eq rfl, fun c hc => ?_, fun lo hlo => ?_⟩
  · have h : ∀ (X : World) (o : Nat) (v : Value), (X.setCell ⟨b, o, none⟩ v).heap[c]? = X.heap[c]? := fun X o v => Below.heap_setCell X ⟨b, o, none⟩ v c hc
    rw [h, h, h, h, h, h, h, h, h]
  · have h : ∀ (X : World) (o : Nat) (v : Value), Below lo X (X.setCell ⟨b, o, none⟩ v) := fun X o v => (Below.refl lo X).setCell (p := ⟨b, o, none⟩) hlo v
    exact ((((((((h _ _ _).trans (h _ _ _)).trans (h _ _ _)).trans (h _ _ _)).trans (h _ _ _)).trans (h _ _ _)).trans (h _ _ _)).trans (h _ _ _)).trans (h _ _ _)
set_option maxRecDepth 100000 in
set_option maxHeartbeats 1000000 in
theorem copied_ (x : RowD) (h : RowH) (fp : List Nat) (w : World) (hI : Row.Is w x h fp) (hz : Row.sz x ≤ 2000000) :
    Calls Try.prog 70 #[.agg (Row.list x h).toArray] w (CopiedRow w x) := by
  obtain ⟨f0, rfl, r0, u0, v0⟩ := hI
  have hk : h.keyl ≤ 2000000 := by rw [← r0.1]; exact hz
  have HL := Lib.hid r0.1
  have HR := Lib.hid r0
  clear r0 u0 v0 hz
  simp only [Row.list]
  go_enter Try.func70, Try.ntmps70
  go_wp2_with fail
  refine calls_gen (fun W => Below w.heap.size w W ∧ Blk W w.heap.size 120 (Row.list x h) ∧ ∃ vs, Blk W (w.heap.size + 1) 120 vs ∧ vs.length = 9) ⟨by repeat (first | exact Below.refl _ _ | refine Below.setCell ?_ (by first | omega | (simp; done) | (simp; omega)) _ | refine Below.alloc ?_ (by first | omega | (simp; done) | (simp; omega)) _ | apply Below.drew), by unfold Row.list; with_reducible (repeat (first | (refine blk_new_at _ _ _ _ ?_; first | rfl | (simp; done)) | refine Blk.alloc ?_ _ | apply Blk.drew | refine Blk.setOther ?_ (by first | (simp; done) | (simp; omega)) _)), ⟨_, by with_reducible (repeat (first | (refine blk_new_at _ _ _ _ ?_; first | rfl | (simp; done)) | refine Blk.alloc ?_ _ | apply Blk.drew | refine Blk.setOther ?_ (by first | (simp; done) | (simp; omega)) _)), rfl⟩⟩ ?_
  rintro W1 ⟨b1, k1, vs, m1, hvs⟩
  refine (cloneI h.keya h.keyl h.keyc x.key fp W1 (HR.out.below local_int b1) hk).mono ?_
  rintro e W2 ⟨a, c, fq, rfl, hg, hc1, hc2, ho, b2⟩
  rw [HL.out] at hg hc1 ⊢
  have hz1 : w.heap.size + 2 ≤ W1.heap.size := by have := m1.lt; omega
  have K2 := Lib.hid (k1.below b2 k1.lt)
  have M2 := Lib.hid (m1.below b2 m1.lt)
  have B2 := Lib.hid (b1.trans (b2.mono b1.size))
  have HG := Lib.hid hg
  have HO := Lib.hid ho
  have HC := Lib.hid (And.intro hc1 hc2)
  clear b1 k1 m1 hg ho hc1 hc2 b2
  obtain ⟨u0, u1, u2, u3, u4, u5, u6, u7, u8, rfl⟩ : ∃ u0 u1 u2 u3 u4 u5 u6 u7 u8, vs = [u0, u1, u2, u3, u4, u5, u6, u7, u8] := by
    match vs, hvs with
    | [a, b, c, d, e, f, g, h, i], _ => exact ⟨a, b, c, d, e, f, g, h, i, rfl⟩
  have k2 := K2.out
  unfold Row.list at k2
  obtain ⟨c0, c1, c2, c3, c4, c5, c6, c7, c8⟩ := row_blk k2
  obtain ⟨d0, d1, d2, d3, d4, d5, d6, d7, d8⟩ := row_blk M2.out
  have kf := k2.frozen
  have mf := M2.out.frozen
  clear k2 hvs
  go_wp2_with fail
  have hX1 : Blk (W2.setCell ⟨w.heap.size, 3, none⟩ (.slice a h.keyl c)) (w.heap.size + 1) 120 [u0, u1, u2, u3, u4, u5, u6, u7, u8] := Blk.setOther M2.out (by simp) _
  have hX2 : ∀ b, b ≠ w.heap.size → (W2.setCell ⟨w.heap.size, 3, none⟩ (.slice a h.keyl c)).heap[b]? = W2.heap[b]? := fun b hb => Below.heap_setCell _ ⟨_, _, none⟩ _ b (by simpa using hb)
  have hX3 : Below w.heap.size w (W2.setCell ⟨w.heap.size, 3, none⟩ (.slice a h.keyl c)) := B2.out.setCell (p := ⟨w.heap.size, 3, none⟩) (Nat.le_refl _) _
  generalize W2.setCell ⟨w.heap.size, 3, none⟩ (.slice a h.keyl c) = X at *
  obtain ⟨n1, n2, n3⟩ := nine hX1 (.int .i64 x.win) (.int .i64 x.mask) (.int .i64 x.start) (.slice a h.keyl c) (.int .i64 x.a.n) (.int .i64 x.a.sm) (.int .i64 x.a.mn) (.int .i64 x.a.mx) (.int .i64 x.times)
  have hkeep : ∀ b ∈ fq, b ≠ w.heap.size + 1 ∧ X.heap[b]? = W2.heap[b]? := fun b hb => ⟨by have := (HO.out.2 b hb).1; omega, hX2 b (by have := (HO.out.2 b hb).1; omega)⟩
  refine body_gen (fun W => Below w.heap.size w W ∧ Blk W (w.heap.size + 1) 120 [.int .i64 x.win, .int .i64 x.mask, .int .i64 x.start, .slice a h.keyl c, .int .i64 x.a.n, .int .i64 x.a.sm, .int .i64 x.a.mn, .int .i64 x.a.mx, .int .i64 x.times] ∧ GRow 1 RInt W a h.keyl x.key fq ∧ Own w.heap.size W fq) ?_ ?_
  · with_reducible exact ⟨hX3.trans (n3 _ (by omega)), n1, HG.out.keep local_int (fun b hb => (n2 b (hkeep b hb).1).trans (hkeep b hb).2), (HO.out.keep (fun b hb => (n2 b (hkeep b hb).1).trans (hkeep b hb).2)).mono (by omega)⟩
  clear c0 c1 c2 c3 c4 c5 c6 c7 c8 d0 d1 d2 d3 d4 d5 d6 d7 d8 kf mf
  rintro W ⟨bw, kw, gw, ow⟩
  obtain ⟨c0, c1, c2, c3, c4, c5, c6, c7, c8⟩ := row_blk kw
  refine bodyPost_ret (v := .agg (Row.list x ⟨a, h.keyl, c⟩).toArray) (by simp [results, Try.results70, go_sem, c0, c1, c2, c3, c4, c5, c6, c7, c8, Row.list]) rfl ?_
  exact ⟨⟨a, h.keyl, c⟩, fq, rfl, ⟨fq, rfl, gw, HC.out.1, HC.out.2⟩, ow, bw⟩
end Go.Proofs.Ytoglclmaacjdaaa.dat
