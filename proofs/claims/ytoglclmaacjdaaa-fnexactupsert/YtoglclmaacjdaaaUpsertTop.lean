/-
  JOINED BY tools/join.py: Copied, UpsertImpl, Upsert, SpecUpsertA, PaneAtF, SpecUpsert.
-/
import Derived.Test.YtoglclmaacjdaaaDataStates
import Derived.Test.YtoglclmaacjdaaaLent2
import Derived.Lib.SliceRun
import Derived.Test.YtoglclmaacjdaaaUpsertMath
import Derived.Test.YtoglclmaacjdaaaInsertRow
import Derived.Test.YtoglclmaacjdaaaMixOrd
import Derived.WalkMore
import Derived.Deep.LoopGhost
import Derived.Test.YtoglclmaacjdaaaPaneAt
import Derived.Test.YtoglclmaacjdaaaStateOk

/-
  THE CONTRACTS OF slices.Clone of numbers, of (Row).copied of the program and of l06CopyRows of the model: copies in memory of the call's own; nothing that was there is written.
-/
namespace Go.Proofs.Ytoglclmaacjdaaa.dat
open Go.RowKit Go.Proofs.Ytoglclmaacjdaaa.win

theorem info_ints_ : ∃ i, Try.prog.info? 3 = some i ∧ i.zero = some (.int .i64 0) ∧ i.size = 1 ∧ i.bytes = 8 := by
  obtain ⟨i, hi, h⟩ := Option.map_eq_some_iff.1 info_int
  simp only [Prod.mk.injEq] at h
  exact ⟨i, hi, h.1, h.2.1, h.2.2⟩
theorem made_ints (W : World) : Grows 1 RInt 3 W.heap.size (W.alloc (.cells #[] 3)) (.slice (some ⟨W.heap.size, 0, none⟩) 0 0) ([] : List Int) :=
  Grows.made (k := 1) (R := RInt) (e := 3) (base := W.heap.size) (w := W) #[] 0 (Nat.le_refl _) (Nat.zero_le _) (by simp)
/-- A copy of numbers. -/
def ClonedI (w : World) (l : List Int) (e : Ending) (w' : World) : Prop := ∃ (a : Option Addr) (c : Nat) (fp : List Nat), e = .returned (.slice a l.length c) ∧ GRow 1 RInt w' a l.length l fp ∧ l.length ≤ c ∧ c ≤ 9223372036854775807 ∧ Own w.heap.size w' fp ∧ Below w.heap.size w w'

set_option maxRecDepth 100000 in
set_option maxHeartbeats 1000000 in
theorem cloneI (a : Option Addr) (n c : Nat) (l : List Int) (fp : List Nat) (w : World) (hrow : GRow 1 RInt w a n l fp) (hn : n ≤ 2000000) :
    Calls Try.prog 107 #[.slice a n c] w (ClonedI w l) := by
  have hl := hrow.1
  have q22 : ∀ (w : World) (a : Option Addr) (n c n' c' : Nat), (binOp .eql 29 (.slice a n c) (.slice none n' c')).run Try.prog w = .ok (.bool a.isNone) w := fun w a n c n' c' => Lib.run_eql_slice_nil w _ _ a n c n' c' Try.underlying29
  obtain ⟨i0, hi, hz0, hz1, hz2⟩ := info_ints_
  cases a with
  | none =>
    obtain rfl : n = 0 := by
      obtain ⟨_, ⟨h0, _⟩ | ⟨b, off, F, ha, _⟩⟩ := hrow
      · exact h0
      · cases ha
    obtain rfl : l = [] := List.length_eq_zero_iff.1 hl
    clear hrow
    go_enter Try.func107, Try.ntmps107
    go_wp2_with fail
    go_ret
    exact ⟨none, 0, [], rfl, GRow.nil, Nat.le_refl _, Nat.zero_le _, Own.nil, Below.refl _ _⟩
  | some ad =>
  have HQ := Lib.hid hrow
  have HL := Lib.hid hl
  have HG0 := Lib.hid (made_ints w)
  clear hrow hl
  go_enter Try.func107, Try.ntmps107
  go_wp2_with (at_builtin; refine pushAny (R := RInt) (k := 1) (l := []) (l2 := l) (by decide) local_int (fun h => h.2) (fun h => h) int_one rfl (.tmp 5) (.tmp 6) 29 rfl i0 (.int .i64 0) 8 Try.underlying29 hi hz0 hz1 hz2 rfl rfl HG0.out (Below.refl _ _) (some ad) n c fp rfl (HQ.out.below local_int (by repeat (first | exact Below.refl _ _ | refine Below.setCell ?_ (by first | omega | (simp; done) | (simp; omega)) _ | refine Below.alloc ?_ (by first | omega | (simp; done) | (simp; omega)) _ | apply Below.drew))) (by simp; omega) (by simp; unfold maxLen; omega) (by simp) ?_; intro v1 w1 hG1 hb1 hk1; rw [List.nil_append] at hG1; have KG1 := Lib.hid hG1; have BB1 := Lib.hid hb1; clear hG1 hb1 hk1)
  go_ret
  obtain ⟨a', c', fk, rfl, hg, h1, h2, ho⟩ := KG1.out.done
  exact ⟨a', c', fk, rfl, hg, h1, h2, ho, ((Below.refl w.heap.size w).alloc (Nat.le_refl _) _).trans BB1.out⟩

theorem row_blk {W : World} {p : Nat} {t : TypeId} {v0 v1 v2 v3 v4 v5 v6 v7 v8 : Value} (k : Blk W p t [v0, v1, v2, v3, v4, v5, v6, v7, v8]) :
    W.cell? ⟨p, 0, none⟩ = some v0 ∧ W.cell? ⟨p, 1, none⟩ = some v1 ∧ W.cell? ⟨p, 2, none⟩ = some v2 ∧ W.cell? ⟨p, 3, none⟩ = some v3 ∧ W.cell? ⟨p, 4, none⟩ = some v4 ∧ W.cell? ⟨p, 5, none⟩ = some v5 ∧ W.cell? ⟨p, 6, none⟩ = some v6 ∧ W.cell? ⟨p, 7, none⟩ = some v7 ∧ W.cell? ⟨p, 8, none⟩ = some v8 :=
  ⟨by simpa using k.cell 0, by simpa using k.cell 1, by simpa using k.cell 2, by simpa using k.cell 3, by simpa using k.cell 4, by simpa using k.cell 5, by simpa using k.cell 6, by simpa using k.cell 7, by simpa using k.cell 8⟩
/-- A box of nine cells is written, cell by cell. -/
theorem nine {W : World} {b : Nat} {t : TypeId} {u0 u1 u2 u3 u4 u5 u6 u7 u8 : Value} (hb : Blk W b t [u0, u1, u2, u3, u4, u5, u6, u7, u8]) (v0 v1 v2 v3 v4 v5 v6 v7 v8 : Value) :
    Blk (((((((((W.setCell ⟨b, 0, none⟩ v0).setCell ⟨b, 1, none⟩ v1).setCell ⟨b, 2, none⟩ v2).setCell ⟨b, 3, none⟩ v3).setCell ⟨b, 4, none⟩ v4).setCell ⟨b, 5, none⟩ v5).setCell ⟨b, 6, none⟩ v6).setCell ⟨b, 7, none⟩ v7).setCell ⟨b, 8, none⟩ v8) b t [v0, v1, v2, v3, v4, v5, v6, v7, v8] ∧
    (∀ c, c ≠ b → (((((((((W.setCell ⟨b, 0, none⟩ v0).setCell ⟨b, 1, none⟩ v1).setCell ⟨b, 2, none⟩ v2).setCell ⟨b, 3, none⟩ v3).setCell ⟨b, 4, none⟩ v4).setCell ⟨b, 5, none⟩ v5).setCell ⟨b, 6, none⟩ v6).setCell ⟨b, 7, none⟩ v7).setCell ⟨b, 8, none⟩ v8).heap[c]? = W.heap[c]?) ∧
    ∀ lo, lo ≤ b → Below lo W (((((((((W.setCell ⟨b, 0, none⟩ v0).setCell ⟨b, 1, none⟩ v1).setCell ⟨b, 2, none⟩ v2).setCell ⟨b, 3, none⟩ v3).setCell ⟨b, 4, none⟩ v4).setCell ⟨b, 5, none⟩ v5).setCell ⟨b, 6, none⟩ v6).setCell ⟨b, 7, none⟩ v7).setCell ⟨b, 8, none⟩ v8) := by
  refine ⟨(((((((((hb.set 0 v0).set 1 v1).set 2 v2).set 3 v3).set 4 v4).set 5 v5).set 6 v6).set 7 v7).set 8 v8).of_eq rfl, fun c hc => ?_, fun lo hlo => ?_⟩
  · have h : ∀ (X : World) (o : Nat) (v : Value), (X.setCell ⟨b, o, none⟩ v).heap[c]? = X.heap[c]? := fun X o v => Below.heap_setCell X ⟨b, o, none⟩ v c hc
    rw [h, h, h, h, h, h, h, h, h]
  · have h : ∀ (X : World) (o : Nat) (v : Value), Below lo X (X.setCell ⟨b, o, none⟩ v) := fun X o v => (Below.refl lo X).setCell (p := ⟨b, o, none⟩) hlo v
    exact ((((((((h _ _ _).trans (h _ _ _)).trans (h _ _ _)).trans (h _ _ _)).trans (h _ _ _)).trans (h _ _ _)).trans (h _ _ _)).trans (h _ _ _)).trans (h _ _ _)
set_option maxRecDepth 100000 in
set_option maxHeartbeats 1000000 in
theorem copied_ (x : RowD) (h : RowH) (fp : List Nat) (w : World) (hI : Row.Is w x h fp) (hz : Row.sz x ≤ 2000000) :
    Calls Try.prog 70 #[.agg (Row.list x h).toArray] w (CopiedRow w x) := by
  obtain ⟨f0, rfl, r0, u0, v0⟩ := hI
  have hk : h.keyl ≤ 2000000 := by rw [← r0.1]; exact hz
  have HL := Lib.hid r0.1
  have HR := Lib.hid r0
  clear r0 u0 v0 hz
  simp only [Row.list]
  go_enter Try.func70, Try.ntmps70
  go_wp2_with fail
  refine calls_gen (fun W => Below w.heap.size w W ∧ Blk W w.heap.size 120 (Row.list x h) ∧ ∃ vs, Blk W (w.heap.size + 1) 120 vs ∧ vs.length = 9) ⟨by repeat (first | exact Below.refl _ _ | refine Below.setCell ?_ (by first | omega | (simp; done) | (simp; omega)) _ | refine Below.alloc ?_ (by first | omega | (simp; done) | (simp; omega)) _ | apply Below.drew), by unfold Row.list; with_reducible (repeat (first | (refine blk_new_at _ _ _ _ ?_; first | rfl | (simp; done)) | refine Blk.alloc ?_ _ | apply Blk.drew | refine Blk.setOther ?_ (by first | (simp; done) | (simp; omega)) _)), ⟨_, by with_reducible (repeat (first | (refine blk_new_at _ _ _ _ ?_; first | rfl | (simp; done)) | refine Blk.alloc ?_ _ | apply Blk.drew | refine Blk.setOther ?_ (by first | (simp; done) | (simp; omega)) _)), rfl⟩⟩ ?_
  rintro W1 ⟨b1, k1, vs, m1, hvs⟩
  refine (cloneI h.keya h.keyl h.keyc x.key fp W1 (HR.out.below local_int b1) hk).mono ?_
  rintro e W2 ⟨a, c, fq, rfl, hg, hc1, hc2, ho, b2⟩
  rw [HL.out] at hg hc1 ⊢
  have hz1 : w.heap.size + 2 ≤ W1.heap.size := by have := m1.lt; omega
  have K2 := Lib.hid (k1.below b2 k1.lt)
  have M2 := Lib.hid (m1.below b2 m1.lt)
  have B2 := Lib.hid (b1.trans (b2.mono b1.size))
  have HG := Lib.hid hg
  have HO := Lib.hid ho
  have HC := Lib.hid (And.intro hc1 hc2)
  clear b1 k1 m1 hg ho hc1 hc2 b2
  obtain ⟨u0, u1, u2, u3, u4, u5, u6, u7, u8, rfl⟩ : ∃ u0 u1 u2 u3 u4 u5 u6 u7 u8, vs = [u0, u1, u2, u3, u4, u5, u6, u7, u8] := by
    match vs, hvs with
    | [a, b, c, d, e, f, g, h, i], _ => exact ⟨a, b, c, d, e, f, g, h, i, rfl⟩
  have k2 := K2.out
  unfold Row.list at k2
  obtain ⟨c0, c1, c2, c3, c4, c5, c6, c7, c8⟩ := row_blk k2
  obtain ⟨d0, d1, d2, d3, d4, d5, d6, d7, d8⟩ := row_blk M2.out
  have kf := k2.frozen
  have mf := M2.out.frozen
  clear k2 hvs
  go_wp2_with fail
  have hX1 : Blk (W2.setCell ⟨w.heap.size, 3, none⟩ (.slice a h.keyl c)) (w.heap.size + 1) 120 [u0, u1, u2, u3, u4, u5, u6, u7, u8] := Blk.setOther M2.out (by simp) _
  have hX2 : ∀ b, b ≠ w.heap.size → (W2.setCell ⟨w.heap.size, 3, none⟩ (.slice a h.keyl c)).heap[b]? = W2.heap[b]? := fun b hb => Below.heap_setCell _ ⟨_, _, none⟩ _ b (by simpa using hb)
  have hX3 : Below w.heap.size w (W2.setCell ⟨w.heap.size, 3, none⟩ (.slice a h.keyl c)) := B2.out.setCell (p := ⟨w.heap.size, 3, none⟩) (Nat.le_refl _) _
  generalize W2.setCell ⟨w.heap.size, 3, none⟩ (.slice a h.keyl c) = X at *
  obtain ⟨n1, n2, n3⟩ := nine hX1 (.int .i64 x.win) (.int .i64 x.mask) (.int .i64 x.start) (.slice a h.keyl c) (.int .i64 x.a.n) (.int .i64 x.a.sm) (.int .i64 x.a.mn) (.int .i64 x.a.mx) (.int .i64 x.times)
  have hkeep : ∀ b ∈ fq, b ≠ w.heap.size + 1 ∧ X.heap[b]? = W2.heap[b]? := fun b hb => ⟨by have := (HO.out.2 b hb).1; omega, hX2 b (by have := (HO.out.2 b hb).1; omega)⟩
  refine body_gen (fun W => Below w.heap.size w W ∧ Blk W (w.heap.size + 1) 120 [.int .i64 x.win, .int .i64 x.mask, .int .i64 x.start, .slice a h.keyl c, .int .i64 x.a.n, .int .i64 x.a.sm, .int .i64 x.a.mn, .int .i64 x.a.mx, .int .i64 x.times] ∧ GRow 1 RInt W a h.keyl x.key fq ∧ Own w.heap.size W fq) ?_ ?_
  · with_reducible exact ⟨hX3.trans (n3 _ (by omega)), n1, HG.out.keep local_int (fun b hb => (n2 b (hkeep b hb).1).trans (hkeep b hb).2), (HO.out.keep (fun b hb => (n2 b (hkeep b hb).1).trans (hkeep b hb).2)).mono (by omega)⟩
  clear c0 c1 c2 c3 c4 c5 c6 c7 c8 d0 d1 d2 d3 d4 d5 d6 d7 d8 kf mf
  rintro W ⟨bw, kw, gw, ow⟩
  obtain ⟨c0, c1, c2, c3, c4, c5, c6, c7, c8⟩ := row_blk kw
  refine bodyPost_ret (v := .agg (Row.list x ⟨a, h.keyl, c⟩).toArray) (by simp [results, Try.results70, go_sem, c0, c1, c2, c3, c4, c5, c6, c7, c8, Row.list]) rfl ?_
  exact ⟨⟨a, h.keyl, c⟩, fq, rfl, ⟨fq, rfl, gw, HC.out.1, HC.out.2⟩, ow, bw⟩
end Go.Proofs.Ytoglclmaacjdaaa.dat

/-
  THE CONTRACTS OF rowCmp and Upsert of the program: rows put into rows, one by one, in memory of the call's own; nothing that was there is written.
-/
namespace Go.Proofs.Ytoglclmaacjdaaa.dat
open Go.RowKit Go.Proofs.Ytoglclmaacjdaaa.win

theorem row_pane_is {w : World} {x : RowD} {h : RowH} {f : List Nat} (hx : Row.Is w x h f) : Pane.Is w x.pane ⟨h.keya, h.keyl, h.keyc⟩ f := hx
theorem keep_two {W V : World} {p q : Nat} {t t' : TypeId} {v0 v1 v2 v3 v4 v5 v6 v7 v8 u0 u1 u2 u3 u4 u5 u6 u7 u8 : Value} (hp : Blk W p t [v0, v1, v2, v3, v4, v5, v6, v7, v8]) (hq : Blk W q t' [u0, u1, u2, u3, u4, u5, u6, u7, u8]) (h : Below W.heap.size W V) :
    (V.cell? ⟨p, 0, none⟩ = some v0 ∧ V.cell? ⟨p, 1, none⟩ = some v1 ∧ V.cell? ⟨p, 2, none⟩ = some v2 ∧ V.cell? ⟨p, 3, none⟩ = some v3 ∧ V.cell? ⟨p, 4, none⟩ = some v4 ∧ V.cell? ⟨p, 5, none⟩ = some v5 ∧ V.cell? ⟨p, 6, none⟩ = some v6 ∧ V.cell? ⟨p, 7, none⟩ = some v7 ∧ V.cell? ⟨p, 8, none⟩ = some v8) ∧
    (V.cell? ⟨q, 0, none⟩ = some u0 ∧ V.cell? ⟨q, 1, none⟩ = some u1 ∧ V.cell? ⟨q, 2, none⟩ = some u2 ∧ V.cell? ⟨q, 3, none⟩ = some u3 ∧ V.cell? ⟨q, 4, none⟩ = some u4 ∧ V.cell? ⟨q, 5, none⟩ = some u5 ∧ V.cell? ⟨q, 6, none⟩ = some u6 ∧ V.cell? ⟨q, 7, none⟩ = some u7 ∧ V.cell? ⟨q, 8, none⟩ = some u8) :=
  ⟨row_blk (hp.below h hp.lt), row_blk (hq.below h hq.lt)⟩

set_option maxRecDepth 100000 in
set_option maxHeartbeats 2000000 in
theorem rowCmp_ (x : RowD) (h : RowH) (f : List Nat) (y : RowD) (k : RowH) (g : List Nat) (w : World) (hx : Row.Is w x h f) (hy : Row.Is w y k g) (zx : Row.sz x ≤ 2000000) (zy : Row.sz y ≤ 2000000) :
    Calls Try.prog 71 #[.agg (Row.list x h).toArray, .agg (Row.list y k).toArray] w fun e w' => e = .returned (.int .i64 (paneC x.pane y.pane)) ∧ Below w.heap.size w w' := by
  have HX := Lib.hid hx
  have HY := Lib.hid hy
  have hP0 := fun w => rowPane x h w
  have hP1 := fun w => rowPane y k w
  obtain ⟨r, hr⟩ : ∃ r, paneC x.pane y.pane = r := ⟨_, rfl⟩
  have HRR := Lib.hid hr
  rw [hr]
  simp only [Row.list, Pane.list, RowD.pane] at hP0 hP1
  have HP0 := Lib.hid hP0
  have HP1 := Lib.hid hP1
  clear hx hy hP0 hP1 hr
  simp only [Row.list]
  go_enter Try.func71, Try.ntmps71
  go_wp2_with fail
  refine wp_gen (fun W => Below w.heap.size w W ∧ Blk W w.heap.size 120 (Row.list x h) ∧ Blk W (w.heap.size + 1) 120 (Row.list y k)) ⟨by repeat (first | exact Below.refl _ _ | refine Below.setCell ?_ (by first | omega | (simp; done) | (simp; omega)) _ | refine Below.alloc ?_ (by first | omega | (simp; done) | (simp; omega)) _ | apply Below.drew), by unfold Row.list; with_reducible (repeat (first | (refine blk_new_at _ _ _ _ ?_; first | rfl | (simp; done)) | refine Blk.alloc ?_ _ | apply Blk.drew | refine Blk.setOther ?_ (by first | (simp; done) | (simp; omega)) _)), by unfold Row.list; with_reducible (repeat (first | (refine blk_new_at _ _ _ _ ?_; first | rfl | (simp; done)) | refine Blk.alloc ?_ _ | apply Blk.drew | refine Blk.setOther ?_ (by first | (simp; done) | (simp; omega)) _))⟩ ?_
  rintro W ⟨b0, k0, m0⟩
  unfold Row.list at k0 m0
  have K0 := Lib.hid k0
  have M0 := Lib.hid m0
  have B0 := Lib.hid b0
  have HS := Lib.hid (fun V hb => keep_two (V := V) K0.out M0.out hb)
  clear k0 m0 b0
  refine mix.wp_region_ord (fun V => (V.cell? ⟨w.heap.size, 0, none⟩ = some (.int .i64 x.win) ∧ V.cell? ⟨w.heap.size, 1, none⟩ = some (.int .i64 x.mask) ∧ V.cell? ⟨w.heap.size, 2, none⟩ = some (.int .i64 x.start) ∧ V.cell? ⟨w.heap.size, 3, none⟩ = some (.slice h.keya h.keyl h.keyc) ∧ V.cell? ⟨w.heap.size, 4, none⟩ = some (.int .i64 x.a.n) ∧ V.cell? ⟨w.heap.size, 5, none⟩ = some (.int .i64 x.a.sm) ∧ V.cell? ⟨w.heap.size, 6, none⟩ = some (.int .i64 x.a.mn) ∧ V.cell? ⟨w.heap.size, 7, none⟩ = some (.int .i64 x.a.mx) ∧ V.cell? ⟨w.heap.size, 8, none⟩ = some (.int .i64 x.times)) ∧
    (V.cell? ⟨w.heap.size + 1, 0, none⟩ = some (.int .i64 y.win) ∧ V.cell? ⟨w.heap.size + 1, 1, none⟩ = some (.int .i64 y.mask) ∧ V.cell? ⟨w.heap.size + 1, 2, none⟩ = some (.int .i64 y.start) ∧ V.cell? ⟨w.heap.size + 1, 3, none⟩ = some (.slice k.keya k.keyl k.keyc) ∧ V.cell? ⟨w.heap.size + 1, 4, none⟩ = some (.int .i64 y.a.n) ∧ V.cell? ⟨w.heap.size + 1, 5, none⟩ = some (.int .i64 y.a.sm) ∧ V.cell? ⟨w.heap.size + 1, 6, none⟩ = some (.int .i64 y.a.mn) ∧ V.cell? ⟨w.heap.size + 1, 7, none⟩ = some (.int .i64 y.a.mx) ∧ V.cell? ⟨w.heap.size + 1, 8, none⟩ = some (.int .i64 y.times))) [1,3,4] [0,2,1,3,4,5] (by kernel_rfl) (by kernel_rfl) (fun _ _ d _ _ h => by cases d <;> exact h) (HS.out W (Below.refl _ _)) ?_
  simp only [List.filterMap_cons, List.filterMap_nil, List.getElem?_cons_zero, List.getElem?_cons_succ, Option.map_some]
  (repeat (first | (apply mix.ord_take; (· rfl); (· rfl); (· (intro w' hSw; (try dsimp only at hSw); go_simp; try with_reducible rfl)); (try simp only [Act.put, List.setIfInBounds_toArray, List.set_cons_zero, List.set_cons_succ])) | ((refine mix.ord_pass rfl (by rfl) ?_); (try simp only [Act.put, List.setIfInBounds_toArray, List.set_cons_zero, List.set_cons_succ]))))
  refine mix.ord_hard rfl (fun K hK => ?_); go_simp
  refine (HP0.out _).mono ?_
  rintro e W1 ⟨rfl, b1⟩
  have c1 : Below W.heap.size W W1 := (Below.refl _ _).drew.trans b1
  have S1 := Lib.hid (HS.out W1 c1)
  have C1 := Lib.hid c1
  clear b1 c1
  refine hK.out _ _ (S1.out) (fun hSw => ?_); clear hK K hSw; (try simp only [Act.put, List.setIfInBounds_toArray, List.set_cons_zero, List.set_cons_succ])
  refine mix.ord_hard rfl (fun K hK => ?_); go_simp
  refine (HP1.out _).mono ?_
  rintro e W2 ⟨rfl, b2⟩
  have c2 : Below W.heap.size W W2 := C1.out.trans (b2.mono C1.out.size)
  have S2 := Lib.hid (HS.out W2 c2)
  have C2 := Lib.hid c2
  clear b2 c2
  refine hK.out _ _ (S2.out) (fun hSw => ?_); clear hK K hSw; (try simp only [Act.put, List.setIfInBounds_toArray, List.set_cons_zero, List.set_cons_succ])
  refine mix.ord_hard rfl (fun K hK => ?_); go_simp
  have hcmp := impl_PaneCmp x.pane ⟨h.keya, h.keyl, h.keyc⟩ f y.pane ⟨k.keya, k.keyl, k.keyc⟩ g W2 (row_pane_is (HX.out.below (B0.out.trans (C2.out.mono B0.out.size)))) (row_pane_is (HY.out.below (B0.out.trans (C2.out.mono B0.out.size)))) zx zy
  rw [HRR.out] at hcmp
  simp only [Pane.list, RowD.pane] at hcmp
  refine hcmp.mono ?_
  clear hcmp
  rintro e W3 ⟨rfl, b3⟩
  have c3 : Below W.heap.size W W3 := C2.out.trans (b3.mono C2.out.size)
  have S3 := Lib.hid (HS.out W3 c3)
  have C3 := Lib.hid (B0.out.trans (c3.mono B0.out.size))
  clear b3 c3
  refine hK.out _ _ (S3.out) (fun hSw => ?_); clear hK K hSw; (try simp only [Act.put, List.setIfInBounds_toArray, List.set_cons_zero, List.set_cons_succ])
  (repeat (first | (apply mix.ord_take; (· rfl); (· rfl); (· (intro w' hSw; (try dsimp only at hSw); go_simp; try with_reducible rfl)); (try simp only [Act.put, List.setIfInBounds_toArray, List.set_cons_zero, List.set_cons_succ])) | ((refine mix.ord_pass rfl (by rfl) ?_); (try simp only [Act.put, List.setIfInBounds_toArray, List.set_cons_zero, List.set_cons_succ]))))
  refine mix.ord_end ?_
  go_wp2_with fail
  go_ret
  exact ⟨rfl, C3.out⟩

/-- make([]Row, 0, m). -/
theorem run_makeR (m : Nat) (hm : m ≤ 2000000) (w : World) :
    (Instr.makeSlice 46 (.int .i64 0) (.int .i64 (m : Int))).run Try.prog w = .ok (.slice (some ⟨w.heap.size, 0, none⟩) 0 m) (w.alloc (.cells (madeCells rowZ.cells (m * 9)) 120)) := by
  obtain ⟨i, hi, hz, hs, hb⟩ := row_info
  have hr := run_make (P := Try.prog) w 46 120 i _ Try.underlying46 hi hz .i64 .i64 0 m (Int.le_refl _) (by omega) (by rw [hb]; omega) (by omega)
  simp only [Int.toNat_zero, Int.toNat_natCast, hs] at hr
  exact hr

theorem flat_setAt {cs : List (List Value)} {k : Nat} (hk : ∀ c ∈ cs, c.length = k) {d : List Value} (hd : d.length = k) {m : Nat} (hm : m < cs.length) : (cs.set m d).flatten = putAt cs.flatten (m * k) d := by
  unfold putAt
  rw [(flat_take hk m (by omega)).1, hd, show m * k + k = (m + 1) * k by rw [Nat.succ_mul], (flat_take hk (m + 1) (by omega)).2, List.set_eq_take_append_cons_drop, if_pos hm]
  simp
theorem take_putAt_in (L : List Value) (o m : Nat) (d : List Value) (h1 : o + d.length ≤ m) (h2 : m ≤ L.length) : (putAt L o d).take m = putAt (L.take m) o d := by
  unfold putAt
  have hl : (L.take o ++ d).length = o + d.length := by rw [List.length_append, List.length_take]; omega
  rw [List.take_append, hl, List.take_of_length_le (by omega), List.take_take, Nat.min_eq_left (by omega), List.drop_take]
/-- A list of rows of the call's own, one row written over: its new key is younger. -/
theorem growRow_set {base : Nat} {wr w : World} {v : Value} {l : List RowD} {j : Nat} {y : RowD} {h : RowH} {f : List Nat} (hG : Grows 9 RRow 120 base wr v l) (hb : Below wr.heap.size wr w) (hj : j < l.length) (hy : Row.Is w y h f) (hf : Own wr.heap.size w f) :
    ∃ (b c : Nat) (u0 u1 u2 u3 u4 u5 u6 u7 u8 : Value), v = .slice (some ⟨b, 0, none⟩) l.length c ∧ base ≤ b ∧ b < wr.heap.size ∧
      (w.cell? ⟨b, j * 9, none⟩ = some u0 ∧ w.cell? ⟨b, j * 9 + 1, none⟩ = some u1 ∧ w.cell? ⟨b, j * 9 + 2, none⟩ = some u2 ∧ w.cell? ⟨b, j * 9 + 3, none⟩ = some u3 ∧ w.cell? ⟨b, j * 9 + 4, none⟩ = some u4 ∧ w.cell? ⟨b, j * 9 + 5, none⟩ = some u5 ∧ w.cell? ⟨b, j * 9 + 6, none⟩ = some u6 ∧ w.cell? ⟨b, j * 9 + 7, none⟩ = some u7 ∧ w.cell? ⟨b, j * 9 + 8, none⟩ = some u8) ∧ (∀ o, w.frozen? ⟨b, o, none⟩ = false) ∧
      Grows 9 RRow 120 base (w.setCells b (j * 9) (Row.list y h)) v (l.set j y) ∧ Below base w (w.setCells b (j * 9) (Row.list y h)) := by
  obtain ⟨css, F, e1, e2, e3, e4, e5, e6, hown⟩ := hG.ex
  have hlt := hG.lt
  rcases hown.2 with ⟨rfl, h0⟩ | ⟨g0, cap, cur, rfl, hbg, hh, hnc, hcm, hsz, htk⟩
  · omega
  obtain ⟨L, hL⟩ : ∃ L, cur = L.toArray := ⟨cur.toList, rfl⟩
  subst hL
  have hLl : L.length = cap * 9 := by simpa using hsz
  have hg0 : g0 < wr.heap.size := (Array.getElem?_eq_some_iff.1 hh).1
  have hbk : Blk w g0 120 L := (hb.block g0 hg0).trans hh
  have hcell : ∀ i, i < 9 → ∃ u, w.cell? ⟨g0, j * 9 + i, none⟩ = some u := fun i hi => ⟨_, (hbk.cell (j * 9 + i)).trans (List.getElem?_eq_getElem (by omega))⟩
  obtain ⟨u0, c0⟩ := hcell 0 (by omega)
  obtain ⟨u1, c1⟩ := hcell 1 (by omega)
  obtain ⟨u2, c2⟩ := hcell 2 (by omega)
  obtain ⟨u3, c3⟩ := hcell 3 (by omega)
  obtain ⟨u4, c4⟩ := hcell 4 (by omega)
  obtain ⟨u5, c5⟩ := hcell 5 (by omega)
  obtain ⟨u6, c6⟩ := hcell 6 (by omega)
  obtain ⟨u7, c7⟩ := hcell 7 (by omega)
  obtain ⟨u8, c8⟩ := hcell 8 (by omega)
  have hk' : Blk (w.setCells g0 (j * 9) (Row.list y h)) g0 120 (putAt L (j * 9) (Row.list y h)) := blk_setCells _ _ hbk (by simp [Row.list]; omega)
  have hap : Apart [g0] w (w.setCells g0 (j * 9) (Row.list y h)) := apart_setCells (by simp) _ _ (Apart.refl _ _)
  have hFg : ∀ b ∈ F.flatten, b ≠ g0 := fun b hbm e => (e6 b hbm).2.2 (by rw [e]; rfl)
  have hfg : ∀ b ∈ f, b ≠ g0 := fun b hbm => by have := (hf.2 b hbm).1; omega
  have hold : ∀ b ∈ F.flatten, (w.setCells g0 (j * 9) (Row.list y h)).heap[b]? = wr.heap[b]? := fun b hbm => (hap.block b (Nat.lt_of_lt_of_le (e6 b hbm).2.1.lt hb.size) (by simpa using hFg b hbm)).trans (hb.block b (e6 b hbm).2.1.lt)
  have hsub : ∀ b, b ∈ (F.set j f).flatten → b ∈ f ∨ b ∈ F.flatten := fun b hbm => by
    obtain ⟨q, hq, hbq⟩ := List.mem_flatten.1 hbm
    rcases List.mem_or_eq_of_mem_set hq with hq | rfl
    · exact .inr (List.mem_flatten.2 ⟨q, hq, hbq⟩)
    · exact .inl hbq
  refine ⟨g0, cap, u0, u1, u2, u3, u4, u5, u6, u7, u8, rfl, hbg, hg0, ⟨by simpa using c0, c1, c2, c3, c4, c5, c6, c7, c8⟩, fun o => hbk.frozen o, ⟨css.set j (Row.list y h), F.set j f, by simp [e1], by simp [e2], ?_, ?_, ?_, ?_, ?_⟩, hap.below (fun b hbm => by simp at hbm; omega) (by have := hb.size; omega)⟩
  · intro c hc
    rcases List.mem_or_eq_of_mem_set hc with hc | rfl
    · exact e3 c hc
    · rfl
  · intro i x c q hx hc hq
    by_cases hi : i = j
    · subst hi
      rw [List.getElem?_set_self hj] at hx
      rw [List.getElem?_set_self (by omega)] at hc hq
      cases hx; cases hc; cases hq
      exact ⟨h, rfl, hy.keep (fun b hbm => hap.block b (hf.2 b hbm).2.lt (by simpa using hfg b hbm))⟩
    · rw [List.getElem?_set_ne (Ne.symm hi)] at hx hc hq
      exact local_Row.keep (e4 i x c q hx hc hq) (fun b hbm => hold b (mem_flatten_of hq hbm))
  · have hn := List.pairwise_flatten.1 e5
    refine List.pairwise_flatten.2 ⟨fun q hq => ?_, ?_⟩
    · rcases List.mem_or_eq_of_mem_set hq with hq | rfl
      · exact hn.1 q hq
      · exact hf.1
    · rw [List.pairwise_iff_getElem] at hn ⊢
      intro i k hi hk hik p hp q hq e
      have hi' : i < F.length := by simpa using hi
      have hk2 : k < F.length := by simpa using hk
      rw [List.getElem_set] at hp hq
      have hFm : ∀ (m : Nat) (hm : m < F.length) b, b ∈ F[m] → b < wr.heap.size := fun m hm b hbm => (e6 b (List.mem_flatten.2 ⟨F[m], List.getElem_mem hm, hbm⟩)).2.1.lt
      split at hp <;> split at hq
      · omega
      · have h1 := (hf.2 p hp).1; have h2 := hFm k hk2 q hq; omega
      · have h1 := (hf.2 q hq).1; have h2 := hFm i hi' p hp; omega
      · exact hn.2 i k hi' hk2 hik p hp q hq e
  · intro b hbm
    rcases hsub b hbm with hb2 | hb2
    · exact ⟨by have := (hf.2 b hb2).1; omega, (hf.2 b hb2).2.same (hap.block b (hf.2 b hb2).2.lt (by simpa using hfg b hb2)), fun e => hfg b hb2 (by simpa [Value.ownBlock] using e.symm)⟩
    · exact ⟨(e6 b hb2).1, (e6 b hb2).2.1.same (hold b hb2), (e6 b hb2).2.2⟩
  · have hcl : css.flatten.length = l.length * 9 := by rw [flat_len e3, e1]
    have hfl := flat_setAt e3 (d := Row.list y h) rfl (m := j) (by omega)
    have htl : (css.set j (Row.list y h)).flatten.length = (l.set j y).length * 9 := by
      rw [hfl, putAt_len _ _ _ (by rw [hcl]; show j * 9 + 9 ≤ _; omega), hcl, List.length_set]
    refine ⟨htl, .inr ⟨g0, cap, (putAt L (j * 9) (Row.list y h)).toArray, by rw [List.length_set], hbg, hk', by rw [List.length_set]; exact hnc, hcm, ?_, ?_⟩⟩
    · rw [List.size_toArray, putAt_len _ _ _ (by show j * 9 + 9 ≤ _; omega), hLl]
    · rw [hfl, List.length_set, ← htk]
      exact take_putAt_in L (j * 9) (l.length * 9) (Row.list y h) (by show j * 9 + 9 ≤ _; omega) (by omega)
end Go.Proofs.Ytoglclmaacjdaaa.dat

/-
  THE CONTRACT OF Upsert of the program: rows put into rows, one by one, in memory of the call's own; nothing that was there is written.
-/
namespace Go.Proofs.Ytoglclmaacjdaaa.dat
open Go.RowKit Go.Proofs.Ytoglclmaacjdaaa.win

theorem row_cell9 {w : World} {b o : Nat} {x : RowD} {h : RowH} (hc : ∀ i, i < 9 → w.cell? ⟨b, o + i, none⟩ = (Row.list x h)[i]?) :
    w.cell? ⟨b, o, none⟩ = some (.int .i64 x.win) ∧ w.cell? ⟨b, o + 1, none⟩ = some (.int .i64 x.mask) ∧ w.cell? ⟨b, o + 2, none⟩ = some (.int .i64 x.start) ∧ w.cell? ⟨b, o + 3, none⟩ = some (.slice h.keya h.keyl h.keyc) ∧ w.cell? ⟨b, o + 4, none⟩ = some (.int .i64 x.a.n) ∧ w.cell? ⟨b, o + 5, none⟩ = some (.int .i64 x.a.sm) ∧ w.cell? ⟨b, o + 6, none⟩ = some (.int .i64 x.a.mn) ∧ w.cell? ⟨b, o + 7, none⟩ = some (.int .i64 x.a.mx) ∧ w.cell? ⟨b, o + 8, none⟩ = some (.int .i64 x.times) :=
  ⟨hc 0 (by omega), hc 1 (by omega), hc 2 (by omega), hc 3 (by omega), hc 4 (by omega), hc 5 (by omega), hc 6 (by omega), hc 7 (by omega), hc 8 (by omega)⟩
theorem sz_elemR {l : List RowD} {j n : Nat} {x : RowD} (hx : l[j]? = some x) (h : szL Row.sz l ≤ n) : Row.sz x ≤ n := by
  have := sz_elem_le Row.sz l hx
  unfold szL at h
  omega
/-- A row of a list of the call's own, its cells written out. -/
theorem growRow_at {base : Nat} {wr w : World} {v : Value} {l : List RowD} {j : Nat} (hG : Grows 9 RRow 120 base wr v l) (hb : Below wr.heap.size wr w) (hj : j < l.length) :
    ∃ (b c : Nat) (x : RowD) (h : RowH) (f : List Nat), v = .slice (some ⟨b, 0, none⟩) l.length c ∧ b < wr.heap.size ∧ l[j]? = some x ∧ Row.Is w x h f ∧ ∀ i, i < 9 → w.cell? ⟨b, j * 9 + i, none⟩ = (Row.list x h)[i]? := by
  obtain ⟨css, F, e1, e2, e3, e4, e5, e6, hown⟩ := hG.ex
  rcases hown.2 with ⟨rfl, h0⟩ | ⟨g0, cap, cur, rfl, hbg, hh, hnc, hcm, hsz, htk⟩
  · omega
  have hg0 : g0 < wr.heap.size := (Array.getElem?_eq_some_iff.1 hh).1
  have hx : l[j]? = some l[j] := List.getElem?_eq_getElem hj
  have hc : css[j]? = some css[j] := List.getElem?_eq_getElem (by omega)
  have hf : F[j]? = some F[j] := List.getElem?_eq_getElem (by omega)
  obtain ⟨h, hcs, hIs⟩ := e4 j _ _ _ hx hc hf
  refine ⟨g0, cap, l[j], h, F[j], rfl, hg0, hx, hIs.keep (fun b hbm => hb.block b (e6 b (mem_flatten_of hf hbm)).2.1.lt), fun i hi => ?_⟩
  rw [hb.cell (p := ⟨g0, j * 9 + i, none⟩) hg0, Go.Joins.cell_of_block hh, ← hcs, ← flat_get e3 hc i hi, ← htk, List.getElem?_take, if_pos (by omega)]
  simp
/-- Rows of one's own. -/
def GiveRows (w : World) (L : List RowD) (e : Ending) (w' : World) : Prop := ∃ (a : Option Addr) (n c : Nat) (f : List Nat), e = .returned (.slice a n c) ∧ GRow 9 RRow w' a n L f ∧ n ≤ c ∧ c ≤ 9223372036854775807 ∧ Own w.heap.size w' f ∧ Below w.heap.size w w'

set_option maxRecDepth 100000 in
set_option maxHeartbeats 8000000 in
theorem impl_Upsert (a : Option Addr) (n c : Nat) (l : List RowD) (fp : List Nat) (a' : Option Addr) (n' c' : Nat) (l' : List RowD) (fp' : List Nat) (w : World) (hrow : GRow 9 RRow w a n l fp) (_u0 : n ≤ c) (_v0 : c ≤ 9223372036854775807) (hrow' : GRow 9 RRow w a' n' l' fp') (_u1 : n' ≤ c') (_v1 : c' ≤ 9223372036854775807) (hz0 : szL Row.sz l ≤ 2000000) (hz1 : szL Row.sz l' ≤ 2000000) (hz : szL Row.sz l + szL Row.sz l' ≤ 2000000) :
    Calls Try.prog 27 #[.slice a n c, .slice a' n' c'] w (GiveRows w (upsertD l l')) := by
  have hn : n ≤ 2000000 := by rw [← hrow.1]; unfold szL at hz0; omega
  have hn' : n' ≤ 2000000 := by rw [← hrow'.1]; unfold szL at hz1; omega
  have R0 := Lib.hid hrow
  have R1 := Lib.hid hrow'
  have L0 := Lib.hid hrow.1
  have L1 := Lib.hid hrow'.1
  have Z0 := Lib.hid hz0
  have Z1 := Lib.hid hz1
  have ZZ := Lib.hid (fun j => Nat.le_trans (sz_upsert_take l l' j) hz)
  clear hrow hrow' hz0 hz1 hz _u0 _v0 _u1 _v1
  obtain ⟨i0, hi, hz0, hz1, hz2⟩ := row_info
  have hmk := run_makeR n hn
  have HI := Lib.hid (And.intro hi (And.intro hz0 (And.intro hz1 hz2)))
  clear hi hz0 hz1 hz2
  go_enter Try.func27, Try.ntmps27
  go_wp2_with fail
  go_step3
  go_wp2_with fail
  clear hmk
  go_loopg [5, 19] n (fun k v i wr => ∃ j : Nat, j + k = n ∧ i = .int .i64 j ∧ Below w.heap.size w wr ∧ Grows 9 RRow 120 w.heap.size wr v (l.take j))
  case atStart =>
    exact ⟨0, by omega, rfl, by repeat (first | exact Below.refl _ _ | refine Below.setCell ?_ (by first | omega | (simp; done) | (simp; omega)) _ | refine Below.alloc ?_ (by first | omega | (simp; done) | (simp; omega)) _ | apply Below.drew), Grows.made (k := 9) (R := RRow) (e := 120) (base := w.heap.size) (w := w) _ n (Nat.le_refl _) (by unfold maxLen; omega) (by rw [size_madeCells])⟩
  case round =>
    obtain ⟨j, hj, rfl, hB, hG⟩ := hrel
    have HB := Lib.hid hB
    have HG := Lib.hid hG
    by_cases hlt : j < n
    · obtain ⟨b, off, x, f, cs, rfl, hbl, hx, hcl, hRx, hcs⟩ := R0.out.at hlt
      obtain ⟨h, rfl, hIs⟩ := hRx
      obtain ⟨q0, q1, q2, q3, q4, q5, q6, q7, q8⟩ := row_cell9 (fun i hi => (hB.cell (p := ⟨b, off + j * 9 + i, none⟩) hbl).trans (hcs i hi))
      have hlt2 : (j : Int) < (n : Int) := by omega
      have h02 : (0 : Int) ≤ (j : Int) := by omega
      have hXS : l.take (j + 1) = l.take j ++ [x] := by rw [List.take_add_one, hx]; rfl
      have XS := Lib.hid hXS
      have IS := Lib.hid hIs
      have SZ := Lib.hid (sz_elemR hx Z0.out)
      have hjl : (l.take j).length = j := by rw [List.length_take, L0.out]; omega
      have JL := Lib.hid hjl
      have hc := fun W hW => copied_ x h f W hW SZ.out
      simp only [Row.list] at hc
      have HC := Lib.hid hc
      clear hB hG hcs hcl hx hXS hIs hjl hc
      go_wp2_with fail
      refine calls_gen (fun W => Below wr.heap.size wr W ∧ wr.heap.size < W.heap.size) ⟨by repeat (first | exact Below.refl _ _ | refine Below.setCell ?_ (by first | omega | (simp; done) | (simp; omega)) _ | refine Below.alloc ?_ (by first | omega | (simp; done) | (simp; omega)) _ | apply Below.drew), by simp⟩ ?_
      rintro W1 ⟨b1, s1⟩
      refine (HC.out W1 (IS.out.below (HB.out.trans (b1.mono HB.out.size)))).mono ?_
      rintro e W2 ⟨h2, f2, rfl, i2, o2, b2⟩
      have B2 := Lib.hid (b1.trans (b2.mono b1.size))
      have I2 := Lib.hid i2
      have O2 := Lib.hid (o2.mono (Nat.le_of_lt s1))
      clear b1 s1 i2 o2 b2 q0 q1 q2 q3 q4 q5 q6 q7 q8
      simp only [Row.list]
      go_wp2_with (at_builtin; refine push2 (wr := wr) local_Row rfl _ _ 46 rfl i0 _ 88 Try.underlying46 HI.out.1 HI.out.2.1 HI.out.2.2.1 HI.out.2.2.2 rfl (by decide) rfl HG.out (B2.out.alloc B2.out.size _) W2.heap.size 1 rfl (Row.list x h2) rfl row_one (fun q u hq => ((blk_new W2 120 (Row.list x h2)).cell q).trans hq) x f2 ⟨h2, rfl, I2.out.below ((Below.refl _ _).alloc (Nat.le_refl _) _)⟩ (O2.out.below ((Below.refl _ _).alloc (Nat.le_refl _) _)) (by rw [JL.out]; omega) (by rw [JL.out]; unfold maxLen; omega) HB.out.size ?_; intro v' W3 hG3 hb3 _ _; have HG3 := Lib.hid hG3; have HB3 := Lib.hid (HB.out.trans (((B2.out.mono HB.out.size).alloc (Nat.le_trans HB.out.size B2.out.size) _).trans hb3)); clear hG3 hb3)
      go_roundg (n - (j + 1))
      case measure => omega
      case rel => exact ⟨j + 1, by omega, by go_num, HB3.out, by rw [XS.out]; exact HG3.out⟩
    · have hall : l.take j = l := List.take_of_length_le (by rw [L0.out]; omega)
      rw [hall] at hG
      have HG2 := Lib.hid hG
      clear hB hG HG hall
      go_wp2_with fail
      go_step3
      go_wp2_with fail
      go_loopg [5, 31] n' (fun k v i wo => ∃ j : Nat, j + k = n' ∧ i = .int .i64 j ∧ Below w.heap.size w wo ∧ Grows 9 RRow 120 w.heap.size wo v (upsertD l (l'.take j)))
      case atStart => exact ⟨0, by omega, rfl, HB.out, HG2.out⟩
      case round =>
        obtain ⟨j, hj, rfl, hB, hG⟩ := hrel
        rename_i v5 v31 w_old
        clear HB HG2
        have HB := Lib.hid hB
        have HG := Lib.hid hG
        by_cases hlt : j < n'
        case neg =>
          have hall : l'.take j = l' := List.take_of_length_le (by rw [L1.out]; omega)
          rw [hall] at hG
          obtain ⟨a2, c2, f2, hv2, hg2, h1, h2, ho⟩ := hG.done
          have HD := Lib.hid (And.intro hg2 (And.intro h1 (And.intro h2 ho)))
          subst hv2
          clear hB hG HG hall hg2 h1 h2 ho
          go_wp2_with fail
          try rw [Exit.noGoto_ret]
          go_ret
          exact ⟨a2, _, c2, f2, rfl, HD.out.1, HD.out.2.1, HD.out.2.2.1, HD.out.2.2.2, HB.out⟩
        obtain ⟨b, off, r, fr, cs, rfl, hbl, hr, hcl, hRr, hcs⟩ := R1.out.at hlt
        obtain ⟨hr', rfl, hIr⟩ := hRr
        obtain ⟨q0, q1, q2, q3, q4, q5, q6, q7, q8⟩ := row_cell9 (fun i hi => (hB.cell (p := ⟨b, off + j * 9 + i, none⟩) hbl).trans (hcs i hi))
        have hlt2 : (j : Int) < (n' : Int) := by omega
        have h02 : (0 : Int) ≤ (j : Int) := by omega
        have SZ := Lib.hid (sz_elemR hr Z1.out)
        have HNX := Lib.hid (upsert_take (rows := l) hr)
        have ZL := Lib.hid (ZZ.out j)
        obtain ⟨va, vc, hv⟩ := HG.out.slice
        obtain ⟨lst, hlst⟩ : ∃ lst, upsertD l (l'.take j) = lst := ⟨_, rfl⟩
        rw [hlst] at hv HG HNX ZL
        obtain ⟨m, hm⟩ : ∃ m, lst.length = m := ⟨_, rfl⟩
        rw [hm] at hv
        subst hv
        have HM := Lib.hid hm
        have hm2 : m ≤ 2000000 := by have := ZL.out; unfold szL at this; omega
        have IR := Lib.hid hIr
        have hcop := fun W hW => copied_ r hr' fr W hW SZ.out
        have hcmp := fun (x : RowD) (h : RowH) (f : List Nat) (W : World) (hx : Row.Is W x h f) (hW : Row.Is W r hr' fr) (zx : Row.sz x ≤ 2000000) => rowCmp_ x h f r hr' fr W hx hW zx SZ.out
        simp only [Row.list] at hcop
        have HC := Lib.hid hcop
        have HCMP := Lib.hid hcmp
        clear hB hG hcs hcl hr hIr hcop hcmp hlst hm
        go_wp2_with fail
        obtain ⟨wo, rfl⟩ : ∃ wo, wo = wr := ⟨_, rfl⟩
        have hwo := HB.out.size
        go_loopg [10, 39] m (fun k pv iv w2 => ∃ i p : Nat, i + k = m ∧ iv = .int .i64 (i : Int) ∧ pv = .int .i64 (p : Int) ∧ UpsTo lst r i p ∧ Below wo.heap.size wo w2 ∧ Blk w2 wo.heap.size 120 [.int .i64 r.win, .int .i64 r.mask, .int .i64 r.start, .slice hr'.keya hr'.keyl hr'.keyc, .int .i64 r.a.n, .int .i64 r.a.sm, .int .i64 r.a.mn, .int .i64 r.a.mx, .int .i64 r.times])
        case atStart => exact ⟨0, m, by omega, rfl, rfl, by have := UpsTo.start lst r; rw [HM.out] at this; exact this, by repeat (first | exact Below.refl _ _ | refine Below.setCell ?_ (by first | omega | (simp; done) | (simp; omega)) _ | refine Below.alloc ?_ (by first | omega | (simp; done) | (simp; omega)) _ | apply Below.drew), by with_reducible (repeat (first | (refine blk_new_at _ _ _ _ ?_; first | rfl | (simp; done)) | refine Blk.alloc ?_ _ | apply Blk.drew | refine Blk.setOther ?_ (by first | (simp; done) | (simp; omega)) _))⟩
        case round =>
          obtain ⟨i, p, hi, rfl, rfl, hU, hB2, hK2⟩ := hrel
          obtain ⟨w2, rfl⟩ : ∃ w2, w2 = wr := ⟨_, rfl⟩
          clear q0 q1 q2 q3 q4 q5 q6 q7 q8
          have HU := Lib.hid hU
          have HB2 := Lib.hid hB2
          have HK2 := Lib.hid hK2
          have hk2l := hK2.lt
          obtain ⟨k0, k1, k2, k3, k4, k5, k6, k7, k8⟩ := row_blk hK2
          have hw2 := hB2.size
          have hpm : p ≤ m := by have := hU.2.1; rw [HM.out] at this; exact this
          by_cases hlt3 : i < m
          case neg =>
            obtain rfl : i = m := by omega
            have hd := HU.out
            rw [← HM.out] at hd
            have HD := Lib.hid hd.done
            clear hU hB2 hK2 hd
            go_wp2_with fail
            refine (HC.out w2 (IR.out.below (HB.out.trans (HB2.out.mono hwo)))).mono ?_
            rintro e W4 ⟨h4, f4, rfl, i4, o4, b4⟩
            have I4 := Lib.hid i4
            have O4 := Lib.hid (o4.mono hw2)
            have B4 := Lib.hid (HB2.out.trans (b4.mono hw2))
            clear i4 o4 b4 k0 k1 k2 k3 k4 k5 k6 k7 k8
            simp only [Row.list]
            go_wp2_with fail
            refine calls_gen (fun W => Below W4.heap.size W4 W ∧ Blk W W4.heap.size 120 (Row.list r h4)) ⟨by repeat (first | exact Below.refl _ _ | refine Below.setCell ?_ (by first | omega | (simp; done) | (simp; omega)) _ | refine Below.alloc ?_ (by first | omega | (simp; done) | (simp; omega)) _ | apply Below.drew), by unfold Row.list; with_reducible (repeat (first | (refine blk_new_at _ _ _ _ ?_; first | rfl | (simp; done)) | refine Blk.alloc ?_ _ | apply Blk.drew | refine Blk.setOther ?_ (by first | (simp; done) | (simp; omega)) _))⟩ ?_
            rintro W5 ⟨b5, k5⟩
            refine (insertRow w.heap.size (.slice va i vc) lst p r h4 f4 W4.heap.size wo W5 HG.out (B4.out.trans (b5.mono B4.out.size)) (by rw [HM.out]; exact hpm) (by rw [HM.out]; omega) k5 (I4.out.below b5) (O4.out.below b5) B4.out.size hwo).mono ?_
            rintro e W6 ⟨v6, rfl, g6, b6, _⟩
            have HG6 := Lib.hid g6
            have HB6 := Lib.hid ((HB.out.trans ((B4.out.trans (b5.mono B4.out.size)).mono hwo)).trans b6)
            clear g6 b6 b5 k5
            go_wp2_with fail
            go_roundg (n' - (j + 1))
            case measure => omega
            case rel => exact ⟨j + 1, by omega, by go_num, HB6.out, by rw [HNX.out, HD.out]; exact HG6.out⟩
          obtain ⟨bl, cl, x, h, fx, hvx, hbx, hx, hIx, hcx⟩ := growRow_at HG.out hB2 (by rw [HM.out]; exact hlt3)
          rw [HM.out] at hvx
          simp only [Value.slice.injEq] at hvx
          obtain ⟨rfl, -, rfl⟩ := hvx
          obtain ⟨q0, q1, q2, q3, q4, q5, q6, q7, q8⟩ := row_cell9 hcx
          have hi2 : (i : Int) < (m : Int) := by omega
          have hi0 : (0 : Int) ≤ (i : Int) := by omega
          have HX := Lib.hid hx
          have IX := Lib.hid hIx
          have SX := Lib.hid (sz_elemR hx ZL.out)
          clear hU hB2 hK2 hx hIx hcx
          go_wp2_with fail
          refine calls_gen (fun W => Below w2.heap.size w2 W) (by repeat (first | exact Below.refl _ _ | refine Below.setCell ?_ (by first | omega | (simp; done) | (simp; omega)) _ | refine Below.alloc ?_ (by first | omega | (simp; done) | (simp; omega)) _ | apply Below.drew)) ?_
          intro W3 b3
          have hcm := HCMP.out x h fx W3 (IX.out.below b3) (IR.out.below ((HB.out.trans (HB2.out.mono hwo)).trans (b3.mono (Nat.le_trans hwo hw2)))) SX.out
          obtain ⟨cv, hcv⟩ : ∃ cv, paneC x.pane r.pane = cv := ⟨_, rfl⟩
          rw [hcv] at hcm
          have HCV := Lib.hid hcv
          refine hcm.mono ?_
          clear hcm hcv
          rintro e W4 ⟨rfl, b4⟩
          have c4 := b3.trans (b4.mono b3.size)
          have C4 := Lib.hid (HB2.out.trans (c4.mono hw2))
          have K4 := Lib.hid (HK2.out.below c4 hk2l)
          clear b3 b4 q0 q1 q2 q3 q4 q5 q6 q7 q8 k0 k1 k2 k3 k4 k5 k6 k7 k8
          obtain ⟨k0, k1, k2, k3, k4, k5, k6, k7, k8⟩ := row_blk K4.out
          have hw4 := C4.out.size
          by_cases hz : cv = 0
          · subst hz
            have HF := Lib.hid (HU.out.found HX.out (by unfold upsAt; simpa using HCV.out))
            clear c4
            go_wp2_with fail
            refine (HC.out W4 (IR.out.below (HB.out.trans (C4.out.mono hwo)))).mono ?_
            rintro e W5 ⟨h5, f5, rfl, i5, o5, b5⟩
            have C5 := Lib.hid (C4.out.trans (b5.mono hw4))
            obtain ⟨b0, c0, u0, u1, u2, u3, u4, u5, u6, u7, u8, hv0, hb0, hb1, hu, hfz, hgs, hbs⟩ := growRow_set (j := i) (y := r) (h := h5) (f := f5) HG.out C5.out (by rw [HM.out]; exact hlt3) i5 (o5.mono hw4)
            simp only [Value.slice.injEq, Option.some.injEq, Addr.mk.injEq] at hv0
            obtain ⟨⟨rfl, -, -⟩, -, -⟩ := hv0
            obtain ⟨z0, z1, z2, z3, z4, z5, z6, z7, z8⟩ := hu
            have HGS := Lib.hid hgs
            have HBS := Lib.hid ((HB.out.trans (C5.out.mono hwo)).trans hbs)
            clear i5 o5 b5 hgs hbs hb0 k0 k1 k2 k3 k4 k5 k6 k7 k8
            simp only [Row.list]
            simp only [Row.list, World.setCells] at HGS HBS
            go_wp2_with fail
            go_roundg (n' - (j + 1))
            case measure => omega
            case rel => exact ⟨j + 1, by omega, by go_num, HBS.out, by rw [HNX.out, HF.out]; exact HGS.out⟩
          · have hz' : (cv == 0) = false := by simpa using hz
            by_cases hg : 0 < cv
            · have HN := Lib.hid (HU.out.gt HX.out (by rw [HCV.out]; exact hg))
              have hmin : min (p : Int) (i : Int) = ((min p i : Nat) : Int) := by omega
              clear hz
              go_wp2_with fail
              go_roundg (m - (i + 1))
              case measure => omega
              case rel => exact ⟨i + 1, min p i, by omega, by go_num, by first | rfl | go_num | (congr 1), HN.out, C4.out, K4.out⟩
            · have HN := Lib.hid (HU.out.lt HX.out (by rw [HCV.out]; omega))
              clear hz
              go_wp2_with fail
              go_roundg (m - (i + 1))
              case measure => omega
              case rel => exact ⟨i + 1, p, by omega, by go_num, rfl, HN.out, C4.out, K4.out⟩
end Go.Proofs.Ytoglclmaacjdaaa.dat

/-
  ROWS WHOSE KEYS LIE ELSEWHERE, a list of the call's own; l06CopyRows of the model.
-/
namespace Go.Proofs.Ytoglclmaacjdaaa.dat
open Go.RowKit Go.Proofs.Ytoglclmaacjdaaa.win

/-- Rows of whose cells S is said. -/
def RSR (S : RowD → RowH → Prop) : Rel RowD := fun _ cs x f => ∃ h, cs = Row.list x h ∧ S x h ∧ f = []
theorem local_rsr (S : RowD → RowH → Prop) : Local (RSR S) := ⟨fun h _ => h, fun ⟨_, _, _, e⟩ b hb => by rw [e] at hb; simp at hb⟩
theorem rsr_f {S : RowD → RowH → Prop} {w : World} {c : List Value} {x : RowD} {f : List Nat} (h : RSR S w c x f) : f = [] := h.choose_spec.2.2
theorem rsr_ind {S : RowD → RowH → Prop} {w w' : World} {c : List Value} {x : RowD} {f : List Nat} (h : RSR S w c x f) : RSR S w' c x f := h
theorem rsr_one {S : RowD → RowH → Prop} {w : World} {c : List Value} {x : RowD} {f : List Nat} (h : RSR S w c x f) : ∀ u ∈ c, u.oneCell' = true := by
  obtain ⟨hh, rfl, _⟩ := h
  exact row_one
/-- A key that may be read and lies not in the list's own block. -/
def KeyIn (w : World) (o : Option Nat) (x : RowD) (h : RowH) : Prop := ∃ g, Row.Is w x h g ∧ ∀ b ∈ g, o ≠ some b
theorem KeyIn.below {w w' : World} {o : Option Nat} {x : RowD} {h : RowH} (k : KeyIn w o x h) (hb : Below w.heap.size w w') : KeyIn w' o x h := by
  obtain ⟨g, hg, hn⟩ := k
  exact ⟨g, hg.below hb, hn⟩
theorem KeyIn.young {w w' : World} {o o' : Option Nat} {x : RowD} {h : RowH} (k : KeyIn w o x h) (hb : Below w.heap.size w w') (hy : ∀ b, o' = some b → w.heap.size ≤ b) : KeyIn w' o' x h := by
  obtain ⟨g, hg, _⟩ := k
  exact ⟨g, hg.below hb, fun b hbm e => by have := hy b e; have := hg.lt b hbm; omega⟩
theorem Grows.turn {S S' : RowD → RowH → Prop} {e : TypeId} {base : Nat} {w : World} {v : Value} {l : List RowD} (h : Grows 9 (RSR S) e base w v l) (hS : ∀ x h, S x h → S' x h) : Grows 9 (RSR S') e base w v l := by
  obtain ⟨css, F, h1, h2, h3, h4, h5, h6, ho⟩ := h.ex
  exact ⟨css, F, h1, h2, h3, fun i x c f hx hc hf => by obtain ⟨hh, e, hs, hn⟩ := h4 i x c f hx hc hf; exact ⟨hh, e, hS x hh hs, hn⟩, h5, h6, ho⟩
theorem rsr_row {S : RowD → RowH → Prop} {w : World} {a : Option Addr} {len : Nat} {l : List RowD} {fp : List Nat} (h : GRow 9 (RSR S) w a len l fp) (hS : ∀ x h, S x h → ∃ g, Row.Is w x h g) : ∃ fp', GRow 9 RRow w a len l fp' :=
  h.conv fun _ x _ ⟨hh, e, hs, _⟩ => by obtain ⟨g, hg⟩ := hS x hh hs; exact ⟨g, hh, e, hg⟩
theorem growRow_keys {e : TypeId} {base : Nat} {w : World} {v : Value} {l : List RowD} (h : Grows 9 RRow e base w v l) : Grows 9 (RSR (KeyIn w v.ownBlock)) e base w v l := by
  obtain ⟨css, F, h1, h2, h3, h4, h5, h6, ho⟩ := h.ex
  have hfl : (List.replicate l.length ([] : List Nat)).flatten = [] := by simp
  refine ⟨css, List.replicate l.length [], h1, by simp, h3, fun i x c f hx hc hf => ?_, by rw [hfl]; simp, by rw [hfl]; simp, ho⟩
  obtain rfl : f = [] := (List.mem_replicate.1 (List.mem_of_getElem? hf)).2
  have hi : i < F.length := by rw [h2]; exact (List.getElem?_eq_some_iff.1 hx).1
  have hF : F[i]? = some F[i] := List.getElem?_eq_getElem hi
  obtain ⟨hh, e, his⟩ := h4 i x c F[i] hx hc hF
  exact ⟨hh, e, ⟨F[i], his, fun b hb => (h6 b (mem_flatten_of hF hb)).2.2⟩, rfl⟩
/-- One row written over. -/
theorem growS_set {S : RowD → RowH → Prop} {base : Nat} {wr w : World} {v : Value} {l : List RowD} {j : Nat} {y : RowD} {h : RowH} (hG : Grows 9 (RSR S) 120 base wr v l) (hb : Below wr.heap.size wr w) (hj : j < l.length) (hy : S y h) :
    ∃ (b c : Nat) (u0 u1 u2 u3 u4 u5 u6 u7 u8 : Value), v = .slice (some ⟨b, 0, none⟩) l.length c ∧ base ≤ b ∧ b < wr.heap.size ∧
      (w.cell? ⟨b, j * 9, none⟩ = some u0 ∧ w.cell? ⟨b, j * 9 + 1, none⟩ = some u1 ∧ w.cell? ⟨b, j * 9 + 2, none⟩ = some u2 ∧ w.cell? ⟨b, j * 9 + 3, none⟩ = some u3 ∧ w.cell? ⟨b, j * 9 + 4, none⟩ = some u4 ∧ w.cell? ⟨b, j * 9 + 5, none⟩ = some u5 ∧ w.cell? ⟨b, j * 9 + 6, none⟩ = some u6 ∧ w.cell? ⟨b, j * 9 + 7, none⟩ = some u7 ∧ w.cell? ⟨b, j * 9 + 8, none⟩ = some u8) ∧ (∀ o, w.frozen? ⟨b, o, none⟩ = false) ∧
      Grows 9 (RSR S) 120 base (w.setCells b (j * 9) (Row.list y h)) v (l.set j y) ∧ Apart [b] w (w.setCells b (j * 9) (Row.list y h)) := by
  obtain ⟨css, F, e1, e2, e3, e4, e5, e6, hown⟩ := hG.ex
  rcases hown.2 with ⟨rfl, h0⟩ | ⟨g0, cap, cur, rfl, hbg, hh, hnc, hcm, hsz, htk⟩
  · omega
  obtain ⟨L, hL⟩ : ∃ L, cur = L.toArray := ⟨cur.toList, rfl⟩
  subst hL
  have hLl : L.length = cap * 9 := by simpa using hsz
  have hg0 : g0 < wr.heap.size := (Array.getElem?_eq_some_iff.1 hh).1
  have hbk : Blk w g0 120 L := (hb.block g0 hg0).trans hh
  have hcell : ∀ i, i < 9 → ∃ u, w.cell? ⟨g0, j * 9 + i, none⟩ = some u := fun i hi => ⟨_, (hbk.cell (j * 9 + i)).trans (List.getElem?_eq_getElem (by omega))⟩
  obtain ⟨u0, c0⟩ := hcell 0 (by omega)
  obtain ⟨u1, c1⟩ := hcell 1 (by omega)
  obtain ⟨u2, c2⟩ := hcell 2 (by omega)
  obtain ⟨u3, c3⟩ := hcell 3 (by omega)
  obtain ⟨u4, c4⟩ := hcell 4 (by omega)
  obtain ⟨u5, c5⟩ := hcell 5 (by omega)
  obtain ⟨u6, c6⟩ := hcell 6 (by omega)
  obtain ⟨u7, c7⟩ := hcell 7 (by omega)
  obtain ⟨u8, c8⟩ := hcell 8 (by omega)
  have hk' : Blk (w.setCells g0 (j * 9) (Row.list y h)) g0 120 (putAt L (j * 9) (Row.list y h)) := blk_setCells _ _ hbk (by simp [Row.list]; omega)
  have hfl : (List.replicate (l.set j y).length ([] : List Nat)).flatten = [] := by simp
  refine ⟨g0, cap, u0, u1, u2, u3, u4, u5, u6, u7, u8, rfl, hbg, hg0, ⟨by simpa using c0, c1, c2, c3, c4, c5, c6, c7, c8⟩, fun o => hbk.frozen o, ⟨css.set j (Row.list y h), List.replicate (l.set j y).length [], by simp [e1], by simp, ?_, ?_, by rw [hfl]; simp, by rw [hfl]; simp, ?_⟩, apart_setCells (by simp) _ _ (Apart.refl _ _)⟩
  · intro c hc
    rcases List.mem_or_eq_of_mem_set hc with hc | rfl
    · exact e3 c hc
    · rfl
  · intro i x c q hx hc hq
    obtain rfl : q = [] := (List.mem_replicate.1 (List.mem_of_getElem? hq)).2
    by_cases hi : i = j
    · subst hi
      rw [List.getElem?_set_self hj] at hx
      rw [List.getElem?_set_self (by omega)] at hc
      cases hx; cases hc
      exact ⟨h, rfl, hy, rfl⟩
    · rw [List.getElem?_set_ne (Ne.symm hi)] at hx hc
      have hil : i < F.length := by rw [e2]; exact (List.getElem?_eq_some_iff.1 hx).1
      have hF : F[i]? = some F[i] := List.getElem?_eq_getElem hil
      obtain ⟨hh, he, hs, _⟩ := e4 i x c F[i] hx hc hF
      exact ⟨hh, he, hs, rfl⟩
  · have hcl : css.flatten.length = l.length * 9 := by rw [flat_len e3, e1]
    have hfs := flat_setAt e3 (d := Row.list y h) rfl (m := j) (by omega)
    have htl : (css.set j (Row.list y h)).flatten.length = (l.set j y).length * 9 := by
      rw [hfs, putAt_len _ _ _ (by rw [hcl]; show j * 9 + 9 ≤ _; omega), hcl, List.length_set]
    refine ⟨htl, .inr ⟨g0, cap, (putAt L (j * 9) (Row.list y h)).toArray, by rw [List.length_set], hbg, hk', by rw [List.length_set]; exact hnc, hcm, ?_, ?_⟩⟩
    · rw [List.size_toArray, putAt_len _ _ _ (by show j * 9 + 9 ≤ _; omega), hLl]
    · rw [hfs, List.length_set, ← htk]
      exact take_putAt_in L (j * 9) (l.length * 9) (Row.list y h) (by show j * 9 + 9 ≤ _; omega) (by omega)

/-- A walk that halts at an append; its world under a letter. -/
def HaltU (p : Prop) : Prop := p
theorem halt_u {P : Program} {ops : Array Oper} {rest : List Oper} {o : Oper} {a : Act} {w : World} {Q : Exit → Act → World → Prop} (s x : Operand) (t t' : TypeId) (_ : o.op = .call { callee := .builtin .append, args := #[s, x], argTypes := #[t, t'] }) (h : HaltU (wpList P ops Q (o :: rest) a w)) : wpList P ops Q (o :: rest) a w := h
theorem wpl_gen {P : Program} {ops : Array Oper} {l : List Oper} {a : Act} {w : World} {Q : Exit → Act → World → Prop} (G : World → Prop) (hG : G w) (h : ∀ W, G W → wpList P ops Q l a W) : wpList P ops Q l a w := h w hG
theorem made_rows (R : Rel RowD) (W : World) : Grows 9 R 120 W.heap.size (W.alloc (.cells #[] 120)) (.slice (some ⟨W.heap.size, 0, none⟩) 0 0) ([] : List RowD) :=
  Grows.made (k := 9) (R := R) (e := 120) (base := W.heap.size) (w := W) #[] 0 (Nat.le_refl _) (Nat.zero_le _) (by simp)

set_option maxRecDepth 100000 in
set_option maxHeartbeats 4000000 in
theorem l06CopyRows_ (a : Option Addr) (n c : Nat) (l : List RowD) (fp : List Nat) (w : World) (hrow : GRow 9 RRow w a n l fp) (hz : szL Row.sz l ≤ 2000000) :
    Calls Try.prog 84 #[.slice a n c] w fun e w' => ∃ v, e = .returned v ∧ Grows 9 RRow 120 w.heap.size w' v l ∧ Below w.heap.size w w' := by
  have hn : n ≤ 2000000 := by rw [← hrow.1]; unfold szL at hz; omega
  have R0 := Lib.hid hrow
  have L0 := Lib.hid hrow.1
  have Z0 := Lib.hid hz
  clear hrow hz
  obtain ⟨i0, hi, hz0, hz1, hz2⟩ := row_info
  have HI := Lib.hid (And.intro hi (And.intro hz0 (And.intro hz1 hz2)))
  obtain ⟨ii, hii, hi0, hi1, hi2⟩ := info_ints_
  have HII := Lib.hid (And.intro hii (And.intro hi0 (And.intro hi1 hi2)))
  clear hi hz0 hz1 hz2 hii hi0 hi1 hi2
  go_enter Try.func84, Try.ntmps84
  go_wp2_with fail
  go_loopg [3, 4] n (fun k v i wr => ∃ j : Nat, j + k = n ∧ i = .int .i64 j ∧ Below w.heap.size w wr ∧ Grows 9 RRow 120 w.heap.size wr v (l.take j))
  case atStart => exact ⟨0, by omega, rfl, by repeat (first | exact Below.refl _ _ | refine Below.setCell ?_ (by first | omega | (simp; done) | (simp; omega)) _ | refine Below.alloc ?_ (by first | omega | (simp; done) | (simp; omega)) _ | apply Below.drew), made_rows RRow w⟩
  case round =>
    obtain ⟨j, hj, rfl, hB, hG⟩ := hrel
    have HB := Lib.hid hB
    have HG := Lib.hid hG
    by_cases hlt : j < n
    case neg =>
      have hall : l.take j = l := List.take_of_length_le (by rw [L0.out]; omega)
      rw [hall] at hG
      have HD := Lib.hid hG
      clear hB hG hall
      go_wp2_with fail
      go_ret
      exact ⟨_, rfl, HD.out, HB.out⟩
    obtain ⟨b, off, x, f, cs, rfl, hbl, hx, hcl, hRx, hcs⟩ := R0.out.at hlt
    obtain ⟨h, rfl, hIs⟩ := hRx
    obtain ⟨q0, q1, q2, q3, q4, q5, q6, q7, q8⟩ := row_cell9 (fun i hi => (hB.cell (p := ⟨b, off + j * 9 + i, none⟩) hbl).trans (hcs i hi))
    have hlt2 : (j : Int) < (n : Int) := by omega
    have h02 : (0 : Int) ≤ (j : Int) := by omega
    have hXS : l.take (j + 1) = l.take j ++ [x] := by rw [List.take_add_one, hx]; rfl
    have XS := Lib.hid hXS
    have hjl : (l.take j).length = j := by rw [List.length_take, L0.out]; omega
    have JL := Lib.hid hjl
    have hsx : Row.sz x ≤ 2000000 := sz_elemR hx Z0.out
    obtain ⟨f0, rfl, r0, u0, v0⟩ := hIs
    have hkl : h.keyl ≤ 2000000 := by rw [← r0.1]; exact hsx
    have HQ := Lib.hid r0
    have HQL := Lib.hid r0.1
    have hww := HB.out.size
    have HG0 := Lib.hid (show Grows 1 RInt 3 (wr.heap.size + 1) ((wr.alloc (.cells #[.int .i64 x.win, .int .i64 x.mask, .int .i64 x.start, .slice h.keya h.keyl h.keyc, .int .i64 x.a.n, .int .i64 x.a.sm, .int .i64 x.a.mn, .int .i64 x.a.mx, .int .i64 x.times] 120)).alloc (.cells #[] 3)) (.slice (some ⟨wr.heap.size + 1, 0, none⟩) 0 0) ([] : List Int) by
      have := made_ints (wr.alloc (.cells #[.int .i64 x.win, .int .i64 x.mask, .int .i64 x.start, .slice h.keya h.keyl h.keyc, .int .i64 x.a.n, .int .i64 x.a.sm, .int .i64 x.a.mn, .int .i64 x.a.mx, .int .i64 x.times] 120))
      simpa using this)
    clear hB hG hcs hcl hx hXS hjl hsx r0 u0 v0
    go_wp2_with (first
      | (at_builtin; refine pushAny (R := RInt) (k := 1) (l := []) (l2 := x.key) (by decide) local_int (fun h => h.2) (fun h => h) int_one rfl (.tmp 17) (.tmp 19) 29 rfl ii (.int .i64 0) 8 Try.underlying29 HII.out.1 HII.out.2.1 HII.out.2.2.1 HII.out.2.2.2 rfl rfl HG0.out (Below.refl _ _) h.keya h.keyl h.keyc f rfl (HQ.out.below local_int ((HB.out.alloc hww _).alloc (by simp; omega) _)) (by simp; omega) (by simp; unfold maxLen; omega) (by simp) ?_; intro v1 w1 hG1 hb1 hk1; obtain ⟨ka, kc, hv1⟩ := hG1.slice; rw [List.nil_append, HQL.out] at hv1; rw [List.nil_append] at hG1; subst hv1; have hK1 : Blk w1 wr.heap.size 120 [.int .i64 x.win, .int .i64 x.mask, .int .i64 x.start, .slice h.keya h.keyl h.keyc, .int .i64 x.a.n, .int .i64 x.a.sm, .int .i64 x.a.mn, .int .i64 x.a.mx, .int .i64 x.times] := Blk.below (by with_reducible (repeat (first | (refine blk_new_at _ _ _ _ ?_; first | rfl | (simp; done)) | refine Blk.alloc ?_ _ | apply Blk.drew | refine Blk.setOther ?_ (by first | (simp; done) | (simp; omega)) _))) hb1 (by omega); have f3 := hK1.frozen 3; obtain ⟨k0, k1, k2, k3, k4, k5, k6, k7, k8⟩ := row_blk hK1; have KB1 := Lib.hid hK1; have KG1 := Lib.hid hG1; have BB1 := Lib.hid hb1; clear hK1 hG1 hb1 hk1)
      | (at_builtin; refine halt_u (.tmp 22) (.tmp 24) _ _ rfl ?_))
    unfold HaltU
    obtain ⟨fk, hkd⟩ : ∃ fk, GRow 1 RInt w1 ka h.keyl x.key fk ∧ h.keyl ≤ kc ∧ kc ≤ 9223372036854775807 ∧ Own (wr.heap.size + 1) w1 fk := by
      obtain ⟨a', c', fk, hv, hg, h1, h2, ho⟩ := KG1.out.done
      rw [HQL.out] at hv hg h1
      cases hv
      exact ⟨fk, hg, h1, h2, ho⟩
    have hb1s : wr.heap.size + 1 + 1 ≤ w1.heap.size := by have := BB1.out.size; simpa using this
    have hX3 : Below wr.heap.size wr (w1.setCell ⟨wr.heap.size, 3, none⟩ (.slice ka h.keyl kc)) := ((((Below.refl wr.heap.size wr).alloc (Nat.le_refl _) _).alloc (by simp) _).trans (BB1.out.mono (by omega))).setCell (p := ⟨wr.heap.size, 3, none⟩) (Nat.le_refl _) _
    have hX4 := hkd.1.set local_int (hkd.2.2.2.ne (show wr.heap.size < wr.heap.size + 1 by omega)) 3 (.slice ka h.keyl kc)
    have hX5 := hkd.2.2.2.set wr.heap.size 3 (.slice ka h.keyl kc)
    refine wpl_gen (fun W => Below wr.heap.size wr W ∧ Blk W w1.heap.size 120 (Row.list x ⟨ka, h.keyl, kc⟩) ∧ GRow 1 RInt W ka h.keyl x.key fk ∧ Own (wr.heap.size + 1) W fk) ⟨?_, ?_, ?_, ?_⟩ ?_
    · exact hX3.alloc (by simp; omega) _
    · unfold Row.list; with_reducible (repeat (first | (refine blk_new_at _ _ _ _ ?_; first | rfl | (simp; done)) | refine Blk.alloc ?_ _ | apply Blk.drew | refine Blk.setOther ?_ (by first | (simp; done) | (simp; omega)) _))
    · exact hX4.below local_int ((Below.refl _ _).alloc (Nat.le_refl _) _)
    · exact hX5.below ((Below.refl _ _).alloc (Nat.le_refl _) _)
    rintro W ⟨bW, kW, gW, oW⟩
    refine push2 (wr := wr) local_Row rfl (.tmp 22) (.tmp 24) 46 rfl i0 _ 88 Try.underlying46 HI.out.1 HI.out.2.1 HI.out.2.2.1 HI.out.2.2.2 rfl (by decide) rfl HG.out bW w1.heap.size 1 (by first | rfl | simp [Act.eval]) (Row.list x ⟨ka, h.keyl, kc⟩) rfl row_one (fun q u hq => (kW.cell q).trans hq) x fk ⟨⟨ka, h.keyl, kc⟩, rfl, ⟨fk, rfl, gW, hkd.2.1, hkd.2.2.1⟩⟩ (oW.mono (by omega)) (by rw [JL.out]; omega) (by rw [JL.out]; unfold maxLen; omega) hww ?_
    intro v' W3 hG3 hb3 _ _
    have HG3 := Lib.hid hG3
    have HB3 := Lib.hid ((HB.out.trans (bW.mono hww)).trans hb3)
    clear hG3 hb3 bW kW gW oW f3 k0 k1 k2 k3 k4 k5 k6 k7 k8 q0 q1 q2 q3 q4 q5 q6 q7 q8 hX3 hX4 hX5 hkd
    go_wp2_with fail
    go_roundg (n - (j + 1))
    case measure => omega
    case rel => exact ⟨j + 1, by omega, by go_num, HB3.out, by rw [XS.out]; exact HG3.out⟩
end Go.Proofs.Ytoglclmaacjdaaa.dat

/-
  THE CONTRACT OF PaneAt of the model, at any numbers.
-/
namespace Go.Proofs.Ytoglclmaacjdaaa.dat
open Go.RowKit Go.Proofs.Ytoglclmaacjdaaa.win

set_option maxRecDepth 100000 in
set_option maxHeartbeats 4000000 in
theorem spec_PaneAtF (a : Option Addr) (len cap : Nat) (l : List PaneD) (fp : List Nat) (win mask start : Int) (a' : Option Addr) (n c : Nat) (key : List Int) (fk : List Nat) (w : World) (hrow : GRow 8 RPane w a len l fp) (_ : len ≤ cap) (_ : cap ≤ 9223372036854775807)
    (hkey : GRow 1 RInt w a' n key fk) (_ : n ≤ c) (_ : c ≤ 9223372036854775807) (zl : szL Pane.sz l ≤ 2000000) (zk : key.length ≤ 2000000) :
    Calls Try.prog 85 #[.slice a len cap, .int .i64 win, .int .i64 mask, .int .i64 start, .slice a' n c] w fun e w' => e = .returned (.int .i64 (placeOf (fourB win mask start key) l)) ∧ Below w.heap.size w w' := by
  have hsz : l.length ≤ 2000000 := by unfold szL at zl; omega
  have hlm : len ≤ 2000000 := by rw [← hrow.1]; exact hsz
  have hnm : Hid (n ≤ 2000000) := by show n ≤ 2000000; rw [← hkey.1]; exact zk
  have HC := Lib.hid hrow
  have HK := Lib.hid hkey
  have HM := Lib.hid zl
  clear hrow hkey zl zk hsz
  go_enter Try.func85, Try.ntmps85
  go_wp2_with fail
  go_loopg [11] len (fun r i wr => ∃ j : Nat, j + r = len ∧ i = .int .i64 j ∧ Below w.heap.size w wr ∧ ∀ i y', i < j → l[i]? = some y' → fourB win mask start key y' = false)
  case atStart => exact ⟨0, by omega, rfl, Below.refl _ _, fun i _ hi => by omega⟩
  case round =>
    obtain ⟨j, hj, rfl, hb, hno⟩ := hrel
    have HB := Lib.hid hb
    have HN := Lib.hid hno
    clear hno
    by_cases hlt : j < len
    case neg =>
      clear hb
      obtain rfl : j = len := by omega
      go_wp2_with fail
      go_ret
      exact ⟨ret_int (place_none HN.out HC.out.1).symm, HB.out⟩
    have hlt2 : (j : Int) < (len : Int) := by omega
    have h02 : (0 : Int) ≤ (j : Int) := by omega
    obtain ⟨b, off, x, f, cs, rfl, hbl, hx, hcl, hR, hc⟩ := HC.out.at hlt
    obtain ⟨h, rfl, hi⟩ := hR
    have c0 := (hb.cell (p := ⟨b, off + j * 8 + 0, none⟩) hbl).trans (hc 0 (by omega))
    have c1 := (hb.cell (p := ⟨b, off + j * 8 + 1, none⟩) hbl).trans (hc 1 (by omega))
    have c2 := (hb.cell (p := ⟨b, off + j * 8 + 2, none⟩) hbl).trans (hc 2 (by omega))
    have c3 := (hb.cell (p := ⟨b, off + j * 8 + 3, none⟩) hbl).trans (hc 3 (by omega))
    simp [Pane.list] at c0 c1 c2 c3
    have HI := Lib.hid (hi.below hb)
    have HX := Lib.hid hx
    have HZ := Lib.hid (show Pane.sz x ≤ 2000000 by have := sz_elem_le Pane.sz l HX.out; have := HM.out; unfold szL at this; omega)
    clear hb hc hx hi
    cases p1 : (x.win == win) with
    | false =>
      have HP := Lib.hid (no_succ (m := fourB win mask start key) HN.out HX.out (by unfold fourB; rw [p1]; rfl))
      go_wp2_with fail
      go_roundg (len - (j + 1))
      case measure => omega
      case rel => exact ⟨j + 1, by omega, by go_num, HB.out, HP.out⟩
    | true =>
    have P1 := Lib.hid p1
    cases p2 : (x.mask == mask) with
    | false =>
      have HP := Lib.hid (no_succ (m := fourB win mask start key) HN.out HX.out (by unfold fourB; rw [p2]; simp))
      go_wp2_with fail
      go_roundg (len - (j + 1))
      case measure => omega
      case rel => exact ⟨j + 1, by omega, by go_num, HB.out, HP.out⟩
    | true =>
    have P2 := Lib.hid p2
    cases p3 : (x.start == start) with
    | false =>
      have HP := Lib.hid (no_succ (m := fourB win mask start key) HN.out HX.out (by unfold fourB; rw [p3]; simp))
      go_wp2_with fail
      go_roundg (len - (j + 1))
      case measure => omega
      case rel => exact ⟨j + 1, by omega, by go_num, HB.out, HP.out⟩
    | true =>
    have P3 := Lib.hid p3
    go_wp2_with fail
    obtain ⟨f0, hf0, r0, u0, v0⟩ := HI.out
    have zx : h.keyl ≤ 2000000 := by rw [← r0.1]; exact HZ.out
    refine (l01Same _ _ _ _ _ _ _ _ _ _ _ zx hnm.out r0 (HK.out.below local_int HB.out)).mono ?_
    rintro e w3 ⟨rfl, hb3⟩
    have HB3 := Lib.hid (show Below w.heap.size w w3 from HB.out.trans (hb3.mono HB.out.size))
    clear hb3 c0 c1 c2 c3 p1 p2 p3 r0 u0 v0 hf0 zx
    cases hp : decide (x.key = key) with
    | false =>
      have HP := Lib.hid (no_succ (m := fourB win mask start key) HN.out HX.out (by unfold fourB; rw [hp]; simp))
      clear hp
      go_wp2_with fail
      go_roundg (len - (j + 1))
      case measure => omega
      case rel => exact ⟨j + 1, by omega, by go_num, HB3.out, HP.out⟩
    | true =>
      have HP := Lib.hid (place_found (m := fourB win mask start key) HN.out HX.out (by unfold fourB; rw [P1.out, P2.out, P3.out, hp]; rfl))
      clear hp
      go_wp2_with fail
      go_ret
      exact ⟨ret_int HP.out.symm, HB3.out⟩
end Go.Proofs.Ytoglclmaacjdaaa.dat

/-
  THE CONTRACT OF Upsert of the model: rows put into rows, one by one; nothing that was there is written.
-/
namespace Go.Proofs.Ytoglclmaacjdaaa.dat
open Go.RowKit Go.Proofs.Ytoglclmaacjdaaa.win

theorem four_at {r x : RowD} : fourB r.win r.mask r.start r.key x.pane = upsAt r x := by
  unfold fourB upsAt
  rw [Bool.eq_iff_iff]
  simp only [Bool.and_eq_true, decide_eq_true_eq, beq_iff_eq]
  rw [paneC_zero]
  simp [RowD.pane, and_assoc]
/-- Where a row of the name stands, or that there is none. -/
theorem placeR (l : List RowD) (r : RowD) : (∃ (j : Nat) (x : RowD), l[j]? = some x ∧ upsAt r x = true ∧ (∀ (i : Nat) y, i < j → l[i]? = some y → upsAt r y = false) ∧ placeOf (fourB r.win r.mask r.start r.key) (l.map RowD.pane) = (j : Int)) ∨ (placeOf (fourB r.win r.mask r.start r.key) (l.map RowD.pane) = -1 ∧ ∀ (i : Nat) y, l[i]? = some y → upsAt r y = false) := by
  cases h : l.any (upsAt r) with
  | true =>
    left
    obtain ⟨y, hy, hm⟩ := List.any_eq_true.1 h
    have hlt : l.findIdx (upsAt r) < l.length := List.findIdx_lt_length_of_exists ⟨y, hy, hm⟩
    have hat : upsAt r l[l.findIdx (upsAt r)] = true := List.findIdx_getElem
    have hno : ∀ (i : Nat) y, i < l.findIdx (upsAt r) → l[i]? = some y → upsAt r y = false := fun i y hi hy => by
      obtain ⟨h1, rfl⟩ := List.getElem?_eq_some_iff.1 hy
      have := List.not_of_lt_findIdx hi
      simpa using this
    refine ⟨_, _, List.getElem?_eq_getElem hlt, hat, hno, ?_⟩
    refine place_found (x := (l[l.findIdx (upsAt r)]).pane) (fun i y hi hy => ?_) (by rw [List.getElem?_map, List.getElem?_eq_getElem hlt]; rfl) (by rw [four_at]; exact hat)
    rw [List.getElem?_map] at hy
    obtain ⟨z, hz, rfl⟩ := Option.map_eq_some_iff.1 hy
    rw [four_at]
    exact hno i z hi hz
  | false =>
    right
    rw [List.any_eq_false] at h
    have hno : ∀ (i : Nat) y, l[i]? = some y → upsAt r y = false := fun i y hy => by simpa using h y (List.mem_of_getElem? hy)
    refine ⟨place_none (j := l.length) (fun i y _ hy => ?_) (by simp), hno⟩
    rw [List.getElem?_map] at hy
    obtain ⟨z, hz, rfl⟩ := Option.map_eq_some_iff.1 hy
    rw [four_at]
    exact hno i z hz
theorem szR_pane (l : List RowD) : szL Pane.sz (l.map RowD.pane) = szL Row.sz l := szPanes_rows l
/-- A row of a list whose keys lie elsewhere, its cells written out. -/
theorem growS_at {S : RowD → RowH → Prop} {base : Nat} {wr w : World} {v : Value} {l : List RowD} {j : Nat} (hG : Grows 9 (RSR S) 120 base wr v l) (hb : Below wr.heap.size wr w) (hj : j < l.length) :
    ∃ (b c : Nat) (x : RowD) (h : RowH), v = .slice (some ⟨b, 0, none⟩) l.length c ∧ b < wr.heap.size ∧ l[j]? = some x ∧ S x h ∧ ∀ i, i < 9 → w.cell? ⟨b, j * 9 + i, none⟩ = (Row.list x h)[i]? := by
  obtain ⟨css, F, e1, e2, e3, e4, e5, e6, hown⟩ := hG.ex
  rcases hown.2 with ⟨rfl, h0⟩ | ⟨g0, cap, cur, rfl, hbg, hh, hnc, hcm, hsz, htk⟩
  · omega
  have hg0 : g0 < wr.heap.size := (Array.getElem?_eq_some_iff.1 hh).1
  have hx : l[j]? = some l[j] := List.getElem?_eq_getElem hj
  have hc : css[j]? = some css[j] := List.getElem?_eq_getElem (by omega)
  obtain ⟨h, hcs, hS, _⟩ := e4 j _ _ _ hx hc (List.getElem?_eq_getElem (show j < F.length by omega))
  refine ⟨g0, cap, l[j], h, rfl, hg0, hx, hS, fun i hi => ?_⟩
  rw [hb.cell (p := ⟨g0, j * 9 + i, none⟩) hg0, Go.Joins.cell_of_block hh, ← hcs, ← flat_get e3 hc i hi, ← htk, List.getElem?_take, if_pos (by omega)]
  simp
/-- A list of rows, as the model answers it. -/
def GaveRows (w : World) (L : List RowD) (e : Ending) (w' : World) : Prop := ∃ v, e = .returned v ∧ Grows 9 (RSR (KeyIn w' v.ownBlock)) 120 w.heap.size w' v L ∧ Below w.heap.size w w'
theorem keep_row {W V : World} {p : Nat} {t : TypeId} {v0 v1 v2 v3 v4 v5 v6 v7 v8 : Value} (hp : Blk W p t [v0, v1, v2, v3, v4, v5, v6, v7, v8]) (h : Below W.heap.size W V) : V.cell? ⟨p, 0, none⟩ = some v0 ∧ V.cell? ⟨p, 1, none⟩ = some v1 ∧ V.cell? ⟨p, 2, none⟩ = some v2 ∧ V.cell? ⟨p, 3, none⟩ = some v3 ∧ V.cell? ⟨p, 4, none⟩ = some v4 ∧ V.cell? ⟨p, 5, none⟩ = some v5 ∧ V.cell? ⟨p, 6, none⟩ = some v6 ∧ V.cell? ⟨p, 7, none⟩ = some v7 ∧ V.cell? ⟨p, 8, none⟩ = some v8 := row_blk (hp.below h hp.lt)

set_option maxRecDepth 100000 in
set_option maxHeartbeats 8000000 in
theorem spec_Upsert_own (a : Option Addr) (n c : Nat) (l : List RowD) (fp : List Nat) (a' : Option Addr) (n' c' : Nat) (l' : List RowD) (fp' : List Nat) (w : World) (hrow : GRow 9 RRow w a n l fp) (hrow' : GRow 9 RRow w a' n' l' fp') (hz0 : szL Row.sz l ≤ 2000000) (hz1 : szL Row.sz l' ≤ 2000000) (hz : szL Row.sz l + szL Row.sz l' ≤ 2000000) :
    Calls Try.prog 37 #[.slice a n c, .slice a' n' c'] w (GaveRows w (upsertD l l')) := by
  have hn : n ≤ 2000000 := by rw [← hrow.1]; unfold szL at hz0; omega
  have hn' : n' ≤ 2000000 := by rw [← hrow'.1]; unfold szL at hz1; omega
  have R1 := Lib.hid hrow'
  have L1 := Lib.hid hrow'.1
  have Z1 := Lib.hid hz1
  have ZZ := Lib.hid (fun j => Nat.le_trans (sz_upsert_take l l' j) hz)
  have HCR := Lib.hid (l06CopyRows_ a n c l fp w hrow hz0)
  clear hrow hrow' hz0 hz1 hz
  obtain ⟨i0, hi, hz0, hz1, hz2⟩ := row_info
  have HI := Lib.hid (And.intro hi (And.intro hz0 (And.intro hz1 hz2)))
  obtain ⟨ii, hii, hi0, hi1, hi2⟩ := info_ints_
  have HII := Lib.hid (And.intro hii (And.intro hi0 (And.intro hi1 hi2)))
  clear hi hz0 hz1 hz2 hii hi0 hi1 hi2
  go_enter Try.func37, Try.ntmps37
  go_wp2_with fail
  refine HCR.out.mono ?_
  rintro e w1 ⟨v1, rfl, hg1, hb1⟩
  have HG1 := Lib.hid (growRow_keys hg1)
  have HB1 := Lib.hid hb1
  obtain ⟨va1, vc1, hv1⟩ := hg1.slice
  clear hg1 hb1 HCR
  subst hv1
  go_wp2_with fail
  go_loopg [5, 6] n' (fun k v i wr => ∃ j : Nat, j + k = n' ∧ i = .int .i64 j ∧ Below w.heap.size w wr ∧ Grows 9 (RSR (KeyIn wr v.ownBlock)) 120 w.heap.size wr v (upsertD l (l'.take j)))
  case atStart => exact ⟨0, by omega, rfl, HB1.out, HG1.out⟩
  case round =>
    obtain ⟨j, hj, rfl, hB, hG⟩ := hrel
    clear HB1 HG1
    have HB := Lib.hid hB
    have HG := Lib.hid hG
    by_cases hlt : j < n'
    case neg =>
      have hall : l'.take j = l' := List.take_of_length_le (by rw [L1.out]; omega)
      rw [hall] at hG
      have HD := Lib.hid hG
      clear hB hG HG hall
      go_wp2_with fail
      go_ret
      exact ⟨_, rfl, HD.out, HB.out⟩
    obtain ⟨wo, rfl⟩ : ∃ wo, wo = wr := ⟨_, rfl⟩
    obtain ⟨b, off, r, fr, cs, rfl, hbl, hr, hcl, hRr, hcs⟩ := R1.out.at hlt
    obtain ⟨hr', rfl, hIr⟩ := hRr
    obtain ⟨q0, q1, q2, q3, q4, q5, q6, q7, q8⟩ := row_cell9 (fun i hi => (hB.cell (p := ⟨b, off + j * 9 + i, none⟩) hbl).trans (hcs i hi))
    have hlt2 : (j : Int) < (n' : Int) := by omega
    have h02 : (0 : Int) ≤ (j : Int) := by omega
    have SZ := Lib.hid (sz_elemR hr Z1.out)
    have HNX := Lib.hid (upsert_take (rows := l) hr)
    have ZL := Lib.hid (ZZ.out j)
    obtain ⟨va, vc, hv⟩ := HG.out.slice
    obtain ⟨lst, hlst⟩ : ∃ lst, upsertD l (l'.take j) = lst := ⟨_, rfl⟩
    rw [hlst] at hv HG HNX ZL
    obtain ⟨m, hm⟩ : ∃ m, lst.length = m := ⟨_, rfl⟩
    rw [hm] at hv
    subst hv
    have HM := Lib.hid hm
    have hm2 : m ≤ 2000000 := by have := ZL.out; unfold szL at this; omega
    have hsx : Row.sz r ≤ 2000000 := SZ.out
    obtain ⟨f0, rfl, r0, u0, v0⟩ := hIr
    have hkl : hr'.keyl ≤ 2000000 := by rw [← r0.1]; exact hsx
    have HQ := Lib.hid r0
    have HQL := Lib.hid r0.1
    have hww := HB.out.size
    have HG0 := Lib.hid (show Grows 1 RInt 3 (wo.heap.size + 1) ((wo.alloc (.cells #[.int .i64 r.win, .int .i64 r.mask, .int .i64 r.start, .slice hr'.keya hr'.keyl hr'.keyc, .int .i64 r.a.n, .int .i64 r.a.sm, .int .i64 r.a.mn, .int .i64 r.a.mx, .int .i64 r.times] 120)).alloc (.cells #[] 3)) (.slice (some ⟨wo.heap.size + 1, 0, none⟩) 0 0) ([] : List Int) by
      have := made_ints (wo.alloc (.cells #[.int .i64 r.win, .int .i64 r.mask, .int .i64 r.start, .slice hr'.keya hr'.keyl hr'.keyc, .int .i64 r.a.n, .int .i64 r.a.sm, .int .i64 r.a.mn, .int .i64 r.a.mx, .int .i64 r.times] 120))
      simpa using this)
    clear hB hG hcs hcl hr hsx r0 u0 v0 hlst hm
    go_wp2_with (at_builtin; refine pushAny (R := RInt) (k := 1) (l := []) (l2 := r.key) (by decide) local_int (fun h => h.2) (fun h => h) int_one rfl (.tmp 23) (.tmp 25) 29 rfl ii (.int .i64 0) 8 Try.underlying29 HII.out.1 HII.out.2.1 HII.out.2.2.1 HII.out.2.2.2 rfl rfl HG0.out (Below.refl _ _) hr'.keya hr'.keyl hr'.keyc fr rfl (HQ.out.below local_int ((HB.out.alloc hww _).alloc (by simp; omega) _)) (by first | (simp; done) | (simp; omega)) (by first | (simp; done) | (simp; unfold maxLen; omega)) (by simp) ?_; intro v1 w1 hG1 hb1 hk1; obtain ⟨ka, kc, hv1⟩ := hG1.slice; rw [List.nil_append, HQL.out] at hv1; rw [List.nil_append] at hG1; subst hv1; have hK1 : Blk w1 wo.heap.size 120 [.int .i64 r.win, .int .i64 r.mask, .int .i64 r.start, .slice hr'.keya hr'.keyl hr'.keyc, .int .i64 r.a.n, .int .i64 r.a.sm, .int .i64 r.a.mn, .int .i64 r.a.mx, .int .i64 r.times] := Blk.below (by with_reducible (repeat (first | (refine blk_new_at _ _ _ _ ?_; first | rfl | (simp; done)) | refine Blk.alloc ?_ _ | apply Blk.drew | refine Blk.setOther ?_ (by first | (simp; done) | (simp; omega)) _))) hb1 (by omega); have f3 := hK1.frozen 3; obtain ⟨k0, k1, k2, k3, k4, k5, k6, k7, k8⟩ := row_blk hK1; have KB1 := Lib.hid hK1; have KG1 := Lib.hid hG1; have BB1 := Lib.hid hb1; clear hK1 hG1 hb1 hk1)
    obtain ⟨fk, hkd⟩ : ∃ fk, GRow 1 RInt w1 ka hr'.keyl r.key fk ∧ hr'.keyl ≤ kc ∧ kc ≤ 9223372036854775807 ∧ Own (wo.heap.size + 1) w1 fk := by
      obtain ⟨a', c', fk, hv, hg, h1, h2, ho⟩ := KG1.out.done
      rw [HQL.out] at hv hg h1
      cases hv
      exact ⟨fk, hg, h1, h2, ho⟩
    have hb1s : wo.heap.size + 1 + 1 ≤ w1.heap.size := by have := BB1.out.size; simpa using this
    refine wp_gen (fun W => Below wo.heap.size wo W ∧ Blk W wo.heap.size 120 [.int .i64 r.win, .int .i64 r.mask, .int .i64 r.start, .slice ka hr'.keyl kc, .int .i64 r.a.n, .int .i64 r.a.sm, .int .i64 r.a.mn, .int .i64 r.a.mx, .int .i64 r.times] ∧ GRow 1 RInt W ka hr'.keyl r.key fk ∧ Own (wo.heap.size + 1) W fk) ⟨?_, ?_, ?_, ?_⟩ ?_
    · exact ((((Below.refl wo.heap.size wo).alloc (Nat.le_refl _) _).alloc (by simp) _).trans (BB1.out.mono (by omega))).setCell (p := ⟨wo.heap.size, 3, none⟩) (Nat.le_refl _) _
    · exact (KB1.out.set 3 _).of_eq rfl
    · exact hkd.1.set local_int (hkd.2.2.2.ne (by omega)) _ _
    · exact hkd.2.2.2.set _ _ _
    clear f3 k0 k1 k2 k3 k4 k5 k6 k7 k8 q0 q1 q2 q3 q4 q5 q6 q7 q8 KB1 KG1 BB1 hb1s
    rintro W2 ⟨b2, x2, g2, o2⟩
    have HKD := Lib.hid (And.intro hkd.2.1 hkd.2.2.1)
    have B2 := Lib.hid b2
    have X2 := Lib.hid x2
    have G2 := Lib.hid g2
    have O2 := Lib.hid o2
    have hw2 := b2.size
    have KR := Lib.hid (fun (V : World) (hV : Below W2.heap.size W2 V) => keep_row x2 hV)
    have IR2 := Lib.hid (show Row.Is W2 r ⟨ka, hr'.keyl, kc⟩ fk from ⟨fk, rfl, g2, hkd.2.1, hkd.2.2.1⟩)
    have S0 := KR.out W2 (Below.refl _ _)
    clear b2 x2 g2 o2 hkd w1
    -- the panes of the list
    obtain ⟨ra, rc, rf, hra, hrw, hrc1, hrc2, _⟩ := HG.out.done
    simp only [Value.slice.injEq] at hra
    obtain ⟨rfl, -, rfl⟩ := hra
    rw [HM.out] at hrw hrc1
    have RK0 := Lib.hid hrw
    have HCAP := Lib.hid hrc1
    have HADR := Lib.hid (show ∀ ad, va = some ad → ∃ vb, ad = ⟨vb, 0, none⟩ from fun ad e => by
      obtain ⟨css, F, _, _, _, _, _, _, hown⟩ := HG.out.ex
      rcases hown.2 with ⟨h1, _⟩ | ⟨g0, cap, cur, h1, _⟩
      · cases h1; cases e
      · simp only [Value.slice.injEq] at h1
        obtain ⟨h1, _, _⟩ := h1
        rw [h1] at e
        cases e
        exact ⟨g0, rfl⟩)
    have HNONE := Lib.hid (show va ≠ none ∨ (m = 0 ∧ vc = 0) from by
      obtain ⟨css, F, _, _, _, _, _, _, hown⟩ := HG.out.ex
      rcases hown.2 with ⟨h1, _⟩ | ⟨g0, cap, cur, h1, _⟩
      · cases h1; exact .inr ⟨rfl, rfl⟩
      · simp only [Value.slice.injEq] at h1
        exact .inl (by rw [h1.1]; simp))
    obtain ⟨rf2, hrw2⟩ := rsr_row hrw (fun _ _ ⟨g, hg, _⟩ => ⟨g, hg⟩)
    have RL := Lib.hid hrw2
    clear hrw hrw2
    refine mix.wp_region_ord (fun V => V.cell? ⟨wo.heap.size, 0, none⟩ = some (.int .i64 r.win) ∧ V.cell? ⟨wo.heap.size, 1, none⟩ = some (.int .i64 r.mask) ∧ V.cell? ⟨wo.heap.size, 2, none⟩ = some (.int .i64 r.start) ∧ V.cell? ⟨wo.heap.size, 3, none⟩ = some (.slice ka hr'.keyl kc) ∧ V.cell? ⟨wo.heap.size, 4, none⟩ = some (.int .i64 r.a.n) ∧ V.cell? ⟨wo.heap.size, 5, none⟩ = some (.int .i64 r.a.sm) ∧ V.cell? ⟨wo.heap.size, 6, none⟩ = some (.int .i64 r.a.mn) ∧ V.cell? ⟨wo.heap.size, 7, none⟩ = some (.int .i64 r.a.mx) ∧ V.cell? ⟨wo.heap.size, 8, none⟩ = some (.int .i64 r.times)) [1,10] [0,2,3,4,5,6,7,8,9,1,10,11] (by kernel_rfl) (by kernel_rfl) (fun _ _ d _ _ h => by cases d <;> exact h) S0 ?_
    clear S0
    simp only [List.filterMap_cons, List.filterMap_nil, List.getElem?_cons_zero, List.getElem?_cons_succ, Option.map_some]
    (repeat (first | (apply mix.ord_take; (· rfl); (· rfl); (· (intro w' hSw; (try dsimp only at hSw); go_simp; try with_reducible rfl)); (try simp only [Act.put, List.setIfInBounds_toArray, List.set_cons_zero, List.set_cons_succ])) | ((refine mix.ord_pass rfl (by rfl) ?_); (try simp only [Act.put, List.setIfInBounds_toArray, List.set_cons_zero, List.set_cons_succ]))))
    refine mix.ord_hard rfl (fun K hK => ?_); go_simp
    refine (l06Panes va m vc lst rf2 _ (RL.out.below local_Row (B2.out.trans (Below.refl _ _).drew)) hm2).mono ?_
    rintro e W3 ⟨a3, n3, c3, f3, rfl, g3, h31, h32, b3⟩
    have hb3 : Below W2.heap.size W2 W3 := (Below.refl _ _).drew.trans b3
    have B3 := Lib.hid hb3
    have S3 := Lib.hid (KR.out W3 hb3)
    have G3 := Lib.hid (And.intro g3 (And.intro h31 h32))
    clear hb3 b3 g3 h31 h32
    refine hK.out _ _ (S3.out) (fun hSw => ?_); clear hK K hSw; (try simp only [Act.put, List.setIfInBounds_toArray, List.set_cons_zero, List.set_cons_succ])
    refine mix.ord_hard rfl (fun K hK => ?_); go_simp
    refine (spec_PaneAtF a3 n3 c3 (lst.map RowD.pane) f3 r.win r.mask r.start ka hr'.keyl kc r.key fk W3 G3.out.1 G3.out.2.1 G3.out.2.2 (G2.out.below local_int B3.out) HKD.out.1 HKD.out.2 (by rw [szR_pane]; exact ZL.out) SZ.out).mono ?_
    rintro e W4 ⟨rfl, b4⟩
    obtain ⟨pl, hpl⟩ : ∃ pl, placeOf (fourB r.win r.mask r.start r.key) (lst.map RowD.pane) = pl := ⟨_, rfl⟩
    rw [hpl]
    have hpc := placeR lst r
    rw [hpl] at hpc
    have HPC := Lib.hid hpc
    have hb4 : Below W2.heap.size W2 W4 := B3.out.trans (b4.mono B3.out.size)
    have B4 := Lib.hid hb4
    have S4 := Lib.hid (KR.out W4 hb4)
    clear hb4 b4 hpl hpc
    refine hK.out _ _ (S4.out) (fun hSw => ?_); clear hK K hSw; (try simp only [Act.put, List.setIfInBounds_toArray, List.set_cons_zero, List.set_cons_succ])
    (repeat (first | (apply mix.ord_take; (· rfl); (· rfl); (· (intro w' hSw; (try dsimp only at hSw); go_simp; try with_reducible rfl)); (try simp only [Act.put, List.setIfInBounds_toArray, List.set_cons_zero, List.set_cons_succ])) | ((refine mix.ord_pass rfl (by rfl) ?_); (try simp only [Act.put, List.setIfInBounds_toArray, List.set_cons_zero, List.set_cons_succ]))))
    refine mix.ord_end ?_
    clear S3 G3 B3 S4
    have hw4 := B4.out.size
    have B04 := Lib.hid (B2.out.trans (B4.out.mono hw2))
    have X4 := Lib.hid (X2.out.below B4.out X2.out.lt)
    have IR4 := Lib.hid (IR2.out.below B4.out)
    have O4 := Lib.hid (O2.out.below B4.out)
    have x4l := X4.out.lt
    obtain ⟨k0, k1, k2, k3, k4, k5, k6, k7, k8⟩ := row_blk X4.out
    clear B2 X2 G2 O2 IR2 B4
    rcases HPC.out with ⟨i, x, hx, hat, hno, rfl⟩ | ⟨rfl, hno⟩
    · have him : i < m := by rw [← HM.out]; exact (List.getElem?_eq_some_iff.1 hx).1
      have HE := Lib.hid (upsOne_set hno hx hat)
      clear hx hat hno
      have hi2 : (i : Int) < (m : Int) := by omega
      have hi0 : (0 : Int) ≤ (i : Int) := by omega
      have hG4 := (HG.out.turn (S' := KeyIn W4 (Value.slice va m vc).ownBlock) (fun _ _ k => k.below B04.out))
      have hlt0 := HG.out.lt
      obtain ⟨b0, c0, u0, u1, u2, u3, u4, u5, u6, u7, u8, hv0, hb0, hb1, hu, hfz, hgs, hap⟩ := growS_set (j := i) (y := r) (h := ⟨ka, hr'.keyl, kc⟩) hG4 B04.out (by rw [HM.out]; exact him) ⟨fk, IR4.out, fun b hb e => by have h1 := (hlt0 b e).2; have h2 := (O4.out.2 b hb).1; omega⟩
      simp only [Value.slice.injEq] at hv0
      obtain ⟨rfl, -, -⟩ := hv0
      obtain ⟨z0, z1, z2, z3, z4, z5, z6, z7, z8⟩ := hu
      have hgs2 := hgs.turn (S' := KeyIn (W4.setCells b0 (i * 9) (Row.list r ⟨ka, hr'.keyl, kc⟩)) (some b0)) (fun y hy k => by
        obtain ⟨g, hg, hne⟩ := k
        exact ⟨g, hg.keep (fun q hq => hap.block q (hg.lt q hq) (by simp; exact fun e => hne q hq (by rw [e]; rfl))), fun q hq e => hne q hq e⟩)
      have HGS := Lib.hid hgs2
      have HBS := Lib.hid ((HB.out.trans (B04.out.mono hww)).trans (hap.below (lo := w.heap.size) (fun q hq => by simp at hq; omega) (by omega)))
      clear hgs hgs2 hap hG4 hlt0 hb0 hb1
      simp only [Row.list] at HGS HBS
      simp only [World.setCells] at HGS HBS
      have hge : (0 : Int) ≤ (i : Int) := hi0
      go_wp2_with fail
      go_roundg (n' - (j + 1))
      case measure => omega
      case rel => exact ⟨j + 1, by omega, by go_num, HBS.out, by rw [HNX.out, HE.out]; exact HGS.out⟩
    · have hno2 := Lib.hid hno
      clear hno HPC
      have RLK := Lib.hid RK0.out
      have hmle := HCAP.out
      have hneg : ¬ (0 : Int) ≤ -1 := by omega
      go_wp2_with fail
      clear k0 k1 k2 k3 k4 k5 k6 k7 k8
      go_loopg [9] m (fun k kv w2 => ∃ t : Nat, t + k = m ∧ kv = .int .i64 (t : Int) ∧ (∀ (q : Nat) y, q < t → lst[q]? = some y → gtB r y = false) ∧ Below W4.heap.size W4 w2)
      case atStart => exact ⟨0, by omega, rfl, fun q y hq => absurd hq (by omega), Below.refl _ _⟩
      case round =>
        obtain ⟨t, ht, rfl, hgt, hB2⟩ := hrel
        obtain ⟨w2, rfl⟩ : ∃ w2, w2 = wr := ⟨_, rfl⟩
        have HGT := Lib.hid hgt
        have HB2 := Lib.hid hB2
        have hw2 := hB2.size
        have X2 := Lib.hid (X4.out.below hB2 x4l)
        have hB02 := B04.out.trans (hB2.mono B04.out.size)
        clear hgt hB2
        by_cases htl : t < m
        case neg =>
          obtain rfl : t = m := by omega
          have HE := Lib.hid (upsOne_ins (i := t) hno2.out (by rw [HM.out]; exact Nat.le_refl _) (fun q y hq hy => HGT.out q y hq hy) (fun y hy => by have := (List.getElem?_eq_some_iff.1 hy).1; rw [HM.out] at this; omega))
          have htt : decide ((t : Int) < (t : Int)) = false := decide_eq_false (by omega)
          clear hB02
          go_wp2_with fail
          refine mix.wp_region_ord (fun _ => True) [9,11,12] [0,1,2,3,4,5,6,7,8,10,9,11,12,13,14] (by kernel_rfl) (by kernel_rfl) (fun _ _ d _ _ h => by cases d <;> exact h) trivial ?_
          simp only [List.filterMap_cons, List.filterMap_nil, List.getElem?_cons_zero, List.getElem?_cons_succ, Option.map_some]
          (repeat (first | (apply mix.ord_take; (· rfl); (· rfl); (· (intro w' hSw; (try dsimp only at hSw); go_simp; try with_reducible rfl)); (try simp only [Act.put, List.setIfInBounds_toArray, List.set_cons_zero, List.set_cons_succ])) | ((refine mix.ord_pass rfl (by rfl) ?_); (try simp only [Act.put, List.setIfInBounds_toArray, List.set_cons_zero, List.set_cons_succ]))))
          refine mix.ord_hard rfl (fun K hK => ?_); go_simp
          refine hK.out _ _ (trivial) (fun hSw => ?_); clear hK K hSw; (try simp only [Act.put, List.setIfInBounds_toArray, List.set_cons_zero, List.set_cons_succ])
          refine mix.ord_hard rfl (fun K hK => ?_); go_simp
          refine hK.out _ _ (trivial) (fun hSw => ?_); clear hK K hSw; (try simp only [Act.put, List.setIfInBounds_toArray, List.set_cons_zero, List.set_cons_succ])
          refine mix.ord_hard rfl (fun K hK => ?_); go_simp
          refine hK.out _ _ (trivial) (fun hSw => ?_); clear hK K hSw; (try simp only [Act.put, List.setIfInBounds_toArray, List.set_cons_zero, List.set_cons_succ])
          (repeat (first | (apply mix.ord_take; (· rfl); (· rfl); (· (intro w' hSw; (try dsimp only at hSw); go_simp; try with_reducible rfl)); (try simp only [Act.put, List.setIfInBounds_toArray, List.set_cons_zero, List.set_cons_succ])) | ((refine mix.ord_pass rfl (by rfl) ?_); (try simp only [Act.put, List.setIfInBounds_toArray, List.set_cons_zero, List.set_cons_succ]))))
          refine mix.ord_end ?_
          have hb6 : Below W4.heap.size W4 w2.drew := HB2.out.drew
          clear X2
          generalize w2.drew = W6 at *
          cases va with
          | none =>
            obtain ⟨rfl, rfl⟩ : t = 0 ∧ vc = 0 := by
              rcases HNONE.out with h | h
              · exact absurd rfl h
              · exact h
            have hW06 := B04.out.trans (hb6.mono B04.out.size)
            have HW06 := Lib.hid hW06
            have HB6 := Lib.hid (HB.out.trans (hW06.mono hww))
            have IR6 := Lib.hid (show ∃ g, Row.Is W6 r ⟨ka, hr'.keyl, kc⟩ g from ⟨fk, IR4.out.below hb6⟩)
            have X6 := Lib.hid (X4.out.below hb6 x4l)
            have KX6 := Lib.hid (fun (V : World) (hV : Below W6.heap.size W6 V) => keep_row X6.out hV)
            obtain ⟨fS, hrs⟩ : ∃ fS, GRow 9 (RSR (fun x h => ∃ g, Row.Is W6 x h g)) wo none 0 lst fS := RLK.out.conv (fun _ x f ⟨hh, e, ⟨g, hg, _⟩, _⟩ => ⟨[], hh, e, ⟨g, hg.below hW06⟩, rfl⟩)
            clear hb6 hW06
            have hdr0 : lst.drop 0 = [] := List.drop_of_length_le (by rw [HM.out]; omega)
            have HDR := Lib.hid (fun (V : World) (aa : Option Addr) (n0 : Nat) (h0 : n0 = 0) => show GRow 9 (RSR (fun x h => ∃ g, Row.Is W6 x h g)) V aa n0 (lst.drop 0) [] by rw [hdr0, h0]; exact GRow.nil)
            clear hdr0
            obtain ⟨fT, hT⟩ := hrs.take (t := 0) (by omega)
            have HT := Lib.hid (hT.below (local_rsr _) HW06.out)
            have HGP := Lib.hid (made_rows (RSR (fun x h => ∃ g, Row.Is W6 x h g)) W6)
            have htl3 : (lst.take 0).length ≤ 2000000 := by simp
            have hdl3 : (lst.drop 0).length ≤ 2000000 := by rw [List.length_drop, HM.out]; omega
            clear hT hrs
            go_wp2_with (at_builtin; refine halt_u (.tmp 62) (.tmp 65) _ _ rfl ?_)
            unfold HaltU
            refine pushAny (R := RSR (fun x h => ∃ g, Row.Is W6 x h g)) (k := 9) (l := []) (l2 := lst.take 0) (by decide) (local_rsr _) rsr_f rsr_ind rsr_one rfl (.tmp 62) (.tmp 65) 46 rfl i0 _ 88 Try.underlying46 HI.out.1 HI.out.2.1 HI.out.2.2.1 HI.out.2.2.2 rfl rfl HGP.out (Below.refl _ _) _ _ _ fT rfl (HT.out.below (local_rsr _) ((Below.refl _ _).alloc (Nat.le_refl _) _)) (by first | (simp; done) | (simp; omega)) (by first | (simp; done) | (simp; unfold maxLen; omega)) (by simp) ?_
            intro v7 w7 hG7 hb7 hk7
            rw [List.nil_append] at hG7
            have hW7 : Below W6.heap.size W6 w7 := ((Below.refl _ _).alloc (Nat.le_refl _) _).trans hb7
            obtain ⟨y0, y1, y2, y3, y4, y5, y6, y7, y8⟩ := KX6.out w7 hW7
            have G7 := Lib.hid hG7
            have B7 := Lib.hid hW7
            clear hG7 hb7 hk7 hW7
            go_wp2_with (at_builtin; refine halt_u (.tmp 67) (.tmp 69) _ _ rfl ?_)
            unfold HaltU
            refine push2 (R := RSR (fun x h => ∃ g, Row.Is W6 x h g)) (k := 9) (wr := w7) (local_rsr _) rfl (.tmp 67) (.tmp 69) 46 rfl i0 _ 88 Try.underlying46 HI.out.1 HI.out.2.1 HI.out.2.2.1 HI.out.2.2.2 rfl (by decide) rfl G7.out ((Below.refl _ _).alloc (Nat.le_refl _) _) w7.heap.size 1 rfl (Row.list r ⟨ka, hr'.keyl, kc⟩) rfl row_one (fun q u hq => ((blk_new w7 120 (Row.list r ⟨ka, hr'.keyl, kc⟩)).cell q).trans hq) r [] ⟨_, rfl, IR6.out, rfl⟩ Own.nil (by omega) (by unfold maxLen; omega) B7.out.size ?_
            intro v8 w8 hG8 hb8 _ _
            have hW8 : Below W6.heap.size W6 w8 := (B7.out.trans (((Below.refl _ _).alloc (Nat.le_refl _) _).mono B7.out.size)).trans hb8
            have G8 := Lib.hid hG8
            have B8 := Lib.hid hW8
            clear hG8 hb8 hW8
            go_wp2_with (at_builtin; refine halt_u (.tmp 71) (.tmp 74) _ _ rfl ?_)
            unfold HaltU
            refine pushAny (R := RSR (fun x h => ∃ g, Row.Is W6 x h g)) (k := 9) (l := lst.take 0 ++ [r]) (l2 := lst.drop 0) (by decide) (local_rsr _) rsr_f rsr_ind rsr_one rfl (.tmp 71) (.tmp 74) 46 rfl i0 _ 88 Try.underlying46 HI.out.1 HI.out.2.1 HI.out.2.2.1 HI.out.2.2.2 rfl rfl G8.out (Below.refl _ _) _ _ _ [] rfl (HDR.out _ _ _ (by omega)) (by first | (simp; done) | (simp; omega)) (by first | (simp; done) | (simp; unfold maxLen; omega)) B8.out.size ?_
            intro v9 w9 hG9 hb9 _
            have hW9 : Below W6.heap.size W6 w9 := B8.out.trans hb9
            have G9 := Lib.hid hG9
            have B9 := Lib.hid hW9
            clear hG9 hb9 hW9
            go_wp2_with fail
            have hEnd : Grows 9 (RSR (KeyIn w9 v9.ownBlock)) 120 w.heap.size w9 v9 (lst.take 0 ++ r :: lst.drop 0) := by
              have h1 := G9.out
              rw [List.append_assoc] at h1
              refine (h1.turn (fun y hy ⟨g, hg⟩ => KeyIn.young (o := none) ⟨g, hg, fun b _ e => by cases e⟩ B9.out (fun b e => (h1.lt b e).1))).lower ?_
              exact HB6.out.size
            have HEnd := Lib.hid hEnd
            have HBE := Lib.hid (HB6.out.trans (B9.out.mono HB6.out.size))
            clear hEnd
            go_roundg (n' - (j + 1))
            case measure => omega
            case rel => exact ⟨j + 1, by omega, by go_num, HBE.out, by rw [HNX.out, HE.out]; exact HEnd.out⟩
          | some ad =>
            obtain ⟨vb, rfl⟩ : ∃ vb, ad = ⟨vb, 0, none⟩ := HADR.out ad rfl
            by_cases hcap : t = vc
            · subst hcap
              have hW06 := B04.out.trans (hb6.mono B04.out.size)
              have HW06 := Lib.hid hW06
              have HB6 := Lib.hid (HB.out.trans (hW06.mono hww))
              have IR6 := Lib.hid (show ∃ g, Row.Is W6 r ⟨ka, hr'.keyl, kc⟩ g from ⟨fk, IR4.out.below hb6⟩)
              have X6 := Lib.hid (X4.out.below hb6 x4l)
              have KX6 := Lib.hid (fun (V : World) (hV : Below W6.heap.size W6 V) => keep_row X6.out hV)
              obtain ⟨fS, hrs⟩ : ∃ fS, GRow 9 (RSR (fun x h => ∃ g, Row.Is W6 x h g)) wo (some ⟨vb, 0, none⟩) t lst fS := RLK.out.conv (fun _ x f ⟨hh, e, ⟨g, hg, _⟩, _⟩ => ⟨[], hh, e, ⟨g, hg.below hW06⟩, rfl⟩)
              clear hb6 hW06
              have hdr0 : lst.drop t = [] := List.drop_of_length_le (by rw [HM.out]; omega)
              have HDR := Lib.hid (fun (V : World) (aa : Option Addr) (n0 : Nat) (h0 : n0 = 0) => show GRow 9 (RSR (fun x h => ∃ g, Row.Is W6 x h g)) V aa n0 (lst.drop t) [] by rw [hdr0, h0]; exact GRow.nil)
              clear hdr0
              obtain ⟨fT, hT⟩ := hrs.take (t := t) (by omega)
              have HT := Lib.hid (hT.below (local_rsr _) HW06.out)
              have HGP := Lib.hid (made_rows (RSR (fun x h => ∃ g, Row.Is W6 x h g)) W6)
              have htl3 : (lst.take t).length ≤ 2000000 := by simp; omega
              have hdl3 : (lst.drop t).length ≤ 2000000 := by rw [List.length_drop, HM.out]; omega
              clear hT hrs
              go_wp2_with (at_builtin; refine halt_u (.tmp 62) (.tmp 65) _ _ rfl ?_)
              unfold HaltU
              refine pushAny (R := RSR (fun x h => ∃ g, Row.Is W6 x h g)) (k := 9) (l := []) (l2 := lst.take t) (by decide) (local_rsr _) rsr_f rsr_ind rsr_one rfl (.tmp 62) (.tmp 65) 46 rfl i0 _ 88 Try.underlying46 HI.out.1 HI.out.2.1 HI.out.2.2.1 HI.out.2.2.2 rfl rfl HGP.out (Below.refl _ _) _ _ _ fT rfl (HT.out.below (local_rsr _) ((Below.refl _ _).alloc (Nat.le_refl _) _)) (by first | (simp; done) | (simp; omega)) (by first | (simp; done) | (simp; unfold maxLen; omega)) (by simp) ?_
              intro v7 w7 hG7 hb7 hk7
              rw [List.nil_append] at hG7
              have hW7 : Below W6.heap.size W6 w7 := ((Below.refl _ _).alloc (Nat.le_refl _) _).trans hb7
              obtain ⟨y0, y1, y2, y3, y4, y5, y6, y7, y8⟩ := KX6.out w7 hW7
              have G7 := Lib.hid hG7
              have B7 := Lib.hid hW7
              clear hG7 hb7 hk7 hW7
              go_wp2_with (at_builtin; refine halt_u (.tmp 67) (.tmp 69) _ _ rfl ?_)
              unfold HaltU
              refine push2 (R := RSR (fun x h => ∃ g, Row.Is W6 x h g)) (k := 9) (wr := w7) (local_rsr _) rfl (.tmp 67) (.tmp 69) 46 rfl i0 _ 88 Try.underlying46 HI.out.1 HI.out.2.1 HI.out.2.2.1 HI.out.2.2.2 rfl (by decide) rfl G7.out ((Below.refl _ _).alloc (Nat.le_refl _) _) w7.heap.size 1 rfl (Row.list r ⟨ka, hr'.keyl, kc⟩) rfl row_one (fun q u hq => ((blk_new w7 120 (Row.list r ⟨ka, hr'.keyl, kc⟩)).cell q).trans hq) r [] ⟨_, rfl, IR6.out, rfl⟩ Own.nil (by omega) (by unfold maxLen; omega) B7.out.size ?_
              intro v8 w8 hG8 hb8 _ _
              have hW8 : Below W6.heap.size W6 w8 := (B7.out.trans (((Below.refl _ _).alloc (Nat.le_refl _) _).mono B7.out.size)).trans hb8
              have G8 := Lib.hid hG8
              have B8 := Lib.hid hW8
              clear hG8 hb8 hW8
              go_wp2_with (at_builtin; refine halt_u (.tmp 71) (.tmp 74) _ _ rfl ?_)
              unfold HaltU
              refine pushAny (R := RSR (fun x h => ∃ g, Row.Is W6 x h g)) (k := 9) (l := lst.take t ++ [r]) (l2 := lst.drop t) (by decide) (local_rsr _) rsr_f rsr_ind rsr_one rfl (.tmp 71) (.tmp 74) 46 rfl i0 _ 88 Try.underlying46 HI.out.1 HI.out.2.1 HI.out.2.2.1 HI.out.2.2.2 rfl rfl G8.out (Below.refl _ _) _ _ _ [] rfl (HDR.out _ _ _ (by omega)) (by first | (simp; done) | (simp; omega)) (by first | (simp; done) | (simp; unfold maxLen; omega)) B8.out.size ?_
              intro v9 w9 hG9 hb9 _
              have hW9 : Below W6.heap.size W6 w9 := B8.out.trans hb9
              have G9 := Lib.hid hG9
              have B9 := Lib.hid hW9
              clear hG9 hb9 hW9
              go_wp2_with fail
              have hEnd : Grows 9 (RSR (KeyIn w9 v9.ownBlock)) 120 w.heap.size w9 v9 (lst.take t ++ r :: lst.drop t) := by
                have h1 := G9.out
                rw [List.append_assoc] at h1
                refine (h1.turn (fun y hy ⟨g, hg⟩ => KeyIn.young (o := none) ⟨g, hg, fun b _ e => by cases e⟩ B9.out (fun b e => (h1.lt b e).1))).lower ?_
                exact HB6.out.size
              have HEnd := Lib.hid hEnd
              have HBE := Lib.hid (HB6.out.trans (B9.out.mono HB6.out.size))
              clear hEnd
              go_roundg (n' - (j + 1))
              case measure => omega
              case rel => exact ⟨j + 1, by omega, by go_num, HBE.out, by rw [HNX.out, HE.out]; exact HEnd.out⟩
            · have hcap2 : t < vc := by omega
              have hW06 := B04.out.trans (hb6.mono B04.out.size)
              have HW06 := Lib.hid hW06
              have HB6 := Lib.hid (HB.out.trans (hW06.mono hww))
              have IR6 := Lib.hid (show ∃ g, Row.Is W6 r ⟨ka, hr'.keyl, kc⟩ g from ⟨fk, IR4.out.below hb6⟩)
              have X6 := Lib.hid (X4.out.below hb6 x4l)
              have KX6 := Lib.hid (fun (V : World) (hV : Below W6.heap.size W6 V) => keep_row X6.out hV)
              obtain ⟨fS, hrs⟩ : ∃ fS, GRow 9 (RSR (fun x h => ∃ g, Row.Is W6 x h g)) wo (some ⟨vb, 0, none⟩) t lst fS := RLK.out.conv (fun _ x f ⟨hh, e, ⟨g, hg, _⟩, _⟩ => ⟨[], hh, e, ⟨g, hg.below hW06⟩, rfl⟩)
              clear hb6 hW06
              have hdr0 : lst.drop t = [] := List.drop_of_length_le (by rw [HM.out]; omega)
              have HDR := Lib.hid (fun (V : World) (aa : Option Addr) (n0 : Nat) (h0 : n0 = 0) => show GRow 9 (RSR (fun x h => ∃ g, Row.Is W6 x h g)) V aa n0 (lst.drop t) [] by rw [hdr0, h0]; exact GRow.nil)
              clear hdr0
              obtain ⟨fT, hT⟩ := hrs.take (t := t) (by omega)
              have HT := Lib.hid (hT.below (local_rsr _) HW06.out)
              have HGP := Lib.hid (made_rows (RSR (fun x h => ∃ g, Row.Is W6 x h g)) W6)
              have htl3 : (lst.take t).length ≤ 2000000 := by simp; omega
              have hdl3 : (lst.drop t).length ≤ 2000000 := by rw [List.length_drop, HM.out]; omega
              clear hT hrs
              go_wp2_with (at_builtin; refine halt_u (.tmp 62) (.tmp 65) _ _ rfl ?_)
              unfold HaltU
              refine pushAny (R := RSR (fun x h => ∃ g, Row.Is W6 x h g)) (k := 9) (l := []) (l2 := lst.take t) (by decide) (local_rsr _) rsr_f rsr_ind rsr_one rfl (.tmp 62) (.tmp 65) 46 rfl i0 _ 88 Try.underlying46 HI.out.1 HI.out.2.1 HI.out.2.2.1 HI.out.2.2.2 rfl rfl HGP.out (Below.refl _ _) _ _ _ fT rfl (HT.out.below (local_rsr _) ((Below.refl _ _).alloc (Nat.le_refl _) _)) (by first | (simp; done) | (simp; omega)) (by first | (simp; done) | (simp; unfold maxLen; omega)) (by simp) ?_
              intro v7 w7 hG7 hb7 hk7
              rw [List.nil_append] at hG7
              have hW7 : Below W6.heap.size W6 w7 := ((Below.refl _ _).alloc (Nat.le_refl _) _).trans hb7
              obtain ⟨y0, y1, y2, y3, y4, y5, y6, y7, y8⟩ := KX6.out w7 hW7
              have G7 := Lib.hid hG7
              have B7 := Lib.hid hW7
              clear hG7 hb7 hk7 hW7
              go_wp2_with (at_builtin; refine halt_u (.tmp 67) (.tmp 69) _ _ rfl ?_)
              unfold HaltU
              refine push2 (R := RSR (fun x h => ∃ g, Row.Is W6 x h g)) (k := 9) (wr := w7) (local_rsr _) rfl (.tmp 67) (.tmp 69) 46 rfl i0 _ 88 Try.underlying46 HI.out.1 HI.out.2.1 HI.out.2.2.1 HI.out.2.2.2 rfl (by decide) rfl G7.out ((Below.refl _ _).alloc (Nat.le_refl _) _) w7.heap.size 1 rfl (Row.list r ⟨ka, hr'.keyl, kc⟩) rfl row_one (fun q u hq => ((blk_new w7 120 (Row.list r ⟨ka, hr'.keyl, kc⟩)).cell q).trans hq) r [] ⟨_, rfl, IR6.out, rfl⟩ Own.nil (by omega) (by unfold maxLen; omega) B7.out.size ?_
              intro v8 w8 hG8 hb8 _ _
              have hW8 : Below W6.heap.size W6 w8 := (B7.out.trans (((Below.refl _ _).alloc (Nat.le_refl _) _).mono B7.out.size)).trans hb8
              have G8 := Lib.hid hG8
              have B8 := Lib.hid hW8
              clear hG8 hb8 hW8
              go_wp2_with (at_builtin; refine halt_u (.tmp 71) (.tmp 74) _ _ rfl ?_)
              unfold HaltU
              refine pushAny (R := RSR (fun x h => ∃ g, Row.Is W6 x h g)) (k := 9) (l := lst.take t ++ [r]) (l2 := lst.drop t) (by decide) (local_rsr _) rsr_f rsr_ind rsr_one rfl (.tmp 71) (.tmp 74) 46 rfl i0 _ 88 Try.underlying46 HI.out.1 HI.out.2.1 HI.out.2.2.1 HI.out.2.2.2 rfl rfl G8.out (Below.refl _ _) _ _ _ [] rfl (HDR.out _ _ _ (by omega)) (by first | (simp; done) | (simp; omega)) (by first | (simp; done) | (simp; unfold maxLen; omega)) B8.out.size ?_
              intro v9 w9 hG9 hb9 _
              have hW9 : Below W6.heap.size W6 w9 := B8.out.trans hb9
              have G9 := Lib.hid hG9
              have B9 := Lib.hid hW9
              clear hG9 hb9 hW9
              go_wp2_with fail
              have hEnd : Grows 9 (RSR (KeyIn w9 v9.ownBlock)) 120 w.heap.size w9 v9 (lst.take t ++ r :: lst.drop t) := by
                have h1 := G9.out
                rw [List.append_assoc] at h1
                refine (h1.turn (fun y hy ⟨g, hg⟩ => KeyIn.young (o := none) ⟨g, hg, fun b _ e => by cases e⟩ B9.out (fun b e => (h1.lt b e).1))).lower ?_
                exact HB6.out.size
              have HEnd := Lib.hid hEnd
              have HBE := Lib.hid (HB6.out.trans (B9.out.mono HB6.out.size))
              clear hEnd
              go_roundg (n' - (j + 1))
              case measure => omega
              case rel => exact ⟨j + 1, by omega, by go_num, HBE.out, by rw [HNX.out, HE.out]; exact HEnd.out⟩
        obtain ⟨bl, cl, x, h, hvx, hbx, hx, hKx, hcx⟩ := growS_at HG.out hB02 (by rw [HM.out]; exact htl)
        simp only [Value.slice.injEq] at hvx
        obtain ⟨rfl, -, rfl⟩ := hvx
        obtain ⟨q0, q1, q2, q3, q4, q5, q6, q7, q8⟩ := row_cell9 hcx
        have htl2 : (t : Int) < (m : Int) := by omega
        have ht0 : (0 : Int) ≤ (t : Int) := by omega
        have htc : t < vc := by omega
        have hblw : bl < w2.heap.size := Nat.lt_of_lt_of_le hbx hB02.size
        have HX := Lib.hid hx
        obtain ⟨fx, hIx, _⟩ := hKx
        have IX := Lib.hid (hIx.below hB02)
        have SX := Lib.hid (sz_elemR hx ZL.out)
        obtain ⟨cv, hcv⟩ : ∃ cv, paneC x.pane r.pane = cv := ⟨_, rfl⟩
        have HCV := Lib.hid hcv
        have HSS := Lib.hid (fun (V : World) (hV : Below w2.heap.size w2 V) => (show (V.cell? ⟨wo.heap.size, 0, none⟩ = some (.int .i64 r.win) ∧ V.cell? ⟨wo.heap.size, 1, none⟩ = some (.int .i64 r.mask) ∧ V.cell? ⟨wo.heap.size, 2, none⟩ = some (.int .i64 r.start) ∧ V.cell? ⟨wo.heap.size, 3, none⟩ = some (.slice ka hr'.keyl kc) ∧ V.cell? ⟨wo.heap.size, 4, none⟩ = some (.int .i64 r.a.n) ∧ V.cell? ⟨wo.heap.size, 5, none⟩ = some (.int .i64 r.a.sm) ∧ V.cell? ⟨wo.heap.size, 6, none⟩ = some (.int .i64 r.a.mn) ∧ V.cell? ⟨wo.heap.size, 7, none⟩ = some (.int .i64 r.a.mx) ∧ V.cell? ⟨wo.heap.size, 8, none⟩ = some (.int .i64 r.times)) ∧ (V.cell? ⟨bl, t * 9, none⟩ = some (.int .i64 x.win) ∧ V.cell? ⟨bl, t * 9 + 1, none⟩ = some (.int .i64 x.mask) ∧ V.cell? ⟨bl, t * 9 + 2, none⟩ = some (.int .i64 x.start) ∧ V.cell? ⟨bl, t * 9 + 3, none⟩ = some (.slice h.keya h.keyl h.keyc) ∧ V.cell? ⟨bl, t * 9 + 4, none⟩ = some (.int .i64 x.a.n) ∧ V.cell? ⟨bl, t * 9 + 5, none⟩ = some (.int .i64 x.a.sm) ∧ V.cell? ⟨bl, t * 9 + 6, none⟩ = some (.int .i64 x.a.mn) ∧ V.cell? ⟨bl, t * 9 + 7, none⟩ = some (.int .i64 x.a.mx) ∧ V.cell? ⟨bl, t * 9 + 8, none⟩ = some (.int .i64 x.times)) from ⟨keep_row X2.out hV, (hV.cell (p := ⟨bl, t * 9, none⟩) hblw).trans q0, (hV.cell (p := ⟨bl, t * 9 + 1, none⟩) hblw).trans q1, (hV.cell (p := ⟨bl, t * 9 + 2, none⟩) hblw).trans q2, (hV.cell (p := ⟨bl, t * 9 + 3, none⟩) hblw).trans q3, (hV.cell (p := ⟨bl, t * 9 + 4, none⟩) hblw).trans q4, (hV.cell (p := ⟨bl, t * 9 + 5, none⟩) hblw).trans q5, (hV.cell (p := ⟨bl, t * 9 + 6, none⟩) hblw).trans q6, (hV.cell (p := ⟨bl, t * 9 + 7, none⟩) hblw).trans q7, (hV.cell (p := ⟨bl, t * 9 + 8, none⟩) hblw).trans q8⟩))
        have hPx := fun W => l06Pane x h W
        have hPr := fun W => l06Pane r ⟨ka, hr'.keyl, kc⟩ W
        simp only [Row.list, Pane.list, RowD.pane] at hPx hPr
        have HPX := Lib.hid hPx
        have HPR := Lib.hid hPr
        have S0 := HSS.out w2 (Below.refl _ _)
        clear hcx hx hIx hcv q0 q1 q2 q3 q4 q5 q6 q7 q8 hPx hPr hB02
        go_wp2_with fail
        refine mix.wp_region_ord (fun V => (V.cell? ⟨wo.heap.size, 0, none⟩ = some (.int .i64 r.win) ∧ V.cell? ⟨wo.heap.size, 1, none⟩ = some (.int .i64 r.mask) ∧ V.cell? ⟨wo.heap.size, 2, none⟩ = some (.int .i64 r.start) ∧ V.cell? ⟨wo.heap.size, 3, none⟩ = some (.slice ka hr'.keyl kc) ∧ V.cell? ⟨wo.heap.size, 4, none⟩ = some (.int .i64 r.a.n) ∧ V.cell? ⟨wo.heap.size, 5, none⟩ = some (.int .i64 r.a.sm) ∧ V.cell? ⟨wo.heap.size, 6, none⟩ = some (.int .i64 r.a.mn) ∧ V.cell? ⟨wo.heap.size, 7, none⟩ = some (.int .i64 r.a.mx) ∧ V.cell? ⟨wo.heap.size, 8, none⟩ = some (.int .i64 r.times)) ∧ (V.cell? ⟨bl, t * 9, none⟩ = some (.int .i64 x.win) ∧ V.cell? ⟨bl, t * 9 + 1, none⟩ = some (.int .i64 x.mask) ∧ V.cell? ⟨bl, t * 9 + 2, none⟩ = some (.int .i64 x.start) ∧ V.cell? ⟨bl, t * 9 + 3, none⟩ = some (.slice h.keya h.keyl h.keyc) ∧ V.cell? ⟨bl, t * 9 + 4, none⟩ = some (.int .i64 x.a.n) ∧ V.cell? ⟨bl, t * 9 + 5, none⟩ = some (.int .i64 x.a.sm) ∧ V.cell? ⟨bl, t * 9 + 6, none⟩ = some (.int .i64 x.a.mn) ∧ V.cell? ⟨bl, t * 9 + 7, none⟩ = some (.int .i64 x.a.mx) ∧ V.cell? ⟨bl, t * 9 + 8, none⟩ = some (.int .i64 x.times))) [9,11,12] [0,1,2,3,4,5,6,7,8,10,9,11,12,13,14] (by kernel_rfl) (by kernel_rfl) (fun _ _ d _ _ h => by cases d <;> exact h) S0 ?_
        clear S0
        simp only [List.filterMap_cons, List.filterMap_nil, List.getElem?_cons_zero, List.getElem?_cons_succ, Option.map_some]
        (repeat (first | (apply mix.ord_take; (· rfl); (· rfl); (· (intro w' hSw; (try dsimp only at hSw); go_simp; try with_reducible rfl)); (try simp only [Act.put, List.setIfInBounds_toArray, List.set_cons_zero, List.set_cons_succ])) | ((refine mix.ord_pass rfl (by rfl) ?_); (try simp only [Act.put, List.setIfInBounds_toArray, List.set_cons_zero, List.set_cons_succ]))))
        refine mix.ord_hard rfl (fun K hK => ?_); go_simp
        refine (HPX.out _).mono ?_
        rintro e V1 ⟨rfl, b1⟩
        have c1 : Below w2.heap.size w2 V1 := (Below.refl _ _).drew.trans b1
        have S1 := Lib.hid (HSS.out V1 c1)
        have C1 := Lib.hid c1
        clear b1 c1
        refine hK.out _ _ (S1.out) (fun hSw => ?_); clear hK K hSw; (try simp only [Act.put, List.setIfInBounds_toArray, List.set_cons_zero, List.set_cons_succ])
        refine mix.ord_hard rfl (fun K hK => ?_); go_simp
        refine (HPR.out _).mono ?_
        rintro e V2 ⟨rfl, b2⟩
        have c2 : Below w2.heap.size w2 V2 := C1.out.trans (b2.mono C1.out.size)
        have S2 := Lib.hid (HSS.out V2 c2)
        have C2 := Lib.hid c2
        clear b2 c2
        refine hK.out _ _ (S2.out) (fun hSw => ?_); clear hK K hSw; (try simp only [Act.put, List.setIfInBounds_toArray, List.set_cons_zero, List.set_cons_succ])
        refine mix.ord_hard rfl (fun K hK => ?_); go_simp
        have hcmp := spec_PaneCmp x.pane ⟨h.keya, h.keyl, h.keyc⟩ fx r.pane ⟨ka, hr'.keyl, kc⟩ fk V2 (row_pane_is (IX.out.below C2.out)) (row_pane_is (IR4.out.below (HB2.out.trans (C2.out.mono hw2)))) SX.out SZ.out
        rw [HCV.out] at hcmp
        simp only [Pane.list, RowD.pane] at hcmp
        refine hcmp.mono ?_
        clear hcmp
        rintro e V3 ⟨rfl, b3⟩
        have c3 : Below w2.heap.size w2 V3 := C2.out.trans (b3.mono C2.out.size)
        have S3 := Lib.hid (HSS.out V3 c3)
        have C3 := Lib.hid (HB2.out.trans (c3.mono hw2))
        clear b3 c3
        refine hK.out _ _ (S3.out) (fun hSw => ?_); clear hK K hSw; (try simp only [Act.put, List.setIfInBounds_toArray, List.set_cons_zero, List.set_cons_succ])
        by_cases hle : cv ≤ 0
        · have HN := Lib.hid (show ∀ (q : Nat) y, q < t + 1 → lst[q]? = some y → gtB r y = false from fun q y hq hy => by
            by_cases e : q = t
            · subst e; rw [HX.out] at hy; cases hy; unfold gtB; rw [HCV.out]; simp; omega
            · exact HGT.out q y (by omega) hy)
          (repeat (first | (apply mix.ord_take; (· rfl); (· rfl); (· (intro w' hSw; (try dsimp only at hSw); go_simp; try with_reducible rfl)); (try simp only [Act.put, List.setIfInBounds_toArray, List.set_cons_zero, List.set_cons_succ])) | ((refine mix.ord_pass rfl (by rfl) ?_); (try simp only [Act.put, List.setIfInBounds_toArray, List.set_cons_zero, List.set_cons_succ]))))
          refine mix.ord_end ?_
          go_wp2_with fail
          go_roundg (m - (t + 1))
          case measure => omega
          case rel => exact ⟨t + 1, by omega, by go_num, HN.out, C3.out⟩
        · have HE := Lib.hid (upsOne_ins (i := t) hno2.out (by rw [HM.out]; omega) (fun q y hq hy => HGT.out q y hq hy) (fun y hy => by rw [HX.out] at hy; cases hy; unfold gtB; rw [HCV.out]; simp; omega))
          (repeat (first | (apply mix.ord_take; (· rfl); (· rfl); (· (intro w' hSw; (try dsimp only at hSw); go_simp; try with_reducible rfl)); (try simp only [Act.put, List.setIfInBounds_toArray, List.set_cons_zero, List.set_cons_succ])) | ((refine mix.ord_pass rfl (by rfl) ?_); (try simp only [Act.put, List.setIfInBounds_toArray, List.set_cons_zero, List.set_cons_succ]))))
          refine mix.ord_end ?_
          have hb6 := C3.out
          obtain ⟨W6, rfl⟩ : ∃ W6, W6 = V3 := ⟨_, rfl⟩
          have hW06 := B04.out.trans (hb6.mono B04.out.size)
          have HW06 := Lib.hid hW06
          have HB6 := Lib.hid (HB.out.trans (hW06.mono hww))
          have IR6 := Lib.hid (show ∃ g, Row.Is W6 r ⟨ka, hr'.keyl, kc⟩ g from ⟨fk, IR4.out.below hb6⟩)
          have X6 := Lib.hid (X4.out.below hb6 x4l)
          have KX6 := Lib.hid (fun (V : World) (hV : Below W6.heap.size W6 V) => keep_row X6.out hV)
          obtain ⟨fS, hrs⟩ : ∃ fS, GRow 9 (RSR (fun x h => ∃ g, Row.Is W6 x h g)) wo (some ⟨bl, 0, none⟩) m lst fS := RLK.out.conv (fun _ x f ⟨hh, e, ⟨g, hg, _⟩, _⟩ => ⟨[], hh, e, ⟨g, hg.below hW06⟩, rfl⟩)
          clear hb6 hW06
          obtain ⟨fD, hD⟩ := hrs.drop (t := t) (by omega)
          rw [Nat.zero_add] at hD
          have HDR := Lib.hid (hD.below (local_rsr _) HW06.out)
          clear hD
          obtain ⟨fT, hT⟩ := hrs.take (t := t) (by omega)
          have HT := Lib.hid (hT.below (local_rsr _) HW06.out)
          have HGP := Lib.hid (made_rows (RSR (fun x h => ∃ g, Row.Is W6 x h g)) W6)
          have htl3 : (lst.take t).length ≤ 2000000 := by simp; omega
          have hdl3 : (lst.drop t).length ≤ 2000000 := by rw [List.length_drop, HM.out]; omega
          clear hT hrs
          go_wp2_with (at_builtin; refine halt_u (.tmp 62) (.tmp 65) _ _ rfl ?_)
          unfold HaltU
          refine pushAny (R := RSR (fun x h => ∃ g, Row.Is W6 x h g)) (k := 9) (l := []) (l2 := lst.take t) (by decide) (local_rsr _) rsr_f rsr_ind rsr_one rfl (.tmp 62) (.tmp 65) 46 rfl i0 _ 88 Try.underlying46 HI.out.1 HI.out.2.1 HI.out.2.2.1 HI.out.2.2.2 rfl rfl HGP.out (Below.refl _ _) _ _ _ fT rfl (HT.out.below (local_rsr _) ((Below.refl _ _).alloc (Nat.le_refl _) _)) (by first | (simp; done) | (simp; omega)) (by first | (simp; done) | (simp; unfold maxLen; omega)) (by simp) ?_
          intro v7 w7 hG7 hb7 hk7
          rw [List.nil_append] at hG7
          have hW7 : Below W6.heap.size W6 w7 := ((Below.refl _ _).alloc (Nat.le_refl _) _).trans hb7
          obtain ⟨y0, y1, y2, y3, y4, y5, y6, y7, y8⟩ := KX6.out w7 hW7
          have G7 := Lib.hid hG7
          have B7 := Lib.hid hW7
          clear hG7 hb7 hk7 hW7
          go_wp2_with (at_builtin; refine halt_u (.tmp 67) (.tmp 69) _ _ rfl ?_)
          unfold HaltU
          refine push2 (R := RSR (fun x h => ∃ g, Row.Is W6 x h g)) (k := 9) (wr := w7) (local_rsr _) rfl (.tmp 67) (.tmp 69) 46 rfl i0 _ 88 Try.underlying46 HI.out.1 HI.out.2.1 HI.out.2.2.1 HI.out.2.2.2 rfl (by decide) rfl G7.out ((Below.refl _ _).alloc (Nat.le_refl _) _) w7.heap.size 1 rfl (Row.list r ⟨ka, hr'.keyl, kc⟩) rfl row_one (fun q u hq => ((blk_new w7 120 (Row.list r ⟨ka, hr'.keyl, kc⟩)).cell q).trans hq) r [] ⟨_, rfl, IR6.out, rfl⟩ Own.nil (by omega) (by unfold maxLen; omega) B7.out.size ?_
          intro v8 w8 hG8 hb8 _ _
          have hW8 : Below W6.heap.size W6 w8 := (B7.out.trans (((Below.refl _ _).alloc (Nat.le_refl _) _).mono B7.out.size)).trans hb8
          have G8 := Lib.hid hG8
          have B8 := Lib.hid hW8
          clear hG8 hb8 hW8
          go_wp2_with (at_builtin; refine halt_u (.tmp 71) (.tmp 74) _ _ rfl ?_)
          unfold HaltU
          refine pushAny (R := RSR (fun x h => ∃ g, Row.Is W6 x h g)) (k := 9) (l := lst.take t ++ [r]) (l2 := lst.drop t) (by decide) (local_rsr _) rsr_f rsr_ind rsr_one rfl (.tmp 71) (.tmp 74) 46 rfl i0 _ 88 Try.underlying46 HI.out.1 HI.out.2.1 HI.out.2.2.1 HI.out.2.2.2 rfl rfl G8.out (Below.refl _ _) _ _ _ fD rfl (HDR.out.below (local_rsr _) B8.out) (by first | (simp; done) | (simp; omega)) (by first | (simp; done) | (simp; unfold maxLen; omega)) B8.out.size ?_
          intro v9 w9 hG9 hb9 _
          have hW9 : Below W6.heap.size W6 w9 := B8.out.trans hb9
          have G9 := Lib.hid hG9
          have B9 := Lib.hid hW9
          clear hG9 hb9 hW9
          go_wp2_with fail
          have hEnd : Grows 9 (RSR (KeyIn w9 v9.ownBlock)) 120 w.heap.size w9 v9 (lst.take t ++ r :: lst.drop t) := by
            have h1 := G9.out
            rw [List.append_assoc] at h1
            refine (h1.turn (fun y hy ⟨g, hg⟩ => KeyIn.young (o := none) ⟨g, hg, fun b _ e => by cases e⟩ B9.out (fun b e => (h1.lt b e).1))).lower ?_
            exact HB6.out.size
          have HEnd := Lib.hid hEnd
          have HBE := Lib.hid (HB6.out.trans (B9.out.mono HB6.out.size))
          clear hEnd
          go_roundg (n' - (j + 1))
          case measure => omega
          case rel => exact ⟨j + 1, by omega, by go_num, HBE.out, by rw [HNX.out, HE.out]; exact HEnd.out⟩

theorem spec_Upsert (a : Option Addr) (n c : Nat) (l : List RowD) (fp : List Nat) (a' : Option Addr) (n' c' : Nat) (l' : List RowD) (fp' : List Nat) (w : World) (hrow : GRow 9 RRow w a n l fp) (_u0 : n ≤ c) (_v0 : c ≤ 9223372036854775807) (hrow' : GRow 9 RRow w a' n' l' fp') (_u1 : n' ≤ c') (_v1 : c' ≤ 9223372036854775807) (hz0 : szL Row.sz l ≤ 2000000) (hz1 : szL Row.sz l' ≤ 2000000) (hz : szL Row.sz l + szL Row.sz l' ≤ 2000000) :
    Calls Try.prog 37 #[.slice a n c, .slice a' n' c'] w fun e w' => ∃ (a : Option Addr) (n c : Nat) (f : List Nat), e = .returned (.slice a n c) ∧ GRow 9 RRow w' a n (upsertD l l') f ∧ n ≤ c ∧ c ≤ 9223372036854775807 ∧ Below w.heap.size w w' := by
  refine (spec_Upsert_own a n c l fp a' n' c' l' fp' w hrow hrow' hz0 hz1 hz).mono ?_
  rintro e w' ⟨v, rfl, hG, hb⟩
  obtain ⟨a2, c2, f2, rfl, hg, h1, h2, _⟩ := hG.done
  obtain ⟨f3, h3⟩ := rsr_row hg (fun _ _ ⟨g, hg, _⟩ => ⟨g, hg⟩)
  exact ⟨a2, _, c2, f3, rfl, h3, h1, h2, hb⟩
end Go.Proofs.Ytoglclmaacjdaaa.dat
