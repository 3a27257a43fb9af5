/-
  THE DRAWS: the contract of agg: it answers some aggregate's four numbers, and writes nothing but the cursor and new memory.
  Condition: the cursor is one, and has been asked fewer than 2^38 times.
-/
import Derived.Test.YthldfaapckhcpaaDoorCur2
import Derived.Test.YthldfaapckhcpaaDoorAggListSpec
import Derived.Test.YthldfaapckhcpaaDoorIntsCopy
import Derived.Deep.LoopGhost
namespace Go.Proofs.YthldfaapckhcpaaDoor.cur
open Go.RowKit
open Go.Proofs.YthldfaapckhcpaaDoor.agg (Q Own4 Box4 own_alloc own_set box_alloc Row listV listT spec_AggList info_int zero)

/-- What a draw of an aggregate answers, and what it leaves. -/
def Aggd (g : Nat) (a : Option Addr) (len cap m : Nat) (w : World) (e : Ending) (w' : World) : Prop :=
  ∃ q : Q, e = .returned (.agg #[.int .i64 q.n, .int .i64 q.s, .int .i64 q.mn, .int .i64 q.mx]) ∧ Curs g a len cap m w' ∧ Only g w w'

/-- As Curs.below, over any bound above the cursor's block. -/
theorem Curs.belowB {g B : Nat} {a : Option Addr} {len cap m : Nat} {w w' : World} (h : Curs g a len cap m w) (hb : Below B w w') (hg : g < B) : Curs g a len cap m w' := by
  obtain ⟨pos, seed, h1, h2, h3, h4, h5, h6, c0, c1, c2, hf, hB⟩ := h
  refine ⟨pos, seed, h1, h2, h3, h4, Nat.lt_of_lt_of_le h5 hb.size, h6, (hb.cell (p := ⟨g, 0, none⟩) hg).trans c0, (hb.cell (p := ⟨g, 1, none⟩) hg).trans c1, (hb.cell (p := ⟨g, 2, none⟩) hg).trans c2, fun j => (hb.frozen (p := ⟨g, j, none⟩) hg).trans (hf j), fun h0 => ?_⟩
  obtain ⟨b, off, e, k1, k2, k3⟩ := hB h0
  refine ⟨b, off, e, k1, Nat.lt_of_lt_of_le k2 hb.size, fun i hi => ?_⟩
  obtain ⟨v, v0, v1, hc⟩ := k3 i hi
  exact ⟨v, v0, v1, (hb.cell (p := ⟨b, off + i, none⟩) (by show b < B; omega)).trans hc⟩

theorem Curs.lt {g : Nat} {a : Option Addr} {len cap m : Nat} {w : World} (h : Curs g a len cap m w) : g < w.heap.size := by
  obtain ⟨pos, seed, h1, h2, h3, h4, h5, -⟩ := h; exact h5

theorem Own4.only {g k : Nat} {w w' : World} {q : Q} (h : Own4 w k q) (ho : Only g w w') (hk : k < w.heap.size) (hn : k ≠ g) : Own4 w' k q :=
  ⟨⟨(ho.cell hk hn).trans h.1.1, (ho.cell hk hn).trans h.1.2.1, (ho.cell hk hn).trans h.1.2.2.1, (ho.cell hk hn).trans h.1.2.2.2⟩, fun j => (ho.frozen hk hn).trans (h.2 j)⟩

/-- A row of the call's own is left by a call that writes another block alone. -/
theorem ownsRow_only {g base : Nat} {w w' : World} {e : TypeId} {size n : Nat} {v : Value} {xs : List Value} (h : w.ownsRow base e size v n xs) (ho : Only g w w') (hg : g < base) : w'.ownsRow base e size v n xs := by
  obtain ⟨h1, h2⟩ := h
  refine ⟨h1, ?_⟩
  rcases h2 with h2 | ⟨k, cap, cur, hv, hk, hh, r⟩
  · exact .inl h2
  · have hlt : k < w.heap.size := (Array.getElem?_eq_some_iff.1 hh).1
    exact .inr ⟨k, cap, cur, hv, hk, (ho.block k hlt (by omega)).trans hh, r⟩

def ints (l : List Int) : List Value := l.map (fun v => .int .i64 v)

/-- A row of the call's own that holds these numbers, as a slice's elements. -/
theorem row_of_owns {base n : Nat} {w : World} {e : TypeId} {v : Value} {l : List Int} (h : w.ownsRow base e 1 v n (ints l)) : ∃ ad cap, v = .slice ad n cap ∧ Row w ad n l := by
  obtain ⟨h1, h2⟩ := h
  have hl : l.length = n := by simpa [ints] using h1
  rcases h2 with ⟨rfl, rfl⟩ | ⟨k, cap, cur, rfl, hk, hh, hnc, hcm, hcs, ht⟩
  · exact ⟨none, 0, rfl, hl, fun h => absurd h (by omega)⟩
  · refine ⟨_, cap, rfl, hl, fun _ => ⟨k, 0, rfl, (Array.getElem?_eq_some_iff.1 hh).1, fun i hi => ?_⟩⟩
    have e1 : cur[i]? = some (.int .i64 (l.getD i 0)) := by
      have e2 : (cur.toList.take (n * 1))[i]? = (ints l)[i]? := by rw [ht]
      rw [List.getElem?_take, if_pos (by omega)] at e2
      rw [← Array.getElem?_toList, e2]
      simp only [ints, List.getElem?_map, List.getD_eq_getElem?_getD]
      rw [List.getElem?_eq_getElem (by omega)]
      simp
    simp [World.cell?, hh, e1]

theorem Only.then_below {g B : Nat} {a b c : World} (h : Only g a b) (hb : Below B b c) (hB : a.heap.size ≤ B) : Only g a c :=
  ⟨hb.os.trans h.os, hb.tape.trans h.tape, hb.output.trans h.output, Nat.le_trans h.size hb.size, fun k hk hn => (hb.block k (by omega)).trans (h.block k hk hn)⟩

theorem ownBlock_ge {base n size : Nat} {w : World} {e : TypeId} {v : Value} {xs : List Value} (h : w.ownsRow base e size v n xs) : ∀ k, v.ownBlock = some k → base ≤ k := by
  intro k hk
  rcases h.2 with ⟨rfl, _⟩ | ⟨g, cap, cur, rfl, hg, _⟩
  · simp [Value.ownBlock] at hk
  · simp [Value.ownBlock] at hk; omega

theorem heap_two (w : World) (o p : Obj) : ((w.alloc o).alloc p).heap[w.heap.size + 1]? = some p := by
  have h := (MapKept.heap_alloc (w.alloc o) p).1
  rw [World.size_alloc] at h
  exact h

/-- At a round's head: n numbers are drawn. -/
structure Drawing (w : World) (g : Nat) (a : Option Addr) (len cap m : Nat) (v : Value) (n : Nat) (l : List Int) (wr : World) : Prop where
  owns : wr.ownsRow (w.heap.size + 1) 3 1 v n (ints l)
  curs : Curs g a len cap (m + 1 + n) wr
  only : Only g w wr
  own : Own4 wr w.heap.size zero
  size : w.heap.size + 1 < wr.heap.size

/-- What the drawing of an aggregate leaves ahead of its last statement. -/
def Spoilt (w : World) (g : Nat) (a : Option Addr) (len cap m x : Nat) (wx : World) : Prop :=
  ∃ q : Q, Own4 wx x q ∧ Own4 wx w.heap.size zero ∧ Curs g a len cap m wx ∧ Only g w wx

theorem cell_lt {w : World} {b o : Nat} {v : Value} (h : w.cell? ⟨b, o, none⟩ = some v) : b < w.heap.size := by
  apply Classical.byContradiction
  intro hn
  have : w.heap[b]? = none := by simp; omega
  simp [World.cell?, this] at h

theorem Spoilt.alloc {w wx : World} {g : Nat} {a : Option Addr} {len cap m x : Nat} (h : Spoilt w g a len cap m x wx) (o : Obj) : Spoilt w g a len cap m x (wx.alloc o) := by
  obtain ⟨q, h1, h2, h3, h4⟩ := h
  have hb : Below wx.heap.size wx (wx.alloc o) := (Below.refl _ _).alloc (Nat.le_refl _) _
  exact ⟨q, h1.below hb (cell_lt h1.1.1), h2.below hb (cell_lt h2.1.1), h3.below hb, h4.alloc o⟩

theorem own_set0 {w : World} {x : Nat} {q : Q} (e : Int) (h : Own4 w x q) : Own4 (w.setCell ⟨x, 0, none⟩ (.int .i64 e)) x ⟨e, q.s, q.mn, q.mx⟩ := by
  obtain ⟨⟨h0, h1, h2, h3⟩, hf⟩ := h
  exact ⟨⟨by simp [go_sem, h0], by simp [go_sem, h1], by simp [go_sem, h2], by simp [go_sem, h3]⟩, fun j => by rw [World.frozen?_setCell]; exact hf j⟩
theorem own_set1 {w : World} {x : Nat} {q : Q} (e : Int) (h : Own4 w x q) : Own4 (w.setCell ⟨x, 1, none⟩ (.int .i64 e)) x ⟨q.n, e, q.mn, q.mx⟩ := by
  obtain ⟨⟨h0, h1, h2, h3⟩, hf⟩ := h
  exact ⟨⟨by simp [go_sem, h0], by simp [go_sem, h1], by simp [go_sem, h2], by simp [go_sem, h3]⟩, fun j => by rw [World.frozen?_setCell]; exact hf j⟩
theorem own_set2 {w : World} {x : Nat} {q : Q} (e : Int) (h : Own4 w x q) : Own4 (w.setCell ⟨x, 2, none⟩ (.int .i64 e)) x ⟨q.n, q.s, e, q.mx⟩ := by
  obtain ⟨⟨h0, h1, h2, h3⟩, hf⟩ := h
  exact ⟨⟨by simp [go_sem, h0], by simp [go_sem, h1], by simp [go_sem, h2], by simp [go_sem, h3]⟩, fun j => by rw [World.frozen?_setCell]; exact hf j⟩
theorem own_set3 {w : World} {x : Nat} {q : Q} (e : Int) (h : Own4 w x q) : Own4 (w.setCell ⟨x, 3, none⟩ (.int .i64 e)) x ⟨q.n, q.s, q.mn, e⟩ := by
  obtain ⟨⟨h0, h1, h2, h3⟩, hf⟩ := h
  exact ⟨⟨by simp [go_sem, h0], by simp [go_sem, h1], by simp [go_sem, h2], by simp [go_sem, h3]⟩, fun j => by rw [World.frozen?_setCell]; exact hf j⟩
theorem below_set {w : World} {x o : Nat} (v : Value) : Below x w (w.setCell ⟨x, o, none⟩ v) := Below.setCell (p := ⟨x, o, none⟩) (Below.refl x w) (Nat.le_refl x) v

/-- One of four numbers, by its place. -/
def sel4 (r a b c d : Int) : Int := if r = 0 then a else if r = 1 then b else if r = 2 then c else d

theorem sel4_arr (a b c d r : Int) (h0 : 0 ≤ r) (h1 : r < 4) : (#[Value.int .i64 a, .int .i64 b, .int .i64 c, .int .i64 d] : Array Value)[r.toNat]? = some (.int .i64 (sel4 r a b c d)) := by
  have : r = 0 ∨ r = 1 ∨ r = 2 ∨ r = 3 := by omega
  rcases this with rfl | rfl | rfl | rfl <;> simp [sel4]

theorem sel4_cell (w : World) (t : TypeId) (a b c d r : Int) (h0 : 0 ≤ r) (h1 : r < 4) : (w.alloc (.cells #[.int .i64 a, .int .i64 b, .int .i64 c, .int .i64 d] t)).cell? ⟨w.heap.size, r.toNat, none⟩ = some (.int .i64 (sel4 r a b c d)) := by
  have : r = 0 ∨ r = 1 ∨ r = 2 ∨ r = 3 := by omega
  rcases this with rfl | rfl | rfl | rfl <;> simp [go_sem, sel4]

set_option maxHeartbeats 1000000 in
theorem agg_any (g : Nat) (a : Option Addr) (len cap m : Nat) (w : World) (hm : m ≤ 274877906944) (hc : Curs g a len cap m w) :
    Calls Tryd.prog 20 #[.pointer (some ⟨g, 0, none⟩)] w (Aggd g a len cap (m + 20) w) := by
  have hg := hc.lt
  have H := Lib.hid hc
  clear hc
  obtain ⟨i0, hi, hz0, hz1, hz2⟩ := info_parts info_int
  go_enter Tryd.func20, Tryd.ntmps20
  go_wp2_with fail
  refine (size_any g a len cap m 6 _ (by omega) (by omega) (by omega) ?hc1).mono ?_
  case hc1 => exact H.out.belowB (B := w.heap.size) (by repeat (first | exact Below.refl _ _ | refine Below.setCell ?_ (by first | omega | (simp; done) | (simp; omega)) _ | refine Below.alloc ?_ (by first | omega | (simp; done) | (simp; omega)) _ | apply Below.drew)) hg
  rintro e w1 ⟨r, rfl, ⟨r0, r1⟩, hc1, ho1⟩
  obtain ⟨k0, rfl⟩ : ∃ k : Nat, r = k := ⟨r.toNat, by omega⟩
  have H1 := Lib.hid hc1
  have HO1 := Lib.hid ho1
  clear hc1 ho1
  go_wp2_with fail
  go_loopg [3, 4] k0 (fun k s3 s4 wr => ∃ (l : List Int) (n : Nat), n + k ≤ 6 ∧ s4 = .int .i64 k ∧ Drawing w g a len cap m s3 n l wr)
  case atStart =>
    refine ⟨[], 0, by omega, rfl, ⟨rfl, .inr ⟨w.heap.size + 1, 0, #[], rfl, Nat.le_refl _, ?_, Nat.le_refl _, by simp [maxLen], rfl, rfl⟩⟩, H1.out, ?_, ?_, ?_⟩
    · rw [HO1.out.block _ (by simp) (by omega)]
      exact heap_two w _ _
    · exact (((Only.refl g w).alloc _).alloc _).trans HO1.out
    · refine Own4.only ?_ HO1.out (by simp; omega) (by omega)
      exact Own4.below (own_alloc w zero 25) ((Below.refl (w.heap.size + 1) _).alloc (by simp) _) (by omega)
    · exact Nat.lt_of_lt_of_le (by simp) HO1.out.size
  case round =>
    obtain ⟨l, n, hn, rfl, hd⟩ := hrel
    have HD := Lib.hid hd
    have hsz := hd.size
    clear hd H1 HO1
    by_cases hk : 0 < gk
    · go_wp2_with fail
      refine (value_any g a len cap (m + 1 + n) _ (by omega) HD.out.curs).mono ?_
      rintro e w2 ⟨v, rfl, ⟨v0, v1⟩, hc2, ho2⟩
      have hown := ownsRow_only HD.out.owns ho2 (by omega)
      have H2 := Lib.hid hc2
      have HO2 := Lib.hid ho2
      have z2 : w.heap.size + 1 < w2.heap.size := Nat.lt_of_lt_of_le hsz ho2.size
      clear hc2 ho2
      go_wp2_with (at_builtin; refine wpList_append_own _ rfl _ _ 51 rfl (w.heap.size + 1) 3 i0 (.int .i64 0) 1 8 Tryd.underlying51 hi hz0 hz1 hz2 rfl (by decide) _ _ _ rfl (hown.alloc _) ⟨w2.heap.size, 0, none⟩ 1 1 [.int .i64 v] rfl rfl (cell_one_new _ _ _) (fun x hx => by simp at hx; subst hx; rfl) (by unfold maxLen; omega) (by omega) (by simp; omega) ?_; intro v' w3 hown' hgrow3 hnil3)
      go_roundg (gk - 1)
      case measure => omega
      case rel =>
        have hB : Below (w.heap.size + 1) w2 w3 := ((Below.refl _ _).alloc (by omega) _).grown hgrow3 (by simp; omega) (ownBlock_ge hown)
        refine ⟨l ++ [v], n + 1, by omega, by go_num, ?_, ?_, ?_, ?_, ?_⟩
        · have e : ints (l ++ [v]) = ints l ++ [.int .i64 v] := by simp [ints]
          rw [e]; exact hown'
        · exact H2.out.belowB hB (by omega)
        · exact (HD.out.only.trans HO2.out).then_below hB (by omega)
        · exact (Own4.only HD.out.own HO2.out (by omega) (by omega)).below hB (by omega)
        · exact Nat.lt_of_lt_of_le z2 hB.size
    · obtain ⟨ad, cp, rfl, hrow⟩ := row_of_owns HD.out.owns
      have hgk : gk = 0 := by omega
      subst hgk
      have HR := Lib.hid hrow
      clear hrow
      go_wp2_with fail
      refine (spec_AggList _ _ _ l _ (by omega) HR.out).mono ?_
      rintro e w4 ⟨rfl, hb4⟩
      have H4 := Lib.hid ((HD.out.curs).belowB hb4 (by omega))
      have HO4 := Lib.hid (HD.out.only.then_below hb4 (by omega))
      have HW4 := Lib.hid (HD.out.own.below hb4 (by omega))
      have z4 : w.heap.size + 1 < w4.heap.size := Nat.lt_of_lt_of_le hsz hb4.size
      clear hb4 HR HD
      go_wp2_with fail
      refine (once_any g a len cap (m + 1 + n) 8 _ (by omega) (H4.out.belowB ((Below.refl _ _).alloc (Nat.le_refl _) _) (by omega))).mono ?_
      rintro e w5 ⟨t, rfl, hc5, ho5⟩
      have hW5 := Own4.only (HW4.out.below ((Below.refl w4.heap.size w4).alloc (Nat.le_refl _) (.cells #[.int .i64 (listV l).n, .int .i64 (listV l).s, .int .i64 (listV l).mn, .int .i64 (listV l).mx] 25)) (by omega)) ho5 (by simp; omega) (by omega)
      have hX5 := Own4.only (own_alloc w4 (listV l) 25) ho5 (by simp) (by omega)
      have z5 : w4.heap.size < w5.heap.size := Nat.lt_of_lt_of_le (by simp) ho5.size
      have H5 := Lib.hid hc5
      have HO5 := Lib.hid ((HO4.out.alloc _).trans ho5)
      clear hc5 ho5 H4 HO4 HW4
      generalize listV l = q at *
      generalize w4.heap.size = x at *
      have HW5 := Lib.hid hW5
      have HX5 := Lib.hid hX5
      have zwx : w.heap.size + 1 < x := z4
      clear hW5 hX5 H i0 hi hz0 hz1 hz2
      go_upto_if 25 with fail
      go_cut [] (fun wx => Spoilt w g a len cap (m + 20) x wx)
      case first =>
        cases t
        · go_wp2_with fail
          go_meet
          exact ⟨q, HX5.out, HW5.out, H5.out.more (by omega), HO5.out⟩
        · go_wp2_with fail
          refine (pick_any g a len cap (m + 1 + n + 1) 4 _ (by omega) H5.out).mono ?_
          rintro e w6 ⟨r, rfl, rr0, rr1, hc6, ho6⟩
          have HW6 := Lib.hid (Own4.only HW5.out ho6 (by omega) (by omega))
          have HX6 := Lib.hid (Own4.only HX5.out ho6 z5 (by omega))
          have z6 : x < w6.heap.size := Nat.lt_of_lt_of_le z5 ho6.size
          have zw6 : w.heap.size < w6.heap.size := by omega
          have H6 := Lib.hid hc6
          have HO6 := Lib.hid (HO5.out.trans ho6)
          have hxg : ¬ x = g := by omega
          have hwg : ¬ w.heap.size = g := by omega
          clear hc6 ho6 H5 HO5 HW5 HX5 z5
          have hr4 : r = 0 ∨ r = 1 ∨ r = 2 ∨ r = 3 := by omega
          clear rr1
          rcases hr4 with rfl | rfl | rfl | rfl
          · obtain ⟨⟨c0, c1, c2, c3⟩, cf⟩ := HX6.out
            have hsel := sel4_cell
            have hsel2 := sel4_arr
            go_wp2_with fail
            go_region_with (first | (go_at_call 36; refine (raw_any g a len cap (m + 1 + n + 1 + 1) _ (by omega) ?_).mono ?_; (exact H6.out.belowB (B := w6.heap.size) (by repeat (first | exact Below.refl _ _ | refine Below.setCell ?_ (by first | omega | (simp; done) | (simp; omega)) _ | refine Below.alloc ?_ (by first | omega | (simp; done) | (simp; omega)) _ | apply Below.drew)) (by omega)); (rintro e w7 ⟨k, rfl, -, hc7, ho7⟩); have kx : w7.cell? ⟨x, 0, none⟩ = some (.int .i64 q.n) := ((ho7.cell z6 hxg).trans c0); have kf : w7.frozen? ⟨x, 0, none⟩ = false := ((ho7.frozen z6 hxg).trans (cf 0)); have z7 : x < w7.heap.size := Nat.lt_of_lt_of_le z6 ho7.size; have g7 : ¬ w7.heap.size = g := (by omega); have z7' : x ≤ w7.heap.size := (by omega); have z7'' : x < w7.heap.size + 1 := (by omega)) | (go_at_call 29; refine (pick_any g a len cap (m + 1 + n + 1 + 1 + 2) 4 _ (by omega) ?_).mono ?_; (exact hc7.belowB (B := w7.heap.size) (by repeat (first | exact Below.refl _ _ | refine Below.setCell ?_ (by first | omega | (simp; done) | (simp; omega)) _ | refine Below.alloc ?_ (by first | omega | (simp; done) | (simp; omega)) _ | apply Below.drew)) (by omega)); (rintro e w8 ⟨j, rfl, jj0, jj1, hc8, ho8⟩); have j4 : j < 4 := (by omega); have z8 : x < w8.heap.size := Nat.lt_of_lt_of_le (by first | exact z7 | (simp; omega)) ho8.size; have k8 := fun (b o : Nat) (h1 : b < _) (h2 : ¬ b = g) => ho8.cell (b := b) (o := o) h1 h2; have f8 := fun (b o : Nat) (h1 : b < _) (h2 : ¬ b = g) => ho8.frozen (b := b) (o := o) h1 h2))
            all_goals (
              have o67 : Only g w6 w7 := Only.trans (by repeat (first | exact Only.refl g w6 | apply Only.drew | refine Only.alloc ?_ _)) ho7
              have o78 : Only g w7 w8 := Only.trans (by repeat (first | exact Only.refl g w7 | apply Only.drew | refine Only.alloc ?_ _)) ho8
              have o68 := o67.trans o78
              have H8 := Lib.hid hc8
              clear k8 f8 ho8 hsel hsel2 hc7 ho7 kx kf hc8 o67 o78
              go_wp2_with fail
              go_meet
              have hS : ∀ e : Int, Spoilt w g a len cap (m + 20) x (w8.setCell ⟨x, 0, none⟩ (.int .i64 e)) := fun e =>
                ⟨_, own_set0 e (Own4.only HX6.out o68 z6 hxg), (Own4.only HW6.out o68 zw6 hwg).below (below_set _) (by omega), (H8.out.more (by omega)).belowB (below_set _) (by omega), (HO6.out.trans o68).then_below (below_set _) (by omega)⟩
              first | exact hS _ | exact (hS _).alloc _)
          · obtain ⟨⟨c0, c1, c2, c3⟩, cf⟩ := HX6.out
            go_wp2_with fail
            go_region_with ((go_at_call 29; refine (pick_any g a len cap (m + 1 + n + 1 + 1) 3 _ (by omega) ?_).mono ?_; (exact H6.out.belowB (B := w6.heap.size) (by repeat (first | exact Below.refl _ _ | refine Below.setCell ?_ (by first | omega | (simp; done) | (simp; omega)) _ | refine Below.alloc ?_ (by first | omega | (simp; done) | (simp; omega)) _ | apply Below.drew)) (by omega)); (rintro e w7 ⟨k, rfl, kk0, kk1, hc7, ho7⟩); have kx : w7.cell? ⟨x, 1, none⟩ = some (.int .i64 q.s) := ((ho7.cell z6 hxg).trans c1); have kf : w7.frozen? ⟨x, 1, none⟩ = false := ((ho7.frozen z6 hxg).trans (cf 1))))
            all_goals (
              have hX7 := Own4.only HX6.out (Only.trans (by first | exact Only.refl g w6 | exact (Only.refl g w6).drew) ho7) z6 hxg
              have hW7 := Own4.only HW6.out (Only.trans (by first | exact Only.refl g w6 | exact (Only.refl g w6).drew) ho7) zw6 hwg
              have hO7 := HO6.out.trans (Only.trans (by first | exact Only.refl g w6 | exact (Only.refl g w6).drew) ho7)
              go_wp2_with fail
              go_meet
              exact ⟨_, own_set1 _ hX7, hW7.below (below_set _) (by omega), (hc7.more (by omega)).belowB (below_set _) (by omega), hO7.then_below (below_set _) (by omega)⟩)
          · obtain ⟨⟨c0, c1, c2, c3⟩, cf⟩ := HX6.out
            go_wp2_with fail
            go_region_with ((go_at_call 29; refine (pick_any g a len cap (m + 1 + n + 1 + 1) 2 _ (by omega) ?_).mono ?_; (exact H6.out.belowB (B := w6.heap.size) (by repeat (first | exact Below.refl _ _ | refine Below.setCell ?_ (by first | omega | (simp; done) | (simp; omega)) _ | refine Below.alloc ?_ (by first | omega | (simp; done) | (simp; omega)) _ | apply Below.drew)) (by omega)); (rintro e w7 ⟨k, rfl, kk0, kk1, hc7, ho7⟩); have kx : w7.cell? ⟨x, 2, none⟩ = some (.int .i64 q.mn) := ((ho7.cell z6 hxg).trans c2); have kf : w7.frozen? ⟨x, 2, none⟩ = false := ((ho7.frozen z6 hxg).trans (cf 2))))
            all_goals (
              have hX7 := Own4.only HX6.out (Only.trans (by first | exact Only.refl g w6 | exact (Only.refl g w6).drew) ho7) z6 hxg
              have hW7 := Own4.only HW6.out (Only.trans (by first | exact Only.refl g w6 | exact (Only.refl g w6).drew) ho7) zw6 hwg
              have hO7 := HO6.out.trans (Only.trans (by first | exact Only.refl g w6 | exact (Only.refl g w6).drew) ho7)
              go_wp2_with fail
              go_meet
              exact ⟨_, own_set2 _ hX7, hW7.below (below_set _) (by omega), (hc7.more (by omega)).belowB (below_set _) (by omega), hO7.then_below (below_set _) (by omega)⟩)
          · obtain ⟨⟨c0, c1, c2, c3⟩, cf⟩ := HX6.out
            go_wp2_with fail
            refine (raw_any g a len cap (m + 1 + n + 1 + 1) _ (by omega) H6.out).mono ?_
            rintro e w7 ⟨k, rfl, -, hc7, ho7⟩
            have hX7 := Own4.only HX6.out ho7 z6 hxg
            have hW7 := Own4.only HW6.out ho7 zw6 hwg
            have hO7 := HO6.out.trans ho7
            have kx : w7.cell? ⟨x, 3, none⟩ = some (.int .i64 q.mx) := ((ho7.cell z6 hxg).trans c3)
            have kf : w7.frozen? ⟨x, 3, none⟩ = false := ((ho7.frozen z6 hxg).trans (cf 3))
            have H7 := Lib.hid hc7
            have HX7 := Lib.hid hX7
            have HW7 := Lib.hid hW7
            have HO7 := Lib.hid hO7
            clear hc7 hX7 hW7 hO7 ho7
            go_wp2_with fail
            go_meet
            exact ⟨_, own_set3 _ HX7.out, HW7.out.below (below_set _) (by omega), (H7.out.more (by omega)).belowB (below_set _) (by omega), HO7.out.then_below (below_set _) (by omega)⟩
      case rest =>
        obtain ⟨q', hX, hW, hC, hO⟩ := hcut
        have HC := Lib.hid hC
        have HO := Lib.hid hO
        clear hC hO H5 HO5 HX5 HW5
        obtain ⟨⟨c0, c1, c2, c3⟩, cf⟩ := hX
        obtain ⟨⟨s0, s1, s2, s3⟩, sf⟩ := hW
        simp only [zero] at s0 s1 s2 s3
        go_wp2_with fail
        refine bodyPost_ret (v := .agg #[.int .i64 q'.n, .int .i64 q'.s, .int .i64 q'.mn, .int .i64 q'.mx]) (by simp [results, Tryd.results20, go_sem, s0, s1, s2, s3]) rfl ⟨q', rfl, ?_, ?_⟩
        · exact HC.out.belowB (agg.below_set4 _ _ _ _) hg
        · exact HO.out.then_below (agg.below_set4 _ _ _ _) (Nat.le_refl _)
end Go.Proofs.YthldfaapckhcpaaDoor.cur
