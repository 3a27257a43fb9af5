/-
  A Config that is read as data; toConfig as a copy of it; the walk of the law FnExactConfigOk: it answers true, and nothing that was there is written.
-/
import Derived.Test.YtnojmnjogpcmjaaConfOk
import Derived.Test.YtnojmnjogpcmjaaSpecConf
namespace Go.Proofs.Ytnojmnjogpcmjaa.win
open Go.RowKit

/-- A Config whose slices hold these windows and masks. -/
structure Cf.Is (c : Cf) (w : World) (ws : List (Int × Int)) (ms : List Int) : Prop where
  inn : c.In w ws ms
  cw : c.wl ≤ c.wc
  cm : c.ml ≤ c.mc
  mw : c.wc ≤ 9223372036854775807
  mm : c.mc ≤ 9223372036854775807
theorem Cf.Is.below {c : Cf} {w w' : World} {ws : List (Int × Int)} {ms : List Int} (h : c.Is w ws ms) (hb : Below w.heap.size w w') : c.Is w' ws ms := ⟨h.inn.below hb, h.cw, h.cm, h.mw, h.mm⟩
theorem Cf.Is.above {c : Cf} {w w' : World} {ws : List (Int × Int)} {ms : List Int} (h : c.Is w ws ms) (hb : Below w.heap.size w w') : c.Is w' ws ms := h.below hb
/-- Two Configs with the same numbers. -/
structure Cf.Like (c c' : Cf) : Prop where
  d : c.d = c'.d
  dl : c.dl = c'.dl
  lt : c.lt = c'.lt
  wl : c.wl = c'.wl
  ml : c.ml = c'.ml
theorem Cf.Like.conf {c c' : Cf} (h : c.Like c') (ws : List (Int × Int)) (ms : List Int) : confB c' ws ms = confB c ws ms := by
  simp only [confB, h.d, h.dl, h.lt]
theorem Cf.Like.trans {a b c : Cf} (h : a.Like b) (k : b.Like c) : a.Like c := ⟨h.d.trans k.d, h.dl.trans k.dl, h.lt.trans k.lt, h.wl.trans k.wl, h.ml.trans k.ml⟩
theorem Cf.Like.symm {a b : Cf} (h : a.Like b) : b.Like a := ⟨h.d.symm, h.dl.symm, h.lt.symm, h.wl.symm, h.ml.symm⟩

/-- A copy of c: its slices are new rows. -/
def CopyC (w : World) (c : Cf) (ws : List (Int × Int)) (ms : List Int) (e : Ending) (w' : World) : Prop :=
  ∃ c' : Cf, e = .returned (.agg c'.cells) ∧ c.Like c' ∧ c'.Is w' ws ms ∧ Below w.heap.size w w'
theorem copy_conf (c : Cf) (ws : List (Int × Int)) (ms : List Int) (w : World) (hm : c.wl ≤ 2000000) (hm' : c.ml ≤ 2000000) (hin : c.In w ws ms) :
    Calls Try.prog 18 #[.agg c.cells] w (CopyC w c ws ms) := by
  refine (toConfig c ws ms w hm hm' hin).mono ?_
  rintro e w' ⟨g, h, rfl, hg, hgh, hb, r1, r2⟩
  exact ⟨_, rfl, ⟨rfl, rfl, rfl, rfl, rfl⟩, ⟨⟨wrow_of_is hin.1.1 r1, row_of_is hin.2.1 r2⟩, Nat.le_refl _, Nat.le_refl _, by simp only; omega, by simp only; omega⟩, hb⟩

theorem szB_ok {c : Cf} {n : Int} (h : 0 ≤ szB c n) : (c.wl : Int) ≤ n ∧ (c.ml : Int) ≤ n := by
  unfold szB at h
  split at h
  · split at h
    · omega
    · omega
  · omega
theorem szB_no {c : Cf} {n : Int} (h : ¬ 0 ≤ szB c n) : szB c n = -1 := by
  unfold szB at *
  split at h
  · split at h
    · omega
    · rw [if_pos (by assumption), if_neg (by assumption)]
  · rw [if_neg (by assumption)]

def cfList (c : Cf) : List Value := [.int .i64 c.d, .slice c.wa c.wl c.wc, .slice c.ma c.ml c.mc, .int .i64 c.dl, .int .i64 c.lt]
/-- The five cells of a Config's box. -/
def Box5 (w : World) (g : Nat) (c : Cf) : Prop := w.cell? ⟨g, 0, none⟩ = some (.int .i64 c.d) ∧ w.cell? ⟨g, 1, none⟩ = some (.slice c.wa c.wl c.wc) ∧ w.cell? ⟨g, 2, none⟩ = some (.slice c.ma c.ml c.mc) ∧ w.cell? ⟨g, 3, none⟩ = some (.int .i64 c.dl) ∧ w.cell? ⟨g, 4, none⟩ = some (.int .i64 c.lt)
theorem box5 {w : World} {g : Nat} {t : TypeId} {c : Cf} (h : Blk w g t (cfList c)) : Box5 w g c := by
  have h0 := h.cell 0
  have h1 := h.cell 1
  have h2 := h.cell 2
  have h3 := h.cell 3
  have h4 := h.cell 4
  simp [cfList] at h0 h1 h2 h3 h4
  exact ⟨h0, h1, h2, h3, h4⟩

theorem keep10 {W w' : World} {p q : Nat} {t u : TypeId} {c x : Cf} (ha : Blk W p t (cfList c)) (hb : Blk W q u (cfList x)) (h : Below W.heap.size W w') :
    w'.cell? ⟨p, 0, none⟩ = some (.int .i64 c.d) ∧ w'.cell? ⟨p, 1, none⟩ = some (.slice c.wa c.wl c.wc) ∧ w'.cell? ⟨p, 2, none⟩ = some (.slice c.ma c.ml c.mc) ∧ w'.cell? ⟨p, 3, none⟩ = some (.int .i64 c.dl) ∧ w'.cell? ⟨p, 4, none⟩ = some (.int .i64 c.lt)
        ∧ w'.cell? ⟨q, 0, none⟩ = some (.int .i64 x.d) ∧ w'.cell? ⟨q, 1, none⟩ = some (.slice x.wa x.wl x.wc) ∧ w'.cell? ⟨q, 2, none⟩ = some (.slice x.ma x.ml x.mc) ∧ w'.cell? ⟨q, 3, none⟩ = some (.int .i64 x.dl) ∧ w'.cell? ⟨q, 4, none⟩ = some (.int .i64 x.lt) := by
  obtain ⟨a0, a1, a2, a3, a4⟩ := box5 (ha.below h ha.lt)
  exact ⟨a0, a1, a2, a3, a4, box5 (hb.below h hb.lt)⟩

set_option maxRecDepth 100000 in
set_option maxHeartbeats 2000000 in
theorem walk_ConfigOk (c : Cf) (ws : List (Int × Int)) (ms : List Int) (w : World) (his : c.Is w ws ms) :
    Calls Try.prog 4 #[.agg c.cells] w fun e w' => e = .returned (.bool true) ∧ Below w.heap.size w w' := by
  have HIS := Lib.hid his
  have hsz := szConfig c 1048576
  have hcells : ∀ c : Cf, c.cells = (cfList c).toArray := fun _ => rfl
  rw [hcells] at hsz ⊢
  have HSZ := Lib.hid hsz
  clear hsz his
  simp only [cfList] at HSZ ⊢
  go_enter Try.func4, Try.ntmps4
  go_wp2_with fail
  refine calls_gen (fun W => Below w.heap.size w W ∧ Blk W w.heap.size 38 (cfList c)) ⟨by repeat (first | exact Below.refl _ _ | refine Below.setCell ?_ (by first | omega | (simp; done) | (simp; omega)) _ | refine Below.alloc ?_ (by first | omega | (simp; done) | (simp; omega)) _ | apply Below.drew), by unfold cfList; with_reducible (repeat (first | exact blk_new_at _ _ _ _ (by simp; done) | exact blk_new_at _ _ _ _ rfl | refine Blk.alloc ?_ _ | apply Blk.drew | refine Blk.setOther ?_ (by first | (simp; done) | (simp; omega)) _))⟩ ?_
  rintro W1 ⟨b1, k1⟩
  refine (HSZ.out W1 (by decide) (by decide) (Nat.le_trans HIS.out.cw HIS.out.mw) (Nat.le_trans HIS.out.cm HIS.out.mm)).mono ?_
  rintro e W2 ⟨rfl, b2⟩
  have B2 := Lib.hid (b1.trans (b2.mono b1.size))
  have K2 := Lib.hid (k1.below b2 k1.lt)
  clear b1 b2 k1 HSZ
  by_cases hneg : 0 ≤ szB c 1048576
  case neg =>
    rw [szB_no hneg]
    go_wp2_with fail
    go_ret
    exact ⟨rfl, B2.out⟩
  have hle := szB_ok hneg
  generalize szB c 1048576 = left at *
  obtain ⟨c0, c1, c2, c3, c4⟩ := box5 K2.out
  go_wp2_with fail
  refine (copy_conf c ws ms W2 (by omega) (by omega) (HIS.out.inn.below B2.out)).mono ?_
  rintro e W3 ⟨x1, rfl, l1, i1, b3⟩
  have B3 := Lib.hid (B2.out.trans (b3.mono B2.out.size))
  have K3 := Lib.hid (K2.out.below b3 K2.out.lt)
  clear b3 B2 K2 c0 c1 c2 c3 c4
  go_wp2_with fail
  refine (spec_ConfigOk x1 ws ms W3 (Nat.le_trans i1.cw i1.mw) (Nat.le_trans i1.cm i1.mm) i1.inn).mono ?_
  rw [l1.conf]
  rintro e W4 ⟨rfl, b4⟩
  have B4 := Lib.hid (B3.out.trans (b4.mono B3.out.size))
  have K4 := Lib.hid (K3.out.below b4 K3.out.lt)
  clear b4 B3 K3 i1 l1
  obtain ⟨c0, c1, c2, c3, c4⟩ := box5 K4.out
  go_wp2_with fail
  refine (copy_conf c ws ms W4 (by omega) (by omega) (HIS.out.inn.below B4.out)).mono ?_
  rintro e W5 ⟨x2, rfl, l2, i2, b5⟩
  have B5 := Lib.hid (B4.out.trans (b5.mono B4.out.size))
  have K5 := Lib.hid (K4.out.below b5 K4.out.lt)
  have L2 := Lib.hid l2
  have I2 := Lib.hid i2
  clear b5 B4 K4 c0 c1 c2 c3 c4 l2 i2
  simp only [hcells, cfList]
  go_wp2_with fail
  refine calls_gen (fun W => Below W5.heap.size W5 W ∧ Blk W w.heap.size 38 (cfList c) ∧ Blk W W5.heap.size 27 (cfList x2)) ?_ ?_
  · refine ⟨?_, ?_, ?_⟩
    · repeat (first | exact Below.refl _ _ | refine Below.setCell ?_ (by first | omega | (simp; done) | (simp; omega)) _ | refine Below.alloc ?_ (by first | omega | (simp; done) | (simp; omega)) _ | apply Below.drew)
    · have := K5.out.lt
      with_reducible (repeat (first | exact K5.out | exact blk_new_at _ _ _ _ (by simp; done) | exact blk_new_at _ _ _ _ rfl | refine Blk.alloc ?_ _ | apply Blk.drew | refine Blk.setOther ?_ (by first | (simp; done) | (simp; omega)) _))
    · unfold cfList
      with_reducible (repeat (first | exact blk_new_at _ _ _ _ (by simp; done) | exact blk_new_at _ _ _ _ rfl | refine Blk.alloc ?_ _ | apply Blk.drew | refine Blk.setOther ?_ (by first | (simp; done) | (simp; omega)) _))
  rintro W6 ⟨b6, k6, m6⟩
  have I6 := Lib.hid (I2.out.below b6)
  have B6 := Lib.hid (B5.out.trans (b6.mono B5.out.size))
  clear b6
  refine (impl_ConfigOk x2 ws ms W6 I6.out.cw I6.out.cm I6.out.inn).mono ?_
  rw [L2.out.conf]
  rintro e W7 ⟨rfl, b7⟩
  have B7 := Lib.hid (B6.out.trans (b7.mono B6.out.size))
  have K7 := Lib.hid (k6.below b7 k6.lt)
  have M7 := Lib.hid (m6.below b7 m6.lt)
  have I7 := Lib.hid (I6.out.below b7)
  clear b7 k6 m6 I6 B6 I2 B5 K5
  go_wp2_with fail
  obtain ⟨a0, a1, a2, a3, a4⟩ := box5 K7.out
  obtain ⟨d0, d1, d2, d3, d4⟩ := box5 M7.out
  go_cut [26] (fun v wx => v = .bool false ∧ Below W7.heap.size W7 wx)
  case first =>
    go_region_held3 (fun w' => w'.cell? ⟨w.heap.size, 0, none⟩ = some (.int .i64 c.d) ∧ w'.cell? ⟨w.heap.size, 1, none⟩ = some (.slice c.wa c.wl c.wc) ∧ w'.cell? ⟨w.heap.size, 2, none⟩ = some (.slice c.ma c.ml c.mc) ∧ w'.cell? ⟨w.heap.size, 3, none⟩ = some (.int .i64 c.dl) ∧ w'.cell? ⟨w.heap.size, 4, none⟩ = some (.int .i64 c.lt)
        ∧ w'.cell? ⟨W5.heap.size, 0, none⟩ = some (.int .i64 x2.d) ∧ w'.cell? ⟨W5.heap.size, 1, none⟩ = some (.slice x2.wa x2.wl x2.wc) ∧ w'.cell? ⟨W5.heap.size, 2, none⟩ = some (.slice x2.ma x2.ml x2.mc) ∧ w'.cell? ⟨W5.heap.size, 3, none⟩ = some (.int .i64 x2.dl) ∧ w'.cell? ⟨W5.heap.size, 4, none⟩ = some (.int .i64 x2.lt))
      ((first | exact keep10 (W := W7.drew) K7.out M7.out hb9 | exact keep10 (W := W7.drew) K7.out M7.out hb8 | exact keep10 K7.out M7.out ((Below.refl _ _).drew)))
      (first | (go_at_call 18; refine (copy_conf c ws ms _ (by omega) (by omega) (HIS.out.inn.below B7.out.drew)).mono ?_; rintro e w8 ⟨x3, rfl, l3, i3, hb8⟩) | (go_at_call 20; refine (eqConfig_same x2 x3 ws ms _ (L2.out.symm.trans l3).d (L2.out.symm.trans l3).dl (L2.out.symm.trans l3).lt (L2.out.symm.trans l3).wl (L2.out.symm.trans l3).ml (by have := L2.out.wl; omega) (by have := L2.out.ml; omega) (I7.out.inn.below ((Below.refl _ _).drew.trans hb8)) i3.inn).mono ?_; rintro e w9 ⟨rfl, hb9'⟩; have hb9 := hb8.trans (hb9'.mono hb8.size); clear hb9'))
    all_goals (go_wp2_with fail; go_meet)
    all_goals exact ⟨rfl, (Below.refl _ _).drew.trans hb9⟩
  case rest =>
    obtain ⟨rfl, hb⟩ := hcut
    go_wp2_with fail
    go_ret
    exact ⟨rfl, B7.out.trans (hb.mono B7.out.size)⟩
end Go.Proofs.Ytnojmnjogpcmjaa.win
