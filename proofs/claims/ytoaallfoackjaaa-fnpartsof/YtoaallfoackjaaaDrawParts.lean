/-
  THE DRAWS: the contract of DrawPartsOf: two kinds of windows and a start, whatever the code; nothing that was there is written.
  Condition: the code is a slice of bytes, at most 2,000,000 of them.
-/
import Derived.Test.YtoaallfoackjaaaDrawWins
import Derived.Test.YtoaallfoackjaaaHeldSteps
namespace Go.Proofs.Ytoaallfoackjaaa.cur
open Go.RowKit
open Go.Proofs.Ytoaallfoackjaaa.win (held_at)
set_option linter.unusedSimpArgs false

/-- What DrawPartsOf answers, and what it leaves. -/
def TwoWins (w : World) (e : Ending) (w' : World) : Prop :=
  ∃ z l z' l' s : Int, e = .returned (.tuple #[.agg #[.int .i64 z, .int .i64 l], .agg #[.int .i64 z', .int .i64 l'], .int .i64 s]) ∧ Below w.heap.size w w'

theorem own2_set {w : World} {x : Nat} {z l : Int} (e f : Int) (h : Own2 w x z l) : Own2 ((w.setCell ⟨x, 0, none⟩ (.int .i64 e)).setCell ⟨x, 1, none⟩ (.int .i64 f)) x e f := own2_set1 f (own2_set0 e h)

/-- One of seven starts, by its place. -/
def sel7 (r : Int) : Int := if r = 0 then 0 else if r = 1 then 60 else if r = 2 then 120 else if r = 3 then (-60) else if r = 4 then (-120) else if r = 5 then 20 else 3600
theorem lt7 {r : Int} (h0 : 0 ≤ r) (h1 : r < 7) : r = 0 ∨ r = 1 ∨ r = 2 ∨ r = 3 ∨ r = 4 ∨ r = 5 ∨ r = 6 := by omega
theorem sel7_arr (r : Int) (h0 : 0 ≤ r) (h1 : r < 7) : (#[Value.int .i64 0, Value.int .i64 60, Value.int .i64 120, Value.int .i64 (-60), Value.int .i64 (-120), Value.int .i64 20, Value.int .i64 3600] : Array Value)[r.toNat]? = some (.int .i64 (sel7 r)) := by
  rcases lt7 h0 h1 with rfl | rfl | rfl | rfl | rfl | rfl | rfl <;> simp [sel7]
theorem sel7_cell (w : World) (t : TypeId) (r : Int) (h0 : 0 ≤ r) (h1 : r < 7) : (w.alloc (.cells #[.int .i64 0, .int .i64 60, .int .i64 120, .int .i64 (-60), .int .i64 (-120), .int .i64 20, .int .i64 3600] t)).cell? ⟨w.heap.size, r.toNat, none⟩ = some (.int .i64 (sel7 r)) := by
  rcases lt7 h0 h1 with rfl | rfl | rfl | rfl | rfl | rfl | rfl <;> simp [go_sem, sel7]

/-- On the way: the first kind in block x, the two answers' blocks as they were laid, the cursor in block g. -/
def AAt (w : World) (g : Nat) (a : Option Addr) (len cap m x : Nat) (wx : World) : Prop :=
  ∃ z l : Int, Own2 wx x z l ∧ Own2 wx w.heap.size 0 0 ∧ Own2 wx (w.heap.size + 1) 0 0 ∧ Curs g a len cap m wx ∧ Below w.heap.size w wx

theorem AAt.only {w wx wy : World} {g : Nat} {a : Option Addr} {len cap m m' x : Nat} (h : AAt w g a len cap m x wx) (ho : Only g wx wy) (hc : Curs g a len cap m' wy) (hx : x ≠ g) (hg : w.heap.size + 1 < g) : AAt w g a len cap m' x wy := by
  obtain ⟨z, l, h1, h2, h3, h4, h5⟩ := h
  exact ⟨z, l, h1.only ho (cell_lt h1.1.1) hx, h2.only ho (cell_lt h2.1.1) (by omega), h3.only ho (cell_lt h3.1.1) (by omega), hc, h5.trans (ho.below (by omega) h5.size)⟩

theorem AAt.curs {w wx : World} {g : Nat} {a : Option Addr} {len cap m x : Nat} (h : AAt w g a len cap m x wx) : Curs g a len cap m wx := by
  obtain ⟨_, _, _, _, _, h, _⟩ := h; exact h

set_option maxHeartbeats 8000000 in
theorem DrawPartsOf_any (a : Option Addr) (len cap : Nat) (w : World) (hle : len ≤ 2000000) (hcode : Code w a len) :
    Calls Try.prog 17 #[.slice a len cap] w (TwoWins w) := by
  have HK := Lib.hid hcode
  clear hcode
  go_enter Try.func17, Try.ntmps17
  go_wp2_with fail
  have hB0 : Below w.heap.size w ((w.alloc (.cells #[.int .i64 0, .int .i64 0] 25)).alloc (.cells #[.int .i64 0, .int .i64 0] 25)) := by repeat (first | exact Below.refl _ _ | refine Below.setCell ?_ (by first | omega | (simp; done) | (simp; omega)) _ | refine Below.alloc ?_ (by first | omega | (simp; done) | (simp; omega)) _ | apply Below.drew)
  have hR0 : Own2 ((w.alloc (.cells #[.int .i64 0, .int .i64 0] 25)).alloc (.cells #[.int .i64 0, .int .i64 0] 25)) w.heap.size 0 0 := (own2_alloc w 0 0 25).below ((Below.refl (w.heap.size + 1) _).alloc (by simp) _) (by omega)
  have hQ0 : Own2 ((w.alloc (.cells #[.int .i64 0, .int .i64 0] 25)).alloc (.cells #[.int .i64 0, .int .i64 0] 25)) (w.heap.size + 1) 0 0 := by
    have h := own2_alloc (w.alloc (.cells #[.int .i64 0, .int .i64 0] 25)) 0 0 25
    rw [World.size_alloc] at h
    exact h
  have hS0 : ((w.alloc (.cells #[.int .i64 0, .int .i64 0] 25)).alloc (.cells #[.int .i64 0, .int .i64 0] 25)).heap.size = w.heap.size + 2 := by simp
  generalize (w.alloc (.cells #[.int .i64 0, .int .i64 0] 25)).alloc (.cells #[.int .i64 0, .int .i64 0] 25) = w0 at *
  have HB0 := Lib.hid hB0
  have HR0 := Lib.hid hR0
  have HQ0 := Lib.hid hQ0
  have HS0 := Lib.hid hS0
  clear hB0 hR0 hQ0 hS0
  refine (l01Open_cur _ _ _ _ hle (HK.out.below HB0.out)).mono ?_
  rintro e w1 ⟨rfl, hc1, hb1⟩
  have zb : w.heap.size + 1 < w0.heap.size := by have := HS0.out; omega
  have H1 := Lib.hid hc1
  have HR1 := Lib.hid (HR0.out.below hb1 (by omega))
  have HQ1 := Lib.hid (HQ0.out.below hb1 (by omega))
  have HB1 := Lib.hid (HB0.out.trans (hb1.mono (by omega)))
  have z1 : w0.heap.size < w1.heap.size := hc1.lt
  clear hc1 hb1 HK HR0 HQ0 HB0
  generalize w0.heap.size = g at *
  go_wp2_with fail
  have hA1 : AAt w g a len cap 0 w1.heap.size (w1.alloc (.cells #[.int .i64 10, .int .i64 10] 25)) := by
    have hb : Below w1.heap.size w1 (w1.alloc (.cells #[.int .i64 10, .int .i64 10] 25)) := (Below.refl _ _).alloc (Nat.le_refl _) _
    exact ⟨10, 10, own2_alloc w1 10 10 _, HR1.out.below hb (by omega), HQ1.out.below hb (by omega), H1.out.below hb, HB1.out.trans (hb.mono (by omega))⟩
  refine (pick_any g a len cap 0 3 _ (by omega) hA1.curs).mono ?_
  rintro e w2 ⟨r, rfl, r0, r1, hc2, ho2⟩
  have HA2 := Lib.hid (hA1.only ho2 hc2 (by omega) (by omega))
  have zx : g < w1.heap.size := z1
  clear hA1 hc2 ho2 H1 HR1 HQ1 HB1 z1
  generalize w1.heap.size = x at *
  go_upto_if 13 with fail
  go_cut [] (fun wx => AAt w g a len cap (0 + 1 + 8) x wx)
  case first =>
    by_cases hr : r = 0
    · subst hr
      go_wp2_with fail
      refine (win_any g a len cap (0 + 1) _ (by omega) HA2.out.curs).mono ?_
      rintro e w3 ⟨z, l, rfl, hc3, ho3⟩
      have hA3 := HA2.out.only ho3 hc3 (by omega) (by omega)
      obtain ⟨z3, l3, ⟨⟨e0, e1⟩, ef⟩, hw3, hq3, hc3', hb3⟩ := hA3
      have f0 := ef 0
      have f1 := ef 1
      have HF := Lib.hid ef
      have HW := Lib.hid hw3
      have HQ := Lib.hid hq3
      have HC := Lib.hid hc3'
      have HB := Lib.hid hb3
      clear hc3 ho3 HA2 ef hw3 hq3 hc3' hb3
      go_wp2_with fail
      go_meet
      have hb : Below x w3 ((w3.setCell ⟨x, 0, none⟩ (.int .i64 z)).setCell ⟨x, 1, none⟩ (.int .i64 l)) := below_set2 _ _
      exact ⟨z, l, own2_set z l ⟨⟨e0, e1⟩, HF.out⟩, HW.out.below hb (by omega), HQ.out.below hb (by omega), HC.out.belowB hb (by omega), HB.out.trans (hb.mono (by omega))⟩
    · have hr' : (r == 0) = false := by simp [hr]
      go_wp2_with fail
      go_meet
      obtain ⟨z, l, h1, h2, h3, h4, h5⟩ := HA2.out
      exact ⟨z, l, h1, h2, h3, h4.more (by omega), h5⟩
  case rest =>
    generalize wc = w3 at *
    clear wc
    have HA3 := Lib.hid hcut
    clear hcut HA2
    go_wp2_with fail
    refine (win_any g a len cap _ _ (by omega) HA3.out.curs).mono ?_
    rintro e w4 ⟨zb', lb, rfl, hc4, ho4⟩
    have HA4 := Lib.hid (HA3.out.only ho4 hc4 (by omega) (by omega))
    clear hc4 ho4 HA3
    go_wp2_with fail
    have hA4b : AAt w g a len cap (0 + 1 + 8 + 8) x (w4.alloc (.cells #[.int .i64 zb', .int .i64 lb] 25)) :=
      HA4.out.only ((Only.refl g w4).alloc _) (HA4.out.curs.below ((Below.refl _ _).alloc (Nat.le_refl _) _)) (by omega) (by omega)
    have hY4 := own2_alloc w4 zb' lb 25
    have g4 := HA4.out.curs.lt
    refine (once_any g a len cap _ 8 _ (by omega) hA4b.curs).mono ?_
    rintro e w5 ⟨t, rfl, hc5, ho5⟩
    have HA5 := Lib.hid (hA4b.only ho5 hc5 (by omega) (by omega))
    have HY5 := Lib.hid (hY4.only ho5 (by simp) (by omega))
    have zy : w4.heap.size < w5.heap.size := Nat.lt_of_lt_of_le (by simp) ho5.size
    clear hA4b hY4 hc5 ho5 HA4
    have gy : g < w4.heap.size := g4
    clear g4
    generalize w4.heap.size = y at *
    obtain ⟨za, la, hx5, hr5, hq5, hc5, hb5⟩ := HA5.out
    have HX5 := Lib.hid hx5
    have HR5 := Lib.hid hr5
    have HQ5 := Lib.hid hq5
    have HC5 := Lib.hid hc5
    have HB5 := Lib.hid hb5
    have g5 := hc5.lt
    have zx5 := cell_lt hx5.1.1
    have zr5 : w.heap.size < w5.heap.size := by omega
    have zq5 : w.heap.size + 1 < w5.heap.size := by omega
    have n5 : ¬ w5.heap.size = w.heap.size := by omega
    have n5' : ¬ w5.heap.size = w.heap.size + 1 := by omega
    have ng5 : ¬ w5.heap.size = g := by omega
    have nx : ¬ x = w.heap.size := by omega
    have nx' : ¬ x = w.heap.size + 1 := by omega
    have ny : ¬ y = w.heap.size := by omega
    have ny' : ¬ y = w.heap.size + 1 := by omega
    clear hx5 hr5 hq5 hc5 hb5 HA5
    obtain ⟨⟨c0, c1⟩, -⟩ := HX5.out
    obtain ⟨⟨e0, e1⟩, -⟩ := HY5.out
    cases t
    · have hsel := sel7_cell
      have hsel2 := sel7_arr
      go_upto_region 8 with fail
      refine wp_region_held_drew (S := fun w' => w'.cell? ⟨x, 0, none⟩ = some (.int .i64 za) ∧ w'.cell? ⟨x, 1, none⟩ = some (.int .i64 la) ∧ w'.cell? ⟨y, 0, none⟩ = some (.int .i64 zb') ∧ w'.cell? ⟨y, 1, none⟩ = some (.int .i64 lb)) (by kernel_rfl) ⟨c0, c1, e0, e1⟩ (fun hHeld => ?_)
      refine held_at (i := 0) (by kernel_rfl) (fun oi hoi => ?_)
      have h2 := hoi
      simp only [List.getElem?_toArray, List.getElem?_cons_zero, Option.some.injEq] at h2
      subst h2
      refine wpAnyH_take (v := ?vp10) hoi (by kernel_rfl) (by kernel_rfl) (by kernel_rfl) (fun _ _ _ h => h) (Or.inl ⟨by rfl, ?hyp10⟩) (by assumption) ?_
      case hyp10 => intro w' hSw; (try dsimp only at hSw); go_simp; (try with_reducible rfl)
      clear hoi
      simp only [Act.put, List.setIfInBounds_toArray, List.set_cons_zero, List.set_cons_succ]
      refine held_at (i := 1) (by kernel_rfl) (fun oi hoi => ?_)
      have h2 := hoi
      simp only [List.getElem?_toArray, List.getElem?_cons_succ, List.getElem?_cons_zero, Option.some.injEq] at h2
      subst h2
      refine wpAnyH_take (v := ?vp21) hoi (by kernel_rfl) (by kernel_rfl) (by kernel_rfl) (fun _ _ _ h => h) (Or.inl ⟨by rfl, ?hyp21⟩) (by assumption) ?_
      case hyp21 => intro w' hSw; (try dsimp only at hSw); go_simp; (try with_reducible rfl)
      clear hoi
      simp only [Act.put, List.setIfInBounds_toArray, List.set_cons_zero, List.set_cons_succ]
      refine held_at (i := 3) (by kernel_rfl) (fun oi hoi => ?_)
      have h2 := hoi
      simp only [List.getElem?_toArray, List.getElem?_cons_succ, List.getElem?_cons_zero, Option.some.injEq] at h2
      subst h2
      refine wpAnyH_take (v := ?vp33) hoi (by kernel_rfl) (by kernel_rfl) (by kernel_rfl) (fun _ _ _ h => h) (Or.inl ⟨by rfl, ?hyp33⟩) (by assumption) ?_
      case hyp33 => intro w' hSw; (try dsimp only at hSw); go_simp; (try with_reducible rfl)
      clear hoi
      simp only [Act.put, List.setIfInBounds_toArray, List.set_cons_zero, List.set_cons_succ]
      refine held_at (i := 2) (by kernel_rfl) (fun oi2 hoi2 => ?_)
      have h2 := hoi2
      simp only [List.getElem?_toArray, List.getElem?_cons_succ, List.getElem?_cons_zero, Option.some.injEq] at h2
      subst h2
      refine held_at (i := 4) (by kernel_rfl) (fun oi4 hoi4 => ?_)
      have h2 := hoi4
      simp only [List.getElem?_toArray, List.getElem?_cons_succ, List.getElem?_cons_zero, Option.some.injEq] at h2
      subst h2
      refine wpAnyH_ready (rs := [2, 4]) (by kernel_rfl) (by simp) ?_
      refine AllReadyH.cons hoi2 (fun K hK => ?_) ?_
      · clear hoi2 hoi4
        go_simp
        refine hK.out _ _ ?_ (fun hHeld => ?_)
        · (try dsimp only); first | go_keep | (refine ⟨?_, ?_, ?_, ?_⟩ <;> simp [go_sem, *])
        clear hK K
        try simp only [Act.put, List.setIfInBounds_toArray, List.set_cons_zero, List.set_cons_succ]
        refine held_at (i := 4) (by kernel_rfl) (fun oi4 hoi4 => ?_)
        have h2 := hoi4
        simp only [List.getElem?_toArray, List.getElem?_cons_succ, List.getElem?_cons_zero, Option.some.injEq] at h2
        subst h2
        refine wpAnyH_ready (rs := [4]) (by kernel_rfl) (by simp) ?_
        refine AllReadyH.cons hoi4 (fun K hK => ?_) ?_
        · clear hoi4
          go_simp
          refine (pick_any g a len cap (0 + 1 + 8 + 8 + 1) 7 _ (by omega) (HC5.out.belowB (B := w5.heap.size) (by repeat (first | exact Below.refl _ _ | refine Below.setCell ?_ (by first | omega | (simp; done) | (simp; omega)) _ | refine Below.alloc ?_ (by first | omega | (simp; done) | (simp; omega)) _ | apply Below.drew)) g5)).mono ?_
          rintro e w6 ⟨k, rfl, k0, k1, hc6, ho6⟩
          have o56 : Only g w5 w6 := Only.trans (by repeat (first | exact Only.refl _ w5 | apply Only.drew | refine Only.alloc ?_ _)) ho6
          obtain ⟨⟨s0, s1⟩, sf⟩ := HR5.out.only o56 (by omega) (by omega)
          obtain ⟨⟨q0, q1⟩, qf⟩ := HQ5.out.only o56 (by omega) (by omega)
          have sf0 := sf 0
          have sf1 := sf 1
          have qf0 := qf 0
          have qf1 := qf 1
          obtain ⟨⟨xa, xb⟩, -⟩ := HX5.out.only o56 zx5 (by omega)
          obtain ⟨⟨ya, yb⟩, -⟩ := HY5.out.only o56 zy (by omega)
          have k3 : k < 7 := by omega
          have zr6 : w.heap.size < w6.heap.size := Nat.lt_of_lt_of_le zr5 o56.size
          have zq6 : w.heap.size + 1 < w6.heap.size := Nat.lt_of_lt_of_le zq5 o56.size; have zx6 := Nat.lt_of_lt_of_le zx5 o56.size; have zy6 := Nat.lt_of_lt_of_le zy o56.size
          have n6 : ¬ w6.heap.size = w.heap.size := by omega
          have n6' : ¬ w6.heap.size = w.heap.size + 1 := by omega
          have hk6 := fun (b o : Nat) (h1 : b < _) (h2 : ¬ b = g) => ho6.cell (b := b) (o := o) h1 h2
          have HB6 := Lib.hid (HB5.out.trans (o56.below (B := w.heap.size) (by omega) (by omega)))
          clear hc6 ho6 o56 sf qf
          refine hK.out _ _ ?_ (fun hHeld => ?_)
          · (try dsimp only); first | go_keep | (refine ⟨?_, ?_, ?_, ?_⟩ <;> simp [go_sem, *])
          clear hK K
          try simp only [Act.put, List.setIfInBounds_toArray, List.set_cons_zero, List.set_cons_succ]
          refine held_at (i := 5) (by kernel_rfl) (fun oi hoi => ?_)
          have h2 := hoi
          simp only [List.getElem?_toArray, List.getElem?_cons_succ, List.getElem?_cons_zero, Option.some.injEq] at h2
          subst h2
          refine wpAnyH_take (v := ?vp45) hoi (by kernel_rfl) (by kernel_rfl) (by kernel_rfl) (fun _ _ _ h => h) (Or.inl ⟨by rfl, ?hyp45⟩) (by assumption) ?_
          case hyp45 => intro w' hSw; (try dsimp only at hSw); go_simp; (try with_reducible rfl)
          clear hoi
          simp only [Act.put, List.setIfInBounds_toArray, List.set_cons_zero, List.set_cons_succ]
          refine held_at (i := 6) (by kernel_rfl) (fun oi6 hoi6 => ?_)
          have h2 := hoi6
          simp only [List.getElem?_toArray, List.getElem?_cons_succ, List.getElem?_cons_zero, Option.some.injEq] at h2
          subst h2
          refine held_at (i := 7) (by kernel_rfl) (fun oi7 hoi7 => ?_)
          have h2 := hoi7
          simp only [List.getElem?_toArray, List.getElem?_cons_succ, List.getElem?_cons_zero, Option.some.injEq] at h2
          subst h2
          refine wpAnyH_ready (rs := [6, 7]) (by kernel_rfl) (by simp) ?_
          refine AllReadyH.cons hoi6 (fun K hK => ?_) ?_
          · clear hoi6 hoi7
            go_simp
            refine hK.out _ _ ?_ (fun hHeld => ?_)
            · (try dsimp only); first | go_keep | (refine ⟨?_, ?_, ?_, ?_⟩ <;> simp [go_sem, *])
            clear hK K
            try simp only [Act.put, List.setIfInBounds_toArray, List.set_cons_zero, List.set_cons_succ]
            refine held_at (i := 7) (by kernel_rfl) (fun oi7 hoi7 => ?_)
            have h2 := hoi7
            simp only [List.getElem?_toArray, List.getElem?_cons_succ, List.getElem?_cons_zero, Option.some.injEq] at h2
            subst h2
            refine wpAnyH_ready (rs := [7]) (by kernel_rfl) (by simp) ?_
            refine AllReadyH.cons hoi7 (fun K hK => ?_) ?_
            · clear hoi7
              go_simp
              refine hK.out _ _ ?_ (fun hHeld => ?_)
              · (try dsimp only); first | go_keep | (refine ⟨?_, ?_, ?_, ?_⟩ <;> simp [go_sem, *])
              clear hK K
              try simp only [Act.put, List.setIfInBounds_toArray, List.set_cons_zero, List.set_cons_succ]
              refine held_at (i := 8) (by kernel_rfl) (fun oi8 hoi8 => ?_)
              have h2 := hoi8
              simp only [List.getElem?_toArray, List.getElem?_cons_succ, List.getElem?_cons_zero, Option.some.injEq] at h2
              subst h2
              refine wpAnyH_ready (rs := [8]) (by kernel_rfl) (by simp) ?_
              refine AllReadyH.cons hoi8 (fun K hK => ?_) ?_
              · clear hoi8
                go_simp
                refine hK.out _ _ ?_ (fun hHeld => ?_)
                · (try dsimp only); first | go_keep | (refine ⟨?_, ?_, ?_, ?_⟩ <;> simp [go_sem, *])
                clear hK K
                try simp only [Act.put, List.setIfInBounds_toArray, List.set_cons_zero, List.set_cons_succ]
                refine held_at (i := 9) (by kernel_rfl) (fun oi hoi => ?_)
                have h2 := hoi
                simp only [List.getElem?_toArray, List.getElem?_cons_succ, List.getElem?_cons_zero, Option.some.injEq] at h2
                subst h2
                refine wpAnyH_take (v := ?vp59) hoi (by kernel_rfl) (by kernel_rfl) (by kernel_rfl) (fun _ _ _ h => h) (Or.inl ⟨by rfl, ?hyp59⟩) (by assumption) ?_
                case hyp59 => intro w' hSw; (try dsimp only at hSw); go_simp; (try with_reducible rfl)
                clear hoi
                simp only [Act.put, List.setIfInBounds_toArray, List.set_cons_zero, List.set_cons_succ]
                refine wpAnyH_done (by kernel_rfl) ?_ _
                go_wp2_with fail
                refine bodyPost_ret (v := .tuple #[.agg #[.int .i64 za, .int .i64 la], .agg #[.int .i64 zb', .int .i64 lb], .int .i64 (sel7 k)]) (by simp [results, Try.results17, go_sem, s0, s1, q0, q1, zr6, zq6] <;> (rcases lt7 k0 k3 with rfl | rfl | rfl | rfl | rfl | rfl | rfl <;> simp [sel7])) rfl ⟨za, la, zb', lb, _, rfl, ?_⟩
                repeat (first | exact HB6.out | apply Below.drew | refine Below.alloc ?_ (by first | omega | (simp; done) | (simp; omega)) _ | refine Below.setCell ?_ (by first | omega | (simp; done) | (simp; omega)) _)
              exact AllReadyH.nil
            exact AllReadyH.nil
          refine AllReadyH.cons hoi7 (fun K hK => ?_) ?_
          · clear hoi6 hoi7
            go_simp
            refine hK.out _ _ ?_ (fun hHeld => ?_)
            · (try dsimp only); first | go_keep | (refine ⟨?_, ?_, ?_, ?_⟩ <;> simp [go_sem, *])
            clear hK K
            try simp only [Act.put, List.setIfInBounds_toArray, List.set_cons_zero, List.set_cons_succ]
            refine held_at (i := 6) (by kernel_rfl) (fun oi6 hoi6 => ?_)
            have h2 := hoi6
            simp only [List.getElem?_toArray, List.getElem?_cons_succ, List.getElem?_cons_zero, Option.some.injEq] at h2
            subst h2
            refine held_at (i := 8) (by kernel_rfl) (fun oi8 hoi8 => ?_)
            have h2 := hoi8
            simp only [List.getElem?_toArray, List.getElem?_cons_succ, List.getElem?_cons_zero, Option.some.injEq] at h2
            subst h2
            refine wpAnyH_ready (rs := [6, 8]) (by kernel_rfl) (by simp) ?_
            refine AllReadyH.cons hoi6 (fun K hK => ?_) ?_
            · clear hoi6 hoi8
              go_simp
              refine hK.out _ _ ?_ (fun hHeld => ?_)
              · (try dsimp only); first | go_keep | (refine ⟨?_, ?_, ?_, ?_⟩ <;> simp [go_sem, *])
              clear hK K
              try simp only [Act.put, List.setIfInBounds_toArray, List.set_cons_zero, List.set_cons_succ]
              refine held_at (i := 8) (by kernel_rfl) (fun oi8 hoi8 => ?_)
              have h2 := hoi8
              simp only [List.getElem?_toArray, List.getElem?_cons_succ, List.getElem?_cons_zero, Option.some.injEq] at h2
              subst h2
              refine wpAnyH_ready (rs := [8]) (by kernel_rfl) (by simp) ?_
              refine AllReadyH.cons hoi8 (fun K hK => ?_) ?_
              · clear hoi8
                go_simp
                refine hK.out _ _ ?_ (fun hHeld => ?_)
                · (try dsimp only); first | go_keep | (refine ⟨?_, ?_, ?_, ?_⟩ <;> simp [go_sem, *])
                clear hK K
                try simp only [Act.put, List.setIfInBounds_toArray, List.set_cons_zero, List.set_cons_succ]
                refine held_at (i := 9) (by kernel_rfl) (fun oi hoi => ?_)
                have h2 := hoi
                simp only [List.getElem?_toArray, List.getElem?_cons_succ, List.getElem?_cons_zero, Option.some.injEq] at h2
                subst h2
                refine wpAnyH_take (v := ?vp69) hoi (by kernel_rfl) (by kernel_rfl) (by kernel_rfl) (fun _ _ _ h => h) (Or.inl ⟨by rfl, ?hyp69⟩) (by assumption) ?_
                case hyp69 => intro w' hSw; (try dsimp only at hSw); go_simp; (try with_reducible rfl)
                clear hoi
                simp only [Act.put, List.setIfInBounds_toArray, List.set_cons_zero, List.set_cons_succ]
                refine wpAnyH_done (by kernel_rfl) ?_ _
                go_wp2_with fail
                refine bodyPost_ret (v := .tuple #[.agg #[.int .i64 za, .int .i64 la], .agg #[.int .i64 zb', .int .i64 lb], .int .i64 (sel7 k)]) (by simp [results, Try.results17, go_sem, s0, s1, q0, q1, zr6, zq6] <;> (rcases lt7 k0 k3 with rfl | rfl | rfl | rfl | rfl | rfl | rfl <;> simp [sel7])) rfl ⟨za, la, zb', lb, _, rfl, ?_⟩
                repeat (first | exact HB6.out | apply Below.drew | refine Below.alloc ?_ (by first | omega | (simp; done) | (simp; omega)) _ | refine Below.setCell ?_ (by first | omega | (simp; done) | (simp; omega)) _)
              exact AllReadyH.nil
            refine AllReadyH.cons hoi8 (fun K hK => ?_) ?_
            · clear hoi6 hoi8
              go_simp
              refine hK.out _ _ ?_ (fun hHeld => ?_)
              · (try dsimp only); first | go_keep | (refine ⟨?_, ?_, ?_, ?_⟩ <;> simp [go_sem, *])
              clear hK K
              try simp only [Act.put, List.setIfInBounds_toArray, List.set_cons_zero, List.set_cons_succ]
              refine held_at (i := 6) (by kernel_rfl) (fun oi6 hoi6 => ?_)
              have h2 := hoi6
              simp only [List.getElem?_toArray, List.getElem?_cons_succ, List.getElem?_cons_zero, Option.some.injEq] at h2
              subst h2
              refine wpAnyH_ready (rs := [6]) (by kernel_rfl) (by simp) ?_
              refine AllReadyH.cons hoi6 (fun K hK => ?_) ?_
              · clear hoi6
                go_simp
                refine hK.out _ _ ?_ (fun hHeld => ?_)
                · (try dsimp only); first | go_keep | (refine ⟨?_, ?_, ?_, ?_⟩ <;> simp [go_sem, *])
                clear hK K
                try simp only [Act.put, List.setIfInBounds_toArray, List.set_cons_zero, List.set_cons_succ]
                refine held_at (i := 9) (by kernel_rfl) (fun oi hoi => ?_)
                have h2 := hoi
                simp only [List.getElem?_toArray, List.getElem?_cons_succ, List.getElem?_cons_zero, Option.some.injEq] at h2
                subst h2
                refine wpAnyH_take (v := ?vp79) hoi (by kernel_rfl) (by kernel_rfl) (by kernel_rfl) (fun _ _ _ h => h) (Or.inl ⟨by rfl, ?hyp79⟩) (by assumption) ?_
                case hyp79 => intro w' hSw; (try dsimp only at hSw); go_simp; (try with_reducible rfl)
                clear hoi
                simp only [Act.put, List.setIfInBounds_toArray, List.set_cons_zero, List.set_cons_succ]
                refine wpAnyH_done (by kernel_rfl) ?_ _
                go_wp2_with fail
                refine bodyPost_ret (v := .tuple #[.agg #[.int .i64 za, .int .i64 la], .agg #[.int .i64 zb', .int .i64 lb], .int .i64 (sel7 k)]) (by simp [results, Try.results17, go_sem, s0, s1, q0, q1, zr6, zq6] <;> (rcases lt7 k0 k3 with rfl | rfl | rfl | rfl | rfl | rfl | rfl <;> simp [sel7])) rfl ⟨za, la, zb', lb, _, rfl, ?_⟩
                repeat (first | exact HB6.out | apply Below.drew | refine Below.alloc ?_ (by first | omega | (simp; done) | (simp; omega)) _ | refine Below.setCell ?_ (by first | omega | (simp; done) | (simp; omega)) _)
              exact AllReadyH.nil
            exact AllReadyH.nil
          exact AllReadyH.nil
        exact AllReadyH.nil
      refine AllReadyH.cons hoi4 (fun K hK => ?_) ?_
      · clear hoi2 hoi4
        go_simp
        refine (pick_any g a len cap (0 + 1 + 8 + 8 + 1) 7 _ (by omega) (HC5.out.belowB (B := w5.heap.size) (by repeat (first | exact Below.refl _ _ | refine Below.setCell ?_ (by first | omega | (simp; done) | (simp; omega)) _ | refine Below.alloc ?_ (by first | omega | (simp; done) | (simp; omega)) _ | apply Below.drew)) g5)).mono ?_
        rintro e w6 ⟨k, rfl, k0, k1, hc6, ho6⟩
        have o56 : Only g w5 w6 := Only.trans (by repeat (first | exact Only.refl _ w5 | apply Only.drew | refine Only.alloc ?_ _)) ho6
        obtain ⟨⟨s0, s1⟩, sf⟩ := HR5.out.only o56 (by omega) (by omega)
        obtain ⟨⟨q0, q1⟩, qf⟩ := HQ5.out.only o56 (by omega) (by omega)
        have sf0 := sf 0
        have sf1 := sf 1
        have qf0 := qf 0
        have qf1 := qf 1
        obtain ⟨⟨xa, xb⟩, -⟩ := HX5.out.only o56 zx5 (by omega)
        obtain ⟨⟨ya, yb⟩, -⟩ := HY5.out.only o56 zy (by omega)
        have k3 : k < 7 := by omega
        have zr6 : w.heap.size < w6.heap.size := Nat.lt_of_lt_of_le zr5 o56.size
        have zq6 : w.heap.size + 1 < w6.heap.size := Nat.lt_of_lt_of_le zq5 o56.size; have zx6 := Nat.lt_of_lt_of_le zx5 o56.size; have zy6 := Nat.lt_of_lt_of_le zy o56.size
        have n6 : ¬ w6.heap.size = w.heap.size := by omega
        have n6' : ¬ w6.heap.size = w.heap.size + 1 := by omega
        have hk6 := fun (b o : Nat) (h1 : b < _) (h2 : ¬ b = g) => ho6.cell (b := b) (o := o) h1 h2
        have HB6 := Lib.hid (HB5.out.trans (o56.below (B := w.heap.size) (by omega) (by omega)))
        clear hc6 ho6 o56 sf qf
        refine hK.out _ _ ?_ (fun hHeld => ?_)
        · (try dsimp only); first | go_keep | (refine ⟨?_, ?_, ?_, ?_⟩ <;> simp [go_sem, *])
        clear hK K
        try simp only [Act.put, List.setIfInBounds_toArray, List.set_cons_zero, List.set_cons_succ]
        refine held_at (i := 2) (by kernel_rfl) (fun oi2 hoi2 => ?_)
        have h2 := hoi2
        simp only [List.getElem?_toArray, List.getElem?_cons_succ, List.getElem?_cons_zero, Option.some.injEq] at h2
        subst h2
        refine held_at (i := 7) (by kernel_rfl) (fun oi7 hoi7 => ?_)
        have h2 := hoi7
        simp only [List.getElem?_toArray, List.getElem?_cons_succ, List.getElem?_cons_zero, Option.some.injEq] at h2
        subst h2
        refine wpAnyH_ready (rs := [2, 7]) (by kernel_rfl) (by simp) ?_
        refine AllReadyH.cons hoi2 (fun K hK => ?_) ?_
        · clear hoi2 hoi7
          go_simp
          refine hK.out _ _ ?_ (fun hHeld => ?_)
          · (try dsimp only); first | go_keep | (refine ⟨?_, ?_, ?_, ?_⟩ <;> simp [go_sem, *])
          clear hK K
          try simp only [Act.put, List.setIfInBounds_toArray, List.set_cons_zero, List.set_cons_succ]
          refine held_at (i := 5) (by kernel_rfl) (fun oi hoi => ?_)
          have h2 := hoi
          simp only [List.getElem?_toArray, List.getElem?_cons_succ, List.getElem?_cons_zero, Option.some.injEq] at h2
          subst h2
          refine wpAnyH_take (v := ?vp85) hoi (by kernel_rfl) (by kernel_rfl) (by kernel_rfl) (fun _ _ _ h => h) (Or.inl ⟨by rfl, ?hyp85⟩) (by assumption) ?_
          case hyp85 => intro w' hSw; (try dsimp only at hSw); go_simp; (try with_reducible rfl)
          clear hoi
          simp only [Act.put, List.setIfInBounds_toArray, List.set_cons_zero, List.set_cons_succ]
          refine held_at (i := 6) (by kernel_rfl) (fun oi6 hoi6 => ?_)
          have h2 := hoi6
          simp only [List.getElem?_toArray, List.getElem?_cons_succ, List.getElem?_cons_zero, Option.some.injEq] at h2
          subst h2
          refine held_at (i := 7) (by kernel_rfl) (fun oi7 hoi7 => ?_)
          have h2 := hoi7
          simp only [List.getElem?_toArray, List.getElem?_cons_succ, List.getElem?_cons_zero, Option.some.injEq] at h2
          subst h2
          refine wpAnyH_ready (rs := [6, 7]) (by kernel_rfl) (by simp) ?_
          refine AllReadyH.cons hoi6 (fun K hK => ?_) ?_
          · clear hoi6 hoi7
            go_simp
            refine hK.out _ _ ?_ (fun hHeld => ?_)
            · (try dsimp only); first | go_keep | (refine ⟨?_, ?_, ?_, ?_⟩ <;> simp [go_sem, *])
            clear hK K
            try simp only [Act.put, List.setIfInBounds_toArray, List.set_cons_zero, List.set_cons_succ]
            refine held_at (i := 7) (by kernel_rfl) (fun oi7 hoi7 => ?_)
            have h2 := hoi7
            simp only [List.getElem?_toArray, List.getElem?_cons_succ, List.getElem?_cons_zero, Option.some.injEq] at h2
            subst h2
            refine wpAnyH_ready (rs := [7]) (by kernel_rfl) (by simp) ?_
            refine AllReadyH.cons hoi7 (fun K hK => ?_) ?_
            · clear hoi7
              go_simp
              refine hK.out _ _ ?_ (fun hHeld => ?_)
              · (try dsimp only); first | go_keep | (refine ⟨?_, ?_, ?_, ?_⟩ <;> simp [go_sem, *])
              clear hK K
              try simp only [Act.put, List.setIfInBounds_toArray, List.set_cons_zero, List.set_cons_succ]
              refine held_at (i := 8) (by kernel_rfl) (fun oi8 hoi8 => ?_)
              have h2 := hoi8
              simp only [List.getElem?_toArray, List.getElem?_cons_succ, List.getElem?_cons_zero, Option.some.injEq] at h2
              subst h2
              refine wpAnyH_ready (rs := [8]) (by kernel_rfl) (by simp) ?_
              refine AllReadyH.cons hoi8 (fun K hK => ?_) ?_
              · clear hoi8
                go_simp
                refine hK.out _ _ ?_ (fun hHeld => ?_)
                · (try dsimp only); first | go_keep | (refine ⟨?_, ?_, ?_, ?_⟩ <;> simp [go_sem, *])
                clear hK K
                try simp only [Act.put, List.setIfInBounds_toArray, List.set_cons_zero, List.set_cons_succ]
                refine held_at (i := 9) (by kernel_rfl) (fun oi hoi => ?_)
                have h2 := hoi
                simp only [List.getElem?_toArray, List.getElem?_cons_succ, List.getElem?_cons_zero, Option.some.injEq] at h2
                subst h2
                refine wpAnyH_take (v := ?vp99) hoi (by kernel_rfl) (by kernel_rfl) (by kernel_rfl) (fun _ _ _ h => h) (Or.inl ⟨by rfl, ?hyp99⟩) (by assumption) ?_
                case hyp99 => intro w' hSw; (try dsimp only at hSw); go_simp; (try with_reducible rfl)
                clear hoi
                simp only [Act.put, List.setIfInBounds_toArray, List.set_cons_zero, List.set_cons_succ]
                refine wpAnyH_done (by kernel_rfl) ?_ _
                go_wp2_with fail
                refine bodyPost_ret (v := .tuple #[.agg #[.int .i64 za, .int .i64 la], .agg #[.int .i64 zb', .int .i64 lb], .int .i64 (sel7 k)]) (by simp [results, Try.results17, go_sem, s0, s1, q0, q1, zr6, zq6] <;> (rcases lt7 k0 k3 with rfl | rfl | rfl | rfl | rfl | rfl | rfl <;> simp [sel7])) rfl ⟨za, la, zb', lb, _, rfl, ?_⟩
                repeat (first | exact HB6.out | apply Below.drew | refine Below.alloc ?_ (by first | omega | (simp; done) | (simp; omega)) _ | refine Below.setCell ?_ (by first | omega | (simp; done) | (simp; omega)) _)
              exact AllReadyH.nil
            exact AllReadyH.nil
          refine AllReadyH.cons hoi7 (fun K hK => ?_) ?_
          · clear hoi6 hoi7
            go_simp
            refine hK.out _ _ ?_ (fun hHeld => ?_)
            · (try dsimp only); first | go_keep | (refine ⟨?_, ?_, ?_, ?_⟩ <;> simp [go_sem, *])
            clear hK K
            try simp only [Act.put, List.setIfInBounds_toArray, List.set_cons_zero, List.set_cons_succ]
            refine held_at (i := 6) (by kernel_rfl) (fun oi6 hoi6 => ?_)
            have h2 := hoi6
            simp only [List.getElem?_toArray, List.getElem?_cons_succ, List.getElem?_cons_zero, Option.some.injEq] at h2
            subst h2
            refine held_at (i := 8) (by kernel_rfl) (fun oi8 hoi8 => ?_)
            have h2 := hoi8
            simp only [List.getElem?_toArray, List.getElem?_cons_succ, List.getElem?_cons_zero, Option.some.injEq] at h2
            subst h2
            refine wpAnyH_ready (rs := [6, 8]) (by kernel_rfl) (by simp) ?_
            refine AllReadyH.cons hoi6 (fun K hK => ?_) ?_
            · clear hoi6 hoi8
              go_simp
              refine hK.out _ _ ?_ (fun hHeld => ?_)
              · (try dsimp only); first | go_keep | (refine ⟨?_, ?_, ?_, ?_⟩ <;> simp [go_sem, *])
              clear hK K
              try simp only [Act.put, List.setIfInBounds_toArray, List.set_cons_zero, List.set_cons_succ]
              refine held_at (i := 8) (by kernel_rfl) (fun oi8 hoi8 => ?_)
              have h2 := hoi8
              simp only [List.getElem?_toArray, List.getElem?_cons_succ, List.getElem?_cons_zero, Option.some.injEq] at h2
              subst h2
              refine wpAnyH_ready (rs := [8]) (by kernel_rfl) (by simp) ?_
              refine AllReadyH.cons hoi8 (fun K hK => ?_) ?_
              · clear hoi8
                go_simp
                refine hK.out _ _ ?_ (fun hHeld => ?_)
                · (try dsimp only); first | go_keep | (refine ⟨?_, ?_, ?_, ?_⟩ <;> simp [go_sem, *])
                clear hK K
                try simp only [Act.put, List.setIfInBounds_toArray, List.set_cons_zero, List.set_cons_succ]
                refine held_at (i := 9) (by kernel_rfl) (fun oi hoi => ?_)
                have h2 := hoi
                simp only [List.getElem?_toArray, List.getElem?_cons_succ, List.getElem?_cons_zero, Option.some.injEq] at h2
                subst h2
                refine wpAnyH_take (v := ?vp109) hoi (by kernel_rfl) (by kernel_rfl) (by kernel_rfl) (fun _ _ _ h => h) (Or.inl ⟨by rfl, ?hyp109⟩) (by assumption) ?_
                case hyp109 => intro w' hSw; (try dsimp only at hSw); go_simp; (try with_reducible rfl)
                clear hoi
                simp only [Act.put, List.setIfInBounds_toArray, List.set_cons_zero, List.set_cons_succ]
                refine wpAnyH_done (by kernel_rfl) ?_ _
                go_wp2_with fail
                refine bodyPost_ret (v := .tuple #[.agg #[.int .i64 za, .int .i64 la], .agg #[.int .i64 zb', .int .i64 lb], .int .i64 (sel7 k)]) (by simp [results, Try.results17, go_sem, s0, s1, q0, q1, zr6, zq6] <;> (rcases lt7 k0 k3 with rfl | rfl | rfl | rfl | rfl | rfl | rfl <;> simp [sel7])) rfl ⟨za, la, zb', lb, _, rfl, ?_⟩
                repeat (first | exact HB6.out | apply Below.drew | refine Below.alloc ?_ (by first | omega | (simp; done) | (simp; omega)) _ | refine Below.setCell ?_ (by first | omega | (simp; done) | (simp; omega)) _)
              exact AllReadyH.nil
            refine AllReadyH.cons hoi8 (fun K hK => ?_) ?_
            · clear hoi6 hoi8
              go_simp
              refine hK.out _ _ ?_ (fun hHeld => ?_)
              · (try dsimp only); first | go_keep | (refine ⟨?_, ?_, ?_, ?_⟩ <;> simp [go_sem, *])
              clear hK K
              try simp only [Act.put, List.setIfInBounds_toArray, List.set_cons_zero, List.set_cons_succ]
              refine held_at (i := 6) (by kernel_rfl) (fun oi6 hoi6 => ?_)
              have h2 := hoi6
              simp only [List.getElem?_toArray, List.getElem?_cons_succ, List.getElem?_cons_zero, Option.some.injEq] at h2
              subst h2
              refine wpAnyH_ready (rs := [6]) (by kernel_rfl) (by simp) ?_
              refine AllReadyH.cons hoi6 (fun K hK => ?_) ?_
              · clear hoi6
                go_simp
                refine hK.out _ _ ?_ (fun hHeld => ?_)
                · (try dsimp only); first | go_keep | (refine ⟨?_, ?_, ?_, ?_⟩ <;> simp [go_sem, *])
                clear hK K
                try simp only [Act.put, List.setIfInBounds_toArray, List.set_cons_zero, List.set_cons_succ]
                refine held_at (i := 9) (by kernel_rfl) (fun oi hoi => ?_)
                have h2 := hoi
                simp only [List.getElem?_toArray, List.getElem?_cons_succ, List.getElem?_cons_zero, Option.some.injEq] at h2
                subst h2
                refine wpAnyH_take (v := ?vp119) hoi (by kernel_rfl) (by kernel_rfl) (by kernel_rfl) (fun _ _ _ h => h) (Or.inl ⟨by rfl, ?hyp119⟩) (by assumption) ?_
                case hyp119 => intro w' hSw; (try dsimp only at hSw); go_simp; (try with_reducible rfl)
                clear hoi
                simp only [Act.put, List.setIfInBounds_toArray, List.set_cons_zero, List.set_cons_succ]
                refine wpAnyH_done (by kernel_rfl) ?_ _
                go_wp2_with fail
                refine bodyPost_ret (v := .tuple #[.agg #[.int .i64 za, .int .i64 la], .agg #[.int .i64 zb', .int .i64 lb], .int .i64 (sel7 k)]) (by simp [results, Try.results17, go_sem, s0, s1, q0, q1, zr6, zq6] <;> (rcases lt7 k0 k3 with rfl | rfl | rfl | rfl | rfl | rfl | rfl <;> simp [sel7])) rfl ⟨za, la, zb', lb, _, rfl, ?_⟩
                repeat (first | exact HB6.out | apply Below.drew | refine Below.alloc ?_ (by first | omega | (simp; done) | (simp; omega)) _ | refine Below.setCell ?_ (by first | omega | (simp; done) | (simp; omega)) _)
              exact AllReadyH.nil
            exact AllReadyH.nil
          exact AllReadyH.nil
        refine AllReadyH.cons hoi7 (fun K hK => ?_) ?_
        · clear hoi2 hoi7
          go_simp
          refine hK.out _ _ ?_ (fun hHeld => ?_)
          · (try dsimp only); first | go_keep | (refine ⟨?_, ?_, ?_, ?_⟩ <;> simp [go_sem, *])
          clear hK K
          try simp only [Act.put, List.setIfInBounds_toArray, List.set_cons_zero, List.set_cons_succ]
          refine held_at (i := 2) (by kernel_rfl) (fun oi2 hoi2 => ?_)
          have h2 := hoi2
          simp only [List.getElem?_toArray, List.getElem?_cons_succ, List.getElem?_cons_zero, Option.some.injEq] at h2
          subst h2
          refine held_at (i := 8) (by kernel_rfl) (fun oi8 hoi8 => ?_)
          have h2 := hoi8
          simp only [List.getElem?_toArray, List.getElem?_cons_succ, List.getElem?_cons_zero, Option.some.injEq] at h2
          subst h2
          refine wpAnyH_ready (rs := [2, 8]) (by kernel_rfl) (by simp) ?_
          refine AllReadyH.cons hoi2 (fun K hK => ?_) ?_
          · clear hoi2 hoi8
            go_simp
            refine hK.out _ _ ?_ (fun hHeld => ?_)
            · (try dsimp only); first | go_keep | (refine ⟨?_, ?_, ?_, ?_⟩ <;> simp [go_sem, *])
            clear hK K
            try simp only [Act.put, List.setIfInBounds_toArray, List.set_cons_zero, List.set_cons_succ]
            refine held_at (i := 5) (by kernel_rfl) (fun oi hoi => ?_)
            have h2 := hoi
            simp only [List.getElem?_toArray, List.getElem?_cons_succ, List.getElem?_cons_zero, Option.some.injEq] at h2
            subst h2
            refine wpAnyH_take (v := ?vp125) hoi (by kernel_rfl) (by kernel_rfl) (by kernel_rfl) (fun _ _ _ h => h) (Or.inl ⟨by rfl, ?hyp125⟩) (by assumption) ?_
            case hyp125 => intro w' hSw; (try dsimp only at hSw); go_simp; (try with_reducible rfl)
            clear hoi
            simp only [Act.put, List.setIfInBounds_toArray, List.set_cons_zero, List.set_cons_succ]
            refine held_at (i := 6) (by kernel_rfl) (fun oi6 hoi6 => ?_)
            have h2 := hoi6
            simp only [List.getElem?_toArray, List.getElem?_cons_succ, List.getElem?_cons_zero, Option.some.injEq] at h2
            subst h2
            refine held_at (i := 8) (by kernel_rfl) (fun oi8 hoi8 => ?_)
            have h2 := hoi8
            simp only [List.getElem?_toArray, List.getElem?_cons_succ, List.getElem?_cons_zero, Option.some.injEq] at h2
            subst h2
            refine wpAnyH_ready (rs := [6, 8]) (by kernel_rfl) (by simp) ?_
            refine AllReadyH.cons hoi6 (fun K hK => ?_) ?_
            · clear hoi6 hoi8
              go_simp
              refine hK.out _ _ ?_ (fun hHeld => ?_)
              · (try dsimp only); first | go_keep | (refine ⟨?_, ?_, ?_, ?_⟩ <;> simp [go_sem, *])
              clear hK K
              try simp only [Act.put, List.setIfInBounds_toArray, List.set_cons_zero, List.set_cons_succ]
              refine held_at (i := 8) (by kernel_rfl) (fun oi8 hoi8 => ?_)
              have h2 := hoi8
              simp only [List.getElem?_toArray, List.getElem?_cons_succ, List.getElem?_cons_zero, Option.some.injEq] at h2
              subst h2
              refine wpAnyH_ready (rs := [8]) (by kernel_rfl) (by simp) ?_
              refine AllReadyH.cons hoi8 (fun K hK => ?_) ?_
              · clear hoi8
                go_simp
                refine hK.out _ _ ?_ (fun hHeld => ?_)
                · (try dsimp only); first | go_keep | (refine ⟨?_, ?_, ?_, ?_⟩ <;> simp [go_sem, *])
                clear hK K
                try simp only [Act.put, List.setIfInBounds_toArray, List.set_cons_zero, List.set_cons_succ]
                refine held_at (i := 9) (by kernel_rfl) (fun oi hoi => ?_)
                have h2 := hoi
                simp only [List.getElem?_toArray, List.getElem?_cons_succ, List.getElem?_cons_zero, Option.some.injEq] at h2
                subst h2
                refine wpAnyH_take (v := ?vp139) hoi (by kernel_rfl) (by kernel_rfl) (by kernel_rfl) (fun _ _ _ h => h) (Or.inl ⟨by rfl, ?hyp139⟩) (by assumption) ?_
                case hyp139 => intro w' hSw; (try dsimp only at hSw); go_simp; (try with_reducible rfl)
                clear hoi
                simp only [Act.put, List.setIfInBounds_toArray, List.set_cons_zero, List.set_cons_succ]
                refine wpAnyH_done (by kernel_rfl) ?_ _
                go_wp2_with fail
                refine bodyPost_ret (v := .tuple #[.agg #[.int .i64 za, .int .i64 la], .agg #[.int .i64 zb', .int .i64 lb], .int .i64 (sel7 k)]) (by simp [results, Try.results17, go_sem, s0, s1, q0, q1, zr6, zq6] <;> (rcases lt7 k0 k3 with rfl | rfl | rfl | rfl | rfl | rfl | rfl <;> simp [sel7])) rfl ⟨za, la, zb', lb, _, rfl, ?_⟩
                repeat (first | exact HB6.out | apply Below.drew | refine Below.alloc ?_ (by first | omega | (simp; done) | (simp; omega)) _ | refine Below.setCell ?_ (by first | omega | (simp; done) | (simp; omega)) _)
              exact AllReadyH.nil
            refine AllReadyH.cons hoi8 (fun K hK => ?_) ?_
            · clear hoi6 hoi8
              go_simp
              refine hK.out _ _ ?_ (fun hHeld => ?_)
              · (try dsimp only); first | go_keep | (refine ⟨?_, ?_, ?_, ?_⟩ <;> simp [go_sem, *])
              clear hK K
              try simp only [Act.put, List.setIfInBounds_toArray, List.set_cons_zero, List.set_cons_succ]
              refine held_at (i := 6) (by kernel_rfl) (fun oi6 hoi6 => ?_)
              have h2 := hoi6
              simp only [List.getElem?_toArray, List.getElem?_cons_succ, List.getElem?_cons_zero, Option.some.injEq] at h2
              subst h2
              refine wpAnyH_ready (rs := [6]) (by kernel_rfl) (by simp) ?_
              refine AllReadyH.cons hoi6 (fun K hK => ?_) ?_
              · clear hoi6
                go_simp
                refine hK.out _ _ ?_ (fun hHeld => ?_)
                · (try dsimp only); first | go_keep | (refine ⟨?_, ?_, ?_, ?_⟩ <;> simp [go_sem, *])
                clear hK K
                try simp only [Act.put, List.setIfInBounds_toArray, List.set_cons_zero, List.set_cons_succ]
                refine held_at (i := 9) (by kernel_rfl) (fun oi hoi => ?_)
                have h2 := hoi
                simp only [List.getElem?_toArray, List.getElem?_cons_succ, List.getElem?_cons_zero, Option.some.injEq] at h2
                subst h2
                refine wpAnyH_take (v := ?vp149) hoi (by kernel_rfl) (by kernel_rfl) (by kernel_rfl) (fun _ _ _ h => h) (Or.inl ⟨by rfl, ?hyp149⟩) (by assumption) ?_
                case hyp149 => intro w' hSw; (try dsimp only at hSw); go_simp; (try with_reducible rfl)
                clear hoi
                simp only [Act.put, List.setIfInBounds_toArray, List.set_cons_zero, List.set_cons_succ]
                refine wpAnyH_done (by kernel_rfl) ?_ _
                go_wp2_with fail
                refine bodyPost_ret (v := .tuple #[.agg #[.int .i64 za, .int .i64 la], .agg #[.int .i64 zb', .int .i64 lb], .int .i64 (sel7 k)]) (by simp [results, Try.results17, go_sem, s0, s1, q0, q1, zr6, zq6] <;> (rcases lt7 k0 k3 with rfl | rfl | rfl | rfl | rfl | rfl | rfl <;> simp [sel7])) rfl ⟨za, la, zb', lb, _, rfl, ?_⟩
                repeat (first | exact HB6.out | apply Below.drew | refine Below.alloc ?_ (by first | omega | (simp; done) | (simp; omega)) _ | refine Below.setCell ?_ (by first | omega | (simp; done) | (simp; omega)) _)
              exact AllReadyH.nil
            exact AllReadyH.nil
          refine AllReadyH.cons hoi8 (fun K hK => ?_) ?_
          · clear hoi2 hoi8
            go_simp
            refine hK.out _ _ ?_ (fun hHeld => ?_)
            · (try dsimp only); first | go_keep | (refine ⟨?_, ?_, ?_, ?_⟩ <;> simp [go_sem, *])
            clear hK K
            try simp only [Act.put, List.setIfInBounds_toArray, List.set_cons_zero, List.set_cons_succ]
            refine held_at (i := 2) (by kernel_rfl) (fun oi2 hoi2 => ?_)
            have h2 := hoi2
            simp only [List.getElem?_toArray, List.getElem?_cons_succ, List.getElem?_cons_zero, Option.some.injEq] at h2
            subst h2
            refine wpAnyH_ready (rs := [2]) (by kernel_rfl) (by simp) ?_
            refine AllReadyH.cons hoi2 (fun K hK => ?_) ?_
            · clear hoi2
              go_simp
              refine hK.out _ _ ?_ (fun hHeld => ?_)
              · (try dsimp only); first | go_keep | (refine ⟨?_, ?_, ?_, ?_⟩ <;> simp [go_sem, *])
              clear hK K
              try simp only [Act.put, List.setIfInBounds_toArray, List.set_cons_zero, List.set_cons_succ]
              refine held_at (i := 5) (by kernel_rfl) (fun oi hoi => ?_)
              have h2 := hoi
              simp only [List.getElem?_toArray, List.getElem?_cons_succ, List.getElem?_cons_zero, Option.some.injEq] at h2
              subst h2
              refine wpAnyH_take (v := ?vp155) hoi (by kernel_rfl) (by kernel_rfl) (by kernel_rfl) (fun _ _ _ h => h) (Or.inl ⟨by rfl, ?hyp155⟩) (by assumption) ?_
              case hyp155 => intro w' hSw; (try dsimp only at hSw); go_simp; (try with_reducible rfl)
              clear hoi
              simp only [Act.put, List.setIfInBounds_toArray, List.set_cons_zero, List.set_cons_succ]
              refine held_at (i := 6) (by kernel_rfl) (fun oi6 hoi6 => ?_)
              have h2 := hoi6
              simp only [List.getElem?_toArray, List.getElem?_cons_succ, List.getElem?_cons_zero, Option.some.injEq] at h2
              subst h2
              refine wpAnyH_ready (rs := [6]) (by kernel_rfl) (by simp) ?_
              refine AllReadyH.cons hoi6 (fun K hK => ?_) ?_
              · clear hoi6
                go_simp
                refine hK.out _ _ ?_ (fun hHeld => ?_)
                · (try dsimp only); first | go_keep | (refine ⟨?_, ?_, ?_, ?_⟩ <;> simp [go_sem, *])
                clear hK K
                try simp only [Act.put, List.setIfInBounds_toArray, List.set_cons_zero, List.set_cons_succ]
                refine held_at (i := 9) (by kernel_rfl) (fun oi hoi => ?_)
                have h2 := hoi
                simp only [List.getElem?_toArray, List.getElem?_cons_succ, List.getElem?_cons_zero, Option.some.injEq] at h2
                subst h2
                refine wpAnyH_take (v := ?vp169) hoi (by kernel_rfl) (by kernel_rfl) (by kernel_rfl) (fun _ _ _ h => h) (Or.inl ⟨by rfl, ?hyp169⟩) (by assumption) ?_
                case hyp169 => intro w' hSw; (try dsimp only at hSw); go_simp; (try with_reducible rfl)
                clear hoi
                simp only [Act.put, List.setIfInBounds_toArray, List.set_cons_zero, List.set_cons_succ]
                refine wpAnyH_done (by kernel_rfl) ?_ _
                go_wp2_with fail
                refine bodyPost_ret (v := .tuple #[.agg #[.int .i64 za, .int .i64 la], .agg #[.int .i64 zb', .int .i64 lb], .int .i64 (sel7 k)]) (by simp [results, Try.results17, go_sem, s0, s1, q0, q1, zr6, zq6] <;> (rcases lt7 k0 k3 with rfl | rfl | rfl | rfl | rfl | rfl | rfl <;> simp [sel7])) rfl ⟨za, la, zb', lb, _, rfl, ?_⟩
                repeat (first | exact HB6.out | apply Below.drew | refine Below.alloc ?_ (by first | omega | (simp; done) | (simp; omega)) _ | refine Below.setCell ?_ (by first | omega | (simp; done) | (simp; omega)) _)
              exact AllReadyH.nil
            exact AllReadyH.nil
          exact AllReadyH.nil
        exact AllReadyH.nil
      exact AllReadyH.nil
    · have hsel := sel3_cell
      have hsel2 := sel3_arr
      go_upto_region 7 with fail
      refine wp_region_held_drew (S := fun w' => w'.cell? ⟨x, 0, none⟩ = some (.int .i64 za) ∧ w'.cell? ⟨x, 1, none⟩ = some (.int .i64 la) ∧ w'.cell? ⟨y, 0, none⟩ = some (.int .i64 zb') ∧ w'.cell? ⟨y, 1, none⟩ = some (.int .i64 lb)) (by kernel_rfl) ⟨c0, c1, e0, e1⟩ (fun hHeld => ?_)
      refine held_at (i := 0) (by kernel_rfl) (fun oi hoi => ?_)
      have h2 := hoi
      simp only [List.getElem?_toArray, List.getElem?_cons_zero, Option.some.injEq] at h2
      subst h2
      refine wpAnyH_take (v := ?vq10) hoi (by kernel_rfl) (by kernel_rfl) (by kernel_rfl) (fun _ _ _ h => h) (Or.inl ⟨by rfl, ?hyq10⟩) (by assumption) ?_
      case hyq10 => intro w' hSw; (try dsimp only at hSw); go_simp; (try with_reducible rfl)
      clear hoi
      simp only [Act.put, List.setIfInBounds_toArray, List.set_cons_zero, List.set_cons_succ]
      refine held_at (i := 1) (by kernel_rfl) (fun oi hoi => ?_)
      have h2 := hoi
      simp only [List.getElem?_toArray, List.getElem?_cons_succ, List.getElem?_cons_zero, Option.some.injEq] at h2
      subst h2
      refine wpAnyH_take (v := ?vq21) hoi (by kernel_rfl) (by kernel_rfl) (by kernel_rfl) (fun _ _ _ h => h) (Or.inl ⟨by rfl, ?hyq21⟩) (by assumption) ?_
      case hyq21 => intro w' hSw; (try dsimp only at hSw); go_simp; (try with_reducible rfl)
      clear hoi
      simp only [Act.put, List.setIfInBounds_toArray, List.set_cons_zero, List.set_cons_succ]
      refine held_at (i := 2) (by kernel_rfl) (fun oi hoi => ?_)
      have h2 := hoi
      simp only [List.getElem?_toArray, List.getElem?_cons_succ, List.getElem?_cons_zero, Option.some.injEq] at h2
      subst h2
      refine wpAnyH_take (v := ?vq32) hoi (by kernel_rfl) (by kernel_rfl) (by kernel_rfl) (fun _ _ _ h => h) (Or.inl ⟨by rfl, ?hyq32⟩) (by assumption) ?_
      case hyq32 => intro w' hSw; (try dsimp only at hSw); go_simp; (try with_reducible rfl)
      clear hoi
      simp only [Act.put, List.setIfInBounds_toArray, List.set_cons_zero, List.set_cons_succ]
      refine held_at (i := 5) (by kernel_rfl) (fun oi hoi => ?_)
      have h2 := hoi
      simp only [List.getElem?_toArray, List.getElem?_cons_succ, List.getElem?_cons_zero, Option.some.injEq] at h2
      subst h2
      refine wpAnyH_take (v := ?vq45) hoi (by kernel_rfl) (by kernel_rfl) (by kernel_rfl) (fun _ _ _ h => h) (Or.inl ⟨by rfl, ?hyq45⟩) (by assumption) ?_
      case hyq45 => intro w' hSw; (try dsimp only at hSw); go_simp; (try with_reducible rfl)
      clear hoi
      simp only [Act.put, List.setIfInBounds_toArray, List.set_cons_zero, List.set_cons_succ]
      refine held_at (i := 3) (by kernel_rfl) (fun oi3 hoi3 => ?_)
      have h2 := hoi3
      simp only [List.getElem?_toArray, List.getElem?_cons_succ, List.getElem?_cons_zero, Option.some.injEq] at h2
      subst h2
      refine wpAnyH_ready (rs := [3]) (by kernel_rfl) (by simp) ?_
      refine AllReadyH.cons hoi3 (fun K hK => ?_) ?_
      · clear hoi3
        go_simp
        refine (raw_any g a len cap (0 + 1 + 8 + 8 + 1) _ (by omega) (HC5.out.belowB (B := w5.heap.size) (by repeat (first | exact Below.refl _ _ | refine Below.setCell ?_ (by first | omega | (simp; done) | (simp; omega)) _ | refine Below.alloc ?_ (by first | omega | (simp; done) | (simp; omega)) _ | apply Below.drew)) g5)).mono ?_
        rintro e w6 ⟨v, rfl, -, hc6, ho6⟩
        have o56 : Only g w5 w6 := Only.trans (by repeat (first | exact Only.refl _ w5 | apply Only.drew | refine Only.alloc ?_ _)) ho6
        have HR6 := Lib.hid (HR5.out.only o56 (by omega) (by omega))
        have HQ6 := Lib.hid (HQ5.out.only o56 (by omega) (by omega))
        have HX6 := Lib.hid (HX5.out.only o56 zx5 (by omega))
        have HY6 := Lib.hid (HY5.out.only o56 zy (by omega))
        obtain ⟨⟨xa6, xb6⟩, -⟩ := HX6.out
        obtain ⟨⟨ya6, yb6⟩, -⟩ := HY6.out
        have HC6 := Lib.hid hc6
        have g6 := hc6.lt
        have zr6 : w.heap.size < w6.heap.size := Nat.lt_of_lt_of_le zr5 o56.size
        have zq6 : w.heap.size + 1 < w6.heap.size := Nat.lt_of_lt_of_le zq5 o56.size
        have zx6 := Nat.lt_of_lt_of_le zx5 o56.size
        have zy6 := Nat.lt_of_lt_of_le zy o56.size
        have n6 : ¬ w6.heap.size = w.heap.size := by omega
        have n6' : ¬ w6.heap.size = w.heap.size + 1 := by omega
        have ng6 : ¬ w6.heap.size = g := by omega
        have HB6 := Lib.hid (HB5.out.trans (o56.below (B := w.heap.size) (by omega) (by omega)))
        clear hc6 ho6 o56
        refine hK.out _ _ ?_ (fun hHeld => ?_)
        · (try dsimp only); first | go_keep | (refine ⟨?_, ?_, ?_, ?_⟩ <;> simp [go_sem, *])
        clear hK K
        try simp only [Act.put, List.setIfInBounds_toArray, List.set_cons_zero, List.set_cons_succ]
        refine held_at (i := 4) (by kernel_rfl) (fun oi4 hoi4 => ?_)
        have h2 := hoi4
        simp only [List.getElem?_toArray, List.getElem?_cons_succ, List.getElem?_cons_zero, Option.some.injEq] at h2
        subst h2
        refine held_at (i := 6) (by kernel_rfl) (fun oi6 hoi6 => ?_)
        have h2 := hoi6
        simp only [List.getElem?_toArray, List.getElem?_cons_succ, List.getElem?_cons_zero, Option.some.injEq] at h2
        subst h2
        refine wpAnyH_ready (rs := [4, 6]) (by kernel_rfl) (by simp) ?_
        refine AllReadyH.cons hoi4 (fun K hK => ?_) ?_
        · clear hoi4 hoi6
          go_simp
          refine hK.out _ _ ?_ (fun hHeld => ?_)
          · (try dsimp only); first | go_keep | (refine ⟨?_, ?_, ?_, ?_⟩ <;> simp [go_sem, *])
          clear hK K
          try simp only [Act.put, List.setIfInBounds_toArray, List.set_cons_zero, List.set_cons_succ]
          refine held_at (i := 6) (by kernel_rfl) (fun oi6 hoi6 => ?_)
          have h2 := hoi6
          simp only [List.getElem?_toArray, List.getElem?_cons_succ, List.getElem?_cons_zero, Option.some.injEq] at h2
          subst h2
          refine wpAnyH_ready (rs := [6]) (by kernel_rfl) (by simp) ?_
          refine AllReadyH.cons hoi6 (fun K hK => ?_) ?_
          · clear hoi6
            go_simp
            refine (pick_any g a len cap (0 + 1 + 8 + 8 + 1 + 2) 3 _ (by omega) (HC6.out.belowB (B := w6.heap.size) (by repeat (first | exact Below.refl _ _ | refine Below.setCell ?_ (by first | omega | (simp; done) | (simp; omega)) _ | refine Below.alloc ?_ (by first | omega | (simp; done) | (simp; omega)) _ | apply Below.drew)) g6)).mono ?_
            rintro e w7 ⟨k, rfl, k0, k1, hc7, ho7⟩
            have o67 : Only g w6 w7 := Only.trans (by repeat (first | exact Only.refl _ w6 | apply Only.drew | refine Only.alloc ?_ _)) ho7
            obtain ⟨⟨s0, s1⟩, sf⟩ := HR6.out.only o67 (by omega) (by omega)
            obtain ⟨⟨q0, q1⟩, qf⟩ := HQ6.out.only o67 (by omega) (by omega)
            have sf0 := sf 0
            have sf1 := sf 1
            have qf0 := qf 0
            have qf1 := qf 1
            obtain ⟨⟨xa, xb⟩, -⟩ := HX6.out.only o67 zx6 (by omega)
            obtain ⟨⟨ya, yb⟩, -⟩ := HY6.out.only o67 zy6 (by omega)
            have k3 : k < 3 := by omega
            have zr7 : w.heap.size < w7.heap.size := Nat.lt_of_lt_of_le zr6 o67.size
            have zq7 : w.heap.size + 1 < w7.heap.size := Nat.lt_of_lt_of_le zq6 o67.size
            have zx7 := Nat.lt_of_lt_of_le zx6 o67.size
            have zy7 := Nat.lt_of_lt_of_le zy6 o67.size
            have n7 : ¬ w7.heap.size = w.heap.size := by omega
            have n7' : ¬ w7.heap.size = w.heap.size + 1 := by omega
            have hk7 := fun (b o : Nat) (h1 : b < _) (h2 : ¬ b = g) => ho7.cell (b := b) (o := o) h1 h2
            have HB7 := Lib.hid (HB6.out.trans (o67.below (B := w.heap.size) (by omega) (by omega)))
            clear hc7 ho7 o67 sf qf
            refine hK.out _ _ ?_ (fun hHeld => ?_)
            · (try dsimp only); first | go_keep | (refine ⟨?_, ?_, ?_, ?_⟩ <;> simp [go_sem, *])
            clear hK K
            try simp only [Act.put, List.setIfInBounds_toArray, List.set_cons_zero, List.set_cons_succ]
            refine held_at (i := 7) (by kernel_rfl) (fun oi hoi => ?_)
            have h2 := hoi
            simp only [List.getElem?_toArray, List.getElem?_cons_succ, List.getElem?_cons_zero, Option.some.injEq] at h2
            subst h2
            refine wpAnyH_take (v := ?vq57) hoi (by kernel_rfl) (by kernel_rfl) (by kernel_rfl) (fun _ _ _ h => h) (Or.inl ⟨by rfl, ?hyq57⟩) (by assumption) ?_
            case hyq57 => intro w' hSw; (try dsimp only at hSw); go_simp; (try with_reducible rfl)
            clear hoi
            simp only [Act.put, List.setIfInBounds_toArray, List.set_cons_zero, List.set_cons_succ]
            refine held_at (i := 8) (by kernel_rfl) (fun oi8 hoi8 => ?_)
            have h2 := hoi8
            simp only [List.getElem?_toArray, List.getElem?_cons_succ, List.getElem?_cons_zero, Option.some.injEq] at h2
            subst h2
            refine held_at (i := 9) (by kernel_rfl) (fun oi9 hoi9 => ?_)
            have h2 := hoi9
            simp only [List.getElem?_toArray, List.getElem?_cons_succ, List.getElem?_cons_zero, Option.some.injEq] at h2
            subst h2
            refine wpAnyH_ready (rs := [8, 9]) (by kernel_rfl) (by simp) ?_
            refine AllReadyH.cons hoi8 (fun K hK => ?_) ?_
            · clear hoi8 hoi9
              go_simp
              refine hK.out _ _ ?_ (fun hHeld => ?_)
              · (try dsimp only); first | go_keep | (refine ⟨?_, ?_, ?_, ?_⟩ <;> simp [go_sem, *])
              clear hK K
              try simp only [Act.put, List.setIfInBounds_toArray, List.set_cons_zero, List.set_cons_succ]
              refine held_at (i := 9) (by kernel_rfl) (fun oi9 hoi9 => ?_)
              have h2 := hoi9
              simp only [List.getElem?_toArray, List.getElem?_cons_succ, List.getElem?_cons_zero, Option.some.injEq] at h2
              subst h2
              refine wpAnyH_ready (rs := [9]) (by kernel_rfl) (by simp) ?_
              refine AllReadyH.cons hoi9 (fun K hK => ?_) ?_
              · clear hoi9
                go_simp
                refine hK.out _ _ ?_ (fun hHeld => ?_)
                · (try dsimp only); first | go_keep | (refine ⟨?_, ?_, ?_, ?_⟩ <;> simp [go_sem, *])
                clear hK K
                try simp only [Act.put, List.setIfInBounds_toArray, List.set_cons_zero, List.set_cons_succ]
                refine held_at (i := 10) (by kernel_rfl) (fun oi10 hoi10 => ?_)
                have h2 := hoi10
                simp only [List.getElem?_toArray, List.getElem?_cons_succ, List.getElem?_cons_zero, Option.some.injEq] at h2
                subst h2
                refine wpAnyH_ready (rs := [10]) (by kernel_rfl) (by simp) ?_
                refine AllReadyH.cons hoi10 (fun K hK => ?_) ?_
                · clear hoi10
                  go_simp
                  refine hK.out _ _ ?_ (fun hHeld => ?_)
                  · (try dsimp only); first | go_keep | (refine ⟨?_, ?_, ?_, ?_⟩ <;> simp [go_sem, *])
                  clear hK K
                  try simp only [Act.put, List.setIfInBounds_toArray, List.set_cons_zero, List.set_cons_succ]
                  refine held_at (i := 11) (by kernel_rfl) (fun oi hoi => ?_)
                  have h2 := hoi
                  simp only [List.getElem?_toArray, List.getElem?_cons_succ, List.getElem?_cons_zero, Option.some.injEq] at h2
                  subst h2
                  refine wpAnyH_take (v := ?vq611) hoi (by kernel_rfl) (by kernel_rfl) (by kernel_rfl) (fun _ _ _ h => h) (Or.inl ⟨by rfl, ?hyq611⟩) (by assumption) ?_
                  case hyq611 => intro w' hSw; (try dsimp only at hSw); go_simp; (try with_reducible rfl)
                  clear hoi
                  simp only [Act.put, List.setIfInBounds_toArray, List.set_cons_zero, List.set_cons_succ]
                  refine wpAnyH_done (by kernel_rfl) ?_ _
                  go_wp2_with fail
                  refine bodyPost_ret (v := .tuple #[.agg #[.int .i64 za, .int .i64 la], .agg #[.int .i64 zb', .int .i64 lb], .int .i64 (sel3 k v 200000 200001)]) (by simp [results, Try.results17, go_sem, s0, s1, q0, q1, zr7, zq7] <;> (have kk : k = 0 ∨ k = 1 ∨ k = 2 := (by omega); rcases kk with rfl | rfl | rfl <;> simp [sel3])) rfl ⟨za, la, zb', lb, _, rfl, ?_⟩
                  repeat (first | exact HB7.out | apply Below.drew | refine Below.alloc ?_ (by first | omega | (simp; done) | (simp; omega)) _ | refine Below.setCell ?_ (by first | omega | (simp; done) | (simp; omega)) _)
                exact AllReadyH.nil
              exact AllReadyH.nil
            refine AllReadyH.cons hoi9 (fun K hK => ?_) ?_
            · clear hoi8 hoi9
              go_simp
              refine hK.out _ _ ?_ (fun hHeld => ?_)
              · (try dsimp only); first | go_keep | (refine ⟨?_, ?_, ?_, ?_⟩ <;> simp [go_sem, *])
              clear hK K
              try simp only [Act.put, List.setIfInBounds_toArray, List.set_cons_zero, List.set_cons_succ]
              refine held_at (i := 8) (by kernel_rfl) (fun oi8 hoi8 => ?_)
              have h2 := hoi8
              simp only [List.getElem?_toArray, List.getElem?_cons_succ, List.getElem?_cons_zero, Option.some.injEq] at h2
              subst h2
              refine held_at (i := 10) (by kernel_rfl) (fun oi10 hoi10 => ?_)
              have h2 := hoi10
              simp only [List.getElem?_toArray, List.getElem?_cons_succ, List.getElem?_cons_zero, Option.some.injEq] at h2
              subst h2
              refine wpAnyH_ready (rs := [8, 10]) (by kernel_rfl) (by simp) ?_
              refine AllReadyH.cons hoi8 (fun K hK => ?_) ?_
              · clear hoi8 hoi10
                go_simp
                refine hK.out _ _ ?_ (fun hHeld => ?_)
                · (try dsimp only); first | go_keep | (refine ⟨?_, ?_, ?_, ?_⟩ <;> simp [go_sem, *])
                clear hK K
                try simp only [Act.put, List.setIfInBounds_toArray, List.set_cons_zero, List.set_cons_succ]
                refine held_at (i := 10) (by kernel_rfl) (fun oi10 hoi10 => ?_)
                have h2 := hoi10
                simp only [List.getElem?_toArray, List.getElem?_cons_succ, List.getElem?_cons_zero, Option.some.injEq] at h2
                subst h2
                refine wpAnyH_ready (rs := [10]) (by kernel_rfl) (by simp) ?_
                refine AllReadyH.cons hoi10 (fun K hK => ?_) ?_
                · clear hoi10
                  go_simp
                  refine hK.out _ _ ?_ (fun hHeld => ?_)
                  · (try dsimp only); first | go_keep | (refine ⟨?_, ?_, ?_, ?_⟩ <;> simp [go_sem, *])
                  clear hK K
                  try simp only [Act.put, List.setIfInBounds_toArray, List.set_cons_zero, List.set_cons_succ]
                  refine held_at (i := 11) (by kernel_rfl) (fun oi hoi => ?_)
                  have h2 := hoi
                  simp only [List.getElem?_toArray, List.getElem?_cons_succ, List.getElem?_cons_zero, Option.some.injEq] at h2
                  subst h2
                  refine wpAnyH_take (v := ?vq711) hoi (by kernel_rfl) (by kernel_rfl) (by kernel_rfl) (fun _ _ _ h => h) (Or.inl ⟨by rfl, ?hyq711⟩) (by assumption) ?_
                  case hyq711 => intro w' hSw; (try dsimp only at hSw); go_simp; (try with_reducible rfl)
                  clear hoi
                  simp only [Act.put, List.setIfInBounds_toArray, List.set_cons_zero, List.set_cons_succ]
                  refine wpAnyH_done (by kernel_rfl) ?_ _
                  go_wp2_with fail
                  refine bodyPost_ret (v := .tuple #[.agg #[.int .i64 za, .int .i64 la], .agg #[.int .i64 zb', .int .i64 lb], .int .i64 (sel3 k v 200000 200001)]) (by simp [results, Try.results17, go_sem, s0, s1, q0, q1, zr7, zq7] <;> (have kk : k = 0 ∨ k = 1 ∨ k = 2 := (by omega); rcases kk with rfl | rfl | rfl <;> simp [sel3])) rfl ⟨za, la, zb', lb, _, rfl, ?_⟩
                  repeat (first | exact HB7.out | apply Below.drew | refine Below.alloc ?_ (by first | omega | (simp; done) | (simp; omega)) _ | refine Below.setCell ?_ (by first | omega | (simp; done) | (simp; omega)) _)
                exact AllReadyH.nil
              refine AllReadyH.cons hoi10 (fun K hK => ?_) ?_
              · clear hoi8 hoi10
                go_simp
                refine hK.out _ _ ?_ (fun hHeld => ?_)
                · (try dsimp only); first | go_keep | (refine ⟨?_, ?_, ?_, ?_⟩ <;> simp [go_sem, *])
                clear hK K
                try simp only [Act.put, List.setIfInBounds_toArray, List.set_cons_zero, List.set_cons_succ]
                refine held_at (i := 8) (by kernel_rfl) (fun oi8 hoi8 => ?_)
                have h2 := hoi8
                simp only [List.getElem?_toArray, List.getElem?_cons_succ, List.getElem?_cons_zero, Option.some.injEq] at h2
                subst h2
                refine wpAnyH_ready (rs := [8]) (by kernel_rfl) (by simp) ?_
                refine AllReadyH.cons hoi8 (fun K hK => ?_) ?_
                · clear hoi8
                  go_simp
                  refine hK.out _ _ ?_ (fun hHeld => ?_)
                  · (try dsimp only); first | go_keep | (refine ⟨?_, ?_, ?_, ?_⟩ <;> simp [go_sem, *])
                  clear hK K
                  try simp only [Act.put, List.setIfInBounds_toArray, List.set_cons_zero, List.set_cons_succ]
                  refine held_at (i := 11) (by kernel_rfl) (fun oi hoi => ?_)
                  have h2 := hoi
                  simp only [List.getElem?_toArray, List.getElem?_cons_succ, List.getElem?_cons_zero, Option.some.injEq] at h2
                  subst h2
                  refine wpAnyH_take (v := ?vq811) hoi (by kernel_rfl) (by kernel_rfl) (by kernel_rfl) (fun _ _ _ h => h) (Or.inl ⟨by rfl, ?hyq811⟩) (by assumption) ?_
                  case hyq811 => intro w' hSw; (try dsimp only at hSw); go_simp; (try with_reducible rfl)
                  clear hoi
                  simp only [Act.put, List.setIfInBounds_toArray, List.set_cons_zero, List.set_cons_succ]
                  refine wpAnyH_done (by kernel_rfl) ?_ _
                  go_wp2_with fail
                  refine bodyPost_ret (v := .tuple #[.agg #[.int .i64 za, .int .i64 la], .agg #[.int .i64 zb', .int .i64 lb], .int .i64 (sel3 k v 200000 200001)]) (by simp [results, Try.results17, go_sem, s0, s1, q0, q1, zr7, zq7] <;> (have kk : k = 0 ∨ k = 1 ∨ k = 2 := (by omega); rcases kk with rfl | rfl | rfl <;> simp [sel3])) rfl ⟨za, la, zb', lb, _, rfl, ?_⟩
                  repeat (first | exact HB7.out | apply Below.drew | refine Below.alloc ?_ (by first | omega | (simp; done) | (simp; omega)) _ | refine Below.setCell ?_ (by first | omega | (simp; done) | (simp; omega)) _)
                exact AllReadyH.nil
              exact AllReadyH.nil
            exact AllReadyH.nil
          exact AllReadyH.nil
        refine AllReadyH.cons hoi6 (fun K hK => ?_) ?_
        · clear hoi4 hoi6
          go_simp
          refine (pick_any g a len cap (0 + 1 + 8 + 8 + 1 + 2) 3 _ (by omega) (HC6.out.belowB (B := w6.heap.size) (by repeat (first | exact Below.refl _ _ | refine Below.setCell ?_ (by first | omega | (simp; done) | (simp; omega)) _ | refine Below.alloc ?_ (by first | omega | (simp; done) | (simp; omega)) _ | apply Below.drew)) g6)).mono ?_
          rintro e w7 ⟨k, rfl, k0, k1, hc7, ho7⟩
          have o67 : Only g w6 w7 := Only.trans (by repeat (first | exact Only.refl _ w6 | apply Only.drew | refine Only.alloc ?_ _)) ho7
          obtain ⟨⟨s0, s1⟩, sf⟩ := HR6.out.only o67 (by omega) (by omega)
          obtain ⟨⟨q0, q1⟩, qf⟩ := HQ6.out.only o67 (by omega) (by omega)
          have sf0 := sf 0
          have sf1 := sf 1
          have qf0 := qf 0
          have qf1 := qf 1
          obtain ⟨⟨xa, xb⟩, -⟩ := HX6.out.only o67 zx6 (by omega)
          obtain ⟨⟨ya, yb⟩, -⟩ := HY6.out.only o67 zy6 (by omega)
          have k3 : k < 3 := by omega
          have zr7 : w.heap.size < w7.heap.size := Nat.lt_of_lt_of_le zr6 o67.size
          have zq7 : w.heap.size + 1 < w7.heap.size := Nat.lt_of_lt_of_le zq6 o67.size
          have zx7 := Nat.lt_of_lt_of_le zx6 o67.size
          have zy7 := Nat.lt_of_lt_of_le zy6 o67.size
          have n7 : ¬ w7.heap.size = w.heap.size := by omega
          have n7' : ¬ w7.heap.size = w.heap.size + 1 := by omega
          have hk7 := fun (b o : Nat) (h1 : b < _) (h2 : ¬ b = g) => ho7.cell (b := b) (o := o) h1 h2
          have HB7 := Lib.hid (HB6.out.trans (o67.below (B := w.heap.size) (by omega) (by omega)))
          clear hc7 ho7 o67 sf qf
          refine hK.out _ _ ?_ (fun hHeld => ?_)
          · (try dsimp only); first | go_keep | (refine ⟨?_, ?_, ?_, ?_⟩ <;> simp [go_sem, *])
          clear hK K
          try simp only [Act.put, List.setIfInBounds_toArray, List.set_cons_zero, List.set_cons_succ]
          refine held_at (i := 4) (by kernel_rfl) (fun oi4 hoi4 => ?_)
          have h2 := hoi4
          simp only [List.getElem?_toArray, List.getElem?_cons_succ, List.getElem?_cons_zero, Option.some.injEq] at h2
          subst h2
          refine held_at (i := 9) (by kernel_rfl) (fun oi9 hoi9 => ?_)
          have h2 := hoi9
          simp only [List.getElem?_toArray, List.getElem?_cons_succ, List.getElem?_cons_zero, Option.some.injEq] at h2
          subst h2
          refine wpAnyH_ready (rs := [4, 9]) (by kernel_rfl) (by simp) ?_
          refine AllReadyH.cons hoi4 (fun K hK => ?_) ?_
          · clear hoi4 hoi9
            go_simp
            refine hK.out _ _ ?_ (fun hHeld => ?_)
            · (try dsimp only); first | go_keep | (refine ⟨?_, ?_, ?_, ?_⟩ <;> simp [go_sem, *])
            clear hK K
            try simp only [Act.put, List.setIfInBounds_toArray, List.set_cons_zero, List.set_cons_succ]
            refine held_at (i := 7) (by kernel_rfl) (fun oi hoi => ?_)
            have h2 := hoi
            simp only [List.getElem?_toArray, List.getElem?_cons_succ, List.getElem?_cons_zero, Option.some.injEq] at h2
            subst h2
            refine wpAnyH_take (v := ?vq97) hoi (by kernel_rfl) (by kernel_rfl) (by kernel_rfl) (fun _ _ _ h => h) (Or.inl ⟨by rfl, ?hyq97⟩) (by assumption) ?_
            case hyq97 => intro w' hSw; (try dsimp only at hSw); go_simp; (try with_reducible rfl)
            clear hoi
            simp only [Act.put, List.setIfInBounds_toArray, List.set_cons_zero, List.set_cons_succ]
            refine held_at (i := 8) (by kernel_rfl) (fun oi8 hoi8 => ?_)
            have h2 := hoi8
            simp only [List.getElem?_toArray, List.getElem?_cons_succ, List.getElem?_cons_zero, Option.some.injEq] at h2
            subst h2
            refine held_at (i := 9) (by kernel_rfl) (fun oi9 hoi9 => ?_)
            have h2 := hoi9
            simp only [List.getElem?_toArray, List.getElem?_cons_succ, List.getElem?_cons_zero, Option.some.injEq] at h2
            subst h2
            refine wpAnyH_ready (rs := [8, 9]) (by kernel_rfl) (by simp) ?_
            refine AllReadyH.cons hoi8 (fun K hK => ?_) ?_
            · clear hoi8 hoi9
              go_simp
              refine hK.out _ _ ?_ (fun hHeld => ?_)
              · (try dsimp only); first | go_keep | (refine ⟨?_, ?_, ?_, ?_⟩ <;> simp [go_sem, *])
              clear hK K
              try simp only [Act.put, List.setIfInBounds_toArray, List.set_cons_zero, List.set_cons_succ]
              refine held_at (i := 9) (by kernel_rfl) (fun oi9 hoi9 => ?_)
              have h2 := hoi9
              simp only [List.getElem?_toArray, List.getElem?_cons_succ, List.getElem?_cons_zero, Option.some.injEq] at h2
              subst h2
              refine wpAnyH_ready (rs := [9]) (by kernel_rfl) (by simp) ?_
              refine AllReadyH.cons hoi9 (fun K hK => ?_) ?_
              · clear hoi9
                go_simp
                refine hK.out _ _ ?_ (fun hHeld => ?_)
                · (try dsimp only); first | go_keep | (refine ⟨?_, ?_, ?_, ?_⟩ <;> simp [go_sem, *])
                clear hK K
                try simp only [Act.put, List.setIfInBounds_toArray, List.set_cons_zero, List.set_cons_succ]
                refine held_at (i := 10) (by kernel_rfl) (fun oi10 hoi10 => ?_)
                have h2 := hoi10
                simp only [List.getElem?_toArray, List.getElem?_cons_succ, List.getElem?_cons_zero, Option.some.injEq] at h2
                subst h2
                refine wpAnyH_ready (rs := [10]) (by kernel_rfl) (by simp) ?_
                refine AllReadyH.cons hoi10 (fun K hK => ?_) ?_
                · clear hoi10
                  go_simp
                  refine hK.out _ _ ?_ (fun hHeld => ?_)
                  · (try dsimp only); first | go_keep | (refine ⟨?_, ?_, ?_, ?_⟩ <;> simp [go_sem, *])
                  clear hK K
                  try simp only [Act.put, List.setIfInBounds_toArray, List.set_cons_zero, List.set_cons_succ]
                  refine held_at (i := 11) (by kernel_rfl) (fun oi hoi => ?_)
                  have h2 := hoi
                  simp only [List.getElem?_toArray, List.getElem?_cons_succ, List.getElem?_cons_zero, Option.some.injEq] at h2
                  subst h2
                  refine wpAnyH_take (v := ?vq1011) hoi (by kernel_rfl) (by kernel_rfl) (by kernel_rfl) (fun _ _ _ h => h) (Or.inl ⟨by rfl, ?hyq1011⟩) (by assumption) ?_
                  case hyq1011 => intro w' hSw; (try dsimp only at hSw); go_simp; (try with_reducible rfl)
                  clear hoi
                  simp only [Act.put, List.setIfInBounds_toArray, List.set_cons_zero, List.set_cons_succ]
                  refine wpAnyH_done (by kernel_rfl) ?_ _
                  go_wp2_with fail
                  refine bodyPost_ret (v := .tuple #[.agg #[.int .i64 za, .int .i64 la], .agg #[.int .i64 zb', .int .i64 lb], .int .i64 (sel3 k v 200000 200001)]) (by simp [results, Try.results17, go_sem, s0, s1, q0, q1, zr7, zq7] <;> (have kk : k = 0 ∨ k = 1 ∨ k = 2 := (by omega); rcases kk with rfl | rfl | rfl <;> simp [sel3])) rfl ⟨za, la, zb', lb, _, rfl, ?_⟩
                  repeat (first | exact HB7.out | apply Below.drew | refine Below.alloc ?_ (by first | omega | (simp; done) | (simp; omega)) _ | refine Below.setCell ?_ (by first | omega | (simp; done) | (simp; omega)) _)
                exact AllReadyH.nil
              exact AllReadyH.nil
            refine AllReadyH.cons hoi9 (fun K hK => ?_) ?_
            · clear hoi8 hoi9
              go_simp
              refine hK.out _ _ ?_ (fun hHeld => ?_)
              · (try dsimp only); first | go_keep | (refine ⟨?_, ?_, ?_, ?_⟩ <;> simp [go_sem, *])
              clear hK K
              try simp only [Act.put, List.setIfInBounds_toArray, List.set_cons_zero, List.set_cons_succ]
              refine held_at (i := 8) (by kernel_rfl) (fun oi8 hoi8 => ?_)
              have h2 := hoi8
              simp only [List.getElem?_toArray, List.getElem?_cons_succ, List.getElem?_cons_zero, Option.some.injEq] at h2
              subst h2
              refine held_at (i := 10) (by kernel_rfl) (fun oi10 hoi10 => ?_)
              have h2 := hoi10
              simp only [List.getElem?_toArray, List.getElem?_cons_succ, List.getElem?_cons_zero, Option.some.injEq] at h2
              subst h2
              refine wpAnyH_ready (rs := [8, 10]) (by kernel_rfl) (by simp) ?_
              refine AllReadyH.cons hoi8 (fun K hK => ?_) ?_
              · clear hoi8 hoi10
                go_simp
                refine hK.out _ _ ?_ (fun hHeld => ?_)
                · (try dsimp only); first | go_keep | (refine ⟨?_, ?_, ?_, ?_⟩ <;> simp [go_sem, *])
                clear hK K
                try simp only [Act.put, List.setIfInBounds_toArray, List.set_cons_zero, List.set_cons_succ]
                refine held_at (i := 10) (by kernel_rfl) (fun oi10 hoi10 => ?_)
                have h2 := hoi10
                simp only [List.getElem?_toArray, List.getElem?_cons_succ, List.getElem?_cons_zero, Option.some.injEq] at h2
                subst h2
                refine wpAnyH_ready (rs := [10]) (by kernel_rfl) (by simp) ?_
                refine AllReadyH.cons hoi10 (fun K hK => ?_) ?_
                · clear hoi10
                  go_simp
                  refine hK.out _ _ ?_ (fun hHeld => ?_)
                  · (try dsimp only); first | go_keep | (refine ⟨?_, ?_, ?_, ?_⟩ <;> simp [go_sem, *])
                  clear hK K
                  try simp only [Act.put, List.setIfInBounds_toArray, List.set_cons_zero, List.set_cons_succ]
                  refine held_at (i := 11) (by kernel_rfl) (fun oi hoi => ?_)
                  have h2 := hoi
                  simp only [List.getElem?_toArray, List.getElem?_cons_succ, List.getElem?_cons_zero, Option.some.injEq] at h2
                  subst h2
                  refine wpAnyH_take (v := ?vq1111) hoi (by kernel_rfl) (by kernel_rfl) (by kernel_rfl) (fun _ _ _ h => h) (Or.inl ⟨by rfl, ?hyq1111⟩) (by assumption) ?_
                  case hyq1111 => intro w' hSw; (try dsimp only at hSw); go_simp; (try with_reducible rfl)
                  clear hoi
                  simp only [Act.put, List.setIfInBounds_toArray, List.set_cons_zero, List.set_cons_succ]
                  refine wpAnyH_done (by kernel_rfl) ?_ _
                  go_wp2_with fail
                  refine bodyPost_ret (v := .tuple #[.agg #[.int .i64 za, .int .i64 la], .agg #[.int .i64 zb', .int .i64 lb], .int .i64 (sel3 k v 200000 200001)]) (by simp [results, Try.results17, go_sem, s0, s1, q0, q1, zr7, zq7] <;> (have kk : k = 0 ∨ k = 1 ∨ k = 2 := (by omega); rcases kk with rfl | rfl | rfl <;> simp [sel3])) rfl ⟨za, la, zb', lb, _, rfl, ?_⟩
                  repeat (first | exact HB7.out | apply Below.drew | refine Below.alloc ?_ (by first | omega | (simp; done) | (simp; omega)) _ | refine Below.setCell ?_ (by first | omega | (simp; done) | (simp; omega)) _)
                exact AllReadyH.nil
              refine AllReadyH.cons hoi10 (fun K hK => ?_) ?_
              · clear hoi8 hoi10
                go_simp
                refine hK.out _ _ ?_ (fun hHeld => ?_)
                · (try dsimp only); first | go_keep | (refine ⟨?_, ?_, ?_, ?_⟩ <;> simp [go_sem, *])
                clear hK K
                try simp only [Act.put, List.setIfInBounds_toArray, List.set_cons_zero, List.set_cons_succ]
                refine held_at (i := 8) (by kernel_rfl) (fun oi8 hoi8 => ?_)
                have h2 := hoi8
                simp only [List.getElem?_toArray, List.getElem?_cons_succ, List.getElem?_cons_zero, Option.some.injEq] at h2
                subst h2
                refine wpAnyH_ready (rs := [8]) (by kernel_rfl) (by simp) ?_
                refine AllReadyH.cons hoi8 (fun K hK => ?_) ?_
                · clear hoi8
                  go_simp
                  refine hK.out _ _ ?_ (fun hHeld => ?_)
                  · (try dsimp only); first | go_keep | (refine ⟨?_, ?_, ?_, ?_⟩ <;> simp [go_sem, *])
                  clear hK K
                  try simp only [Act.put, List.setIfInBounds_toArray, List.set_cons_zero, List.set_cons_succ]
                  refine held_at (i := 11) (by kernel_rfl) (fun oi hoi => ?_)
                  have h2 := hoi
                  simp only [List.getElem?_toArray, List.getElem?_cons_succ, List.getElem?_cons_zero, Option.some.injEq] at h2
                  subst h2
                  refine wpAnyH_take (v := ?vq1211) hoi (by kernel_rfl) (by kernel_rfl) (by kernel_rfl) (fun _ _ _ h => h) (Or.inl ⟨by rfl, ?hyq1211⟩) (by assumption) ?_
                  case hyq1211 => intro w' hSw; (try dsimp only at hSw); go_simp; (try with_reducible rfl)
                  clear hoi
                  simp only [Act.put, List.setIfInBounds_toArray, List.set_cons_zero, List.set_cons_succ]
                  refine wpAnyH_done (by kernel_rfl) ?_ _
                  go_wp2_with fail
                  refine bodyPost_ret (v := .tuple #[.agg #[.int .i64 za, .int .i64 la], .agg #[.int .i64 zb', .int .i64 lb], .int .i64 (sel3 k v 200000 200001)]) (by simp [results, Try.results17, go_sem, s0, s1, q0, q1, zr7, zq7] <;> (have kk : k = 0 ∨ k = 1 ∨ k = 2 := (by omega); rcases kk with rfl | rfl | rfl <;> simp [sel3])) rfl ⟨za, la, zb', lb, _, rfl, ?_⟩
                  repeat (first | exact HB7.out | apply Below.drew | refine Below.alloc ?_ (by first | omega | (simp; done) | (simp; omega)) _ | refine Below.setCell ?_ (by first | omega | (simp; done) | (simp; omega)) _)
                exact AllReadyH.nil
              exact AllReadyH.nil
            exact AllReadyH.nil
          refine AllReadyH.cons hoi9 (fun K hK => ?_) ?_
          · clear hoi4 hoi9
            go_simp
            refine hK.out _ _ ?_ (fun hHeld => ?_)
            · (try dsimp only); first | go_keep | (refine ⟨?_, ?_, ?_, ?_⟩ <;> simp [go_sem, *])
            clear hK K
            try simp only [Act.put, List.setIfInBounds_toArray, List.set_cons_zero, List.set_cons_succ]
            refine held_at (i := 4) (by kernel_rfl) (fun oi4 hoi4 => ?_)
            have h2 := hoi4
            simp only [List.getElem?_toArray, List.getElem?_cons_succ, List.getElem?_cons_zero, Option.some.injEq] at h2
            subst h2
            refine held_at (i := 10) (by kernel_rfl) (fun oi10 hoi10 => ?_)
            have h2 := hoi10
            simp only [List.getElem?_toArray, List.getElem?_cons_succ, List.getElem?_cons_zero, Option.some.injEq] at h2
            subst h2
            refine wpAnyH_ready (rs := [4, 10]) (by kernel_rfl) (by simp) ?_
            refine AllReadyH.cons hoi4 (fun K hK => ?_) ?_
            · clear hoi4 hoi10
              go_simp
              refine hK.out _ _ ?_ (fun hHeld => ?_)
              · (try dsimp only); first | go_keep | (refine ⟨?_, ?_, ?_, ?_⟩ <;> simp [go_sem, *])
              clear hK K
              try simp only [Act.put, List.setIfInBounds_toArray, List.set_cons_zero, List.set_cons_succ]
              refine held_at (i := 7) (by kernel_rfl) (fun oi hoi => ?_)
              have h2 := hoi
              simp only [List.getElem?_toArray, List.getElem?_cons_succ, List.getElem?_cons_zero, Option.some.injEq] at h2
              subst h2
              refine wpAnyH_take (v := ?vq137) hoi (by kernel_rfl) (by kernel_rfl) (by kernel_rfl) (fun _ _ _ h => h) (Or.inl ⟨by rfl, ?hyq137⟩) (by assumption) ?_
              case hyq137 => intro w' hSw; (try dsimp only at hSw); go_simp; (try with_reducible rfl)
              clear hoi
              simp only [Act.put, List.setIfInBounds_toArray, List.set_cons_zero, List.set_cons_succ]
              refine held_at (i := 8) (by kernel_rfl) (fun oi8 hoi8 => ?_)
              have h2 := hoi8
              simp only [List.getElem?_toArray, List.getElem?_cons_succ, List.getElem?_cons_zero, Option.some.injEq] at h2
              subst h2
              refine held_at (i := 10) (by kernel_rfl) (fun oi10 hoi10 => ?_)
              have h2 := hoi10
              simp only [List.getElem?_toArray, List.getElem?_cons_succ, List.getElem?_cons_zero, Option.some.injEq] at h2
              subst h2
              refine wpAnyH_ready (rs := [8, 10]) (by kernel_rfl) (by simp) ?_
              refine AllReadyH.cons hoi8 (fun K hK => ?_) ?_
              · clear hoi8 hoi10
                go_simp
                refine hK.out _ _ ?_ (fun hHeld => ?_)
                · (try dsimp only); first | go_keep | (refine ⟨?_, ?_, ?_, ?_⟩ <;> simp [go_sem, *])
                clear hK K
                try simp only [Act.put, List.setIfInBounds_toArray, List.set_cons_zero, List.set_cons_succ]
                refine held_at (i := 10) (by kernel_rfl) (fun oi10 hoi10 => ?_)
                have h2 := hoi10
                simp only [List.getElem?_toArray, List.getElem?_cons_succ, List.getElem?_cons_zero, Option.some.injEq] at h2
                subst h2
                refine wpAnyH_ready (rs := [10]) (by kernel_rfl) (by simp) ?_
                refine AllReadyH.cons hoi10 (fun K hK => ?_) ?_
                · clear hoi10
                  go_simp
                  refine hK.out _ _ ?_ (fun hHeld => ?_)
                  · (try dsimp only); first | go_keep | (refine ⟨?_, ?_, ?_, ?_⟩ <;> simp [go_sem, *])
                  clear hK K
                  try simp only [Act.put, List.setIfInBounds_toArray, List.set_cons_zero, List.set_cons_succ]
                  refine held_at (i := 11) (by kernel_rfl) (fun oi hoi => ?_)
                  have h2 := hoi
                  simp only [List.getElem?_toArray, List.getElem?_cons_succ, List.getElem?_cons_zero, Option.some.injEq] at h2
                  subst h2
                  refine wpAnyH_take (v := ?vq1411) hoi (by kernel_rfl) (by kernel_rfl) (by kernel_rfl) (fun _ _ _ h => h) (Or.inl ⟨by rfl, ?hyq1411⟩) (by assumption) ?_
                  case hyq1411 => intro w' hSw; (try dsimp only at hSw); go_simp; (try with_reducible rfl)
                  clear hoi
                  simp only [Act.put, List.setIfInBounds_toArray, List.set_cons_zero, List.set_cons_succ]
                  refine wpAnyH_done (by kernel_rfl) ?_ _
                  go_wp2_with fail
                  refine bodyPost_ret (v := .tuple #[.agg #[.int .i64 za, .int .i64 la], .agg #[.int .i64 zb', .int .i64 lb], .int .i64 (sel3 k v 200000 200001)]) (by simp [results, Try.results17, go_sem, s0, s1, q0, q1, zr7, zq7] <;> (have kk : k = 0 ∨ k = 1 ∨ k = 2 := (by omega); rcases kk with rfl | rfl | rfl <;> simp [sel3])) rfl ⟨za, la, zb', lb, _, rfl, ?_⟩
                  repeat (first | exact HB7.out | apply Below.drew | refine Below.alloc ?_ (by first | omega | (simp; done) | (simp; omega)) _ | refine Below.setCell ?_ (by first | omega | (simp; done) | (simp; omega)) _)
                exact AllReadyH.nil
              refine AllReadyH.cons hoi10 (fun K hK => ?_) ?_
              · clear hoi8 hoi10
                go_simp
                refine hK.out _ _ ?_ (fun hHeld => ?_)
                · (try dsimp only); first | go_keep | (refine ⟨?_, ?_, ?_, ?_⟩ <;> simp [go_sem, *])
                clear hK K
                try simp only [Act.put, List.setIfInBounds_toArray, List.set_cons_zero, List.set_cons_succ]
                refine held_at (i := 8) (by kernel_rfl) (fun oi8 hoi8 => ?_)
                have h2 := hoi8
                simp only [List.getElem?_toArray, List.getElem?_cons_succ, List.getElem?_cons_zero, Option.some.injEq] at h2
                subst h2
                refine wpAnyH_ready (rs := [8]) (by kernel_rfl) (by simp) ?_
                refine AllReadyH.cons hoi8 (fun K hK => ?_) ?_
                · clear hoi8
                  go_simp
                  refine hK.out _ _ ?_ (fun hHeld => ?_)
                  · (try dsimp only); first | go_keep | (refine ⟨?_, ?_, ?_, ?_⟩ <;> simp [go_sem, *])
                  clear hK K
                  try simp only [Act.put, List.setIfInBounds_toArray, List.set_cons_zero, List.set_cons_succ]
                  refine held_at (i := 11) (by kernel_rfl) (fun oi hoi => ?_)
                  have h2 := hoi
                  simp only [List.getElem?_toArray, List.getElem?_cons_succ, List.getElem?_cons_zero, Option.some.injEq] at h2
                  subst h2
                  refine wpAnyH_take (v := ?vq1511) hoi (by kernel_rfl) (by kernel_rfl) (by kernel_rfl) (fun _ _ _ h => h) (Or.inl ⟨by rfl, ?hyq1511⟩) (by assumption) ?_
                  case hyq1511 => intro w' hSw; (try dsimp only at hSw); go_simp; (try with_reducible rfl)
                  clear hoi
                  simp only [Act.put, List.setIfInBounds_toArray, List.set_cons_zero, List.set_cons_succ]
                  refine wpAnyH_done (by kernel_rfl) ?_ _
                  go_wp2_with fail
                  refine bodyPost_ret (v := .tuple #[.agg #[.int .i64 za, .int .i64 la], .agg #[.int .i64 zb', .int .i64 lb], .int .i64 (sel3 k v 200000 200001)]) (by simp [results, Try.results17, go_sem, s0, s1, q0, q1, zr7, zq7] <;> (have kk : k = 0 ∨ k = 1 ∨ k = 2 := (by omega); rcases kk with rfl | rfl | rfl <;> simp [sel3])) rfl ⟨za, la, zb', lb, _, rfl, ?_⟩
                  repeat (first | exact HB7.out | apply Below.drew | refine Below.alloc ?_ (by first | omega | (simp; done) | (simp; omega)) _ | refine Below.setCell ?_ (by first | omega | (simp; done) | (simp; omega)) _)
                exact AllReadyH.nil
              exact AllReadyH.nil
            refine AllReadyH.cons hoi10 (fun K hK => ?_) ?_
            · clear hoi4 hoi10
              go_simp
              refine hK.out _ _ ?_ (fun hHeld => ?_)
              · (try dsimp only); first | go_keep | (refine ⟨?_, ?_, ?_, ?_⟩ <;> simp [go_sem, *])
              clear hK K
              try simp only [Act.put, List.setIfInBounds_toArray, List.set_cons_zero, List.set_cons_succ]
              refine held_at (i := 4) (by kernel_rfl) (fun oi4 hoi4 => ?_)
              have h2 := hoi4
              simp only [List.getElem?_toArray, List.getElem?_cons_succ, List.getElem?_cons_zero, Option.some.injEq] at h2
              subst h2
              refine wpAnyH_ready (rs := [4]) (by kernel_rfl) (by simp) ?_
              refine AllReadyH.cons hoi4 (fun K hK => ?_) ?_
              · clear hoi4
                go_simp
                refine hK.out _ _ ?_ (fun hHeld => ?_)
                · (try dsimp only); first | go_keep | (refine ⟨?_, ?_, ?_, ?_⟩ <;> simp [go_sem, *])
                clear hK K
                try simp only [Act.put, List.setIfInBounds_toArray, List.set_cons_zero, List.set_cons_succ]
                refine held_at (i := 7) (by kernel_rfl) (fun oi hoi => ?_)
                have h2 := hoi
                simp only [List.getElem?_toArray, List.getElem?_cons_succ, List.getElem?_cons_zero, Option.some.injEq] at h2
                subst h2
                refine wpAnyH_take (v := ?vq167) hoi (by kernel_rfl) (by kernel_rfl) (by kernel_rfl) (fun _ _ _ h => h) (Or.inl ⟨by rfl, ?hyq167⟩) (by assumption) ?_
                case hyq167 => intro w' hSw; (try dsimp only at hSw); go_simp; (try with_reducible rfl)
                clear hoi
                simp only [Act.put, List.setIfInBounds_toArray, List.set_cons_zero, List.set_cons_succ]
                refine held_at (i := 8) (by kernel_rfl) (fun oi8 hoi8 => ?_)
                have h2 := hoi8
                simp only [List.getElem?_toArray, List.getElem?_cons_succ, List.getElem?_cons_zero, Option.some.injEq] at h2
                subst h2
                refine wpAnyH_ready (rs := [8]) (by kernel_rfl) (by simp) ?_
                refine AllReadyH.cons hoi8 (fun K hK => ?_) ?_
                · clear hoi8
                  go_simp
                  refine hK.out _ _ ?_ (fun hHeld => ?_)
                  · (try dsimp only); first | go_keep | (refine ⟨?_, ?_, ?_, ?_⟩ <;> simp [go_sem, *])
                  clear hK K
                  try simp only [Act.put, List.setIfInBounds_toArray, List.set_cons_zero, List.set_cons_succ]
                  refine held_at (i := 11) (by kernel_rfl) (fun oi hoi => ?_)
                  have h2 := hoi
                  simp only [List.getElem?_toArray, List.getElem?_cons_succ, List.getElem?_cons_zero, Option.some.injEq] at h2
                  subst h2
                  refine wpAnyH_take (v := ?vq1711) hoi (by kernel_rfl) (by kernel_rfl) (by kernel_rfl) (fun _ _ _ h => h) (Or.inl ⟨by rfl, ?hyq1711⟩) (by assumption) ?_
                  case hyq1711 => intro w' hSw; (try dsimp only at hSw); go_simp; (try with_reducible rfl)
                  clear hoi
                  simp only [Act.put, List.setIfInBounds_toArray, List.set_cons_zero, List.set_cons_succ]
                  refine wpAnyH_done (by kernel_rfl) ?_ _
                  go_wp2_with fail
                  refine bodyPost_ret (v := .tuple #[.agg #[.int .i64 za, .int .i64 la], .agg #[.int .i64 zb', .int .i64 lb], .int .i64 (sel3 k v 200000 200001)]) (by simp [results, Try.results17, go_sem, s0, s1, q0, q1, zr7, zq7] <;> (have kk : k = 0 ∨ k = 1 ∨ k = 2 := (by omega); rcases kk with rfl | rfl | rfl <;> simp [sel3])) rfl ⟨za, la, zb', lb, _, rfl, ?_⟩
                  repeat (first | exact HB7.out | apply Below.drew | refine Below.alloc ?_ (by first | omega | (simp; done) | (simp; omega)) _ | refine Below.setCell ?_ (by first | omega | (simp; done) | (simp; omega)) _)
                exact AllReadyH.nil
              exact AllReadyH.nil
            exact AllReadyH.nil
          exact AllReadyH.nil
        exact AllReadyH.nil
      exact AllReadyH.nil
end Go.Proofs.Ytoaallfoackjaaa.cur
