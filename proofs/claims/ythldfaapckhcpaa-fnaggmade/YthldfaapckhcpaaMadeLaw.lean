/-
  THE WALK OF THE LAW FnAggMade, out of the contracts: it answers true, and nothing that was there is written.
-/
import Derived.Test.YthldfaapckhcpaaJoinedLaw
import Derived.Test.YthldfaapckhcpaaDrawList
import Derived.Test.YthldfaapckhcpaaAggListMath2
namespace Go.Proofs.Ythldfaapckhcpaa.agg
open Go.RowKit
open Go.Proofs.Ythldfaapckhcpaa.cur (Code code_of_row big_yes big_no DrawAggList_any ints row_of_owns' Listed)

theorem impl_list (a : Option Addr) (len cap : Nat) (l : List Int) (x : Q) (t : Bool) (hx : listV l = x) (ht : listT l = t) (w : World) (hrow : Row w a len l) :
    Calls Try.prog 16 #[.slice a len cap] w fun e w' => e = .returned (.tuple #[.agg #[.int .i64 x.n, .int .i64 x.s, .int .i64 x.mn, .int .i64 x.mx], .bool t]) ∧ Below w.heap.size w w' := by
  subst hx ht; exact impl_AggList a len cap l w hrow
theorem spec_list (a : Option Addr) (len cap : Nat) (l : List Int) (x : Q) (t : Bool) (hx : listV l = x) (ht : listT l = t) (w : World) (hmax : len ≤ 2000000) (hrow : Row w a len l) :
    Calls Try.prog 17 #[.slice a len cap] w fun e w' => e = .returned (.tuple #[.agg #[.int .i64 x.n, .int .i64 x.s, .int .i64 x.mn, .int .i64 x.mx], .bool t]) ∧ Below w.heap.size w w' := by
  subst hx ht; exact spec_AggList a len cap l w hmax hrow

/-- What the join of two lists' aggregates is, where both have one. -/
theorem made {l r : List Int} (h1 : listT l = true) (h2 : listT r = true) :
    joinB (listV l) (listV r) = listT (l ++ r) ∧ joinQ (listV l) (listV r) = listV (l ++ r) ∧ okB (listV (l ++ r)).n (listV (l ++ r)).s (listV (l ++ r)).mn (listV (l ++ r)).mx = true ∧ (listT (l ++ r) = true → (listV (l ++ r)).n = l.length + r.length) := by
  obtain ⟨a1, a2⟩ := (listT_iff l).1 h1
  obtain ⟨b1, b2⟩ := (listT_iff r).1 h2
  have ka := foldQ_ok a1 a2
  have kb := foldQ_ok b1 b2
  rw [listV_yes h1, listV_yes h2]
  by_cases h : l.length + r.length ≤ 1000
  · have ht : listT (l ++ r) = true := listT_append.2 ⟨h1, h2, h⟩
    have hj := join_mk (a := foldQ l) (b := foldQ r) ⟨ka.1, kb.1, by omega⟩
    have kc := foldQ_ok (l := l ++ r) (by simp; omega) (fun v hv => (List.mem_append.1 hv).elim (a2 v) (b2 v))
    rw [ht, listV_yes ht]
    refine ⟨hj.1, ?_, (okB_iff ..).2 kc.1, fun _ => ?_⟩
    · rw [hj.2, foldQ_append a1 a2 r b1 b2]
    · rw [kc.2]; simp
  · have ht : listT (l ++ r) = false := by
      rw [← Bool.not_eq_true, listT_append]; omega
    have hj : joinB (foldQ l) (foldQ r) = false := by
      have hn : ¬ JoinP (foldQ l) (foldQ r) := fun hp => by have := hp.2.2; omega
      simp [joinB, hn]
    rw [ht, listV_no ht]
    refine ⟨hj, ?_, (okB_iff ..).2 ok_zero, fun h => by cases h⟩
    unfold joinQ; rw [hj]; rfl

/-- The elements of a row, as the cells that append reads. -/
theorem news_of_row {w : World} {b n : Nat} {l : List Int} (h : Row w (some ⟨b, 0, none⟩) n l) : ∀ (j : Nat) (u : Value), (ints l)[j]? = some u → w.cell? ((⟨b, 0, none⟩ : Addr).add j) = some u := by
  intro j u hu
  have hj : j < l.length := by
    have := (List.getElem?_eq_some_iff.1 hu).1
    simpa [ints] using this
  obtain ⟨b', off, e, -, hc⟩ := h.2 (by rw [← h.1]; omega)
  simp only [Option.some.injEq, Addr.mk.injEq, and_true] at e
  obtain ⟨rfl, rfl⟩ := e
  have h2 := hc j (by rw [← h.1]; exact hj)
  have e2 : (⟨b, 0, none⟩ : Addr).add j = ⟨b, 0 + j, none⟩ := by
    by_cases h0 : j = 0
    · subst h0; rfl
    · simp [Addr.add, h0]
  rw [e2, h2, ← hu]
  simp only [ints, List.getElem?_map, List.getD_eq_getElem?_getD]
  rw [List.getElem?_eq_getElem hj]
  simp

theorem ints_one (l : List Int) : ∀ u ∈ ints l, u.oneCell' = true := by
  intro u hu
  simp only [ints, List.mem_map] at hu
  obtain ⟨v, _, rfl⟩ := hu
  rfl

theorem grown_below {w w' : World} {row : Option Nat} {base : Nat} (hg : w.grownBy w' row) (hr : ∀ k, row = some k → base ≤ k) (hb : base ≤ w.heap.size) : Below base w w' :=
  (Below.refl base w).grown hg hb hr

set_option maxHeartbeats 2000000 in
theorem walk_Made (a0 : Option Addr) (len0 cap0 : Nat) (z0 : List Int) (a1 : Option Addr) (len1 cap1 : Nat) (z1 : List Int) (w : World) (r0 : IsRow .u8 w a0 len0 cap0 z0) (r1 : IsRow .u8 w a1 len1 cap1 z1) :
    Calls Try.prog 4 #[.slice a0 len0 cap0, .slice a1 len1 cap1] w fun e w' => e = .returned (.bool true) ∧ Below w.heap.size w w' := by
  have K0 := Lib.hid (code_of_row r0)
  have K1 := Lib.hid (code_of_row r1)
  clear r0 r1
  by_cases h0 : 1048576 < len0
  · go_enter Try.func4, Try.ntmps4
    go_wp2_with (go_at_call 9; refine (big_yes _ _ _ _ h0).mono ?_; rintro e w' ⟨rfl, rfl⟩)
    go_ret
    exact ⟨rfl, Below.refl _ _⟩
  · by_cases h1 : 1048576 < len1
    · go_enter Try.func4, Try.ntmps4
      go_wp2_with fail
      refine (big_no _ _ _ _ h0).mono ?_
      rintro e w' ⟨rfl, rfl⟩
      go_wp2_with fail
      refine (big_yes _ _ _ _ h1).mono ?_
      rintro e w' ⟨rfl, rfl⟩
      go_wp2_with fail
      go_ret
      exact ⟨rfl, Below.refl _ _⟩
    · obtain ⟨i0, hi, hz0, hz1, hz2⟩ := info_parts info_int
      go_enter Try.func4, Try.ntmps4
      go_wp2_with fail
      refine (big_no _ _ _ _ h0).mono ?_
      rintro e w' ⟨rfl, rfl⟩
      go_wp2_with fail
      refine (big_no _ _ _ _ h1).mono ?_
      rintro e w' ⟨rfl, rfl⟩
      go_wp2_with fail
      refine (DrawAggList_any _ _ _ _ (by omega) K0.out).mono ?_
      rintro e w1 ⟨pb, pn, pc, l, rfl, hpn, hrow1, hb1⟩
      have RA := Lib.hid hrow1
      have B1 := Lib.hid hb1
      clear hrow1 hb1
      go_wp2_with fail
      refine (DrawAggList_any _ _ _ _ (by omega) (K1.out.below B1.out)).mono ?_
      rintro e w2 ⟨qb, qn, qc, r, rfl, hqn, hrow2, hb2⟩
      have RA2 := Lib.hid (RA.out.below hb2)
      have RB2 := Lib.hid hrow2
      have B2 := Lib.hid (B1.out.trans (hb2.mono B1.out.size))
      clear hrow2 hb2 RA B1 K0 K1
      have hln : l.length = pn := RA2.out.1
      have hrn : r.length = qn := RB2.out.1
      obtain ⟨x, hx⟩ : ∃ x, listV l = x := ⟨_, rfl⟩
      obtain ⟨t, ht⟩ : ∃ t, listT l = t := ⟨_, rfl⟩
      obtain ⟨y, hy⟩ : ∃ y, listV r = y := ⟨_, rfl⟩
      obtain ⟨t2, ht2⟩ : ∃ t, listT r = t := ⟨_, rfl⟩
      obtain ⟨z, hz⟩ : ∃ z, listV (l ++ r) = z := ⟨_, rfl⟩
      obtain ⟨t3, ht3⟩ : ∃ t, listT (l ++ r) = t := ⟨_, rfl⟩
      have HX := Lib.hid hx
      have HT := Lib.hid ht
      have HY := Lib.hid hy
      have HT2 := Lib.hid ht2
      have HZ := Lib.hid hz
      have HT3 := Lib.hid ht3
      have HLN := Lib.hid hln
      have HRN := Lib.hid hrn
      clear hx ht hy ht2 hz ht3 hln hrn
      go_wp2_with fail
      refine (impl_list _ _ _ l x t HX.out HT.out _ RA2.out).mono ?_
      rintro e w3 ⟨rfl, hb3⟩
      have RA3 := Lib.hid (RA2.out.below hb3)
      have RB3 := Lib.hid (RB2.out.below hb3)
      have B3 := Lib.hid (B2.out.trans (hb3.mono B2.out.size))
      clear hb3 RA2 RB2 B2
      go_wp2_with fail
      have hba : Below w3.heap.size w3 (w3.alloc (.cells #[.int .i64 x.n, .int .i64 x.s, .int .i64 x.mn, .int .i64 x.mx] 25)) := (Below.refl _ _).alloc (Nat.le_refl _) _
      refine (impl_list _ _ _ r y t2 HY.out HT2.out _ (RB3.out.below hba)).mono ?_
      rintro e w4 ⟨rfl, hb4⟩
      have tx := Box4.new (q := x) hb4
      have RA4 := Lib.hid ((RA3.out.below hba).below hb4)
      have RB4 := Lib.hid ((RB3.out.below hba).below hb4)
      have B4 := Lib.hid ((B3.out.alloc B3.out.size _).trans (hb4.mono (by have := B3.out.size; simp; omega)))
      have X4 := Lib.hid tx.1
      have lx := tx.2
      clear hb4 tx hba RA3 RB3 B3
      generalize w3.heap.size = xx at *
      -- the two rows, one behind the other
      have hbY : Below w4.heap.size w4 ((w4.alloc (.cells #[.int .i64 y.n, .int .i64 y.s, .int .i64 y.mn, .int .i64 y.mx] 25)).alloc (.cells #[] 3)) := by repeat (first | exact Below.refl _ _ | refine Below.setCell ?_ (by first | omega | (simp; done) | (simp; omega)) _ | refine Below.alloc ?_ (by first | omega | (simp; done) | (simp; omega)) _ | apply Below.drew)
      have hown0 : ((w4.alloc (.cells #[.int .i64 y.n, .int .i64 y.s, .int .i64 y.mn, .int .i64 y.mx] 25)).alloc (.cells #[] 3)).ownsRow (w4.heap.size + 1) 3 1 (.slice (some ⟨w4.heap.size + 1, 0, none⟩) 0 0) 0 [] :=
        ⟨rfl, .inr ⟨w4.heap.size + 1, 0, #[], rfl, Nat.le_refl _, cur.heap_two w4 _ _, Nat.le_refl _, by simp [maxLen], rfl, rfl⟩⟩
      have hA1 := RA4.out.below hbY
      have hB1 := RB4.out.below hbY
      have tok1 : True := trivial
      go_wp2_with (first
        | (at_builtin; have _t := tok1; refine wpList_append_own _ rfl _ _ 32 rfl (w4.heap.size + 1) 3 i0 (.int .i64 0) 1 8 Try.underlying32 hi hz0 hz1 hz2 rfl (by decide) _ _ _ rfl hown0 ⟨pb, 0, none⟩ pn pc (ints l) rfl (by simp [ints, HLN.out]) (news_of_row hA1) (ints_one l) (by unfold maxLen; omega) (by omega) (by simp) ?_; intro v5 w5 hown5 hgrow5 hnil5; have hb45 : Below w4.heap.size w4 w5 := hbY.trans ((grown_below (base := w4.heap.size + 1) hgrow5 (cur.ownBlock_ge hown0) (by simp)).mono (by omega)); have hB5 := RB4.out.below hb45; have z5 : w4.heap.size + 1 < w5.heap.size := Nat.lt_of_lt_of_le (by simp) hgrow5.size; clear tok1)
        | (at_builtin; refine wpList_append_own _ rfl _ _ 32 rfl (w4.heap.size + 1) 3 i0 (.int .i64 0) 1 8 Try.underlying32 hi hz0 hz1 hz2 rfl (by decide) _ _ _ rfl hown5 ⟨qb, 0, none⟩ qn qc (ints r) rfl (by simp [ints, HRN.out]) (news_of_row hB5) (ints_one r) (by unfold maxLen; omega) (by omega) (by omega) ?_; intro v6 w6 hown6 hgrow6 hnil6))
      have e6 : ([] ++ ints l) ++ ints r = ints (l ++ r) := by simp [ints]
      rw [e6] at hown6
      obtain ⟨b6, c6, hv6, hrow6⟩ := row_of_owns' hown6 (fun e => by have h5 := (hnil6.1 e).1; have h4 := (hnil5.1 h5).1; cases h4)
      have hb46 : Below w4.heap.size w4 w6 := hb45.trans ((grown_below (base := w4.heap.size + 1) hgrow6 (cur.ownBlock_ge hown5) (by omega)).mono (by omega))
      have hbY1 : Below (w4.heap.size + 1) (w4.alloc (.cells #[.int .i64 y.n, .int .i64 y.s, .int .i64 y.mn, .int .i64 y.mx] 25)) w6 := (((Below.refl (w4.heap.size + 1) _).alloc (by simp) (.cells #[] 3)).trans (grown_below (base := w4.heap.size + 1) hgrow5 (cur.ownBlock_ge hown0) (by simp))).trans (grown_below (base := w4.heap.size + 1) hgrow6 (cur.ownBlock_ge hown5) (by omega))
      have hY6 := (box_alloc w4 y 25).below hbY1 (by omega)
      have hX6 := X4.out.below hb46 lx
      have R6 := Lib.hid hrow6
      have RA6 := Lib.hid (RA4.out.below hb46)
      have B6 := Lib.hid (B4.out.trans (hb46.mono B4.out.size))
      have X6 := Lib.hid hX6
      have Y6 := Lib.hid hY6
      have lx6 : xx < w6.heap.size := Nat.lt_of_lt_of_le lx hb46.size
      have ly6 : w4.heap.size < w6.heap.size := Nat.lt_of_lt_of_le (by simp) hbY1.size
      clear e6 hrow6 hb46 hb45 hbY1 hY6 hX6 hgrow5 hgrow6 hnil5 hnil6 hown5 hown6 hown0 hA1 hB1 hB5 hbY z5 X4 lx RA4 RB4 B4 hi hz0 hz1 hz2
      rw [hv6]
      clear hv6
      generalize w4.heap.size = xy at *
      refine (impl_list _ _ _ (l ++ r) z t3 HZ.out HT3.out _ R6.out).mono ?_
      rintro e w7 ⟨rfl, hb7⟩
      have X7 := Lib.hid (X6.out.below hb7 lx6)
      have Y7 := Lib.hid (Y6.out.below hb7 ly6)
      have RA7 := Lib.hid (RA6.out.below hb7)
      have B7 := Lib.hid (B6.out.trans (hb7.mono B6.out.size))
      have lx7 : xx < w7.heap.size := Nat.lt_of_lt_of_le lx6 hb7.size
      have ly7 : xy < w7.heap.size := Nat.lt_of_lt_of_le ly6 hb7.size
      clear hb7 X6 Y6 RA6 B6 lx6 ly6 R6
      go_wp2_with fail
      refine (spec_list _ _ _ l x t HX.out HT.out _ (by omega) (RA7.out.below ((Below.refl _ _).alloc (Nat.le_refl _) _))).mono ?_
      rintro e w8 ⟨rfl, hb8⟩
      have tx := Box4.one X7.out lx7 hb8
      have ty := Box4.one Y7.out ly7 hb8
      have tz := Box4.new (q := z) hb8
      have B8 := Lib.hid ((B7.out.alloc B7.out.size _).trans (hb8.mono (by have := B7.out.size; simp; omega)))
      have X8 := Lib.hid tx.1
      have Y8 := Lib.hid ty.1
      have Z8 := Lib.hid tz.1
      have lx8 := tx.2
      have ly8 := ty.2
      have lz8 := tz.2
      clear hb8 tx ty tz B7 X7 Y7 RA7 lx7 ly7
      generalize w7.heap.size = xz at *
      obtain ⟨vx0, vx1, vx2, vx3⟩ := X8.out
      cases t
      · have h3 : t3 = false := by
          rw [← HT3.out, ← Bool.not_eq_true, listT_append, HT.out]; simp
        subst h3
        go_wp2_with fail
        go_ret
        exact ⟨rfl, B8.out.alloc B8.out.size _⟩
      · cases t2
        · have h3 : t3 = false := by
            rw [← HT3.out, ← Bool.not_eq_true, listT_append, HT2.out]; simp
          subst h3
          go_wp2_with fail
          go_ret
          exact ⟨rfl, B8.out.alloc B8.out.size _⟩
        · obtain ⟨m1, m2, m3, m4⟩ := made HT.out HT2.out
          rw [HX.out, HY.out, HT3.out] at m1
          rw [HX.out, HY.out, HZ.out] at m2
          rw [HZ.out] at m3
          rw [HZ.out, HT3.out, HLN.out, HRN.out] at m4
          have M1 := Lib.hid m1
          have M2 := Lib.hid m2
          have M4 := Lib.hid m4
          clear m1 m2 m4
          obtain ⟨vy0, vy1, vy2, vy3⟩ := Y8.out
          go_wp2_with fail
          refine (impl_join x y z t3 M2.out M1.out _).mono ?_
          rintro e w9 ⟨rfl, hb9⟩
          have tz := Box4.one Z8.out lz8 hb9
          have Z9 := Lib.hid tz.1
          have lz9 := tz.2
          have B9 := Lib.hid ((B8.out.alloc B8.out.size _).trans (hb9.mono (by have := B8.out.size; simp; omega)))
          clear hb9 tz Z8 lz8 vx0 vx1 vx2 vx3 vy0 vy1 vy2 vy3 X8 Y8 lx8 ly8 B8
          obtain ⟨vz0, vz1, vz2, vz3⟩ := Z9.out
          cases t3
          · go_wp2_with fail
            go_ret
            exact ⟨rfl, B9.out.alloc B9.out.size _⟩
          · have M5 : (z.n == (pn : Int) + (qn : Int)) = true := by simp [M4.out rfl]
            go_wp2_with fail
            refine (impl_AggOk _ _ _ _ _).mono ?_
            rintro e w10 ⟨rfl, hb10⟩
            have tz := Box4.one Z9.out lz9 hb10
            have B10 := Lib.hid ((B9.out.alloc B9.out.size _).trans (hb10.mono (by have := B9.out.size; simp; omega)))
            clear vz0 vz1 vz2 vz3 hb10
            obtain ⟨vz0, vz1, vz2, vz3⟩ := tz.1
            clear tz
            go_wp2_with fail
            go_ret
            exact ⟨rfl, B10.out⟩
end Go.Proofs.Ythldfaapckhcpaa.agg
