/-
  THE WALK OF THE LAW FnAggJoined, out of the contracts: it answers true, and nothing that was there is written.
-/
import Derived.Test.YthldfaapckhcpaaDrawJoin
namespace Go.Proofs.Ythldfaapckhcpaa.agg
open Go.RowKit
open Go.Proofs.Ythldfaapckhcpaa.cur (Code code_of_row big_yes big_no DrawAggJoin_any Pair)

theorem impl_join (a b j : Q) (t : Bool) (hj : joinQ a b = j) (ht : joinB a b = t) (w : World) :
    Calls Try.prog 11 #[.agg #[.int .i64 a.n, .int .i64 a.s, .int .i64 a.mn, .int .i64 a.mx], .agg #[.int .i64 b.n, .int .i64 b.s, .int .i64 b.mn, .int .i64 b.mx]] w fun e w' => e = .returned (.tuple #[.agg #[.int .i64 j.n, .int .i64 j.s, .int .i64 j.mn, .int .i64 j.mx], .bool t]) ∧ Below w.heap.size w w' := by
  subst hj ht; exact impl_AggJoin a.n a.s a.mn a.mx b.n b.s b.mn b.mx w
theorem spec_join (a b j : Q) (t : Bool) (hj : joinQ a b = j) (ht : joinB a b = t) (w : World) :
    Calls Try.prog 12 #[.agg #[.int .i64 a.n, .int .i64 a.s, .int .i64 a.mn, .int .i64 a.mx], .agg #[.int .i64 b.n, .int .i64 b.s, .int .i64 b.mn, .int .i64 b.mx]] w fun e w' => e = .returned (.tuple #[.agg #[.int .i64 j.n, .int .i64 j.s, .int .i64 j.mn, .int .i64 j.mx], .bool t]) ∧ Below w.heap.size w w' := by
  subst hj ht; exact spec_AggJoin a.n a.s a.mn a.mx b.n b.s b.mn b.mx w

theorem joinP_comm (a b : Q) : JoinP a b ↔ JoinP b a := by
  unfold JoinP
  constructor <;> (rintro ⟨h1, h2, h3⟩; exact ⟨h2, h1, by omega⟩)
theorem joinB_comm (a b : Q) : joinB b a = joinB a b := by
  unfold joinB; rw [decide_eq_decide]; exact joinP_comm b a
theorem joinQ_comm (a b : Q) : joinQ b a = joinQ a b := by
  unfold joinQ
  rw [joinB_comm]
  by_cases h : joinB a b = true
  · have hp : JoinP a b := by simpa [joinB] using h
    rw [if_pos h, if_pos h]; exact with_comm hp.2.1 hp.1
  · rw [if_neg h, if_neg h]
theorem joinB_true {a b : Q} (h : joinB a b = true) : JoinP a b := by simpa [joinB] using h
theorem join_mk {a b : Q} (h : JoinP a b) : joinB a b = true ∧ joinQ a b = wth a b := by
  have e : joinB a b = true := by simp [joinB, h]
  exact ⟨e, by unfold joinQ; rw [if_pos e]⟩

/-- A box behind a new block and a call. -/
theorem Box4.one {w w' : World} {x : Nat} {q : Q} {o : Obj} (h : Box4 w x q) (hx : x < w.heap.size) (hb : Below (w.alloc o).heap.size (w.alloc o) w') : Box4 w' x q ∧ x < w'.heap.size :=
  ⟨(h.below ((Below.refl w.heap.size w).alloc (Nat.le_refl _) o) hx).below hb (by simp; omega), Nat.lt_of_lt_of_le (by simp; omega) hb.size⟩
theorem Box4.new {w w' : World} {q : Q} {t : TypeId} (hb : Below (w.alloc (.cells #[.int .i64 q.n, .int .i64 q.s, .int .i64 q.mn, .int .i64 q.mx] t)).heap.size (w.alloc (.cells #[.int .i64 q.n, .int .i64 q.s, .int .i64 q.mn, .int .i64 q.mx] t)) w') : Box4 w' w.heap.size q ∧ w.heap.size < w'.heap.size :=
  ⟨(box_alloc w q t).below hb (by simp), Nat.lt_of_lt_of_le (by simp) hb.size⟩

theorem Box4.two {w w' : World} {x : Nat} {q : Q} {o p : Obj} (h : Box4 w x q) (hx : x < w.heap.size) (hb : Below ((w.alloc o).alloc p).heap.size ((w.alloc o).alloc p) w') : Box4 w' x q ∧ x < w'.heap.size :=
  ⟨(h.below (((Below.refl w.heap.size w).alloc (Nat.le_refl _) o).alloc (by simp) p) hx).below hb (by simp; omega), Nat.lt_of_lt_of_le (by simp; omega) hb.size⟩
theorem Box4.newTwo {w w' : World} {q : Q} {t : TypeId} {p : Obj} (hb : Below ((w.alloc (.cells #[.int .i64 q.n, .int .i64 q.s, .int .i64 q.mn, .int .i64 q.mx] t)).alloc p).heap.size ((w.alloc (.cells #[.int .i64 q.n, .int .i64 q.s, .int .i64 q.mn, .int .i64 q.mx] t)).alloc p) w') : Box4 w' w.heap.size q ∧ w.heap.size < w'.heap.size :=
  ⟨((box_alloc w q t).below ((Below.refl (w.heap.size + 1) _).alloc (by simp) p) (by omega)).below hb (by simp; omega), Nat.lt_of_lt_of_le (by simp; omega) hb.size⟩
theorem Box4.none {w w' : World} {x : Nat} {q : Q} (h : Box4 w x q) (hx : x < w.heap.size) (hb : Below w.heap.size w w') : Box4 w' x q ∧ x < w'.heap.size :=
  ⟨h.below hb hx, Nat.lt_of_lt_of_le hx hb.size⟩

/-- The numbers of three that are joined. -/
theorem assoc_all {a b d : Q} (h : JoinP a b) (hd : d.Ok) (hs : a.n + b.n + d.n ≤ 1000) :
    joinB (wth a b) d = true ∧ joinQ (wth a b) d = wth (wth a b) d ∧ joinB b d = true ∧ joinQ b d = wth b d ∧ joinB a (wth b d) = true ∧ joinQ a (wth b d) = wth (wth a b) d ∧
    okB (wth (wth a b) d).n (wth (wth a b) d).s (wth (wth a b) d).mn (wth (wth a b) d).mx = true ∧ (wth (wth a b) d).n = a.n + b.n + d.n ∧ (wth (wth a b) d).s = a.s + b.s + d.s := by
  obtain ⟨ha, hb, hab⟩ := h
  have b1 := ok_bds ha; have b2 := ok_bds hb; have b3 := ok_bds hd
  have n1 := with_n ha hb
  have n2 := with_n hb hd
  have s1 := with_s ha hb
  have k1 := ok_with ha hb hab
  have k2 := ok_with hb hd (by omega)
  have j1 := join_mk (a := wth a b) (b := d) ⟨k1, hd, by omega⟩
  have j2 := join_mk (a := b) (b := d) ⟨hb, hd, by omega⟩
  have j3 := join_mk (a := a) (b := wth b d) ⟨ha, k2, by omega⟩
  refine ⟨j1.1, j1.2, j2.1, j2.2, j3.1, ?_, (okB_iff ..).2 (ok_with k1 hd (by omega)), ?_, ?_⟩
  · rw [j3.2, with_assoc ha hb hd]
  · rw [with_n k1 hd, n1]
  · rw [with_s k1 hd, s1]

set_option maxHeartbeats 2000000 in
theorem walk_Joined (a0 : Option Addr) (len0 cap0 : Nat) (z0 : List Int) (a1 : Option Addr) (len1 cap1 : Nat) (z1 : List Int) (w : World) (r0 : IsRow .u8 w a0 len0 cap0 z0) (r1 : IsRow .u8 w a1 len1 cap1 z1) :
    Calls Try.prog 3 #[.slice a0 len0 cap0, .slice a1 len1 cap1] w fun e w' => e = .returned (.bool true) ∧ Below w.heap.size w w' := by
  have K0 := Lib.hid (code_of_row r0)
  have K1 := Lib.hid (code_of_row r1)
  clear r0 r1
  by_cases h0 : 1048576 < len0
  · go_enter Try.func3, Try.ntmps3
    go_wp2_with (go_at_call 9; refine (big_yes _ _ _ _ h0).mono ?_; rintro e w' ⟨rfl, rfl⟩)
    go_ret
    exact ⟨rfl, Below.refl _ _⟩
  · by_cases h1 : 1048576 < len1
    · go_enter Try.func3, Try.ntmps3
      go_wp2_with fail
      refine (big_no _ _ _ _ h0).mono ?_
      rintro e w' ⟨rfl, rfl⟩
      go_wp2_with fail
      refine (big_yes _ _ _ _ h1).mono ?_
      rintro e w' ⟨rfl, rfl⟩
      go_wp2_with fail
      go_ret
      exact ⟨rfl, Below.refl _ _⟩
    · go_enter Try.func3, Try.ntmps3
      go_wp2_with fail
      refine (big_no _ _ _ _ h0).mono ?_
      rintro e w' ⟨rfl, rfl⟩
      go_wp2_with fail
      refine (big_no _ _ _ _ h1).mono ?_
      rintro e w' ⟨rfl, rfl⟩
      go_wp2_with fail
      refine (DrawAggJoin_any _ _ _ _ (by omega) K0.out).mono ?_
      rintro e w1 ⟨a, b, rfl, hb1⟩
      have B1 := Lib.hid hb1
      clear hb1
      go_wp2_with fail
      have hba : Below w.heap.size w ((w1.alloc (.cells #[.int .i64 a.n, .int .i64 a.s, .int .i64 a.mn, .int .i64 a.mx] 25)).alloc (.cells #[.int .i64 b.n, .int .i64 b.s, .int .i64 b.mn, .int .i64 b.mx] 25)) := (B1.out.alloc B1.out.size _).alloc (by have := B1.out.size; simp; omega) _
      refine (DrawAggJoin_any _ _ _ _ (by omega) (K1.out.below hba)).mono ?_
      rintro e w2 ⟨d, d2, rfl, hb2⟩
      have hA := (box_alloc w1 a 25).below ((Below.refl (w1.heap.size + 1) _).alloc (by simp) (.cells #[.int .i64 b.n, .int .i64 b.s, .int .i64 b.mn, .int .i64 b.mx] 25)) (by omega)
      have hB := box_alloc (w1.alloc (.cells #[.int .i64 a.n, .int .i64 a.s, .int .i64 a.mn, .int .i64 a.mx] 25)) b 25
      rw [World.size_alloc] at hB
      have HA := Lib.hid (hA.below hb2 (by simp; omega))
      have HB := Lib.hid (hB.below hb2 (by simp))
      have B2 := Lib.hid (hba.trans (hb2.mono hba.size))
      have la : w1.heap.size < w2.heap.size := Nat.lt_of_lt_of_le (by simp; omega) hb2.size
      have lb : w1.heap.size + 1 < w2.heap.size := Nat.lt_of_lt_of_le (by simp) hb2.size
      clear hA hB hba hb2 B1 K0 K1
      generalize w1.heap.size = xa at *
      generalize xa + 1 = xb at *
      obtain ⟨p0, p1, p2, p3⟩ := HA.out
      obtain ⟨q0, q1, q2, q3⟩ := HB.out
      obtain ⟨j, hj⟩ : ∃ j, joinQ a b = j := ⟨_, rfl⟩
      obtain ⟨t, ht⟩ : ∃ t, joinB a b = t := ⟨_, rfl⟩
      have HJ := Lib.hid hj
      have HT := Lib.hid ht
      clear hj ht
      go_wp2_with fail
      refine (impl_join a b j t HJ.out HT.out _).mono ?_
      rintro e w3 ⟨rfl, hb3⟩
      clear p0 p1 p2 p3 q0 q1 q2 q3
      have ta := Box4.two HA.out la hb3
      have tb := Box4.two HB.out lb hb3
      have td := Box4.newTwo hb3
      clear HA HB la lb
      have HA := Lib.hid ta.1
      have la := ta.2
      clear ta
      have HB := Lib.hid tb.1
      have lb := tb.2
      clear tb
      have HD := Lib.hid td.1
      have ld := td.2
      clear td
      have B3 := Lib.hid (((B2.out.alloc B2.out.size _).alloc (by have := B2.out.size; simp; omega) _).trans (hb3.mono (by have := B2.out.size; simp; omega)))
      clear hb3 B2
      generalize w2.heap.size = xd at *
      obtain ⟨va0, va1, va2, va3⟩ := HA.out
      obtain ⟨vb0, vb1, vb2, vb3⟩ := HB.out
      go_wp2_with fail
      refine (impl_join b a j t ((joinQ_comm a b).trans HJ.out) ((joinB_comm a b).trans HT.out) _).mono ?_
      rintro e w4 ⟨rfl, hb4⟩
      clear va0 va1 va2 va3 vb0 vb1 vb2 vb3
      have ta := Box4.one HA.out la hb4
      have tb := Box4.one HB.out lb hb4
      have td := Box4.one HD.out ld hb4
      have tx := Box4.new (q := j) hb4
      clear HA HB HD la lb ld
      have HA := Lib.hid ta.1
      have la := ta.2
      clear ta
      have HB := Lib.hid tb.1
      have lb := tb.2
      clear tb
      have HD := Lib.hid td.1
      have ld := td.2
      clear td
      have HX := Lib.hid tx.1
      have lx := tx.2
      clear tx
      have B4 := Lib.hid ((B3.out.alloc B3.out.size _).trans (hb4.mono (by have := B3.out.size; simp; omega)))
      clear hb4 B3
      generalize w3.heap.size = xx at *
      obtain ⟨va0, va1, va2, va3⟩ := HA.out
      obtain ⟨vb0, vb1, vb2, vb3⟩ := HB.out
      go_wp2_with fail
      refine (spec_join a b j t HJ.out HT.out _).mono ?_
      rintro e w5 ⟨rfl, hb5⟩
      clear va0 va1 va2 va3 vb0 vb1 vb2 vb3
      have ta := Box4.one HA.out la hb5
      have tb := Box4.one HB.out lb hb5
      have td := Box4.one HD.out ld hb5
      have tx := Box4.one HX.out lx hb5
      have ty := Box4.new (q := j) hb5
      clear HA HB HD HX la lb ld lx
      have HA := Lib.hid ta.1
      have la := ta.2
      clear ta
      have HB := Lib.hid tb.1
      have lb := tb.2
      clear tb
      have HD := Lib.hid td.1
      have ld := td.2
      clear td
      have HX := Lib.hid tx.1
      have lx := tx.2
      clear tx
      have HY := Lib.hid ty.1
      have ly := ty.2
      clear ty
      have B5 := Lib.hid ((B4.out.alloc B4.out.size _).trans (hb5.mono (by have := B4.out.size; simp; omega)))
      clear hb5 B4
      generalize w4.heap.size = xy at *
      obtain ⟨vx0, vx1, vx2, vx3⟩ := HX.out
      obtain ⟨vy0, vy1, vy2, vy3⟩ := HY.out
      cases t
      · go_wp2_with fail
        go_ret
        exact ⟨rfl, B5.out.alloc B5.out.size _⟩
      · obtain ⟨hpa, hpb, hpn⟩ := joinB_true HT.out
        have bda := ok_bds hpa
        have bdb := ok_bds hpb
        obtain ⟨va1, va2, va3, va4, -⟩ := bda
        obtain ⟨vb1, vb2, vb3, vb4, -⟩ := bdb
        have HPA := Lib.hid hpa
        have HPB := Lib.hid hpb
        clear hpa hpb
        obtain ⟨vd0, vd1, vd2, vd3⟩ := HD.out
        go_wp2_with fail
        refine (spec_AggOk _ _ _ _ _).mono ?_
        rintro e w6 ⟨rfl, hb6⟩
        clear vx0 vx1 vx2 vx3 vy0 vy1 vy2 vy3 vd0 vd1 vd2 vd3
        have ta := Box4.one HA.out la hb6
        have tb := Box4.one HB.out lb hb6
        have td := Box4.one HD.out ld hb6
        have tx := Box4.one HX.out lx hb6
        have ty := Box4.one HY.out ly hb6
        clear HA HB HD HX HY la lb ld lx ly
        have HA := Lib.hid ta.1
        have la := ta.2
        clear ta
        have HB := Lib.hid tb.1
        have lb := tb.2
        clear tb
        have HD := Lib.hid td.1
        have ld := td.2
        clear td
        have HX := Lib.hid tx.1
        have lx := tx.2
        clear tx
        have HY := Lib.hid ty.1
        have ly := ty.2
        clear ty
        have B6 := Lib.hid ((B5.out.alloc B5.out.size _).trans (hb6.mono (by have := B5.out.size; simp; omega)))
        clear hb6 B5
        have HTT := HT
        clear HT
        by_cases okd : okB d.n d.s d.mn d.mx = true
        · have hdk := (okB_iff ..).1 okd
          obtain ⟨vd1, vd2, vd3, vd4, -⟩ := ok_bds hdk
          have HD2 := Lib.hid hdk
          clear hdk
          obtain ⟨va0, va1, va2, va3⟩ := HA.out
          obtain ⟨vb0, vb1, vb2, vb3⟩ := HB.out
          obtain ⟨vd0, vd1, vd2, vd3⟩ := HD.out
          by_cases hs : 1000 < a.n + b.n + d.n
          · go_wp2_with fail
            go_ret
            exact ⟨rfl, B6.out⟩
          · obtain ⟨e1, e2, e3, e4, e5, e6, e7, e8, e9⟩ := assoc_all (a := a) (b := b) (d := d) ⟨HPA.out, HPB.out, hpn⟩ HD2.out (by omega)
            have ej : j = wth a b := HJ.out.symm.trans (join_mk (a := a) (b := b) ⟨HPA.out, HPB.out, hpn⟩).2
            rw [← ej] at e1 e2 e6 e7 e8 e9
            generalize wth j d = p at *
            generalize wth b d = q at *
            have E1 := Lib.hid e1
            have E2 := Lib.hid e2
            have E3 := Lib.hid e3
            have E4 := Lib.hid e4
            have E5 := Lib.hid e5
            have E6 := Lib.hid e6
            have E8 : (p.n == a.n + b.n + d.n) = true := by simp [e8]
            have E9 : (p.s == a.s + b.s + d.s) = true := by simp [e9]
            clear e1 e2 e3 e4 e5 e6 e8 e9 ej HJ
            obtain ⟨vx0, vx1, vx2, vx3⟩ := HX.out
            go_wp2_with fail
            refine (impl_join j d p true E2.out E1.out _).mono ?_
            rintro e w7 ⟨rfl, hb7⟩
            clear va0 va1 va2 va3 vb0 vb1 vb2 vb3 vd0 vd1 vd2 vd3 vx0 vx1 vx2 vx3
            have ta := Box4.none HA.out la hb7
            have tb := Box4.none HB.out lb hb7
            have td := Box4.none HD.out ld hb7
            have tx := Box4.none HX.out lx hb7
            have ty := Box4.none HY.out ly hb7
            clear HA HB HD HX HY la lb ld lx ly
            have HA := Lib.hid ta.1
            have la := ta.2
            clear ta
            have HB := Lib.hid tb.1
            have lb := tb.2
            clear tb
            have HD := Lib.hid td.1
            have ld := td.2
            clear td
            have HX := Lib.hid tx.1
            have lx := tx.2
            clear tx
            have HY := Lib.hid ty.1
            have ly := ty.2
            clear ty
            have B7 := Lib.hid (B6.out.trans (hb7.mono B6.out.size))
            clear hb7 B6
            obtain ⟨vb0, vb1, vb2, vb3⟩ := HB.out
            obtain ⟨vd0, vd1, vd2, vd3⟩ := HD.out
            go_wp2_with fail
            refine (impl_join b d q true E4.out E3.out _).mono ?_
            rintro e w8 ⟨rfl, hb8⟩
            clear vb0 vb1 vb2 vb3 vd0 vd1 vd2 vd3
            have ta := Box4.one HA.out la hb8
            have tb := Box4.one HB.out lb hb8
            have td := Box4.one HD.out ld hb8
            have tx := Box4.one HX.out lx hb8
            have ty := Box4.one HY.out ly hb8
            have tp := Box4.new (q := p) hb8
            clear HA HB HD HX HY la lb ld lx ly
            have HA := Lib.hid ta.1
            have la := ta.2
            clear ta
            have HB := Lib.hid tb.1
            have lb := tb.2
            clear tb
            have HD := Lib.hid td.1
            have ld := td.2
            clear td
            have HX := Lib.hid tx.1
            have lx := tx.2
            clear tx
            have HY := Lib.hid ty.1
            have ly := ty.2
            clear ty
            have HP := Lib.hid tp.1
            have lp := tp.2
            clear tp
            have B8 := Lib.hid ((B7.out.alloc B7.out.size _).trans (hb8.mono (by have := B7.out.size; simp; omega)))
            clear hb8 B7
            generalize w7.heap.size = xp at *
            obtain ⟨va0, va1, va2, va3⟩ := HA.out
            go_wp2_with fail
            refine (impl_join a q p true E6.out E5.out _).mono ?_
            rintro e w9 ⟨rfl, hb9⟩
            clear va0 va1 va2 va3
            have ta := Box4.one HA.out la hb9
            have tb := Box4.one HB.out lb hb9
            have td := Box4.one HD.out ld hb9
            have tx := Box4.one HX.out lx hb9
            have ty := Box4.one HY.out ly hb9
            have tp := Box4.one HP.out lp hb9
            clear HA HB HD HX HY HP la lb ld lx ly lp
            have HA := Lib.hid ta.1
            have la := ta.2
            clear ta
            have HB := Lib.hid tb.1
            have lb := tb.2
            clear tb
            have HD := Lib.hid td.1
            have ld := td.2
            clear td
            have HX := Lib.hid tx.1
            have lx := tx.2
            clear tx
            have HY := Lib.hid ty.1
            have ly := ty.2
            clear ty
            have HP := Lib.hid tp.1
            have lp := tp.2
            clear tp
            have B9 := Lib.hid ((B8.out.alloc B8.out.size _).trans (hb9.mono (by have := B8.out.size; simp; omega)))
            clear hb9 B8
            obtain ⟨vp0, vp1, vp2, vp3⟩ := HP.out
            obtain ⟨va0, va1, va2, va3⟩ := HA.out
            obtain ⟨vb0, vb1, vb2, vb3⟩ := HB.out
            obtain ⟨vd0, vd1, vd2, vd3⟩ := HD.out
            go_wp2_with fail
            refine (impl_AggOk _ _ _ _ _).mono ?_
            rintro e w10 ⟨rfl, hb10⟩
            clear vp0 vp1 vp2 vp3 va0 va1 va2 va3 vb0 vb1 vb2 vb3 vd0 vd1 vd2 vd3
            have ta := Box4.one HA.out la hb10
            have tb := Box4.one HB.out lb hb10
            have td := Box4.one HD.out ld hb10
            have tx := Box4.one HX.out lx hb10
            have ty := Box4.one HY.out ly hb10
            have tp := Box4.one HP.out lp hb10
            clear HA HB HD HX HY HP la lb ld lx ly lp
            have HA := Lib.hid ta.1
            have la := ta.2
            clear ta
            have HB := Lib.hid tb.1
            have lb := tb.2
            clear tb
            have HD := Lib.hid td.1
            have ld := td.2
            clear td
            have HX := Lib.hid tx.1
            have lx := tx.2
            clear tx
            have HY := Lib.hid ty.1
            have ly := ty.2
            clear ty
            have HP := Lib.hid tp.1
            have lp := tp.2
            clear tp
            have B10 := Lib.hid ((B9.out.alloc B9.out.size _).trans (hb10.mono (by have := B9.out.size; simp; omega)))
            clear hb10 B9
            obtain ⟨vp0, vp1, vp2, vp3⟩ := HP.out
            obtain ⟨va0, va1, va2, va3⟩ := HA.out
            obtain ⟨vb0, vb1, vb2, vb3⟩ := HB.out
            obtain ⟨vd0, vd1, vd2, vd3⟩ := HD.out
            go_wp2_with fail
            go_ret
            exact ⟨rfl, B10.out⟩
        · have okd2 : okB d.n d.s d.mn d.mx = false := by simpa using okd
          clear okd
          go_wp2_with fail
          go_ret
          exact ⟨rfl, B6.out⟩
end Go.Proofs.Ythldfaapckhcpaa.agg
