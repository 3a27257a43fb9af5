/-
  THE DRAWS: the contract of DrawAggList: some numbers in new memory, whatever the code; nothing that was there is written.
  Condition: the code is a slice of bytes, at most 2,000,000 of them.
-/
import Derived.Test.YthldfaapckhcpaaDrawJoin
import Derived.Deep.LoopGhost
import Derived.Deep.DeepCutAuto
namespace Go.Proofs.Ythldfaapckhcpaa.cur
open Go.RowKit
open Go.Proofs.Ythldfaapckhcpaa.agg (Row info_int)

/-- Along the way: n numbers are drawn. -/
structure Listing (w : World) (a : Option Addr) (len cap m : Nat) (v : Value) (n : Nat) (l : List Int) (wr : World) : Prop where
  owns : wr.ownsRow (w.heap.size + 1) 3 1 v n (ints l)
  curs : Curs w.heap.size a len cap m wr
  below : Below w.heap.size w wr
  size : w.heap.size + 1 < wr.heap.size
  nn : v ≠ .slice none 0 0

/-- What DrawAggList answers, and what it leaves. -/
def Listed (w : World) (e : Ending) (w' : World) : Prop :=
  ∃ (b n cp : Nat) (l : List Int), e = .returned (.slice (some ⟨b, 0, none⟩) n cp) ∧ n ≤ 2000 ∧ Row w' (some ⟨b, 0, none⟩) n l ∧ Below w.heap.size w w'

/-- A row of the call's own that is not nil. -/
theorem row_of_owns' {base n : Nat} {w : World} {e : TypeId} {v : Value} {l : List Int} (h : w.ownsRow base e 1 v n (ints l)) (hn : v ≠ .slice none 0 0) : ∃ b cap, v = .slice (some ⟨b, 0, none⟩) n cap ∧ Row w (some ⟨b, 0, none⟩) n l := by
  obtain ⟨ad, cap, hv, hr⟩ := row_of_owns h
  rcases h.2 with ⟨h0, _⟩ | ⟨g, cp, cur, h1, _⟩
  · exact absurd h0 hn
  · rw [h1] at hv
    simp only [Value.slice.injEq] at hv
    obtain ⟨rfl, _, rfl⟩ := hv
    exact ⟨g, cp, h1, hr⟩

/-- One number more: behind a draw, a new block for it, and the append. -/
theorem Listing.step {w w2 w3 : World} {a : Option Addr} {len cap m : Nat} {v v' : Value} {n : Nat} {l : List Int} {o : Obj} {x : Int} (h : Listing w a len cap m v n l w2)
    (hown' : w3.ownsRow (w.heap.size + 1) 3 1 v' (n + 1) (ints l ++ [.int .i64 x])) (hg : (w2.alloc o).grownBy w3 v.ownBlock) (hnil : v' = .slice none 0 0 ↔ v = .slice none 0 0 ∧ 1 = 0) : Listing w a len cap m v' (n + 1) (l ++ [x]) w3 := by
  have hsz := h.size
  have hB : Below (w.heap.size + 1) w2 w3 := ((Below.refl _ _).alloc (by omega) _).grown hg (by simp; omega) (ownBlock_ge h.owns)
  refine ⟨?_, h.curs.belowB hB (by omega), h.below.trans (hB.mono (by omega)), Nat.lt_of_lt_of_le hsz hB.size, fun e => by have := (hnil.1 e).2; omega⟩
  have e : ints (l ++ [x]) = ints l ++ [.int .i64 x] := by simp [ints]
  rw [e]; exact hown'

/-- .. the draw itself. -/
theorem Listing.only {w wr w2 : World} {a : Option Addr} {len cap m m' : Nat} {v : Value} {n : Nat} {l : List Int} (h : Listing w a len cap m v n l wr) (hc : Curs w.heap.size a len cap m' w2) (ho : Only w.heap.size wr w2) : Listing w a len cap m' v n l w2 :=
  ⟨ownsRow_only h.owns ho (by omega), hc, h.below.trans (ho.below (Nat.le_refl _) h.below.size), Nat.lt_of_lt_of_le h.size ho.size, h.nn⟩

set_option maxHeartbeats 2000000 in
theorem DrawAggList_any (a : Option Addr) (len cap : Nat) (w : World) (hle : len ≤ 2000000) (hcode : Code w a len) :
    Calls Try.prog 15 #[.slice a len cap] w (Listed w) := by
  have HK := Lib.hid hcode
  clear hcode
  obtain ⟨i0, hi, hz0, hz1, hz2⟩ := info_parts info_int
  go_enter Try.func15, Try.ntmps15
  go_wp2_with fail
  refine (l01Open_any _ _ _ _ hle).mono ?_
  rintro e w1 ⟨rfl, rfl⟩
  have H1 := Lib.hid (curs_open (cap := cap) hle HK.out)
  have hb1 : Below w.heap.size w (w.alloc (.cells #[.slice a len cap, .int .i64 0, .int .i64 (71 + (len : Int) % 1000)] 54)) := (Below.refl _ _).alloc (Nat.le_refl _) _
  have s1 : (w.alloc (.cells #[.slice a len cap, .int .i64 0, .int .i64 (71 + (len : Int) % 1000)] 54)).heap.size = w.heap.size + 1 := by simp
  generalize w.alloc (.cells #[.slice a len cap, .int .i64 0, .int .i64 (71 + (len : Int) % 1000)] 54) = w1 at *
  have HB1 := Lib.hid hb1
  have HS1 := Lib.hid s1
  clear hb1 s1
  go_wp2_with fail
  refine (size_any w.heap.size a len cap 0 9 _ (by omega) (by omega) (by omega) ?hc1).mono ?_
  case hc1 => exact H1.out.below (by repeat (first | exact Below.refl _ _ | refine Below.setCell ?_ (by first | omega | (simp; done) | (simp; omega)) _ | refine Below.alloc ?_ (by first | omega | (simp; done) | (simp; omega)) _ | apply Below.drew))
  rintro e w2 ⟨r, rfl, ⟨r0, r1⟩, hc2, ho2⟩
  obtain ⟨k0, rfl⟩ : ∃ k : Nat, r = k := ⟨r.toNat, by omega⟩
  have hL : Listing w a len cap (0 + 1) (.slice (some ⟨w.heap.size + 1, 0, none⟩) 0 0) 0 [] w2 := by
    refine ⟨⟨rfl, .inr ⟨w.heap.size + 1, 0, #[], rfl, Nat.le_refl _, ?_, Nat.le_refl _, by simp [maxLen], rfl, rfl⟩⟩, hc2, ?_, ?_, by simp⟩
    · rw [ho2.block _ (by simp [HS1.out]) (by omega)]
      have h := (MapKept.heap_alloc w1 (.cells #[] 3)).1
      rw [HS1.out] at h
      exact h
    · exact (HB1.out.trans ((Below.refl _ _).alloc (by have := HS1.out; omega) _)).trans (ho2.below (Nat.le_refl _) (by have := HS1.out; simp; omega))
    · exact Nat.lt_of_lt_of_le (by have := HS1.out; simp; omega) ho2.size
  have HL := Lib.hid hL
  have e1 : w1.heap.size = w.heap.size + 1 := HS1.out
  clear hc2 ho2 hL
  go_wp2_with fail
  clear e1
  go_loopg [4, 5] k0 (fun k s4 s5 wr => ∃ (l : List Int) (n : Nat), n + k ≤ 9 ∧ s5 = .int .i64 k ∧ Listing w a len cap (1 + n) s4 n l wr)
  case atStart => exact ⟨[], 0, by omega, rfl, HL.out⟩
  case round =>
    obtain ⟨l, n, hn, rfl, hd⟩ := hrel
    have HD := Lib.hid hd
    have hsz := hd.size
    clear hd HL H1 HS1 HB1 HK
    by_cases hk : 0 < gk
    · go_wp2_with fail
      refine (value_any w.heap.size a len cap (1 + n) _ (by omega) HD.out.curs).mono ?_
      rintro e w3 ⟨v, rfl, -, hc3, ho3⟩
      have HE := Lib.hid (HD.out.only hc3 ho3)
      have hown := HE.out.owns
      have z3 := HE.out.size
      clear hc3 ho3
      go_wp2_with (at_builtin; refine wpList_append_own _ rfl _ _ 32 rfl (w.heap.size + 1) 3 i0 (.int .i64 0) 1 8 Try.underlying32 hi hz0 hz1 hz2 rfl (by decide) _ _ _ rfl (hown.alloc _) ⟨w3.heap.size, 0, none⟩ 1 1 [.int .i64 v] rfl rfl (cell_one_new _ _ _) (fun x hx => by simp at hx; subst hx; rfl) (by unfold maxLen; omega) (by omega) (by simp; omega) ?_; intro v' w4 hown' hgrow4 hnil4)
      go_roundg (gk - 1)
      case measure => omega
      case rel =>
        have h := HE.out.step hown' hgrow4 hnil4
        refine ⟨l ++ [v], n + 1, by omega, by go_num, ?_⟩
        exact h
    · have hgk : gk = 0 := by omega
      subst hgk
      go_wp2_with fail
      refine (once_any w.heap.size a len cap (1 + n) 10 _ (by omega) HD.out.curs).mono ?_
      rintro e w3 ⟨t, rfl, hc3, ho3⟩
      have HE := Lib.hid (HD.out.only hc3 ho3)
      have z3 := HE.out.size
      have hn9 : n ≤ 9 := by omega
      clear hc3 ho3 HD hsz
      go_upto_if 21 with fail
      go_cut [4] (fun s4 wx => ∃ (l : List Int) (n : Nat), n ≤ 10 ∧ Listing w a len cap 20 s4 n l wx)
      case first =>
        cases t
        · go_wp2_with fail
          go_meet
          exact ⟨l, n, by omega, HE.out.owns, HE.out.curs.more (by omega), HE.out.below, HE.out.size, HE.out.nn⟩
        · go_wp2_with fail
          refine (raw_any w.heap.size a len cap (1 + n + 1) _ (by omega) HE.out.curs).mono ?_
          rintro e w4 ⟨v, rfl, -, hc4, ho4⟩
          have HF := Lib.hid (HE.out.only hc4 ho4)
          have hown := HF.out.owns
          have z4 := HF.out.size
          clear hc4 ho4
          go_wp2_with (at_builtin; refine wpList_append_own _ rfl _ _ 32 rfl (w.heap.size + 1) 3 i0 (.int .i64 0) 1 8 Try.underlying32 hi hz0 hz1 hz2 rfl (by decide) _ _ _ rfl (hown.alloc _) ⟨w4.heap.size, 0, none⟩ 1 1 [.int .i64 v] rfl rfl (cell_one_new _ _ _) (fun x hx => by simp at hx; subst hx; rfl) (by unfold maxLen; omega) (by omega) (by simp; omega) ?_; intro v' w5 hown' hgrow5 hnil5)
          go_meet
          have h := HF.out.step hown' hgrow5 hnil5
          exact ⟨l ++ [v], n + 1, by omega, h.owns, h.curs.more (by omega), h.below, h.size, h.nn⟩
      case rest =>
        obtain ⟨l2, n2, hn2, hd2⟩ := hcut
        have HG := Lib.hid hd2
        have z5 := hd2.size
        clear hd2 HE z3
        go_wp2_with fail
        refine (once_any w.heap.size a len cap 20 24 _ (by omega) HG.out.curs).mono ?_
        rintro e w6 ⟨t2, rfl, hc6, ho6⟩
        have HI := Lib.hid (HG.out.only hc6 ho6)
        have z6 := HI.out.size
        clear hc6 ho6 HG z5
        cases t2
        · go_wp2_with fail
          go_ret
          obtain ⟨ad, cp, rfl, hrow⟩ := row_of_owns' HI.out.owns HI.out.nn
          exact ⟨ad, n2, cp, l2, rfl, by omega, hrow, HI.out.below⟩
        · go_wp2_with fail
          go_loopg [4] (1002 - n2) (fun k s4 wr => ∃ (l : List Int) (n : Nat), n + k = 1002 ∧ Listing w a len cap (21 + n) s4 n l wr)
          case atStart => exact ⟨l2, n2, by omega, HI.out.owns, HI.out.curs.more (by omega), HI.out.below, HI.out.size, HI.out.nn⟩
          case round =>
            obtain ⟨l3, n3, hn3, hd3⟩ := hrel
            have HJ := Lib.hid hd3
            have z7 := hd3.size
            clear hd3 HI z6
            obtain ⟨ad, cp, hv, hrow⟩ := row_of_owns HJ.out.owns
            subst hv
            have HR := Lib.hid hrow
            clear hrow
            go_wp2_with fail
            refine (pick_any w.heap.size a len cap (21 + n3) 2 _ (by omega) HJ.out.curs).mono ?_
            rintro e w8 ⟨r, rfl, rr0, rr1, hc8, ho8⟩
            have rr2 : r ≤ 1 := by omega
            have HM := Lib.hid (HJ.out.only hc8 ho8)
            have hown := HM.out.owns
            have z8 := HM.out.size
            clear hc8 ho8 HJ z7 HR rr1
            by_cases hlt : (n3 : Int) < 1000 + r
            · go_wp2_with (at_builtin; refine wpList_append_own _ rfl _ _ 32 rfl (w.heap.size + 1) 3 i0 (.int .i64 0) 1 8 Try.underlying32 hi hz0 hz1 hz2 rfl (by decide) _ _ _ rfl (hown.alloc _) ⟨w8.heap.size, 0, none⟩ 1 1 [.int .i64 1] rfl rfl (cell_one_new _ _ _) (fun x hx => by simp at hx; subst hx; rfl) (by unfold maxLen; omega) (by omega) (by simp; omega) ?_; intro v' w9 hown' hgrow9 hnil9)
              go_roundg (1002 - (n3 + 1))
              case measure => omega
              case rel =>
                have h := HM.out.step hown' hgrow9 hnil9
                exact ⟨l3 ++ [1], n3 + 1, by omega, h.owns, h.curs.more (by omega), h.below, h.size, h.nn⟩
            · go_wp2_with fail
              go_ret
              obtain ⟨ad2, cp2, hv2, hrow2⟩ := row_of_owns' hown HM.out.nn
              rw [hv2]
              exact ⟨ad2, n3, cp2, l3, rfl, by omega, hrow2, HM.out.below⟩
end Go.Proofs.Ythldfaapckhcpaa.cur
