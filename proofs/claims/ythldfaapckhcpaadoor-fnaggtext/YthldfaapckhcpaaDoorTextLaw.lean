/-
  THE WALK OF THE LAW FnAggText, out of the contracts: it answers true, and nothing that was there is written.
  Conditions: the library's variables hold what its text lays; bytealg.MaxLen holds some int; the code is a slice of bytes. (What DrawAggRead answers is handed in: DrawRead.)
-/
import Derived.Test.YthldfaapckhcpaaDoorDrawText
import Derived.Test.YthldfaapckhcpaaDoorTextMath
import Derived.Test.YthldfaapckhcpaaDoorEnvLaid
namespace Go.Proofs.YthldfaapckhcpaaDoor.num
open Go.RowKit
open Go.Proofs.YthldfaapckhcpaaDoor.agg (Q okB spec_AggOk Box4 box_alloc)
open Go.Proofs.YthldfaapckhcpaaDoor.cur (big_yes big_no DrawAggText_any Text)

/-- What each call asks of the world. -/
structure Base (m : Int) (a : Option Addr) (len : Nat) (w : World) : Prop where
  env : Env w
  max : w.cell? ⟨0, 0, none⟩ = some (.int .i64 m)
  code : cur.Code w a len
theorem Base.lt {m : Int} {a : Option Addr} {len : Nat} {w : World} (h : Base m a len w) : 0 < w.heap.size := World.block_lt_of_cell? w _ h.max
theorem Base.next {m : Int} {a : Option Addr} {len : Nat} {w w' : World} (h : Base m a len w) (hb : Below w.heap.size w w') : Base m a len w' :=
  ⟨h.env.next hb, (hb.cell (p := ⟨0, 0, none⟩) h.lt).trans h.max, h.code.below hb⟩

set_option maxHeartbeats 1000000 in
set_option maxRecDepth 100000 in
theorem walk_FnAggText (a : Option Addr) (len cap : Nat) (m : Int) (w : World) (hB : Base m a len w) (hD : ∀ w', len ≤ 2000000 → cur.Code w' a len → Calls Tryd.prog 12 #[.slice a len cap] w' (Text w')) :
    Calls Tryd.prog 3 #[.slice a len cap] w fun e w' => e = .returned (.bool true) ∧ Below w.heap.size w w' := by
  have HB := Lib.hid hB
  have HD := Lib.hid hD
  clear hB hD
  by_cases hle : 1048576 < len
  · go_enter Tryd.func3, Tryd.ntmps3
    go_wp2_with fail
    refine (big_yes _ _ _ _ hle).mono ?_
    rintro e w1 ⟨rfl, rfl⟩
    go_wp2_with fail
    go_ret
    exact ⟨rfl, Below.refl _ _⟩
  · go_enter Tryd.func3, Tryd.ntmps3
    go_wp2_with fail
    refine (big_no _ _ _ _ hle).mono ?_
    rintro e w1 ⟨rfl, rfl⟩
    go_wp2_with fail
    refine (DrawAggText_any _ _ _ _ (by omega) HB.out.code).mono ?_
    rintro e w1 ⟨⟨n, s, mn, mx⟩, rfl, hb1⟩
    simp only
    have B1 := Lib.hid hb1
    have X1 := Lib.hid (HB.out.next hb1)
    clear hb1
    go_wp2_with fail
    refine (impl_AggText n s mn mx _ (X1.out.next ((Below.refl _ _).alloc (Nat.le_refl _) _)).env.pow).mono ?_
    rintro e w2 ⟨rfl, hb2⟩
    have hI := (ints4_alloc w1 n s mn mx 25).below hb2 (by simp)
    have hb12 : Below w1.heap.size w1 w2 := ((Below.refl _ _).alloc (Nat.le_refl _) _).trans (hb2.mono (by simp))
    have X2 := Lib.hid (X1.out.next hb12)
    have B2 := Lib.hid (B1.out.trans (hb12.mono B1.out.size))
    have I2 := Lib.hid hI
    obtain ⟨-, i0, i1, i2, i3⟩ := hI
    obtain ⟨S, hS⟩ : ∃ S : ByteArray, (⟨(aggText n s mn mx).toArray⟩ : ByteArray) = S := ⟨_, rfl⟩
    have hSd : S.data.toList = aggText n s mn mx := by rw [← hS]
    have hSz : S.size ≤ 50 := by
      have h1 : S.data.toList.length = S.size := rfl
      rw [← h1, hSd]; exact cur.aggText_short n s mn mx
    rw [hS]
    have HS := Lib.hid hS
    have HSD := Lib.hid hSd
    clear hb2 hb12 X1 B1 hS hSd
    go_wp2_with fail
    refine (spec_AggOk n s mn mx _).mono ?_
    rintro e w3 ⟨rfl, hb3⟩
    have X3 := Lib.hid (X2.out.next hb3)
    have B3 := Lib.hid (B2.out.trans (hb3.mono B2.out.size))
    have I3 := Lib.hid (I2.out.below hb3 I2.out.1)
    clear hb3 X2 B2 I2 i0 i1 i2 i3
    cases ho : okB n s mn mx with
    | false =>
      have hE : S = ByteArray.empty := by
        rw [← HS.out]; unfold aggText; rw [ho]; rfl
      subst hE
      clear ho HS HSD
      go_wp2_with fail
      have XA := X3
      have BA := B3
      clear X3 B3
      refine (HD.out _ (by omega) XA.out.code).mono ?_
      rintro e wB ⟨t, rfl, ht, hbB⟩
      have XB := Lib.hid (XA.out.next hbB)
      have BB := Lib.hid (BA.out.trans (hbB.mono BA.out.size))
      clear hbB
      go_wp2_with fail
      have HI : Hid (∀ w', Calls Tryd.prog 13 #[.string t] w' (ReadD (words t.data.toList) w')) := fun w' => AggRead_spec t w'
      have HJ : Hid (Calls Tryd.prog 11 #[.string t] wB (ReadD (words t.data.toList) wB)) := AggRead_impl t m _ (by omega) XB.out.env XB.out.max
      have HX := Lib.hid (acc_text (l := t.data.toList))
      unfold ReadD at HI HJ
      generalize got (words t.data.toList) 0 = g0 at *
      generalize got (words t.data.toList) 1 = g1 at *
      generalize got (words t.data.toList) 2 = g2 at *
      generalize got (words t.data.toList) 3 = g3 at *
      generalize acc (words t.data.toList) = tt at *
      refine HJ.out.mono ?_
      rintro e wC ⟨rfl, hbC⟩
      have XC := Lib.hid (XB.out.next hbC)
      have BC := Lib.hid (BB.out.trans (hbC.mono BB.out.size))
      clear hbC XB BB HJ
      go_wp2_with fail
      refine (HI.out _).mono ?_
      rintro e wD ⟨rfl, hbD⟩
      have hI := (ints4_alloc wC g0 g1 g2 g3 25).below hbD (by simp)
      have hbCD : Below wC.heap.size wC wD := ((Below.refl _ _).alloc (Nat.le_refl _) _).trans (hbD.mono (by simp))
      have XD := Lib.hid (XC.out.next hbCD)
      have BD := Lib.hid (BC.out.trans (hbCD.mono BC.out.size))
      obtain ⟨hltD, j0, j1, j2, j3⟩ := hI
      have hneD : wC.heap.size ≠ wD.heap.size := by omega
      have hbDx : Below wD.heap.size wD (wD.alloc (.cells #[.int .i64 g0, .int .i64 g1, .int .i64 g2, .int .i64 g3] 25)) := (Below.refl _ _).alloc (Nat.le_refl _) _
      have XDx := Lib.hid (XD.out.next hbDx)
      have BDx := Lib.hid (BD.out.trans (hbDx.mono BD.out.size))
      clear hbD hbCD XC BC HI hbDx
      cases tt with
      | false =>
        go_wp2_with fail
        go_ret
        first | exact ⟨rfl, BDx.out⟩ | exact ⟨rfl, BD.out⟩
      | true =>
        have hT : (⟨(aggText g0 g1 g2 g3).toArray⟩ : ByteArray) = t := by
          rw [HX.out (by simp)]
        have HT2 := Lib.hid hT
        clear hT HX
        go_wp2_with fail
        refine (impl_AggText g0 g1 g2 g3 _ XDx.out.env.pow).mono ?_
        rintro e wE ⟨rfl, hbE⟩
        rw [HT2.out]
        have BE := Lib.hid (BDx.out.trans (hbE.mono BDx.out.size))
        clear hbE
        go_wp2_with fail
        go_ret
        exact ⟨rfl, BE.out⟩
    | true =>
      have HT := Lib.hid (text_acc ho)
      clear ho HS
      go_wp2_with fail
      refine (AggRead_impl S m _ (by omega) X3.out.env X3.out.max).mono ?_
      rw [HSD.out]
      rintro e w4 ⟨rfl, hb4⟩
      rw [HT.out.1, HT.out.2.1, HT.out.2.2.1, HT.out.2.2.2.1, HT.out.2.2.2.2]
      have X4 := Lib.hid (X3.out.next hb4)
      have B4 := Lib.hid (B3.out.trans (hb4.mono B3.out.size))
      obtain ⟨hlt4, i0, i1, i2, i3⟩ := I3.out.below hb4 I3.out.1
      have hne : w1.heap.size ≠ w4.heap.size := by omega
      clear hb4 X3 B3 I3
      go_wp2_with fail
      have hbA : Below w4.heap.size w4 (w4.alloc (.cells #[.int .i64 n, .int .i64 s, .int .i64 mn, .int .i64 mx] 25)) := (Below.refl _ _).alloc (Nat.le_refl _) _
      have XA := Lib.hid (X4.out.next hbA)
      have BA := Lib.hid (B4.out.trans (hbA.mono B4.out.size))
      clear hbA X4 B4
      refine (HD.out _ (by omega) XA.out.code).mono ?_
      rintro e wB ⟨t, rfl, ht, hbB⟩
      have XB := Lib.hid (XA.out.next hbB)
      have BB := Lib.hid (BA.out.trans (hbB.mono BA.out.size))
      clear hbB
      go_wp2_with fail
      have HI : Hid (∀ w', Calls Tryd.prog 13 #[.string t] w' (ReadD (words t.data.toList) w')) := fun w' => AggRead_spec t w'
      have HJ : Hid (Calls Tryd.prog 11 #[.string t] wB (ReadD (words t.data.toList) wB)) := AggRead_impl t m _ (by omega) XB.out.env XB.out.max
      have HX := Lib.hid (acc_text (l := t.data.toList))
      unfold ReadD at HI HJ
      generalize got (words t.data.toList) 0 = g0 at *
      generalize got (words t.data.toList) 1 = g1 at *
      generalize got (words t.data.toList) 2 = g2 at *
      generalize got (words t.data.toList) 3 = g3 at *
      generalize acc (words t.data.toList) = tt at *
      refine HJ.out.mono ?_
      rintro e wC ⟨rfl, hbC⟩
      have XC := Lib.hid (XB.out.next hbC)
      have BC := Lib.hid (BB.out.trans (hbC.mono BB.out.size))
      clear hbC XB BB HJ
      go_wp2_with fail
      refine (HI.out _).mono ?_
      rintro e wD ⟨rfl, hbD⟩
      have hI := (ints4_alloc wC g0 g1 g2 g3 25).below hbD (by simp)
      have hbCD : Below wC.heap.size wC wD := ((Below.refl _ _).alloc (Nat.le_refl _) _).trans (hbD.mono (by simp))
      have XD := Lib.hid (XC.out.next hbCD)
      have BD := Lib.hid (BC.out.trans (hbCD.mono BC.out.size))
      obtain ⟨hltD, j0, j1, j2, j3⟩ := hI
      have hneD : wC.heap.size ≠ wD.heap.size := by omega
      have hbDx : Below wD.heap.size wD (wD.alloc (.cells #[.int .i64 g0, .int .i64 g1, .int .i64 g2, .int .i64 g3] 25)) := (Below.refl _ _).alloc (Nat.le_refl _) _
      have XDx := Lib.hid (XD.out.next hbDx)
      have BDx := Lib.hid (BD.out.trans (hbDx.mono BD.out.size))
      clear hbD hbCD XC BC HI hbDx
      cases tt with
      | false =>
        go_wp2_with fail
        go_ret
        first | exact ⟨rfl, BDx.out⟩ | exact ⟨rfl, BD.out⟩
      | true =>
        have hT : (⟨(aggText g0 g1 g2 g3).toArray⟩ : ByteArray) = t := by
          rw [HX.out (by simp)]
        have HT2 := Lib.hid hT
        clear hT HX
        go_wp2_with fail
        refine (impl_AggText g0 g1 g2 g3 _ XDx.out.env.pow).mono ?_
        rintro e wE ⟨rfl, hbE⟩
        rw [HT2.out]
        have BE := Lib.hid (BDx.out.trans (hbE.mono BDx.out.size))
        clear hbE
        go_wp2_with fail
        go_ret
        exact ⟨rfl, BE.out⟩
theorem law_FnAggText (a : Option Addr) (len cap : Nat) (zs : List Int) (w : World) (hr : agg.IsRow .u8 w a len cap zs) (h : Env w ∧ ∃ m, w.cell? ⟨0, 0, none⟩ = some (.int .i64 m)) (hD : ∀ w', len ≤ 2000000 → cur.Code w' a len → Calls Tryd.prog 12 #[.slice a len cap] w' (Text w')) :
    Calls Tryd.prog 3 #[.slice a len cap] w fun e w' => e = .returned (.bool true) ∧ Below w.heap.size w w' := by
  obtain ⟨hE, m, hm⟩ := h
  exact walk_FnAggText a len cap m w ⟨hE, hm, cur.code_of_row hr⟩ hD
end Go.Proofs.YthldfaapckhcpaaDoor.num
