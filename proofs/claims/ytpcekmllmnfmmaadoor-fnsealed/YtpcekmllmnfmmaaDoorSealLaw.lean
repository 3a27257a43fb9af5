/-
  THE CONTRACTS OF Sealed and Unsealed of the model and of the program; nothing that was there is written.
  Conditions: for the program's the tables (of sixteen steps, of powers of ten) hold what their texts lay; texts of at most 2,000,000 bytes.
-/
import Derived.Test.YtpcekmllmnfmmaaDoorCrcLaw
import Derived.Test.YtpcekmllmnfmmaaDoorSealMath
import Derived.Test.YtpcekmllmnfmmaaDoorNumsText
import Derived.Test.YtpcekmllmnfmmaaDoorMixHeld
import Derived.Shelf.Strings.LastIndexAll
namespace Go.Proofs.YtpcekmllmnfmmaaDoor.crc
open Go.RowKit
open Go.Proofs.YtpcekmllmnfmmaaDoor.num (Pow Pow.below Texted NumText_spec NumText_impl)
open Go.Proofs.YtpcekmllmnfmmaaDoor.dat (cat_two lineT lineText numsT W64 RInt GRow local_int)

/-- A world in which the tables are right. -/
def Env2 (w : World) : Prop := Steps w ∧ Pow w
theorem Env2.below {w w' : World} (h : Env2 w) (hb : Below w.heap.size w w') : Env2 w' := ⟨h.1.below hb, h.2.below hb h.2.2⟩

theorem crc_itoa (l : List UInt8) : (Lib.itoa ((crcN l : Nat) : Int)).length ≤ 21 := by
  have := crcN_lt l
  exact Lib.itoa_length_le _ (by omega) (by omega)

set_option maxHeartbeats 400000 in
theorem spec_Sealed (l : List UInt8) (w : World) (hl : l.length ≤ 2000000) : Calls Tryd.prog 10 #[.string ⟨l.toArray⟩] w (Texted (l ++ sealT l) w) := by
  have hi := crc_itoa l
  have hc := crcN_lt l
  have h1 := fun W => cat_two l [115, 117, 109, 32] (by omega) (by simp) W
  have h2 := fun W => cat_two (l ++ [115, 117, 109, 32]) (Lib.itoa ((crcN l : Nat) : Int)) (by simp; omega) (by omega) W
  have h3 := fun W => cat_two ((l ++ [115, 117, 109, 32]) ++ Lib.itoa ((crcN l : Nat) : Int)) [10] (by simp; omega) (by simp) W
  have HS := Lib.hid (fun W => spec_Crc ⟨l.toArray⟩ W (by simpa [ByteArray.size] using hl))
  have HN := Lib.hid (fun W => NumText_spec ((crcN l : Nat) : Int) W (by omega) (by omega))
  have HR := Lib.hid (show ((l ++ [115, 117, 109, 32]) ++ Lib.itoa ((crcN l : Nat) : Int)) ++ [10] = l ++ sealT l by unfold sealT sumW; simp)
  clear hi hc hl
  generalize ((l ++ [115, 117, 109, 32]) ++ Lib.itoa ((crcN l : Nat) : Int)) = z3 at *
  generalize l ++ [115, 117, 109, 32] = z2 at *
  go_enter Tryd.func10, Tryd.ntmps10
  go_wp2_with fail
  refine (HS.out _).mono ?_
  rintro e w1 ⟨rfl, rfl⟩
  go_wp2_with fail
  refine (HN.out _).mono ?_
  rintro e w2 ⟨rfl, hb2⟩
  have B2 := Lib.hid hb2
  clear hb2
  go_wp2_with fail
  go_ret
  rw [← HR.out]
  exact ⟨rfl, B2.out⟩

theorem one_row (w : World) (n : Int) (t : TypeId) : GRow 1 RInt (w.alloc (.cells #[.int .i64 n] t)) (some ⟨w.heap.size, 0, none⟩) 1 [n] [w.heap.size] := by
  refine ⟨rfl, .inr ⟨w.heap.size, 0, [[]], rfl, by simp, rfl, rfl, fun i x f hx hf => ?_⟩⟩
  have hi : i = 0 := by
    have := (List.getElem?_eq_some_iff.1 hx).1
    simp at this; omega
  subst hi
  simp at hx hf
  subst hx hf
  refine ⟨[.int .i64 n], rfl, ⟨rfl, rfl⟩, fun j hj => ?_⟩
  obtain rfl : j = 0 := by omega
  simp [go_sem]

set_option maxHeartbeats 400000 in
theorem sealOf (l : List UInt8) (w : World) (hl : l.length ≤ 2000000) (hE : Env2 w) : Calls Tryd.prog 23 #[.string ⟨l.toArray⟩] w (Texted (sealT l) w) := by
  have hi := crc_itoa l
  have hc := crcN_lt l
  have hlt : lineT [115, 117, 109] [((crcN l : Nat) : Int)] = sumW ++ Lib.itoa ((crcN l : Nat) : Int) := by unfold lineT numsT sumW; simp [Lib.join_one]
  have h3 := fun W => cat_two (sumW ++ Lib.itoa ((crcN l : Nat) : Int)) [10] (by unfold sumW; simp; omega) (by simp) W
  have HS := Lib.hid (fun W (h : Steps W) => impl_Crc ⟨l.toArray⟩ W (by simpa [ByteArray.size] using hl) h)
  have hw : W64 [((crcN l : Nat) : Int)] := fun x hx => by simp at hx; subst hx; omega
  have HW := Lib.hid hw
  have HR := Lib.hid (show (sumW ++ Lib.itoa ((crcN l : Nat) : Int)) ++ [10] = sealT l by unfold sealT; simp)
  have HLT := Lib.hid hlt
  have HE := Lib.hid hE
  clear hi hc hl hE hw hlt
  generalize sumW ++ Lib.itoa ((crcN l : Nat) : Int) = z at *
  have hn : ∀ v : List UInt8, ((crcN v : Nat) : Int) = ((crcN v : Nat) : Int) := fun _ => rfl
  clear hn
  obtain ⟨n, hn⟩ : ∃ n, ((crcN l : Nat) : Int) = n := ⟨_, rfl⟩
  rw [hn] at HW HLT
  have HN := Lib.hid hn
  clear hn
  go_enter Tryd.func23, Tryd.ntmps23
  go_wp2_with fail
  refine (HS.out _ HE.out.1).mono ?_
  rintro e w1 ⟨rfl, rfl⟩
  rw [show ((crcN (ByteArray.mk l.toArray).data.toList : Nat) : Int) = n from HN.out]
  go_wp2_with fail
  refine (lineText [115, 117, 109] (some ⟨w1.heap.size, 0, none⟩) 1 1 [n] [w1.heap.size] _ (by simp) (one_row w1 n _) (by omega) HW.out (HE.out.2.below ((Below.refl w1.heap.size w1).alloc (Nat.le_refl _) _) HE.out.2.2)).mono ?_
  rintro e w2 ⟨rfl, hb2⟩
  rw [HLT.out]
  have B2 := Lib.hid (((Below.refl w1.heap.size w1).alloc (Nat.le_refl _) _).trans (hb2.mono (by simp)))
  clear hb2
  go_wp2_with fail
  go_ret
  rw [← HR.out]
  exact ⟨rfl, B2.out⟩

set_option maxHeartbeats 400000 in
theorem impl_Sealed (l : List UInt8) (w : World) (hl : l.length ≤ 2000000) (hE : Env2 w) : Calls Tryd.prog 11 #[.string ⟨l.toArray⟩] w (Texted (l ++ sealT l) w) := by
  have h3 := fun W => cat_two l (sealT l) (by omega) (by have := (sealT_len l).2; omega) W
  have HS := Lib.hid (fun W h => sealOf l W hl h)
  have HE := Lib.hid hE
  clear hl hE
  generalize sealT l = z at *
  go_enter Tryd.func11, Tryd.ntmps11
  go_wp2_with fail
  refine (HS.out _ HE.out).mono ?_
  rintro e w2 ⟨rfl, hb2⟩
  have B2 := Lib.hid hb2
  clear hb2
  go_wp2_with fail
  go_ret
  exact ⟨rfl, B2.out⟩

/-- What Unsealed answers. -/
def unsV (l : List UInt8) : List UInt8 := (unsD l).getD []
def unsB (l : List UInt8) : Bool := (unsD l).isSome
def Unseals (l : List UInt8) (w : World) (e : Ending) (w' : World) : Prop := e = .returned (.tuple #[.string ⟨(unsV l).toArray⟩, .bool (unsB l)]) ∧ Below w.heap.size w w'
theorem extract_drop (l : List UInt8) (n m : Nat) (hm : l.length = m) : (ByteArray.mk l.toArray).extract n m = ⟨(l.drop n).toArray⟩ := by
  apply ByteArray.ext
  rw [ByteArray.data_extract]
  apply Array.toList_inj.1
  simp [← hm]
  exact List.take_of_length_le (by simp)
theorem extract_take (l : List UInt8) (n : Nat) : (ByteArray.mk l.toArray).extract 0 n = ⟨(l.take n).toArray⟩ := by
  apply ByteArray.ext
  rw [ByteArray.data_extract]
  apply Array.toList_inj.1
  simp

set_option maxRecDepth 100000 in
set_option maxHeartbeats 1000000 in
theorem impl_Unsealed (l : List UInt8) (w : World) (hl : l.length ≤ 2000000) (hE : Env2 w) : Calls Tryd.prog 13 #[.string ⟨l.toArray⟩] w (Unseals l w) := by
  have hsz : (ByteArray.mk l.toArray).size = l.length := by simp [ByteArray.size]
  have HLI := Lib.hid (fun W => Any.strings_LastIndex Tryd.lays148 ⟨l.toArray⟩ ⟨#[115, 117, 109, 32]⟩ (by rw [hsz]; omega) W)
  have HS := Lib.hid (fun n W h => sealOf (l.take n) W (by simp; omega) h)
  have HE := Lib.hid hE
  clear hE
  obtain ⟨i, hi⟩ : ∃ i, Lib.lastIndex l sumW = i := ⟨_, rfl⟩
  have HI := Lib.hid hi
  by_cases h0 : i < 0
  · have HU := Lib.hid (show unsD l = none by unfold unsD; rw [hi, if_neg (by omega)])
    clear hi
    go_enter Tryd.func13, Tryd.ntmps13
    go_wp2_with fail
    refine (HLI.out _).mono ?_
    rintro e w1 ⟨rfl, rfl⟩
    rw [show Lib.lastIndex (ByteArray.mk l.toArray).data.toList (ByteArray.mk #[115, 117, 109, 32]).data.toList = i from HI.out]
    go_wp2_with fail
    have h0' : decide (i < 0) = true := decide_eq_true h0
    refine mix.wp_region_mixh (fun _ => True) [9] (by kernel_rfl) (by kernel_rfl) (fun _ _ d _ _ h => by cases d <;> exact h) trivial ?_
    (repeat (first | (apply mix.held_take; (· rfl); (· rfl); (· (intro w' hSw; (try dsimp only at hSw); go_simp; try with_reducible rfl)); (try simp only [Act.put, List.setIfInBounds_toArray, List.set_cons_zero, List.set_cons_succ])) | ((refine mix.held_pass rfl (by rfl) ?_); (try simp only [Act.put, List.setIfInBounds_toArray, List.set_cons_zero, List.set_cons_succ]))))
    refine mix.held_hard rfl (fun K hK => ?_); go_simp
    refine hK.out _ _ (trivial) (fun hSw => ?_); clear hK K hSw; (try simp only [Act.put, List.setIfInBounds_toArray, List.set_cons_zero, List.set_cons_succ])
    (repeat (first | (apply mix.held_take; (· rfl); (· rfl); (· (intro w' hSw; (try dsimp only at hSw); go_simp; try with_reducible rfl)); (try simp only [Act.put, List.setIfInBounds_toArray, List.set_cons_zero, List.set_cons_succ])) | ((refine mix.held_pass rfl (by rfl) ?_); (try simp only [Act.put, List.setIfInBounds_toArray, List.set_cons_zero, List.set_cons_succ]))))
    refine mix.held_end ?_
    go_wp2_with fail
    go_ret2
    refine ⟨?_, (Below.refl _ _).drew⟩
    unfold unsV unsB
    rw [HU.out]
    rfl
  · obtain ⟨n, rfl⟩ : ∃ n : Nat, i = (n : Int) := ⟨i.toNat, by omega⟩
    have hn : n ≤ l.length := by
      unfold Lib.lastIndex at hi
      split at hi
      · rcases Lib.lastOcc_spec l sumW (l.length - sumW.length + 1) with ⟨h, _⟩ | ⟨j, hj, he, _⟩
        · rw [h] at hi; omega
        · rw [he] at hi
          have : sumW.length = 4 := rfl
          omega
      · omega
    have hnn : (n : Int) ≤ (l.length : Int) := by omega
    have e1 := extract_drop l n l.length rfl
    have e2 := extract_take l n
    clear hi h0
    have HSL := Lib.hid (HS.out n)
    clear HS
    by_cases hq : l.drop n = sealT (l.take n)
    · have HU := Lib.hid (unsD_some hq)
      rw [← hq] at HSL
      have hb : ((ByteArray.mk (l.drop n).toArray).toList == (ByteArray.mk (l.drop n).toArray).toList) = true := by simp
      clear hq
      go_enter Tryd.func13, Tryd.ntmps13
      go_wp2_with fail
      refine (HLI.out _).mono ?_
      rintro e w1 ⟨rfl, rfl⟩
      rw [show Lib.lastIndex (ByteArray.mk l.toArray).data.toList (ByteArray.mk #[115, 117, 109, 32]).data.toList = n from HI.out]
      go_wp2_with fail
      refine mix.wp_region_mixh (fun _ => True) [9] (by kernel_rfl) (by kernel_rfl) (fun _ _ d _ _ h => by cases d <;> exact h) trivial ?_
      (repeat (first | (apply mix.held_take; (· rfl); (· rfl); (· (intro w' hSw; (try dsimp only at hSw); go_simp; try with_reducible rfl)); (try simp only [Act.put, List.setIfInBounds_toArray, List.set_cons_zero, List.set_cons_succ])) | ((refine mix.held_pass rfl (by rfl) ?_); (try simp only [Act.put, List.setIfInBounds_toArray, List.set_cons_zero, List.set_cons_succ]))))
      refine mix.held_hard rfl (fun K hK => ?_); go_simp
      refine (HSL.out _ (HE.out.below (Below.refl _ _).drew)).mono ?_
      rintro e w2 ⟨rfl, hb2⟩
      have B2 := Lib.hid ((Below.refl w1.heap.size w1).drew.trans hb2)
      clear hb2
      refine hK.out _ _ (trivial) (fun hSw => ?_); clear hK K hSw; (try simp only [Act.put, List.setIfInBounds_toArray, List.set_cons_zero, List.set_cons_succ])
      (repeat (first | (apply mix.held_take; (· rfl); (· rfl); (· (intro w' hSw; (try dsimp only at hSw); go_simp; try with_reducible rfl)); (try simp only [Act.put, List.setIfInBounds_toArray, List.set_cons_zero, List.set_cons_succ])) | ((refine mix.held_pass rfl (by rfl) ?_); (try simp only [Act.put, List.setIfInBounds_toArray, List.set_cons_zero, List.set_cons_succ]))))
      refine mix.held_end ?_
      go_wp2_with fail
      go_ret2
      refine ⟨?_, B2.out⟩
      unfold unsV unsB
      rw [HU.out]
      rfl
    · have HU : Hid (unsD l = none) := by
        show _ = _
        unfold unsD
        rw [HI.out, if_neg (fun h => hq (by simpa using h.2))]
      have hb : (l.drop n == sealT (l.take n)) = false := beq_eq_false_iff_ne.2 hq
      generalize sealT (l.take n) = z at *
      clear hq
      go_enter Tryd.func13, Tryd.ntmps13
      go_wp2_with fail
      refine (HLI.out _).mono ?_
      rintro e w1 ⟨rfl, rfl⟩
      rw [show Lib.lastIndex (ByteArray.mk l.toArray).data.toList (ByteArray.mk #[115, 117, 109, 32]).data.toList = n from HI.out]
      go_wp2_with fail
      refine mix.wp_region_mixh (fun _ => True) [9] (by kernel_rfl) (by kernel_rfl) (fun _ _ d _ _ h => by cases d <;> exact h) trivial ?_
      (repeat (first | (apply mix.held_take; (· rfl); (· rfl); (· (intro w' hSw; (try dsimp only at hSw); go_simp; try with_reducible rfl)); (try simp only [Act.put, List.setIfInBounds_toArray, List.set_cons_zero, List.set_cons_succ])) | ((refine mix.held_pass rfl (by rfl) ?_); (try simp only [Act.put, List.setIfInBounds_toArray, List.set_cons_zero, List.set_cons_succ]))))
      refine mix.held_hard rfl (fun K hK => ?_); go_simp
      refine (HSL.out _ (HE.out.below (Below.refl _ _).drew)).mono ?_
      rintro e w2 ⟨rfl, hb2⟩
      have B2 := Lib.hid ((Below.refl w1.heap.size w1).drew.trans hb2)
      clear hb2
      refine hK.out _ _ (trivial) (fun hSw => ?_); clear hK K hSw; (try simp only [Act.put, List.setIfInBounds_toArray, List.set_cons_zero, List.set_cons_succ])
      (repeat (first | (apply mix.held_take; (· rfl); (· rfl); (· (intro w' hSw; (try dsimp only at hSw); go_simp; try with_reducible rfl)); (try simp only [Act.put, List.setIfInBounds_toArray, List.set_cons_zero, List.set_cons_succ])) | ((refine mix.held_pass rfl (by rfl) ?_); (try simp only [Act.put, List.setIfInBounds_toArray, List.set_cons_zero, List.set_cons_succ]))))
      refine mix.held_end ?_
      go_wp2_with fail
      go_ret2
      refine ⟨?_, B2.out⟩
      unfold unsV unsB
      rw [HU.out]
      rfl

theorem extract_four (l : List UInt8) (j : Nat) : (ByteArray.mk l.toArray).extract j (j + 4) = ⟨((l.drop j).take 4).toArray⟩ := by
  apply ByteArray.ext
  rw [ByteArray.data_extract]
  apply Array.toList_inj.1
  simp [List.extract_eq_take_drop]

set_option maxRecDepth 100000 in
set_option maxHeartbeats 1000000 in
theorem spec_Unsealed (l : List UInt8) (w : World) (hl : l.length ≤ 2000000) : Calls Tryd.prog 12 #[.string ⟨l.toArray⟩] w (Unseals l w) := by
  have hsz : (ByteArray.mk l.toArray).size = l.length := by simp [ByteArray.size]
  have HS := Lib.hid (fun n W => spec_Sealed (l.take n) W (by simp; omega))
  go_enter Tryd.func12, Tryd.ntmps12
  go_wp2_with fail
  go_loopg [4] (l.length + 1 - (l.length - 16)) (fun k i wr => ∃ j : Nat, j + k = l.length + 1 ∧ i = .int .i64 j ∧ (∀ n, n < j → l.drop n ≠ sealT (l.take n)) ∧ Below w.heap.size w wr)
  case atStart =>
    refine ⟨l.length - 16, by omega, ?_, fun n hn h => ?_, Below.refl _ _⟩
    · exact congrArg (Value.int .i64) (by omega)
    · have h1 := (sealT_len (l.take n)).2
      rw [← h, List.length_drop] at h1
      omega
  case round =>
    obtain ⟨j, hj, rfl, hno, hB⟩ := hrel
    have HNO := Lib.hid hno
    have HB := Lib.hid hB
    clear hno hB
    by_cases hle : j ≤ l.length
    case neg =>
      have HU := Lib.hid (show unsD l = none from unsD_none fun n h => by
        by_cases hn : n < j
        · exact HNO.out n hn h
        · have h1 := (sealT_len (l.take n)).1
          rw [← h, List.length_drop] at h1
          omega)
      go_wp2_with fail
      go_ret2
      refine ⟨?_, HB.out⟩
      unfold unsV unsB
      rw [HU.out]
      rfl
    have hle2 : (j : Int) ≤ (l.length : Int) := by omega
    have e1 := extract_four l j
    have e2 := extract_take l j
    have HSL := Lib.hid (HS.out j)
    clear HS
    by_cases hq : l.drop j = sealT (l.take j)
    · have HU := Lib.hid (unsD_some hq)
      have h6 := (sealT_len (l.take j)).1
      rw [← hq, List.length_drop] at h6
      have hf : (l.drop j).take 4 = [115, 117, 109, 32] := by rw [hq]; rfl
      have hbs : l.take j ++ sealT (l.take j) = l := sealed_eq.2 hq
      rw [hbs] at HSL
      have hj4 : j + 4 ≤ l.length := by omega
      rw [hf] at e1
      clear hq hf hbs h6
      go_wp2_with fail
      refine (HSL.out _).mono ?_
      rintro e w2 ⟨rfl, hb2⟩
      have B2 := Lib.hid (HB.out.trans (hb2.mono HB.out.size))
      clear hb2
      go_wp2_with fail
      go_ret2
      refine ⟨?_, B2.out⟩
      unfold unsV unsB
      rw [HU.out]
      rfl
    · have HNO2 := Lib.hid (show ∀ n, n < j + 1 → l.drop n ≠ sealT (l.take n) from fun n hn h => by
        by_cases e : n = j
        · subst e; exact hq h
        · exact HNO.out n (by omega) h)
      have hbs : (l.take j ++ sealT (l.take j) == l) = false := beq_eq_false_iff_ne.2 (fun h => hq (sealed_eq.1 h))
      generalize l.take j ++ sealT (l.take j) = z at *
      clear hq
      by_cases g1 : j + 4 ≤ l.length
      · by_cases g2 : (l.drop j).take 4 = [115, 117, 109, 32]
        · rw [g2] at e1
          clear g2
          go_wp2_with fail
          refine (HSL.out _).mono ?_
          rintro e w2 ⟨rfl, hb2⟩
          have B2 := Lib.hid (HB.out.trans (hb2.mono HB.out.size))
          clear hb2
          go_wp2_with fail
          go_roundg (l.length + 1 - (j + 1))
          case measure => omega
          case rel => exact ⟨j + 1, by omega, by go_num, HNO2.out, B2.out⟩
        · have hg : ((l.drop j).take 4 == [115, 117, 109, 32]) = false := beq_eq_false_iff_ne.2 g2
          clear g2
          generalize (l.drop j).take 4 = y at *
          go_wp2_with fail
          go_roundg (l.length + 1 - (j + 1))
          case measure => omega
          case rel => exact ⟨j + 1, by omega, by go_num, HNO2.out, HB.out⟩
      · have g3 : ¬ (4 : Int) ≤ (l.length : Int) - (j : Int) := by omega
        go_wp2_with fail
        go_roundg (l.length + 1 - (j + 1))
        case measure => omega
        case rel => exact ⟨j + 1, by omega, by go_num, HNO2.out, HB.out⟩
end Go.Proofs.YtpcekmllmnfmmaaDoor.crc
