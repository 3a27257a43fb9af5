/-
  THE CONTRACT OF THE MODEL's l01Num: the number that a word is in its one form, and whether it is one.
  Condition: the word is no longer than 60 bytes.
-/
import Derived.Test.YtdipkbgfkbmfnaaDoorSpecWords
import Derived.Deep.LoopGhost
namespace Go.Proofs.YtdipkbgfkbmfnaaDoor.num
open Go.RowKit

/-- What l01Num answers, and what it leaves. -/
def NumR (l : List UInt8) (w : World) (e : Ending) (w' : World) : Prop :=
  ∃ (x : Int) (t : Bool), e = .returned (.tuple #[.int .i64 x, .bool t]) ∧ (t = true → Lib.itoa x = l) ∧ (∀ y, Lib.itoa y = l → l.length ≤ 11 → t = true) ∧ (-99999999999 ≤ x ∧ x ≤ 99999999999) ∧ Below w.heap.size w w'

set_option maxHeartbeats 400000 in
theorem l01Between_any (n lo hi : Int) (w : World) : Calls Tryd.prog 25 #[.int .i64 n, .int .i64 lo, .int .i64 hi] w fun e w' => e = .returned (.bool (decide (lo ≤ n) && decide (n ≤ hi))) ∧ w = w' := by
  by_cases h1 : lo ≤ n
  · by_cases h2 : n ≤ hi
    · go_enter Tryd.func25, Tryd.ntmps25
      go_wp2
      go_ret
      simp [h1, h2]
    · go_enter Tryd.func25, Tryd.ntmps25
      go_wp2
      go_ret
      simp [h2]
  · go_enter Tryd.func25, Tryd.ntmps25
    go_wp2
    go_ret
    refine ⟨?_, rfl⟩
    congr
    rw [decide_eq_false (by omega)]; rfl

theorem digit_ne45 {u : Nat} {r : List UInt8} (h : Lib.decDigits u = 45 :: r) : False := by
  have := digits_mem u 45 (by rw [h]; simp)
  simp at this

set_option maxHeartbeats 1000000 in
set_option maxRecDepth 100000 in
theorem l01Num_neg (s : ByteArray) (w : World) (hs : s.size ≤ 60) (h0 : 0 < s.size) (hm : s[0] = 45) : Calls Tryd.prog 34 #[.string s] w (NumR s.data.toList w) := by
  have hbb : ((s[0].toNat : Int) == 45) = true := by rw [hm]; rfl
  have hl : s.data.toList = 45 :: s.data.toList.drop 1 := by
    have h := List.drop_eq_getElem_cons (l := s.data.toList) (i := 0) h0
    rw [List.drop_zero] at h
    rw [show s.data.toList[0]'h0 = s[0] from rfl, hm] at h
    exact h
  have hX : (s.extract 1 s.size).data.toList = s.data.toList.drop 1 := by
    rw [extract_str]
    show List.take (s.size - 1) (List.drop 1 s.data.toList) = _
    exact List.take_of_length_le (by rw [List.length_drop]; exact Nat.le_refl _)
  have hY : ∀ y, Lib.itoa y = s.data.toList → (s.extract 1 s.size).data.toList = Lib.decDigits y.natAbs ∧ y = -(y.natAbs : Int) := by
    intro y hy
    rw [hX]
    rw [hl] at hy
    rcases itoa_cases y with ⟨h1, h2⟩ | ⟨h1, h2⟩
    · rw [h2] at hy
      injection hy with _ hy
      exact ⟨hy.symm, by omega⟩
    · rw [h2] at hy; exact (digit_ne45 hy).elim
  have hDs : s.size - 1 = (s.extract 1 s.size).size := by simp
  have hne : ((s.extract 1 s.size).toList == s.toList) = false := by
    rw [beq_eq_false_iff_ne]
    intro h
    have h' := congrArg List.length h
    rw [ByteArray.toList_eq, ByteArray.toList_eq, hX, List.length_drop] at h'
    have : s.data.toList.length = s.size := rfl
    omega
  have HDS := Lib.hid hDs
  have HNE := Lib.hid hne
  clear hl hX hDs hne
  go_enter Tryd.func34, Tryd.ntmps34
  go_wp2_with fail
  have hDs := HDS.out
  have hne := HNE.out
  clear HDS HNE
  rw [hDs]
  generalize s.extract 1 s.size = D at *
  have HY := Lib.hid hY
  have HN := Lib.hid hne
  clear hY
  by_cases hlen : 1 ≤ D.size ∧ D.size ≤ 11
  · have hd1 : (decide ((1 : Int) ≤ (D.size : Int)) && decide ((D.size : Int) ≤ 11)) = true := by simp; omega
    refine (l01Between_any _ _ _ _).mono ?_
    rintro e w' ⟨rfl, rfl⟩
    rw [hd1]
    clear hd1
    go_wp2_with fail
    go_loopg [4, 6] D.size (fun k n i wr => ∃ (a i' : Nat), i' + k = D.size ∧ i = .int .i64 i' ∧ n = .int .i64 a ∧ Lib.decFrom 0 (D.data.toList.take i') = some a ∧ a < 10 ^ i' ∧ wr = w)
    case atStart => exact ⟨0, 0, by omega, rfl, rfl, rfl, by decide, rfl⟩
    case round =>
      obtain ⟨a, i, hk, rfl, rfl, hdec, hpow, rfl⟩ := hrel
      have hll : D.data.toList.length = D.size := rfl
      by_cases hlt : i < D.size
      · have hbd : a < 10000000000 := Nat.lt_of_lt_of_le hpow (Nat.le_trans (Nat.pow_le_pow_right (by omega) (show i ≤ 10 by omega)) (by decide))
        have hget : D.data.toList[i]'(by rw [hll]; exact hlt) = D[i] := rfl
        have HG := Lib.hid hget
        have HC := Lib.hid hdec
        have HP := Lib.hid hpow
        obtain ⟨b, hb⟩ : ∃ b, D[i] = b := ⟨_, rfl⟩
        obtain ⟨c, hc⟩ : ∃ c : Nat, b.toNat = c := ⟨_, rfl⟩
        have hbc : D[i].toNat = c := by rw [hb, hc]
        have c255 : c < 256 := by rw [← hc]; exact UInt8.toNat_lt b
        clear hget hdec hpow
        have HB := Lib.hid hb
        have HCc := Lib.hid hc
        clear hb hc
        go_wp2_with fail
        refine (l01Between_any _ _ _ _).mono ?_
        rintro e w' ⟨rfl, rfl⟩
        by_cases hdig : 48 ≤ c ∧ c ≤ 57
        · have hd1 : (decide ((48 : Int) ≤ (c : Int)) && decide ((c : Int) ≤ 57)) = true := by simp; omega
          rw [hd1]
          clear hd1
          obtain ⟨g1, g2⟩ := hdig
          go_wp2_with fail
          go_roundg (D.size - (i + 1))
          case measure => omega
          case rel =>
            refine ⟨a * 10 + (c - 48), i + 1, by omega, by go_num, ?_, ?_, ?_, rfl⟩
            · congr 1; omega
            · rw [List.take_succ_eq_append_getElem (by rw [hll]; exact hlt), HG.out, HB.out]
              exact decFrom_snoc _ _ _ _ _ HC.out (by unfold Lib.digitVal; rw [HCc.out, if_pos ⟨g1, g2⟩])
            · have := HP.out
              rw [Nat.pow_succ]; omega
        · have hd1 : (decide ((48 : Int) ≤ (c : Int)) && decide ((c : Int) ≤ 57)) = false := by simp; omega
          rw [hd1]
          clear hd1
          go_wp2_with fail
          go_ret2
          refine ⟨0, false, rfl, by simp, ?_, by omega, Below.refl _ _⟩
          intro y hy _
          have := digits_mem y.natAbs D[i] (by rw [← (HY.out y hy).1, ← HG.out]; exact List.getElem_mem _)
          omega
      · have hi : i = D.size := by omega
        subst hi
        rw [List.take_of_length_le (by rw [hll]; exact Nat.le_refl _)] at hdec
        have hbd : a < 100000000000 := Nat.lt_of_lt_of_le hpow (Nat.le_trans (Nat.pow_le_pow_right (by omega) hlen.2) (by decide))
        have HC := Lib.hid hdec
        clear hdec hpow
        go_wp2_with fail
        refine (NumText_spec (-(a : Int)) _ (by omega) (by omega)).mono ?_
        rintro e w2 ⟨rfl, hb2⟩
        have HB := Lib.hid hb2
        clear hb2
        go_wp2_with fail
        go_ret2
        refine ⟨(-(a : Int)), (Lib.itoa (-(a : Int)) == s.data.toList), ?_, by simp, ?_, by omega, HB.out⟩
        · rw [← ByteArray.toList_eq]; rfl
        · intro y hy _
          obtain ⟨y1, y2⟩ := HY.out y hy
          have : a = y.natAbs := by
            have h := HC.out
            rw [y1, decFrom_digits] at h
            injection h with h; exact h.symm
          rw [show (-(a : Int)) = y by omega, hy]; simp
  · have hd1 : (decide ((1 : Int) ≤ (D.size : Int)) && decide ((D.size : Int) ≤ 11)) = false := by simp; omega
    refine (l01Between_any _ _ _ _).mono ?_
    rintro e w' ⟨rfl, rfl⟩
    rw [hd1]
    clear hd1
    go_wp2_with fail
    go_ret2
    refine ⟨0, false, rfl, by simp, ?_, by omega, Below.refl _ _⟩
    intro y hy h11
    have y1 := (HY.out y hy).1
    have e1 : D.data.toList.length = D.size := rfl
    have e2 : s.data.toList.length = s.size := rfl
    have e3 : D.data.toList.length ≠ 0 := by
      rw [y1]
      intro h
      exact digits_ne _ (List.eq_nil_of_length_eq_zero h)
    omega

set_option maxHeartbeats 1000000 in
set_option maxRecDepth 100000 in
theorem l01Num_pos (s : ByteArray) (w : World) (hs : s.size ≤ 60) (h0 : 0 < s.size) (hm : ¬ s[0] = 45) : Calls Tryd.prog 34 #[.string s] w (NumR s.data.toList w) := by
  have hbb : ((s[0].toNat : Int) == 45) = false := by
    rw [beq_eq_false_iff_ne]
    intro e
    exact hm (UInt8.toNat_inj.1 (by show s[0].toNat = 45; omega))
  have hY : ∀ y, Lib.itoa y = s.data.toList → s.data.toList = Lib.decDigits y.natAbs ∧ y = (y.natAbs : Int) := by
    intro y hy
    rcases itoa_cases y with ⟨h1, h2⟩ | ⟨h1, h2⟩
    · exfalso
      rw [h2] at hy
      apply hm
      show s.data.toList[0]'h0 = 45
      simp [← hy]
    · exact ⟨by rw [← hy, h2], by omega⟩
  have hne : (s.toList == s.toList) = true := by simp
  clear hm
  go_enter Tryd.func34, Tryd.ntmps34
  go_wp2_with fail
  have HY := Lib.hid hY
  have HN := Lib.hid hne
  clear hY
  by_cases hlen : 1 ≤ s.size ∧ s.size ≤ 11
  · have hd1 : (decide ((1 : Int) ≤ (s.size : Int)) && decide ((s.size : Int) ≤ 11)) = true := by simp; omega
    refine (l01Between_any _ _ _ _).mono ?_
    rintro e w' ⟨rfl, rfl⟩
    rw [hd1]
    clear hd1
    go_wp2_with fail
    go_loopg [4, 6] s.size (fun k n i wr => ∃ (a i' : Nat), i' + k = s.size ∧ i = .int .i64 i' ∧ n = .int .i64 a ∧ Lib.decFrom 0 (s.data.toList.take i') = some a ∧ a < 10 ^ i' ∧ wr = w)
    case atStart => exact ⟨0, 0, by omega, rfl, rfl, rfl, by decide, rfl⟩
    case round =>
      obtain ⟨a, i, hk, rfl, rfl, hdec, hpow, rfl⟩ := hrel
      have hll : s.data.toList.length = s.size := rfl
      by_cases hlt : i < s.size
      · have hbd : a < 10000000000 := Nat.lt_of_lt_of_le hpow (Nat.le_trans (Nat.pow_le_pow_right (by omega) (show i ≤ 10 by omega)) (by decide))
        have hget : s.data.toList[i]'(by rw [hll]; exact hlt) = s[i] := rfl
        have HG := Lib.hid hget
        have HC := Lib.hid hdec
        have HP := Lib.hid hpow
        obtain ⟨b, hb⟩ : ∃ b, s[i] = b := ⟨_, rfl⟩
        obtain ⟨c, hc⟩ : ∃ c : Nat, b.toNat = c := ⟨_, rfl⟩
        have hbc : s[i].toNat = c := by rw [hb, hc]
        have c255 : c < 256 := by rw [← hc]; exact UInt8.toNat_lt b
        clear hget hdec hpow
        have HB := Lib.hid hb
        have HCc := Lib.hid hc
        clear hb hc
        go_wp2_with fail
        refine (l01Between_any _ _ _ _).mono ?_
        rintro e w' ⟨rfl, rfl⟩
        by_cases hdig : 48 ≤ c ∧ c ≤ 57
        · have hd1 : (decide ((48 : Int) ≤ (c : Int)) && decide ((c : Int) ≤ 57)) = true := by simp; omega
          rw [hd1]
          clear hd1
          obtain ⟨g1, g2⟩ := hdig
          go_wp2_with fail
          go_roundg (s.size - (i + 1))
          case measure => omega
          case rel =>
            refine ⟨a * 10 + (c - 48), i + 1, by omega, by go_num, ?_, ?_, ?_, rfl⟩
            · congr 1; omega
            · rw [List.take_succ_eq_append_getElem (by rw [hll]; exact hlt), HG.out, HB.out]
              exact decFrom_snoc _ _ _ _ _ HC.out (by unfold Lib.digitVal; rw [HCc.out, if_pos ⟨g1, g2⟩])
            · have := HP.out
              rw [Nat.pow_succ]; omega
        · have hd1 : (decide ((48 : Int) ≤ (c : Int)) && decide ((c : Int) ≤ 57)) = false := by simp; omega
          rw [hd1]
          clear hd1
          go_wp2_with fail
          go_ret2
          refine ⟨0, false, rfl, by simp, ?_, by omega, Below.refl _ _⟩
          intro y hy _
          have := digits_mem y.natAbs s[i] (by rw [← (HY.out y hy).1, ← HG.out]; exact List.getElem_mem _)
          omega
      · have hi : i = s.size := by omega
        subst hi
        rw [List.take_of_length_le (by rw [hll]; exact Nat.le_refl _)] at hdec
        have hbd : a < 100000000000 := Nat.lt_of_lt_of_le hpow (Nat.le_trans (Nat.pow_le_pow_right (by omega) hlen.2) (by decide))
        have HC := Lib.hid hdec
        clear hdec hpow
        go_wp2_with fail
        refine (NumText_spec (a : Int) _ (by omega) (by omega)).mono ?_
        rintro e w2 ⟨rfl, hb2⟩
        have HB := Lib.hid hb2
        clear hb2
        go_wp2_with fail
        go_ret2
        refine ⟨(a : Int), (Lib.itoa (a : Int) == s.data.toList), ?_, by simp, ?_, by omega, HB.out⟩
        · rw [← ByteArray.toList_eq]; rfl
        · intro y hy _
          obtain ⟨y1, y2⟩ := HY.out y hy
          have : a = y.natAbs := by
            have h := HC.out
            rw [y1, decFrom_digits] at h
            injection h with h; exact h.symm
          rw [show (a : Int) = y by omega, hy]; simp
  · have hd1 : (decide ((1 : Int) ≤ (s.size : Int)) && decide ((s.size : Int) ≤ 11)) = false := by simp; omega
    refine (l01Between_any _ _ _ _).mono ?_
    rintro e w' ⟨rfl, rfl⟩
    rw [hd1]
    clear hd1
    go_wp2_with fail
    go_ret2
    refine ⟨0, false, rfl, by simp, ?_, by omega, Below.refl _ _⟩
    intro y hy h11
    have y1 := (HY.out y hy).1
    have e1 : s.data.toList.length = s.size := rfl
    have e2 : s.data.toList.length = s.size := rfl
    have e3 : s.data.toList.length ≠ 0 := by
      rw [y1]
      intro h
      exact digits_ne _ (List.eq_nil_of_length_eq_zero h)
    omega

set_option maxHeartbeats 400000 in
set_option maxRecDepth 100000 in
theorem l01Num_nil (w : World) : Calls Tryd.prog 34 #[.string ByteArray.empty] w (NumR [] w) := by
  go_enter Tryd.func34, Tryd.ntmps34
  go_wp2_with fail
  refine (l01Between_any _ _ _ _).mono ?_
  rintro e w' ⟨rfl, rfl⟩
  go_wp2_with fail
  go_ret2
  refine ⟨0, false, rfl, by simp, ?_, by omega, Below.refl _ _⟩
  intro y hy _
  exfalso
  rcases itoa_cases y with ⟨_, h2⟩ | ⟨_, h2⟩
  · rw [h2] at hy; cases hy
  · rw [h2] at hy; exact digits_ne _ hy

theorem l01Num_any (s : ByteArray) (w : World) (hs : s.size ≤ 60) : Calls Tryd.prog 34 #[.string s] w (NumR s.data.toList w) := by
  by_cases h0 : 0 < s.size
  · by_cases hm : s[0] = 45
    · exact l01Num_neg s w hs h0 hm
    · exact l01Num_pos s w hs h0 hm
  · have : s = ByteArray.empty := ByteArray.size_eq_zero_iff.1 (by omega)
    subst this
    exact l01Num_nil w
end Go.Proofs.YtdipkbgfkbmfnaaDoor.num
