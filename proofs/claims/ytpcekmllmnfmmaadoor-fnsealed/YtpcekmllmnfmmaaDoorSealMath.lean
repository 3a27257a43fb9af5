/-
  THE MATHEMATICS OF SEALS: behind the seal of a text there is none; a text is sealed in one way alone.
  No condition.
-/
import Derived.Test.YtpcekmllmnfmmaaDoorCrcMath
import Derived.Lib.LastIndexLaws
import Derived.Lib.ItoaNum
import Derived.Lib.ItoaLen
namespace Go.Proofs.YtpcekmllmnfmmaaDoor.crc
theorem dg_ne (u j : Nat) : Lib.dg u j ≠ 115 := by
  intro h
  have h2 := congrArg UInt8.toNat h
  unfold Lib.dg at h2
  rw [UInt8.toNat_ofNat_of_lt' (by simp [UInt8.size]; omega)] at h2
  have : (115 : UInt8).toNat = 115 := rfl
  omega
theorem nd_le : ∀ (k u : Nat), u < 10 ^ (k + 1) → Lib.nDigits u ≤ k + 1
  | 0, u, h => by rw [Lib.nDigits_small (by omega)]; omega
  | k + 1, u, h => by
    by_cases h1 : u < 10
    · rw [Lib.nDigits_small h1]; omega
    · rw [Lib.nDigits_big h1]
      have := nd_le k (u / 10) (Nat.div_lt_of_lt_mul (by rw [Nat.pow_succ] at h; omega))
      omega
theorem dec_len10 {u : Nat} (h : u < 4294967296) : 1 ≤ (Lib.decDigits u).length ∧ (Lib.decDigits u).length ≤ 10 := by
  rw [Lib.decDigits_length]
  exact ⟨Lib.nDigits_pos u, nd_le 9 u (by omega)⟩
def sumW : List UInt8 := [115, 117, 109, 32]
/-- The seal of a text. -/
def sealT (l : List UInt8) : List UInt8 := sumW ++ (Lib.itoa (crcN l : Nat) ++ [10])
theorem dec_byte : ∀ (u : Nat), ∀ b ∈ Lib.decDigits u, b ≠ 115
  | u => by
    intro b hb
    rw [Lib.decDigits_eq] at hb
    obtain ⟨t, _, rfl⟩ := List.mem_map.1 hb
    exact dg_ne _ _
theorem seal_ne {l : List UInt8} {i : Nat} (h0 : 1 ≤ i) : (sealT l)[i]? ≠ some 115 := by
  intro h
  unfold sealT sumW at h
  match i, h0, h with
  | 1, _, h => simp at h
  | 2, _, h => simp at h
  | 3, _, h => simp at h
  | i + 4, _, h =>
    have h2 : (Lib.itoa (crcN l : Nat) ++ [10])[i]? = some 115 := by simpa using h
    have hm := List.mem_of_getElem? h2
    rcases List.mem_append.1 hm with hm | hm
    · rw [show Lib.itoa ((crcN l : Nat) : Int) = Lib.decDigits (crcN l) from by unfold Lib.itoa; rw [if_neg (by omega)]; simp] at hm
      exact dec_byte _ _ hm rfl
    · simp at hm
theorem seal_occ {l : List UInt8} {n : Nat} (h : l.drop n = sealT (l.take n)) : Lib.occAt l sumW n = true := by
  unfold Lib.occAt
  rw [h]
  unfold sealT
  simp
/-- Behind the last seal there is none. -/
theorem seal_last {l : List UInt8} {n : Nat} (h : l.drop n = sealT (l.take n)) : Lib.lastIndex l sumW = n := by
  have hl : 5 ≤ (l.drop n).length := by rw [h]; unfold sealT sumW; simp
  rw [List.length_drop] at hl
  have ho := seal_occ h
  unfold Lib.lastIndex
  rw [if_pos (by show 4 ≤ _; omega)]
  have hk : n < l.length - sumW.length + 1 := by show n < l.length - 4 + 1; omega
  rcases Lib.lastOcc_spec l sumW (l.length - sumW.length + 1) with ⟨_, hno⟩ | ⟨i, hi, he, hoc, hno⟩
  · rw [hno n hk] at ho; cases ho
  · rw [he]
    rcases Nat.lt_trichotomy i n with hlt | rfl | hgt
    · rw [hno n hlt hk] at ho; cases ho
    · rfl
    · exfalso
      unfold Lib.occAt at hoc
      have e : l.drop i = (l.drop n).drop (i - n) := by rw [List.drop_drop]; congr 1; omega
      rw [e, h] at hoc
      have : (sealT (l.take n))[i - n]? = some 115 := by
        have hd : ((sealT (l.take n)).drop (i - n))[0]? = some 115 := by
          cases hq : (sealT (l.take n)).drop (i - n) with
          | nil => rw [hq] at hoc; simp [sumW] at hoc
          | cons b r => rw [hq] at hoc; simp [sumW] at hoc; simp [← hoc.1]
        rw [List.getElem?_drop] at hd
        simpa using hd
      exact seal_ne (by omega) this
/-- Unsealed. -/
def unsD (l : List UInt8) : Option (List UInt8) := if 0 ≤ Lib.lastIndex l sumW ∧ l.drop (Lib.lastIndex l sumW).toNat = sealT (l.take (Lib.lastIndex l sumW).toNat) then some (l.take (Lib.lastIndex l sumW).toNat) else none
theorem unsD_some {l : List UInt8} {n : Nat} (h : l.drop n = sealT (l.take n)) : unsD l = some (l.take n) := by
  unfold unsD
  rw [seal_last h]
  simp [h]
theorem unsD_none {l : List UInt8} (h : ∀ n, l.drop n ≠ sealT (l.take n)) : unsD l = none := by
  unfold unsD
  rw [if_neg (fun hh => h _ hh.2)]
theorem unsD_seal (l : List UInt8) : unsD (l ++ sealT l) = some l := by
  have := unsD_some (l := l ++ sealT l) (n := l.length) (by simp)
  simpa using this
theorem unsD_inv {l x : List UInt8} (h : unsD l = some x) : l = x ++ sealT x := by
  unfold unsD at h
  split at h
  · rename_i hh
    cases h
    conv => lhs; rw [← List.take_append_drop (Lib.lastIndex l sumW).toNat l, hh.2]
  · cases h
theorem sealed_eq {l : List UInt8} {n : Nat} : l.take n ++ sealT (l.take n) = l ↔ l.drop n = sealT (l.take n) := by
  constructor
  · intro h
    have h2 : l.take n ++ sealT (l.take n) = l.take n ++ l.drop n := by rw [h, List.take_append_drop]
    exact (List.append_cancel_left h2).symm
  · intro h
    rw [← h, List.take_append_drop]
theorem sealT_len (l : List UInt8) : 6 ≤ (sealT l).length ∧ (sealT l).length ≤ 15 := by
  have hc := crcN_lt l
  unfold sealT sumW
  rw [show Lib.itoa ((crcN l : Nat) : Int) = Lib.decDigits (crcN l) from by unfold Lib.itoa; rw [if_neg (by omega)]; simp]
  have h1 := dec_len10 hc
  simp
  omega
end Go.Proofs.YtpcekmllmnfmmaaDoor.crc
