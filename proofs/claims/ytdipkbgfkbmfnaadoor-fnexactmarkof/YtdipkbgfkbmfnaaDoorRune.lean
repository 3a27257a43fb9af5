/-
  A RANGE OVER A STRING BY RUNES, AND BLANKS: a byte that is a blank is a rune of its own, and no rune that is none steps over one.
-/
import Derived.Laws.RangeAny
import Derived.Lib.OthersKept
namespace Go.Proofs.YtdipkbgfkbmfnaaDoor.dat
open Go

theorem get_byte (s : ByteArray) (i : Nat) (h : i < s.size) : s.get! i = s[i]'h := by
  simp [ByteArray.get!, getElem!_pos, h]
  rfl
/-- A rune that begins with a byte from 128 on: none of its bytes is a blank, and it ends within the text. -/
theorem rune_high (s : ByteArray) (pos : Nat) (h : pos < s.size) (ha : 128 ≤ (s[pos]'h).toNat) :
    1 ≤ (Utf8.decode s pos).2 ∧ pos + (Utf8.decode s pos).2 ≤ s.size ∧ ∀ k, k < (Utf8.decode s pos).2 → (s.get! (pos + k)).toNat ≠ 32 := by
  have hn : ¬ (s[pos]'h).toNat < 128 := by omega
  have h0 : s.get! (pos + 0) = s[pos]'h := get_at s pos h
  have hz : (s.get! (pos + 0)).toNat ≠ 32 := by rw [h0]; omega
  simp only [Utf8.decode, h0, hn, if_false]
  repeat' split
  all_goals (
    refine ⟨by omega, by simp_all; try omega, fun k hk => ?_⟩
    have hk' : k = 0 ∨ k = 1 ∨ k = 2 ∨ k = 3 := by simp only at hk; omega
    rcases hk' with rfl | rfl | rfl | rfl <;> first | exact hz | (simp_all; omega) | (simp_all))
end Go.Proofs.YtdipkbgfkbmfnaaDoor.dat
