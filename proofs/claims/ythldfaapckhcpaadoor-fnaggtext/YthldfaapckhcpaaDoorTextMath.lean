/-
  A TEXT AND ITS WORDS: a text is its words with a blank between each two; the words of an aggregate's text are its four numerals.
-/
import Derived.Test.YthldfaapckhcpaaDoorSpecRead
namespace Go.Proofs.YthldfaapckhcpaaDoor.num
open Go.RowKit
open Go.Proofs.YthldfaapckhcpaaDoor.agg (okB)

def joinW : List (List UInt8) → List UInt8
  | [] => []
  | [x] => x
  | x :: y :: r => x ++ 32 :: joinW (y :: r)

theorem joinW_words (l : List UInt8) : joinW (words l) = l := by
  induction l with
  | nil => rfl
  | cons c r ih =>
    cases h : words r with
    | nil => exact absurd h (words_ne r)
    | cons x xs =>
      rw [h] at ih
      by_cases hc : c = 32
      · subst hc
        rw [words_blank, h]
        show [] ++ 32 :: joinW (x :: xs) = 32 :: r
        rw [ih]; rfl
      · rw [words_cons hc h]
        cases xs with
        | nil => show c :: x = c :: r; rw [show x = r from ih]
        | cons y ys =>
          show c :: x ++ 32 :: joinW (y :: ys) = c :: r
          have : x ++ 32 :: joinW (y :: ys) = r := ih
          rw [← this]; rfl

theorem words_text {a b c d : Int} (h : okB a b c d = true) : words (aggText a b c d) = [Lib.itoa a, Lib.itoa b, Lib.itoa c, Lib.itoa d] := by
  unfold aggText
  rw [if_pos h]
  show words (Lib.itoa a ++ 32 :: (Lib.itoa b ++ 32 :: (Lib.itoa c ++ 32 :: Lib.itoa d))) = _
  rw [words_word (itoa_blank a), words_word (itoa_blank b), words_word (itoa_blank c), words_one (itoa_blank d)]

theorem text_of_words {l : List UInt8} {a b c d : Int} (h : okB a b c d = true) (hw : words l = [Lib.itoa a, Lib.itoa b, Lib.itoa c, Lib.itoa d]) : aggText a b c d = l := by
  rw [← joinW_words l, hw, ← joinW_words (aggText a b c d), words_text h]

/-- What is accepted is the text of what is read. -/
theorem acc_text {l : List UInt8} (h : acc (words l) = true) : aggText (got (words l) 0) (got (words l) 1) (got (words l) 2) (got (words l) 3) = l := by
  obtain ⟨a, b, c, d, hw, ho⟩ := acc_yes h
  obtain ⟨_, v0, v1, v2, v3⟩ := acc_four ho
  rw [← hw] at v0 v1 v2 v3
  simp only [got, h, if_true, v0, v1, v2, v3]
  exact text_of_words ho hw
/-- An aggregate's text is accepted, and read as it was. -/
theorem text_acc {a b c d : Int} (h : okB a b c d = true) : acc (words (aggText a b c d)) = true ∧ got (words (aggText a b c d)) 0 = a ∧ got (words (aggText a b c d)) 1 = b ∧ got (words (aggText a b c d)) 2 = c ∧ got (words (aggText a b c d)) 3 = d := by
  rw [words_text h]
  obtain ⟨h0, v0, v1, v2, v3⟩ := acc_four h
  exact ⟨h0, by simp [got, h0, v0], by simp [got, h0, v1], by simp [got, h0, v2], by simp [got, h0, v3]⟩
end Go.Proofs.YthldfaapckhcpaaDoor.num
