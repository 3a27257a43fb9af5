/-
  PLAIN MATHEMATICS OF WORDS AND NUMERALS (no program): a text's words, a blank between each two; what SplitN gives of them; that a numeral is read as it was written.
-/
import Derived.Lib.Split
import Derived.Lib.AtoiTie
import Derived.Lib.ItoaNum
import Derived.Lib.ItoaLen
namespace Go.Proofs.YtdipkbgfkbmfnaaDoor.num

/-- The words of a text: an empty one where two blanks meet. -/
def words : List UInt8 → List (List UInt8)
  | [] => [[]]
  | c :: r => if c = 32 then [] :: words r else match words r with
    | [] => [[c]]
    | x :: xs => (c :: x) :: xs

theorem words_ne (l : List UInt8) : words l ≠ [] := by
  cases l with
  | nil => simp [words]
  | cons c r =>
    unfold words
    split
    · simp
    · split <;> simp

theorem words_blank (r : List UInt8) : words (32 :: r) = [] :: words r := by simp [words]
theorem words_cons {c : UInt8} {r x : List UInt8} {xs : List (List UInt8)} (hc : c ≠ 32) (h : words r = x :: xs) : words (c :: r) = (c :: x) :: xs := by
  simp [words, hc, h]

/-- A word, a blank, and the rest. -/
theorem words_word {x : List UInt8} (hx : 32 ∉ x) (r : List UInt8) : words (x ++ 32 :: r) = x :: words r := by
  induction x with
  | nil => exact words_blank r
  | cons c x ih =>
    have hc : c ≠ 32 := fun e => hx (by simp [e])
    exact words_cons hc (ih (fun h => hx (by simp [h])))
theorem words_one {x : List UInt8} (hx : 32 ∉ x) : words x = [x] := by
  induction x with
  | nil => rfl
  | cons c x ih =>
    have hc : c ≠ 32 := fun e => hx (by simp [e])
    exact words_cons hc (ih (fun h => hx (by simp [h])))

theorem words_length (l : List UInt8) : (words l).length ≤ l.length + 1 := by
  induction l with
  | nil => simp [words]
  | cons c r ih =>
    by_cases hc : c = 32
    · subst hc; rw [words_blank]; simp; omega
    · cases h : words r with
      | nil => exact absurd h (words_ne r)
      | cons x xs => rw [words_cons hc h]; rw [h] at ih; simp at ih ⊢; omega

theorem words_le (l : List UInt8) : ∀ x ∈ words l, x.length ≤ l.length := by
  induction l with
  | nil => simp [words]
  | cons c r ih =>
    by_cases hc : c = 32
    · subst hc; rw [words_blank]
      intro x hx
      rcases List.mem_cons.1 hx with rfl | hx
      · simp
      · have := ih x hx; simp; omega
    · cases h : words r with
      | nil => exact absurd h (words_ne r)
      | cons y ys =>
        rw [words_cons hc h]
        rw [h] at ih
        intro x hx
        rcases List.mem_cons.1 hx with rfl | hx
        · have := ih y (by simp); simp; omega
        · have := ih x (by simp [hx]); simp; omega

/-- A text is its first word, or its first word, a blank and the rest. -/
theorem first_word (l : List UInt8) : (32 ∉ l) ∨ ∃ x r, l = x ++ 32 :: r ∧ 32 ∉ x := by
  induction l with
  | nil => exact .inl (by simp)
  | cons c l ih =>
    by_cases hc : c = 32
    · subst hc; exact .inr ⟨[], l, rfl, by simp⟩
    · rcases ih with h | ⟨x, r, e, hx⟩
      · exact .inl (by simp [h, Ne.symm hc])
      · exact .inr ⟨c :: x, r, by rw [e]; rfl, by simp [hx, Ne.symm hc]⟩

theorem index_hit {x : List UInt8} (hx : 32 ∉ x) (r : List UInt8) : Lib.index (x ++ 32 :: r) [32] = x.length := by
  induction x with
  | nil => simp [Lib.index, List.isPrefixOf]
  | cons c x ih =>
    have hc : c ≠ 32 := fun e => hx (by simp [e])
    have ih := ih (fun h => hx (by simp [h]))
    rw [List.cons_append, Lib.index, if_neg (by simp [List.isPrefixOf, Ne.symm hc]), ih, if_neg (by simp)]
    simp
theorem index_miss {x : List UInt8} (hx : 32 ∉ x) : Lib.index x [32] = -1 := by
  induction x with
  | nil => simp [Lib.index]
  | cons c x ih =>
    have hc : c ≠ 32 := fun e => hx (by simp [e])
    have ih := ih (fun h => hx (by simp [h]))
    rw [Lib.index, if_neg (by simp [List.isPrefixOf, Ne.symm hc]), ih]
    rfl

theorem splitK_miss {x : List UInt8} (hx : 32 ∉ x) (k : Nat) : Lib.splitK [32] 0 k x = [x] := by
  cases k with
  | zero => rfl
  | succ k => rw [Lib.splitK, if_pos (by rw [index_miss hx]; rfl)]
theorem splitK_hit {x : List UInt8} (hx : 32 ∉ x) (r : List UInt8) (k : Nat) : Lib.splitK [32] 0 (k + 1) (x ++ 32 :: r) = x :: Lib.splitK [32] 0 k r := by
  rw [Lib.splitK, if_neg (by rw [index_hit hx]; simp), index_hit hx]
  simp

/-- What SplitN at a blank gives, as many pieces as words; all the words, where there are no more than it may cut. -/
theorem splitK_length : ∀ (k : Nat) (l : List UInt8), (Lib.splitK [32] 0 k l).length = min (words l).length (k + 1)
  | 0, l => by
    have := words_ne l
    have : 0 < (words l).length := List.length_pos_iff.2 this
    simp [Lib.splitK]; omega
  | k + 1, l => by
    rcases first_word l with h | ⟨x, r, rfl, hx⟩
    · rw [splitK_miss h, words_one h]; simp
    · rw [splitK_hit hx, words_word hx, List.length_cons, List.length_cons, splitK_length k r]; omega
theorem splitK_words : ∀ (k : Nat) (l : List UInt8), (words l).length ≤ k + 1 → Lib.splitK [32] 0 k l = words l
  | 0, l, h => by
    rcases first_word l with h' | ⟨x, r, rfl, hx⟩
    · rw [words_one h']; rfl
    · rw [words_word hx] at h
      have h2 : 0 < (words r).length := List.length_pos_iff.2 (words_ne r)
      rw [List.length_cons] at h; omega
  | k + 1, l, h => by
    rcases first_word l with h' | ⟨x, r, rfl, hx⟩
    · rw [splitK_miss h', words_one h']
    · rw [words_word hx] at h ⊢
      rw [splitK_hit hx, splitK_words k r (by simpa using h)]

/-- What SplitN(s, " ", 5) gives: four pieces just where there are four words, and then these. -/
theorem split5 (l : List UInt8) : ((Lib.splitK [32] 0 (min 5 (l.length + 1) - 1) l).length = 4 ↔ (words l).length = 4) ∧ ((words l).length = 4 → Lib.splitK [32] 0 (min 5 (l.length + 1) - 1) l = words l) := by
  have hl := words_length l
  have h0 : 0 < (words l).length := List.length_pos_iff.2 (words_ne l)
  refine ⟨?_, fun h => splitK_words _ _ (by omega)⟩
  rw [splitK_length]
  omega

/-! ### Numerals -/

theorem decFrom_snoc : ∀ (l : List UInt8) (acc n : Nat) (b : UInt8) (d : Nat), Lib.decFrom acc l = some n → Lib.digitVal b = some d → Lib.decFrom acc (l ++ [b]) = some (n * 10 + d)
  | [], acc, n, b, d, h, hd => by
    simp only [Lib.decFrom, Option.some.injEq] at h
    subst h
    simp [Lib.decFrom, hd]
  | a :: l, acc, n, b, d, h, hd => by
    simp only [Lib.decFrom, List.cons_append] at h ⊢
    cases ha : Lib.digitVal a with
    | none => simp [ha] at h
    | some e =>
      simp only [ha] at h ⊢
      exact decFrom_snoc l _ n b d h hd

theorem digit_of {k : Nat} (h : k < 10) : Lib.digitVal (UInt8.ofNat (48 + k)) = some k := by
  unfold Lib.digitVal
  rw [UInt8.toNat_ofNat_of_lt' (by simp [UInt8.size]; omega), if_pos (by omega)]
  simp

theorem decFrom_digits (u : Nat) : Lib.decFrom 0 (Lib.decDigits u) = some u := by
  induction u using Nat.strongRecOn with
  | _ u ih =>
    by_cases h : u < 10
    · rw [Lib.decDigits_one h]
      simp only [Lib.decFrom, digit_of h]
      congr 1; omega
    · rw [Lib.decDigits, dif_neg h]
      have := decFrom_snoc _ 0 _ _ _ (ih (u / 10) (by omega)) (digit_of (k := u % 10) (by omega))
      rw [this]
      congr 1; omega

theorem digits_ne (u : Nat) : Lib.decDigits u ≠ [] := by
  by_cases h : u < 10
  · rw [Lib.decDigits_one h]; simp
  · rw [Lib.decDigits, dif_neg h]; simp

/-- Every byte of a numeral's digits is a digit. -/
theorem digits_mem (u : Nat) : ∀ c ∈ Lib.decDigits u, 48 ≤ c.toNat ∧ c.toNat ≤ 57 := by
  induction u using Nat.strongRecOn with
  | _ u ih =>
    intro c hc
    have one : ∀ k, k < 10 → 48 ≤ (UInt8.ofNat (48 + k)).toNat ∧ (UInt8.ofNat (48 + k)).toNat ≤ 57 := fun k hk => by
      rw [UInt8.toNat_ofNat_of_lt' (by simp [UInt8.size]; omega)]; omega
    by_cases h : u < 10
    · rw [Lib.decDigits_one h] at hc
      simp only [List.mem_singleton] at hc
      rw [hc]; exact one u h
    · rw [Lib.decDigits, dif_neg h] at hc
      rcases List.mem_append.1 hc with hc | hc
      · exact ih (u / 10) (by omega) c hc
      · simp only [List.mem_singleton] at hc
        rw [hc]; exact one (u % 10) (by omega)

theorem itoa_cases (n : Int) : (n < 0 ∧ Lib.itoa n = 45 :: Lib.decDigits n.natAbs) ∨ (0 ≤ n ∧ Lib.itoa n = Lib.decDigits n.natAbs) := by
  unfold Lib.itoa
  by_cases h : n < 0
  · exact .inl ⟨h, by rw [if_pos h]⟩
  · refine .inr ⟨by omega, ?_⟩
    rw [if_neg h, show n.toNat = n.natAbs by omega]

theorem itoa_blank (n : Int) : 32 ∉ Lib.itoa n := by
  intro h
  rcases itoa_cases n with ⟨_, e⟩ | ⟨_, e⟩
  · rw [e] at h
    rcases List.mem_cons.1 h with h | h
    · simp at h
    · have := digits_mem _ _ h; simp at this
  · rw [e] at h
    have := digits_mem _ _ h; simp at this

/-- A numeral is read as it was written. -/
theorem atoi_itoa (n : Int) : Lib.atoi (Lib.itoa n) = some n := by
  have hd : Lib.decNat (Lib.decDigits n.natAbs) = some n.natAbs := by
    unfold Lib.decNat
    rw [if_neg (by simp [digits_ne]), decFrom_digits]
  rcases itoa_cases n with ⟨h, e⟩ | ⟨h, e⟩
  · rw [e]
    simp only [Lib.atoi, beq_self_eq_true, if_true, hd, Option.map_some, Option.some.injEq]
    omega
  · rw [e]
    cases hl : Lib.decDigits n.natAbs with
    | nil => exact absurd hl (digits_ne _)
    | cons c r =>
      have hc := digits_mem n.natAbs c (by rw [hl]; simp)
      have h1 : ¬ (c == 45) = true := by intro h; have := beq_iff_eq.1 h; subst this; simp at hc
      have h2 : ¬ (c == 43) = true := by intro h; have := beq_iff_eq.1 h; subst this; simp at hc
      rw [hl] at hd
      rw [Lib.atoi, if_neg h1, if_neg h2, hd]
      simp only [Option.map_some, Option.some.injEq]
      omega

theorem atoiAll_itoa {n : Int} (h : (Lib.itoa n).length ≤ 18) : Lib.atoiAll (Lib.itoa n) = .ok n := by
  rw [Lib.atoiAll_short _ h, atoi_itoa]; rfl

theorem itoa_inj {n m : Int} (h : Lib.itoa n = Lib.itoa m) : n = m := by
  have h1 := atoi_itoa n
  rw [h, atoi_itoa m] at h1
  exact (Option.some.inj h1).symm

/-- The number that a word is in its one form, as the program reads it. -/
def numA (l : List UInt8) : Option Int := match Lib.atoiAll l with
  | .ok v => if Lib.itoa v = l then some v else none
  | _ => none

theorem numA_some {l : List UInt8} {v : Int} (h : numA l = some v) : Lib.itoa v = l := by
  unfold numA at h
  split at h
  · split at h
    · rename_i e; cases h; exact e
    · cases h
  · cases h
theorem numA_itoa {n : Int} (h : (Lib.itoa n).length ≤ 18) : numA (Lib.itoa n) = some n := by
  unfold numA; rw [atoiAll_itoa h]; simp

end Go.Proofs.YtdipkbgfkbmfnaaDoor.num
