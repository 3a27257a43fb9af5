/-
  PLAIN MATHEMATICS OF AGGREGATES (no program): when four numbers are an aggregate, what joining gives, and that joining is commutative and associative.
  No condition.
-/
import Derived.KernelRfl
namespace Go.Proofs.Ytoglclmaacjdaaa.agg

def isVal (v : Int) : Bool := decide (-1000000 ≤ v) && decide (v ≤ 1000000)

theorem isVal_iff (v : Int) : isVal v = true ↔ -1000000 ≤ v ∧ v ≤ 1000000 := by simp [isVal]
theorem isVal_not (v : Int) : isVal v = false ↔ v < -1000000 ∨ 1000000 < v := by
  rw [← Bool.not_eq_true, isVal_iff]; omega

/-- Four numbers are an aggregate. -/
def OkP (n s mn mx : Int) : Prop :=
  (n = 0 ∧ s = 0 ∧ mn = 0 ∧ mx = 0) ∨
  (n = 1 ∧ -1000000 ≤ mn ∧ mn ≤ 1000000 ∧ mx = mn ∧ s = mn) ∨
  (2 ≤ n ∧ n ≤ 1000 ∧ -1000000 ≤ mn ∧ mn ≤ mx ∧ mx ≤ 1000000 ∧ (n - 1) * mn + mx ≤ s ∧ s ≤ (n - 1) * mx + mn)

instance (n s mn mx : Int) : Decidable (OkP n s mn mx) := by unfold OkP; infer_instance

def okB (n s mn mx : Int) : Bool := decide (OkP n s mn mx)

theorem okB_iff (n s mn mx : Int) : okB n s mn mx = true ↔ OkP n s mn mx := by simp [okB]
theorem okB_not (n s mn mx : Int) : okB n s mn mx = false ↔ ¬ OkP n s mn mx := by simp [okB]

/-- A product of a count and a value stays small. -/
theorem mul_bd {k v : Int} (h0 : 0 ≤ k) (h1 : k ≤ 1000) (h2 : -1000000 ≤ v) (h3 : v ≤ 1000000) : -1000000000 ≤ k * v ∧ k * v ≤ 1000000000 := by
  have a1 := Int.mul_le_mul_of_nonneg_left h3 h0
  have a2 := Int.mul_le_mul_of_nonneg_left h2 h0
  omega

theorem ok_bds {n s mn mx : Int} (h : OkP n s mn mx) : 0 ≤ n ∧ n ≤ 1000 ∧ -2000000000 ≤ s ∧ s ≤ 2000000000 ∧ -1000000 ≤ mn ∧ mn ≤ mx ∧ mx ≤ 1000000 := by
  rcases h with h | h | ⟨h1, h2, h3, h4, h5, h6, h7⟩
  · omega
  · omega
  · have a := mul_bd (k := n - 1) (v := mn) (by omega) (by omega) h3 (by omega)
    have b := mul_bd (k := n - 1) (v := mx) (by omega) (by omega) (by omega) h5
    omega

/-- The four numbers of an aggregate, as one thing. -/
structure Q where
  n : Int
  s : Int
  mn : Int
  mx : Int


theorem Q.ext4 {a b : Q} (h1 : a.n = b.n) (h2 : a.s = b.s) (h3 : a.mn = b.mn) (h4 : a.mx = b.mx) : a = b := by
  cases a; cases b; simp_all

def Q.Ok (a : Q) : Prop := OkP a.n a.s a.mn a.mx
def Q.ok (a : Q) : Bool := okB a.n a.s a.mn a.mx
def zero : Q := ⟨0, 0, 0, 0⟩
def ofV (v : Int) : Q := if isVal v = true then ⟨1, v, v, v⟩ else zero

/-- What two that are aggregates come to. -/
def wth (a b : Q) : Q :=
  if a.n = 0 then b else if b.n = 0 then a else ⟨a.n + b.n, a.s + b.s, min a.mn b.mn, max a.mx b.mx⟩

def JoinP (a b : Q) : Prop := a.Ok ∧ b.Ok ∧ a.n + b.n ≤ 1000
instance (a b : Q) : Decidable (JoinP a b) := by unfold JoinP Q.Ok; infer_instance
def joinB (a b : Q) : Bool := decide (JoinP a b)
def joinQ (a b : Q) : Q := if joinB a b = true then wth a b else zero

theorem ok_zero : zero.Ok := .inl ⟨rfl, rfl, rfl, rfl⟩
theorem ok_ofV (v : Int) : (ofV v).Ok := by
  unfold ofV
  split
  · rename_i h
    rw [isVal_iff] at h
    exact .inr (.inl ⟨rfl, h.1, h.2, rfl, rfl⟩)
  · exact ok_zero

theorem n0 {a : Q} (h : a.Ok) (h0 : a.n = 0) : a = zero := by
  rcases h with h | h | h
  · exact Q.ext4 h.1 h.2.1 h.2.2.1 h.2.2.2
  · omega
  · omega

/-- The bounds of a sum, over one product a value: of N values, N at least 1, at least (N - 1) Min + Max. -/
theorem ok_sum {a : Q} (h : a.Ok) (h0 : a.n ≠ 0) : (a.n - 1) * a.mn + a.mx ≤ a.s ∧ a.s ≤ (a.n - 1) * a.mx + a.mn ∧ 1 ≤ a.n ∧ a.n ≤ 1000 ∧ -1000000 ≤ a.mn ∧ a.mn ≤ a.mx ∧ a.mx ≤ 1000000 := by
  rcases h with h | ⟨h1, h2, h3, h4, h5⟩ | ⟨h1, h2, h3, h4, h5, h6, h7⟩
  · exact absurd h.1 h0
  · rw [h1, h4, h5]; omega
  · exact ⟨h6, h7, by omega, h2, h3, h4, h5⟩

theorem ok_mk {a : Q} (h1 : 2 ≤ a.n) (h2 : a.n ≤ 1000) (h3 : -1000000 ≤ a.mn) (h4 : a.mn ≤ a.mx) (h5 : a.mx ≤ 1000000) (h6 : (a.n - 1) * a.mn + a.mx ≤ a.s) (h7 : a.s ≤ (a.n - 1) * a.mx + a.mn) : a.Ok :=
  .inr (.inr ⟨h1, h2, h3, h4, h5, h6, h7⟩)

theorem with_lo {n m a b A B : Int} (hn : 1 ≤ n) (hm : 1 ≤ m) (hab : a ≤ A) (hbb : b ≤ B) :
    (n + m - 1) * min a b + max A B ≤ ((n - 1) * a + A) + ((m - 1) * b + B) := by
  have k1 : (n - 1) * min a b ≤ (n - 1) * a := Int.mul_le_mul_of_nonneg_left (by omega) (by omega)
  have k2 : (m - 1) * min a b ≤ (m - 1) * b := Int.mul_le_mul_of_nonneg_left (by omega) (by omega)
  have e : (n + m - 1) * min a b = (n - 1) * min a b + (m - 1) * min a b + min a b := by
    rw [show n + m - 1 = (n - 1) + (m - 1) + 1 by omega, Int.add_mul, Int.add_mul, Int.one_mul]
  rw [e]
  omega

theorem with_hi {n m a b A B : Int} (hn : 1 ≤ n) (hm : 1 ≤ m) (hab : a ≤ A) (hbb : b ≤ B) :
    ((n - 1) * A + a) + ((m - 1) * B + b) ≤ (n + m - 1) * max A B + min a b := by
  have k1 : (n - 1) * A ≤ (n - 1) * max A B := Int.mul_le_mul_of_nonneg_left (by omega) (by omega)
  have k2 : (m - 1) * B ≤ (m - 1) * max A B := Int.mul_le_mul_of_nonneg_left (by omega) (by omega)
  have e : (n + m - 1) * max A B = (n - 1) * max A B + (m - 1) * max A B + max A B := by
    rw [show n + m - 1 = (n - 1) + (m - 1) + 1 by omega, Int.add_mul, Int.add_mul, Int.one_mul]
  rw [e]
  omega

theorem ok_with {a b : Q} (ha : a.Ok) (hb : b.Ok) (h : a.n + b.n ≤ 1000) : (wth a b).Ok := by
  unfold wth
  split
  · exact hb
  · split
    · exact ha
    · rename_i h1 h2
      obtain ⟨a1, a2, a3, a4, a5, a6, a7⟩ := ok_sum ha h1
      obtain ⟨b1, b2, b3, b4, b5, b6, b7⟩ := ok_sum hb h2
      have lo := with_lo (n := a.n) (m := b.n) (a := a.mn) (b := b.mn) (A := a.mx) (B := b.mx) a3 b3 a6 b6
      have hi := with_hi (n := a.n) (m := b.n) (a := a.mn) (b := b.mn) (A := a.mx) (B := b.mx) a3 b3 a6 b6
      refine ok_mk (a := ⟨a.n + b.n, a.s + b.s, min a.mn b.mn, max a.mx b.mx⟩) ?_ ?_ ?_ ?_ ?_ ?_ ?_
      · show 2 ≤ a.n + b.n; omega
      · exact h
      · show -1000000 ≤ min a.mn b.mn; omega
      · show min a.mn b.mn ≤ max a.mx b.mx; omega
      · show max a.mx b.mx ≤ 1000000; omega
      · show (a.n + b.n - 1) * min a.mn b.mn + max a.mx b.mx ≤ a.s + b.s; omega
      · show a.s + b.s ≤ (a.n + b.n - 1) * max a.mx b.mx + min a.mn b.mn; omega

theorem with_n {a b : Q} (ha : a.Ok) (hb : b.Ok) : (wth a b).n = a.n + b.n := by
  have := ok_bds ha; have := ok_bds hb
  unfold wth; split
  · omega
  · split
    · omega
    · rfl

theorem with_s {a b : Q} (ha : a.Ok) (hb : b.Ok) : (wth a b).s = a.s + b.s := by
  unfold wth; split
  · rename_i h; rw [n0 ha h]; simp [zero]
  · split
    · rename_i h; rw [n0 hb h]; simp [zero]
    · rfl

theorem with_comm {a b : Q} (ha : a.Ok) (hb : b.Ok) : wth a b = wth b a := by
  unfold wth
  by_cases h1 : a.n = 0 <;> by_cases h2 : b.n = 0 <;> simp only [h1, h2, if_true, if_false]
  · rw [n0 ha h1, n0 hb h2]
  · exact Q.ext4 (Int.add_comm _ _) (Int.add_comm _ _) (by show min _ _ = min _ _; omega) (by show max _ _ = max _ _; omega)

theorem with_assoc {a b d : Q} (ha : a.Ok) (hb : b.Ok) (hd : d.Ok) : wth (wth a b) d = wth a (wth b d) := by
  have ba := ok_bds ha; have bb := ok_bds hb; have bd := ok_bds hd
  have e1 := with_n ha hb
  have e2 := with_n hb hd
  by_cases h1 : a.n = 0
  · have : wth a b = b := by simp [wth, h1]
    rw [this]; simp [wth, h1]
  · by_cases h2 : b.n = 0
    · have : wth a b = a := by simp [wth, h1, h2]
      rw [this]
      have : wth b d = d := by simp [wth, h2]
      rw [this]
    · by_cases h3 : d.n = 0
      · have : wth b d = b := by simp [wth, h2, h3]
        rw [this]
        have h4 : (wth a b).n ≠ 0 := by omega
        generalize wth a b = x at *
        simp [wth, h3, h4]
      · have f1 : wth a b = ⟨a.n + b.n, a.s + b.s, min a.mn b.mn, max a.mx b.mx⟩ := by simp [wth, h1, h2]
        have f2 : wth b d = ⟨b.n + d.n, b.s + d.s, min b.mn d.mn, max b.mx d.mx⟩ := by simp [wth, h2, h3]
        rw [f1, f2]
        have g1 : ¬ a.n + b.n = 0 := by omega
        have g2 : ¬ b.n + d.n = 0 := by omega
        simp only [wth, h1, h3, g1, g2, if_false]
        exact Q.ext4 (Int.add_assoc _ _ _) (Int.add_assoc _ _ _) (by show min _ _ = min _ _; omega) (by show max _ _ = max _ _; omega)

end Go.Proofs.Ytoglclmaacjdaaa.agg
