/-
  PLAIN MATHEMATICS OF STARTS (no program): rows that rise by one step; the first multiple that is not below a number; how many multiples lie in a span.
  No condition.
-/
import Derived.KernelRfl
import Derived.Test.YtoglclmaacjdaaaWinMath
namespace Go.Proofs.Ytoglclmaacjdaaa.win

/-- n numbers from a on, each l more than the one ahead. -/
def ap (a l : Int) (n : Nat) : List Int := (List.range n).map fun k : Nat => a + l * (k : Int)
theorem ap_zero (a l : Int) : ap a l 0 = [] := rfl
theorem ap_succ (a l : Int) (n : Nat) : ap a l (n + 1) = ap a l n ++ [a + l * (n : Int)] := by simp [ap, List.range_succ]
theorem ap_length (a l : Int) (n : Nat) : (ap a l n).length = n := by simp [ap]
theorem ap_prefix (a l : Int) {k n : Nat} (h : k ≤ n) : ap a l k <+: ap a l n := by
  induction n with
  | zero => obtain rfl : k = 0 := by omega
            exact List.prefix_refl _
  | succ n ih =>
    by_cases e : k = n + 1
    · subst e; exact List.prefix_refl _
    · rw [ap_succ]; exact (ih (by omega)).trans (List.prefix_append _ _)
theorem ap_getD (a l : Int) {k n : Nat} (h : k < n) : (ap a l n).getD k 0 = a + l * (k : Int) := by
  simp [ap, List.getD_eq_getElem?_getD, h]

/-- The first multiple of l that is not below t. -/
def up (l t : Int) : Int := if t % l = 0 then t else t - t % l + l

theorem up_mul {l : Int} (t : Int) : up l t % l = 0 := by
  unfold up
  split
  · assumption
  · rw [Int.add_emod_right, Int.sub_emod, Int.emod_emod, Int.sub_self, Int.zero_emod]
theorem up_bd {l : Int} (t : Int) (h : 1 ≤ l) : t ≤ up l t ∧ up l t < t + l := by
  have h1 := Int.emod_nonneg t (show l ≠ 0 by omega)
  have h2 := Int.emod_lt_of_pos t (show 0 < l by omega)
  unfold up
  split <;> omega
theorem up_self {l t : Int} (h : t % l = 0) : up l t = t := by simp [up, h]

/-- What Go's remainder makes of it. -/
theorem up_rem {l t d : Int} (h : 1 ≤ l) (hd : t.tmod l = d) : (0 < d → up l t = t - (d - l)) ∧ (d ≤ 0 → up l t = t - d) := by
  have h1 := Int.emod_nonneg t (show l ≠ 0 by omega)
  have h2 := Int.emod_lt_of_pos t (show 0 < l by omega)
  have hz := tmod_zero t (l := l)
  rw [Int.tmod_eq_emod] at hd
  have hn : (l.natAbs : Int) = l := by omega
  by_cases ht : 0 ≤ t
  · rw [if_pos (.inl ht)] at hd
    unfold up
    constructor <;> intro h3 <;> split <;> omega
  · by_cases hdv : l ∣ t
    · rw [if_pos (.inr hdv)] at hd
      have := Int.emod_eq_zero_of_dvd hdv
      unfold up
      constructor <;> intro h3 <;> split <;> omega
    · rw [if_neg (by rintro (h | h); exact ht h; exact hdv h), hn] at hd
      have h4 : ¬ t % l = 0 := fun e => hdv (Int.dvd_of_emod_eq_zero e)
      unfold up
      rw [if_neg h4]
      constructor <;> intro h3 <;> omega

/-- Row a, a + l, .. ends where it comes to fin: just m of them lie ahead of fin. -/
def Ends (a l fin : Int) (m : Nat) : Prop := fin ≤ a + l * (m : Int) ∧ ∀ k : Nat, k < m → a + l * (k : Int) < fin

theorem mul_le {l : Int} (h : 1 ≤ l) {j k : Nat} (hjk : j ≤ k) : l * (j : Int) ≤ l * (k : Int) :=
  Int.mul_le_mul_of_nonneg_left (by omega) (by omega)

/-- Behind j of them, one is just at or past fin where j is m. -/
theorem Ends.iff {a l fin : Int} {m : Nat} (h : Ends a l fin m) (hl : 1 ≤ l) (j : Nat) : a + l * (j : Int) < fin ↔ j < m := by
  constructor
  · intro hj
    apply Classical.byContradiction
    intro hn
    have := mul_le hl (show m ≤ j by omega)
    have := h.1
    omega
  · exact h.2 j

theorem Ends.le {a l fin fin' : Int} {m j : Nat} (h : Ends a l fin m) (h' : Ends a l fin' j) (hf : fin' ≤ fin) : j ≤ m := by
  apply Classical.byContradiction
  intro hn
  have := h'.2 m (by omega)
  have := h.1
  omega
theorem Ends.unique {a l fin : Int} {m j : Nat} (h : Ends a l fin m) (h' : Ends a l fin j) : j = m := by
  have := h.le h' (Int.le_refl _)
  have := h'.le h (Int.le_refl _)
  omega
theorem mul_succ (l : Int) (j : Nat) : l * ((j + 1 : Nat) : Int) = l * (j : Int) + l := by rw [Int.natCast_add, Int.mul_add]; simp
/-- One moment more: it is a start, or it is none. -/
theorem Ends.hit {a l cur : Int} {j : Nat} (h : Ends a l cur j) (hl : 1 ≤ l) (ha : a % l = 0) (hlow : a + l * (j : Int) - l < cur) (hc : cur % l = 0) : cur = a + l * (j : Int) ∧ Ends a l (cur + 1) (j + 1) ∧ a + l * ((j + 1 : Nat) : Int) - l < cur + 1 := by
  have h1 := h.1
  have e : cur = a + l * (j : Int) := by
    have d1 : l ∣ cur := Int.dvd_of_emod_eq_zero hc
    have d2 : l ∣ a + l * (j : Int) := Int.dvd_add (Int.dvd_of_emod_eq_zero ha) (Int.dvd_mul_right _ _)
    have d3 := Int.dvd_sub d2 d1
    have d4 := Int.emod_eq_zero_of_dvd d3
    rw [Int.emod_eq_of_lt (by omega) (by omega)] at d4
    omega
  have hs := mul_succ l j
  refine ⟨e, ⟨by omega, fun k hk => ?_⟩, by omega⟩
  have := mul_le hl (show k ≤ j by omega)
  omega
theorem Ends.miss {a l cur : Int} {j : Nat} (h : Ends a l cur j) (ha : a % l = 0) (hc : ¬ cur % l = 0) : Ends a l (cur + 1) j := by
  have h1 := h.1
  have : cur ≠ a + l * (j : Int) := by
    intro e
    apply hc
    rw [e, Int.add_mul_emod_self_left]; exact ha
  exact ⟨by omega, fun k hk => by have := h.2 k hk; omega⟩

/-- A span of m slides from one moment on has m starts. -/
theorem ends_span {l z fr : Int} (hl : 1 ≤ l) {m : Nat} (hz : z = l * (m : Int)) : Ends (up l fr) l (fr + z) m := by
  obtain ⟨b1, b2⟩ := up_bd fr hl
  constructor
  · omega
  · intro k hk
    have h1 := mul_le hl (show k + 1 ≤ m by omega)
    have h2 : l * ((k + 1 : Nat) : Int) = l * (k : Int) + l := by rw [Int.natCast_add, Int.mul_add]; simp
    omega

theorem win_slides {z l : Int} (h : WinP z l) : ∃ m : Nat, z / l = (m : Int) ∧ z = l * (m : Int) ∧ 1 ≤ m ∧ m ≤ 12 := by
  obtain ⟨h1, h2, h3, h4, h5, h6⟩ := h
  have h7 : 0 ≤ z / l := Int.ediv_nonneg (by omega) (by omega)
  refine ⟨(z / l).toNat, by omega, ?_, ?_, by omega⟩
  · have := Int.mul_ediv_add_emod z l
    have h8 : ((z / l).toNat : Int) = z / l := by omega
    rw [h8]; omega
  · apply Classical.byContradiction
    intro hn
    have h8 : z / l = 0 := by omega
    have := Int.mul_ediv_add_emod z l
    rw [h8] at this
    simp at this
    omega

/-- The starts of a kind of windows that a moment is in. -/
def startsV (z l t : Int) : List Int := if WinP z l ∧ (-100000 ≤ t ∧ t ≤ 100000) then ap (up l (t - z + 1)) l (z / l).toNat else []

/-- The parts of a window that begins at s. -/
def PartP (z l z' l' s : Int) : Prop := (WinP z l ∧ WinP z' l' ∧ l = z ∧ l' % l = 0) ∧ s % l' = 0 ∧ -200000 ≤ s ∧ s ≤ 200000
instance (z l z' l' s : Int) : Decidable (PartP z l z' l' s) := by unfold PartP; infer_instance
def partsV (z l z' l' s : Int) : List Int := if PartP z l z' l' s then ap s z (z' / z).toNat else []

theorem part_slides {z l z' l' s : Int} (h : PartP z l z' l' s) : ∃ m : Nat, z' / z = (m : Int) ∧ z' = z * (m : Int) ∧ 1 ≤ m ∧ m ≤ 20000 ∧ s % l = 0 := by
  obtain ⟨⟨⟨a1, a2, a3, a4, a5, a6⟩, ⟨b1, b2, b3, b4, b5, b6⟩, rfl, hd⟩, hs, s1, s2⟩ := h
  have d1 : l ∣ l' := Int.dvd_of_emod_eq_zero hd
  have d2 : l' ∣ z' := Int.dvd_of_emod_eq_zero b5
  have d3 : l ∣ z' := Int.dvd_trans d1 d2
  have d4 : l ∣ s := Int.dvd_trans d1 (Int.dvd_of_emod_eq_zero hs)
  have e := Int.mul_ediv_cancel' d3
  have h7 : 0 ≤ z' / l := Int.ediv_nonneg (by omega) (by omega)
  have h8 : z' / l ≤ z' := by
    have := Int.mul_le_mul_of_nonneg_right (show 1 ≤ l by omega) h7
    omega
  refine ⟨(z' / l).toNat, by omega, ?_, ?_, by omega, Int.emod_eq_zero_of_dvd d4⟩
  · have h9 : ((z' / l).toNat : Int) = z' / l := by omega
    rw [h9]; omega
  · apply Classical.byContradiction
    intro hn
    have h9 : z' / l = 0 := by omega
    rw [h9] at e
    simp at e
    omega

end Go.Proofs.Ytoglclmaacjdaaa.win
