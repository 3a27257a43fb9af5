/-
  EVENTS AS TEXTS: the words of an event's text; an event is read off its text; how long a text can be.
-/
import Derived.Test.YtdipkbgfkbmfnaaDoorEventText
import Derived.Test.YtdipkbgfkbmfnaaDoorReadMath
namespace Go.Proofs.YtdipkbgfkbmfnaaDoor.dat
open Go.RowKit Go.Proofs.YtdipkbgfkbmfnaaDoor.win
open Go.Proofs.YtdipkbgfkbmfnaaDoor.num (words words_word words_one first_word itoa_blank itoa_inj itoa_cases)

theorem words_joined {x : List UInt8} (hx : 32 ∉ x) (ws : List (List UInt8)) (h : ∀ w ∈ ws, 32 ∉ w) : words (x ++ Lib.joinTail [32] ws) = x :: ws := by
  induction ws generalizing x with
  | nil => simp [Lib.joinTail]; exact words_one hx
  | cons w r ih =>
    have e : Lib.joinTail [32] (w :: r) = 32 :: (w ++ Lib.joinTail [32] r) := by simp [Lib.joinTail]
    rw [e, words_word hx, ih (h w (by simp)) (fun v hv => h v (by simp [hv]))]
theorem joined_words : ∀ (n : Nat) (l : List UInt8), l.length ≤ n → ∃ x ws, words l = x :: ws ∧ l = x ++ Lib.joinTail [32] ws
  | 0, l, h => by
    obtain rfl : l = [] := List.length_eq_zero_iff.1 (by omega)
    exact ⟨[], [], rfl, rfl⟩
  | n + 1, l, h => by
    rcases first_word l with h' | ⟨x, r, rfl, hx⟩
    · exact ⟨l, [], words_one h', by simp [Lib.joinTail]⟩
    · obtain ⟨y, ws, h1, h2⟩ := joined_words n r (by simp at h; omega)
      refine ⟨x, y :: ws, by rw [words_word hx, h1], ?_⟩
      have e : Lib.joinTail [32] (y :: ws) = 32 :: (y ++ Lib.joinTail [32] ws) := by simp [Lib.joinTail]
      rw [e, ← h2]
theorem of_words {l x : List UInt8} {ws : List (List UInt8)} (h : words l = x :: ws) : l = x ++ Lib.joinTail [32] ws := by
  obtain ⟨y, vs, h1, h2⟩ := joined_words l.length l (Nat.le_refl _)
  rw [h1] at h
  cases h
  exact h2
/-- An event's numbers in their row. -/
def evNums (e : EventD) : List Int := e.t :: (e.ds ++ [e.v])
theorem evWords_nums (e : EventD) : evWords e = (evNums e).map Lib.itoa := by simp [evWords, evNums]
theorem words_ev (e : EventD) : words (evText e) = [101] :: evWords e := by
  unfold evText
  refine words_joined (by decide) _ ?_
  rw [evWords_nums]
  intro w hw
  obtain ⟨n, _, rfl⟩ := List.mem_map.1 hw
  exact itoa_blank n
theorem map_itoa_inj : ∀ {a b : List Int}, a.map Lib.itoa = b.map Lib.itoa → a = b
  | [], [], _ => rfl
  | [], _ :: _, h => by simp at h
  | _ :: _, [], h => by simp at h
  | x :: r, y :: q, h => by
    simp only [List.map_cons, List.cons.injEq] at h
    rw [itoa_inj h.1, map_itoa_inj h.2]
theorem evNums_inj {e e' : EventD} (h : evNums e = evNums e') : e = e' := by
  obtain ⟨t, ds, v⟩ := e
  obtain ⟨t', ds', v'⟩ := e'
  simp only [evNums, List.cons.injEq] at h
  obtain ⟨rfl, h2⟩ := h
  obtain ⟨rfl, h3⟩ := List.append_inj' h2 rfl
  cases h3
  rfl
theorem evText_inj {e e' : EventD} (h : evText e = evText e') : e = e' := by
  have h1 := words_ev e
  rw [h, words_ev e', List.cons.injEq] at h1
  have h2 := h1.2
  rw [evWords_nums, evWords_nums] at h2
  exact (evNums_inj (map_itoa_inj h2)).symm
theorem ev_of_nums {s : List UInt8} {ns : List Int} (h : words s = [101] :: ns.map Lib.itoa) {e : EventD} (he : ns = evNums e) : s = evText e := by
  rw [of_words h, he, ← evWords_nums]
  rfl
/-- EventRead. -/
noncomputable def evR (c : ConfD) (s : List UInt8) : Option EventD := by
  classical
  exact if h : ∃ e, eventB c e = true ∧ evText e = s then some (Classical.choose h) else none
theorem evR_some {c : ConfD} {s : List UInt8} {e : EventD} (h1 : eventB c e = true) (h2 : evText e = s) : evR c s = some e := by
  have h : ∃ e, eventB c e = true ∧ evText e = s := ⟨e, h1, h2⟩
  unfold evR
  rw [dif_pos h]
  have := Classical.choose_spec h
  rw [evText_inj (this.2.trans h2.symm)]
theorem evR_none {c : ConfD} {s : List UInt8} (h : ∀ e, eventB c e = true → evText e ≠ s) : evR c s = none := by
  unfold evR
  rw [dif_neg]
  rintro ⟨e, h1, h2⟩
  exact h e h1 h2

theorem digits_len : ∀ (k u : Nat), u < 10 ^ (k + 1) → (Lib.decDigits u).length ≤ k + 1
  | 0, u, h => by
    rw [Lib.decDigits_one (by simpa using h)]; simp
  | k + 1, u, h => by
    by_cases hu : u < 10
    · rw [Lib.decDigits_one hu]; simp
    · rw [Lib.decDigits, dif_neg hu, List.length_append, List.length_singleton]
      have := digits_len k (u / 10) (by rw [Nat.pow_succ] at h; omega)
      omega
theorem itoa_len (n : Int) (k : Nat) (h : n.natAbs < 10 ^ (k + 1)) : (Lib.itoa n).length ≤ k + 2 := by
  have := digits_len k n.natAbs h
  rcases itoa_cases n with ⟨_, e⟩ | ⟨_, e⟩ <;> rw [e]
  · simp; omega
  · omega
theorem ev_words_len {c : ConfD} {e : EventD} (h : eventB c e = true) : ∀ x ∈ evWords e, x.length ≤ 8 := by
  obtain ⟨h1, h2, h3, h4⟩ := ev_bounds h
  intro x hx
  simp only [evWords, List.mem_cons, List.mem_append, List.mem_map, List.not_mem_nil, or_false] at hx
  rcases hx with rfl | ⟨y, hy, rfl⟩ | rfl
  · have := itoa_len e.t 5 (by simp; omega); omega
  · have := h3 y hy
    have := itoa_len y 1 (by simp; omega); omega
  · have := itoa_len e.v 6 (by simp; omega); omega
theorem ev_len60 {c : ConfD} {e : EventD} (h : eventB c e = true) : (evText e).length ≤ 60 := by
  have h1 := joinTail_len (ev_words_len h)
  have h2 : (evWords e).length ≤ 5 := by have := (ev_bounds h).2.1; simp [evWords]; omega
  have h3 : (evWords e).length * (8 + 1) ≤ 5 * (8 + 1) := Nat.mul_le_mul_right _ h2
  unfold evText
  rw [List.length_append, List.length_singleton]
  omega
end Go.Proofs.YtdipkbgfkbmfnaaDoor.dat
