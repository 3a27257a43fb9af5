/-
  THE READERS OF A MERGE: which parts stand in the heap, with which marks; its first is the part that is read next; what is behind one record more.
-/
import Derived.Test.YtpoojmodebgioaaGreatDoorMergeMath
namespace Go.Proofs.YtpoojmodebgioaaGreatDoor.dat
open Go.RowKit Go.Proofs.YtpoojmodebgioaaGreatDoor.win

/-- The reader of a part. -/
noncomputable def mkR (c : ConfD) (L : List PartD) (H : List PartH) (rd : List Nat) (p : Nat) : RdD :=
  let h := H.getD p ⟨none, 0, 0⟩
  ⟨(p : Int), h.recsa, h.recsl, h.recsc, ((rd.getD p 0 : Nat) : Int), mk c L p (rd.getD p 0)⟩
theorem mkR_part (c : ConfD) (L : List PartD) (H : List PartH) (rd : List Nat) (p : Nat) : (mkR c L H rd p).part = (p : Int) := rfl
theorem mkR_mark (c : ConfD) (L : List PartD) (H : List PartH) (rd : List Nat) (p : Nat) : (mkR c L H rd p).mark = mk c L p (rd.getD p 0) := rfl
/-- The readers of the first k parts that have unread records. -/
structure Readers (c : ConfD) (L : List PartD) (H : List PartH) (rd : List Nat) (k : Nat) (l : List RdD) : Prop where
  all : ∀ x ∈ l, ∃ p, p < k ∧ opn L rd p = true ∧ x = mkR c L H rd p
  has : ∀ p, p < k → opn L rd p = true → mkR c L H rd p ∈ l
  nd : (l.map RdD.part).Nodup
  len : l.length ≤ k
theorem Readers.perm {c : ConfD} {L : List PartD} {H : List PartH} {rd : List Nat} {k : Nat} {l l' : List RdD} (h : Readers c L H rd k l) (p : l'.Perm l) : Readers c L H rd k l' :=
  ⟨fun x hx => h.all x (p.mem_iff.1 hx), fun q hq ho => p.mem_iff.2 (h.has q hq ho), (p.map _).nodup_iff.2 h.nd, by rw [p.length_eq]; exact h.len⟩
theorem Readers.start (c : ConfD) (L : List PartD) (H : List PartH) (rd : List Nat) : Readers c L H rd 0 [] := ⟨by simp, fun p hp => by omega, by simp, by simp⟩
theorem Readers.skip {c : ConfD} {L : List PartD} {H : List PartH} {rd : List Nat} {k : Nat} {l : List RdD} (h : Readers c L H rd k l) (ho : opn L rd k = false) : Readers c L H rd (k + 1) l :=
  ⟨fun x hx => by obtain ⟨p, h1, h2⟩ := h.all x hx; exact ⟨p, by omega, h2⟩, fun p hp hop => by
    by_cases e : p = k
    · subst e; rw [ho] at hop; cases hop
    · exact h.has p (by omega) hop, h.nd, Nat.le_succ_of_le h.len⟩
theorem Readers.add {c : ConfD} {L : List PartD} {H : List PartH} {rd : List Nat} {k : Nat} {l : List RdD} (h : Readers c L H rd k l) (ho : opn L rd k = true) : Readers c L H rd (k + 1) (l ++ [mkR c L H rd k]) := by
  refine ⟨fun x hx => ?_, fun p hp hop => ?_, ?_, by have := h.len; simp; omega⟩
  · rcases List.mem_append.1 hx with hx | hx
    · obtain ⟨p, h1, h2⟩ := h.all x hx; exact ⟨p, by omega, h2⟩
    · simp at hx; exact ⟨k, by omega, ho, hx⟩
  · by_cases e : p = k
    · subst e; simp
    · exact List.mem_append.2 (.inl (h.has p (by omega) hop))
  · rw [List.map_append, List.nodup_append]
    refine ⟨h.nd, by simp, ?_⟩
    intro a ha b hb e
    simp [mkR_part] at hb
    obtain ⟨x, hx, rfl⟩ := List.mem_map.1 ha
    obtain ⟨p, h1, _, rfl⟩ := h.all x hx
    rw [mkR_part] at e
    omega
/-- The first of a heap is the part that is read next. -/
theorem Readers.first {c : ConfD} {L : List PartD} {H : List PartH} {rd : List Nat} {k : Nat} {x : RdD} {r : List RdD} (h : Readers c L H rd k (x :: r)) (hh : Heap (x :: r)) : ∃ p, x = mkR c L H rd p ∧ Next c L rd k p := by
  obtain ⟨p, hp, ho, rfl⟩ := h.all x (by simp)
  refine ⟨p, rfl, hp, ho, fun q hq hoq => ?_⟩
  rcases List.mem_cons.1 (h.has q hq hoq) with e | hm
  · have : (q : Int) = (p : Int) := by rw [← mkR_part c L H rd q, e]; rfl
    have : q = p := by omega
    subst this
    exact ⟨Int.le_refl _, fun h => by omega⟩
  · have hl := hh _ hm
    rcases less_cases (mkR c L H rd q) (mkR c L H rd p) with ⟨h1, _⟩ | ⟨_, h1⟩
    · rw [hl] at h1; cases h1
    · rw [mkR_mark, mkR_mark, mkR_part, mkR_part] at h1
      exact ⟨by omega, fun _ => by omega⟩
theorem Readers.none {c : ConfD} {L : List PartD} {H : List PartH} {rd : List Nat} {k : Nat} (h : Readers c L H rd k []) : ∀ p, p < k → opn L rd p = false := by
  intro p hp
  cases ho : opn L rd p with
  | false => rfl
  | true => have := h.has p hp ho; simp at this
theorem mkR_other {c : ConfD} {L : List PartD} {H : List PartH} {rd : List Nat} {b p : Nat} (hb : b < rd.length) (h : p ≠ b) : mkR c L H (rdNext rd b) p = mkR c L H rd p := by
  unfold mkR rdNext
  rw [getD_set hb, if_neg h]
theorem opn_other {L : List PartD} {rd : List Nat} {b p : Nat} (hb : b < rd.length) (h : p ≠ b) : opn L (rdNext rd b) p = opn L rd p := by
  unfold opn rdNext
  rw [getD_set hb, if_neg h]
/-- One record more, the part has others. -/
theorem Readers.more {c : ConfD} {L : List PartD} {H : List PartH} {rd : List Nat} {k b : Nat} {r : List RdD} (h : Readers c L H rd k (mkR c L H rd b :: r)) (hk : b < k) (hb : b < rd.length) (ho : opn L (rdNext rd b) b = true) :
    Readers c L H (rdNext rd b) k (mkR c L H (rdNext rd b) b :: r) := by
  have hlen := h.len
  have hnd := h.nd
  rw [List.map_cons, List.nodup_cons] at hnd
  have hne : ∀ x ∈ r, ∀ p, x = mkR c L H rd p → p ≠ b := by
    rintro x hx p rfl rfl
    exact hnd.1 (List.mem_map.2 ⟨_, hx, rfl⟩)
  refine ⟨fun x hx => ?_, fun p hp hop => ?_, ?_, by simpa using hlen⟩
  · rcases List.mem_cons.1 hx with rfl | hx
    · exact ⟨b, hk, ho, rfl⟩
    · obtain ⟨p, h1, h2, h3⟩ := h.all x (by simp [hx])
      have hpb := hne x hx p h3
      exact ⟨p, h1, by rw [opn_other hb hpb]; exact h2, by rw [mkR_other hb hpb]; exact h3⟩
  · by_cases e : p = b
    · subst e; simp
    · rw [opn_other hb e] at hop
      rw [mkR_other hb e]
      rcases List.mem_cons.1 (h.has p hp hop) with e' | hm
      · exact absurd (by have : (p : Int) = (b : Int) := by rw [← mkR_part c L H rd p, e']; rfl
                         omega) e
      · exact List.mem_cons_of_mem _ hm
  · rw [List.map_cons, List.nodup_cons]
    exact hnd
/-- .. it has none. -/
theorem Readers.last {c : ConfD} {L : List PartD} {H : List PartH} {rd : List Nat} {k b : Nat} {r : List RdD} (h : Readers c L H rd k (mkR c L H rd b :: r)) (hb : b < rd.length) (ho : opn L (rdNext rd b) b = false) :
    Readers c L H (rdNext rd b) k r := by
  have hnd := h.nd
  rw [List.map_cons, List.nodup_cons] at hnd
  have hne : ∀ x ∈ r, ∀ p, x = mkR c L H rd p → p ≠ b := by
    rintro x hx p rfl rfl
    exact hnd.1 (List.mem_map.2 ⟨_, hx, rfl⟩)
  refine ⟨fun x hx => ?_, fun p hp hop => ?_, hnd.2, by have := h.len; simp at this; omega⟩
  · obtain ⟨p, h1, h2, h3⟩ := h.all x (by simp [hx])
    have hpb := hne x hx p h3
    exact ⟨p, h1, by rw [opn_other hb hpb]; exact h2, by rw [mkR_other hb hpb]; exact h3⟩
  · by_cases e : p = b
    · subst e; rw [ho] at hop; cases hop
    · rw [opn_other hb e] at hop
      rw [mkR_other hb e]
      rcases List.mem_cons.1 (h.has p hp hop) with e' | hm
      · exact absurd (by have : (p : Int) = (b : Int) := by rw [← mkR_part c L H rd p, e']; rfl
                         omega) e
      · exact hm
end Go.Proofs.YtpoojmodebgioaaGreatDoor.dat
