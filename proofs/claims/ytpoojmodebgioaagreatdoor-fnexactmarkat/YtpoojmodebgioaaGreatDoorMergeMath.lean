/-
  THE MERGE, as mathematics: the part that is read next; the order of all records; a heap of at most three.
-/
import Derived.Test.YtpoojmodebgioaaGreatDoorMarkMath
import Derived.Test.YtpoojmodebgioaaGreatDoorLogsOk
namespace Go.Proofs.YtpoojmodebgioaaGreatDoor.dat
open Go.RowKit Go.Proofs.YtpoojmodebgioaaGreatDoor.win

/-! ### The part that is read next -/
def recsOf (L : List PartD) (p : Nat) : List ByteArray := ((L[p]?).map PartD.recs).getD []
theorem recsOf_at {L : List PartD} {p : Nat} {x : PartD} (h : L[p]? = some x) : recsOf L p = x.recs := by simp [recsOf, h]
noncomputable def mk (c : ConfD) (L : List PartD) (p k : Nat) : Int := markL c ((recsOf L p).take k)
/-- Has it an unread record? -/
def opn (L : List PartD) (rd : List Nat) (p : Nat) : Bool := decide (rd.getD p 0 < (recsOf L p).length)
/-- The best of the first k parts, -1 of none. -/
noncomputable def scan (c : ConfD) (L : List PartD) (rd : List Nat) : Nat → Int
  | 0 => -1
  | k + 1 => if opn L rd k = true ∧ (scan c L rd k < 0 ∨ mk c L k (rd.getD k 0) < mk c L (scan c L rd k).toNat (rd.getD (scan c L rd k).toNat 0)) then (k : Int) else scan c L rd k
/-- p is the one that is read next, of the first k. -/
def Next (c : ConfD) (L : List PartD) (rd : List Nat) (k b : Nat) : Prop :=
  b < k ∧ opn L rd b = true ∧ ∀ p, p < k → opn L rd p = true → mk c L b (rd.getD b 0) ≤ mk c L p (rd.getD p 0) ∧ (p < b → mk c L b (rd.getD b 0) < mk c L p (rd.getD p 0))
theorem scan_spec (c : ConfD) (L : List PartD) (rd : List Nat) : ∀ k, (scan c L rd k = -1 ∧ ∀ p, p < k → opn L rd p = false) ∨ ∃ b : Nat, scan c L rd k = (b : Int) ∧ Next c L rd k b
  | 0 => .inl ⟨rfl, fun p hp => by omega⟩
  | k + 1 => by
    unfold scan
    rcases scan_spec c L rd k with ⟨h1, h2⟩ | ⟨b, h1, h2, h3, h4⟩
    · rw [h1]
      by_cases ho : opn L rd k = true
      · rw [if_pos ⟨ho, .inl (by omega)⟩]
        refine .inr ⟨k, rfl, by omega, ho, fun p hp hop => ?_⟩
        by_cases hpk : p = k
        · subst hpk; exact ⟨Int.le_refl _, fun h => by omega⟩
        · rw [h2 p (by omega)] at hop; cases hop
      · rw [if_neg (fun h => ho h.1)]
        refine .inl ⟨rfl, fun p hp => ?_⟩
        by_cases hpk : p = k
        · subst hpk; simpa using ho
        · exact h2 p (by omega)
    · rw [h1]
      simp only [Int.toNat_natCast]
      by_cases ho : opn L rd k = true ∧ ((b : Int) < 0 ∨ mk c L k (rd.getD k 0) < mk c L b (rd.getD b 0))
      · rw [if_pos ho]
        obtain ⟨ho, hl⟩ := ho
        have hl : mk c L k (rd.getD k 0) < mk c L b (rd.getD b 0) := by rcases hl with h | h; omega; exact h
        refine .inr ⟨k, rfl, by omega, ho, fun p hp hop => ?_⟩
        by_cases hpk : p = k
        · subst hpk; exact ⟨Int.le_refl _, fun h => by omega⟩
        · have := (h4 p (by omega) hop).1
          exact ⟨by omega, fun _ => by omega⟩
      · rw [if_neg ho]
        refine .inr ⟨b, rfl, by omega, h3, fun p hp hop => ?_⟩
        by_cases hpk : p = k
        · subst hpk
          have : ¬ mk c L p (rd.getD p 0) < mk c L b (rd.getD b 0) := fun h => ho ⟨hop, .inr h⟩
          exact ⟨by omega, fun h => by omega⟩
        · exact h4 p (by omega) hop
theorem next_unique {c : ConfD} {L : List PartD} {rd : List Nat} {k b b' : Nat} (h : Next c L rd k b) (h' : Next c L rd k b') : b = b' := by
  obtain ⟨a1, a2, a3⟩ := h
  obtain ⟨b1, b2, b3⟩ := h'
  have x := a3 b' b1 b2
  have y := b3 b a1 a2
  rcases Nat.lt_trichotomy b b' with h | h | h
  · have := y.2 h; omega
  · exact h
  · have := x.2 h; omega
theorem scan_next {c : ConfD} {L : List PartD} {rd : List Nat} {k b : Nat} (h : Next c L rd k b) : scan c L rd k = (b : Int) := by
  rcases scan_spec c L rd k with ⟨_, h2⟩ | ⟨b', h1, h2⟩
  · have := h2 b h.1; rw [h.2.1] at this; cases this
  · rw [h1, next_unique h2 h]
/-- The next record is read. -/
def rdNext (rd : List Nat) (b : Nat) : List Nat := rd.set b (rd.getD b 0 + 1)
noncomputable def ordFrom (c : ConfD) (L : List PartD) : Nat → List Nat → List (Int × Int)
  | 0, _ => []
  | f + 1, rd => if scan c L rd L.length < 0 then [] else
    ((scan c L rd L.length), ((rd.getD (scan c L rd L.length).toNat 0 : Nat) : Int)) :: ordFrom c L f (rdNext rd (scan c L rd L.length).toNat)
def totalD (L : List PartD) : Nat := (L.map fun q => q.recs.length).sum
/-- The order of all records. -/
noncomputable def ordD (c : ConfD) (L : List PartD) : List (Int × Int) := ordFrom c L (totalD L) (List.replicate L.length 0)
/-- MergeOrder. -/
noncomputable def mergeD (c : ConfD) (L : List PartD) : List (Int × Int) := if logsB c L = true then ordD c L else []

/-- So many were read: out is what came, rd how many of each part. -/
structure Under (c : ConfD) (L : List PartD) (out : List (Int × Int)) (rd : List Nat) : Prop where
  len : rd.length = L.length
  le : ∀ p, rd.getD p 0 ≤ (recsOf L p).length
  sum : rd.sum = out.length
  eq : out ++ ordFrom c L (totalD L - out.length) rd = ordD c L
theorem getD_replicate (n p : Nat) : (List.replicate n 0).getD p 0 = 0 := by
  rw [List.getD_eq_getElem?_getD, List.getElem?_replicate]
  split <;> rfl
theorem Under.start (c : ConfD) (L : List PartD) : Under c L [] (List.replicate L.length 0) :=
  ⟨by simp, fun p => by rw [getD_replicate]; exact Nat.zero_le _, by simp, by simp [ordD]⟩
theorem sum_le_total : ∀ {L : List PartD} {rd : List Nat}, rd.length = L.length → (∀ p, rd.getD p 0 ≤ (recsOf L p).length) → rd.sum ≤ totalD L ∧ ((∃ p, rd.getD p 0 < (recsOf L p).length) → rd.sum < totalD L)
  | [], [], _, _ => ⟨Nat.le_refl _, fun ⟨p, h⟩ => by simp [recsOf] at h⟩
  | [], _ :: _, h, _ => by simp at h
  | _ :: _, [], h, _ => by simp at h
  | q :: L, r :: rd, h, hle => by
    have h0 := hle 0
    simp [recsOf] at h0
    have hr := sum_le_total (L := L) (rd := rd) (by simpa using h) (fun p => by have := hle (p + 1); simpa [recsOf] using this)
    simp only [List.sum_cons, totalD, List.map_cons]
    simp only [totalD] at hr
    refine ⟨by omega, ?_⟩
    rintro ⟨p, hp⟩
    cases p with
    | zero => simp [recsOf] at hp; omega
    | succ p => have := hr.2 ⟨p, by simpa [recsOf] using hp⟩; omega
theorem Under.le_total {c : ConfD} {L : List PartD} {out : List (Int × Int)} {rd : List Nat} (h : Under c L out rd) : out.length ≤ totalD L := by
  rw [← h.sum]; exact (sum_le_total h.len h.le).1
theorem getD_set {rd : List Nat} {b p v : Nat} (hb : b < rd.length) : (rd.set b v).getD p 0 = if p = b then v else rd.getD p 0 := by
  rw [List.getD_eq_getElem?_getD, List.getD_eq_getElem?_getD]
  by_cases h : p = b
  · subst h; simp [hb]
  · rw [if_neg h, List.getElem?_set_ne (fun e => h e.symm)]
theorem sum_set : ∀ {rd : List Nat} {b : Nat}, b < rd.length → (rdNext rd b).sum = rd.sum + 1
  | [], b, h => by simp at h
  | r :: rd, 0, _ => by simp [rdNext]; omega
  | r :: rd, b + 1, h => by
    have := sum_set (rd := rd) (b := b) (by simpa using h)
    simp only [rdNext, List.getD_cons_succ, List.set_cons_succ, List.sum_cons] at this ⊢
    omega
theorem Under.step {c : ConfD} {L : List PartD} {out : List (Int × Int)} {rd : List Nat} (h : Under c L out rd) {b : Nat} (hn : Next c L rd L.length b) : out.length < totalD L ∧ Under c L (out ++ [((b : Int), ((rd.getD b 0 : Nat) : Int))]) (rdNext rd b) := by
  have hs := scan_next hn
  have ho : rd.getD b 0 < (recsOf L b).length := of_decide_eq_true hn.2.1
  have hlt : out.length < totalD L := by rw [← h.sum]; exact (sum_le_total h.len h.le).2 ⟨b, ho⟩
  have hb : b < rd.length := by rw [h.len]; exact hn.1
  refine ⟨hlt, by rw [rdNext, List.length_set, h.len], fun p => ?_, by rw [sum_set hb, h.sum]; simp, ?_⟩
  · rw [rdNext, getD_set hb]
    split
    · rename_i e; subst e; omega
    · exact h.le p
  · have e := h.eq
    rw [show totalD L - out.length = (totalD L - (out.length + 1)) + 1 by omega, ordFrom, hs, if_neg (by omega)] at e
    simp only [Int.toNat_natCast] at e
    rw [List.length_append, List.length_singleton, List.append_assoc]
    exact e
theorem Under.done {c : ConfD} {L : List PartD} {out : List (Int × Int)} {rd : List Nat} (h : Under c L out rd) (hs : ∀ p, p < L.length → opn L rd p = false) : out = ordD c L := by
  have e := h.eq
  have h1 : scan c L rd L.length = -1 := by
    rcases scan_spec c L rd L.length with h | ⟨b, h1, h2⟩
    · exact h.1
    · have := hs b h2.1; rw [h2.2.1] at this; cases this
  have : ordFrom c L (totalD L - out.length) rd = [] := by
    cases totalD L - out.length with
    | zero => rfl
    | succ f => rw [ordFrom, if_pos (by rw [h1]; omega)]
  rw [this, List.append_nil] at e
  exact e

/-! ### A heap of at most three -/
/-- A part that has unread records; its records' own slice. -/
structure RdD where
  part : Int
  a : Option Addr
  n : Nat
  c : Nat
  read : Int
  mark : Int
def lessB (x y : RdD) : Bool := if x.mark = y.mark then decide (x.part < y.part) else decide (x.mark < y.mark)
/-- The first is least. -/
def Heap : List RdD → Prop
  | [] => True
  | x :: r => ∀ y ∈ r, lessB y x = false
/-- Behind a push. -/
def upL : List RdD → List RdD
  | [x, y] => if lessB y x = true then [y, x] else [x, y]
  | [x, y, z] => if lessB z x = true then [z, y, x] else [x, y, z]
  | l => l
/-- Behind a change of the first. -/
def downL : List RdD → List RdD
  | [x, y] => if lessB y x = true then [y, x] else [x, y]
  | [x, y, z] => if lessB z y = true then (if lessB z x = true then [z, y, x] else [x, y, z]) else (if lessB y x = true then [y, x, z] else [x, y, z])
  | l => l
/-- Behind a pop: without the first. -/
def popL : List RdD → List RdD
  | [_, y] => [y]
  | [_, y, z] => if lessB y z = true then [y, z] else [z, y]
  | _ => []
theorem less_cases (x y : RdD) : (lessB x y = true ∧ (x.mark < y.mark ∨ x.mark = y.mark ∧ x.part < y.part)) ∨ (lessB x y = false ∧ (y.mark < x.mark ∨ x.mark = y.mark ∧ y.part ≤ x.part)) := by
  unfold lessB
  by_cases h : x.mark = y.mark
  · rw [if_pos h]
    by_cases h2 : x.part < y.part
    · exact .inl ⟨by simpa using h2, .inr ⟨h, h2⟩⟩
    · exact .inr ⟨by simpa using h2, .inr ⟨h, by omega⟩⟩
  · rw [if_neg h]
    by_cases h2 : x.mark < y.mark
    · exact .inl ⟨by simpa using h2, .inl h2⟩
    · exact .inr ⟨by simpa using h2, .inl (by omega)⟩
theorem less_not {x y : RdD} (h : lessB x y = true) : lessB y x = false := by
  rcases less_cases x y with ⟨_, h1⟩ | ⟨h1, _⟩
  · rcases less_cases y x with ⟨_, h2⟩ | ⟨h2, _⟩
    · omega
    · exact h2
  · rw [h] at h1; cases h1
/-- z ahead of x, x not behind y: z ahead of y too. -/
theorem less_trans {x y z : RdD} (h : lessB z x = true) (h2 : lessB y x = false) : lessB y z = false := by
  rcases less_cases z x with ⟨_, h1⟩ | ⟨h1, _⟩
  · rcases less_cases y x with ⟨h3, _⟩ | ⟨_, h3⟩
    · rw [h2] at h3; cases h3
    · rcases less_cases y z with ⟨_, h4⟩ | ⟨h4, _⟩
      · omega
      · exact h4
  · rw [h] at h1; cases h1
theorem not_trans {x y z : RdD} (h : lessB y z = false) (h2 : lessB z x = false) : lessB y x = false := by
  rcases less_cases y x with ⟨_, h1⟩ | ⟨h1, _⟩
  · rcases less_cases y z with ⟨h3, _⟩ | ⟨_, h3⟩
    · rw [h] at h3; cases h3
    · rcases less_cases z x with ⟨h4, _⟩ | ⟨_, h4⟩
      · rw [h2] at h4; cases h4
      · omega
  · exact h1
theorem bool_no {b : Bool} (h : ¬ b = true) : b = false := by simpa using h
theorem up_heap {l : List RdD} {x : RdD} (h : Heap l) (hl : l.length ≤ 2) : (upL (l ++ [x])).Perm (l ++ [x]) ∧ Heap (upL (l ++ [x])) := by
  match l, h, hl with
  | [], _, _ => exact ⟨List.Perm.refl _, by simp [upL, Heap]⟩
  | [y], _, _ =>
    simp only [List.cons_append, List.nil_append, upL]
    by_cases c : lessB x y = true
    · rw [if_pos c]; exact ⟨List.Perm.swap _ _ _, by simp [Heap, less_not c]⟩
    · rw [if_neg c]; exact ⟨List.Perm.refl _, by simp [Heap, bool_no c]⟩
  | [y, z], h, _ =>
    simp only [List.cons_append, List.nil_append, upL]
    have hz : lessB z y = false := h z (by simp)
    by_cases c : lessB x y = true
    · rw [if_pos c]
      refine ⟨?_, by simp [Heap, less_not c, less_trans c hz]⟩
      exact (List.Perm.swap z x [y]).trans ((List.Perm.cons z (List.Perm.swap y x [])).trans (List.Perm.swap y z [x]))
    · rw [if_neg c]; exact ⟨List.Perm.refl _, by simp [Heap, bool_no c, hz]⟩
theorem down_heap {l : List RdD} (hl : l.length ≤ 3) : (downL l).Perm l ∧ Heap (downL l) := by
  match l, hl with
  | [], _ => exact ⟨List.Perm.refl _, by simp [downL, Heap]⟩
  | [x], _ => exact ⟨List.Perm.refl _, by simp [downL, Heap]⟩
  | [x, y], _ =>
    simp only [downL]
    by_cases c : lessB y x = true
    · rw [if_pos c]; exact ⟨List.Perm.swap _ _ _, by simp [Heap, less_not c]⟩
    · rw [if_neg c]; exact ⟨List.Perm.refl _, by simp [Heap, bool_no c]⟩
  | [x, y, z], _ =>
    simp only [downL]
    by_cases d : lessB z y = true
    · rw [if_pos d]
      by_cases c : lessB z x = true
      · rw [if_pos c]
        exact ⟨(List.Perm.swap y z [x]).trans ((List.Perm.cons y (List.Perm.swap x z [])).trans (List.Perm.swap x y [z])), by simp [Heap, less_not c, less_not d]⟩
      · rw [if_neg c]
        exact ⟨List.Perm.refl _, by simp [Heap, bool_no c, not_trans (less_not d) (bool_no c)]⟩
    · rw [if_neg d]
      by_cases c : lessB y x = true
      · rw [if_pos c]
        exact ⟨List.Perm.swap _ _ _, by simp [Heap, less_not c, bool_no d]⟩
      · rw [if_neg c]
        exact ⟨List.Perm.refl _, by simp [Heap, bool_no c, not_trans (bool_no d) (bool_no c)]⟩
theorem pop_heap {x : RdD} {r : List RdD} (hl : r.length ≤ 2) : (popL (x :: r)).Perm r ∧ Heap (popL (x :: r)) := by
  match r, hl with
  | [], _ => exact ⟨List.Perm.refl _, by simp [popL, Heap]⟩
  | [y], _ => exact ⟨List.Perm.refl _, by simp [popL, Heap]⟩
  | [y, z], _ =>
    simp only [popL]
    by_cases d : lessB y z = true
    · rw [if_pos d]; exact ⟨List.Perm.refl _, by simp [Heap, less_not d]⟩
    · rw [if_neg d]; exact ⟨List.Perm.swap _ _ _, by simp [Heap, bool_no d]⟩
end Go.Proofs.YtpoojmodebgioaaGreatDoor.dat
