/-
  JOINED BY tools/join.py: MergeMath, MergeInv, Readers, HeapM, HeapPush, HeapPop, ReadersOf, ReadNext, MergeImpl, MergeSpec.
-/
import Derived.Test.YtdipkbgfkbmfnaaGreatDoorMarkMath
import Derived.Test.YtdipkbgfkbmfnaaGreatDoorLogsOk
import Derived.Test.YtdipkbgfkbmfnaaGreatDoorMarkOf
import Derived.Test.YtdipkbgfkbmfnaaGreatDoorGrow
import Derived.Test.YtdipkbgfkbmfnaaGreatDoorGrow2
import Derived.Test.YtdipkbgfkbmfnaaGreatDoorMixTail
import Derived.Test.YtdipkbgfkbmfnaaGreatDoorDataPos
import Derived.Test.YtdipkbgfkbmfnaaGreatDoorMixOrd

/-
  THE MERGE, as mathematics: the part that is read next; the order of all records; a heap of at most three.
-/
namespace Go.Proofs.YtdipkbgfkbmfnaaGreatDoor.dat
open Go.RowKit Go.Proofs.YtdipkbgfkbmfnaaGreatDoor.win

/-! ### The part that is read next -/
def recsOf (L : List PartD) (p : Nat) : List ByteArray := ((L[p]?).map PartD.recs).getD []
theorem recsOf_at {L : List PartD} {p : Nat} {x : PartD} (h : L[p]? = some x) : recsOf L p = x.recs := by simp [recsOf, h]
noncomputable def mk (c : ConfD) (L : List PartD) (p k : Nat) : Int := tideL c ((recsOf L p).take k)
/-- Has it an unread record? -/
def opn (L : List PartD) (rd : List Nat) (p : Nat) : Bool := decide (rd.getD p 0 < (recsOf L p).length)
/-- The best of the first k parts, -1 of none. -/
noncomputable def scan (c : ConfD) (L : List PartD) (rd : List Nat) : Nat → Int
  | 0 => -1
  | k + 1 => if opn L rd k = true ∧ (scan c L rd k < 0 ∨ mk c L k (rd.getD k 0) < mk c L (scan c L rd k).toNat (rd.getD (scan c L rd k).toNat 0)) then (k : Int) else scan c L rd k
/-- p is the one that is read next, of the first k. -/
def Next (c : ConfD) (L : List PartD) (rd : List Nat) (k b : Nat) : Prop :=
  b < k ∧ opn L rd b = true ∧ ∀ p, p < k → opn L rd p = true → mk c L b (rd.getD b 0) ≤ mk c L p (rd.getD p 0) ∧ (p < b → mk c L b (rd.getD b 0) < mk c L p (rd.getD p 0))
theorem scan_spec (c : ConfD) (L : List PartD) (rd : List Nat) : ∀ k, (scan c L rd k = -1 ∧ ∀ p, p < k → opn L rd p = false) ∨ ∃ b : Nat, scan c L rd k = (b : Int) ∧ Next c L rd k b
  | 0 => .inl ⟨rfl, fun p hp => by omega⟩
  | k + 1 => by
    unfold scan
    rcases scan_spec c L rd k with ⟨h1, h2⟩ | ⟨b, h1, h2, h3, h4⟩
    · rw [h1]
      by_cases ho : opn L rd k = true
      · rw [if_pos ⟨ho, .inl (by omega)⟩]
        refine .inr ⟨k, rfl, by omega, ho, fun p hp hop => ?_⟩
        by_cases hpk : p = k
        · subst hpk; exact ⟨Int.le_refl _, fun h => by omega⟩
        · rw [h2 p (by omega)] at hop; cases hop
      · rw [if_neg (fun h => ho h.1)]
        refine .inl ⟨rfl, fun p hp => ?_⟩
        by_cases hpk : p = k
        · subst hpk; simpa using ho
        · exact h2 p (by omega)
    · rw [h1]
      simp only [Int.toNat_natCast]
      by_cases ho : opn L rd k = true ∧ ((b : Int) < 0 ∨ mk c L k (rd.getD k 0) < mk c L b (rd.getD b 0))
      · rw [if_pos ho]
        obtain ⟨ho, hl⟩ := ho
        have hl : mk c L k (rd.getD k 0) < mk c L b (rd.getD b 0) := by rcases hl with h | h; omega; exact h
        refine .inr ⟨k, rfl, by omega, ho, fun p hp hop => ?_⟩
        by_cases hpk : p = k
        · subst hpk; exact ⟨Int.le_refl _, fun h => by omega⟩
        · have := (h4 p (by omega) hop).1
          exact ⟨by omega, fun _ => by omega⟩
      · rw [if_neg ho]
        refine .inr ⟨b, rfl, by omega, h3, fun p hp hop => ?_⟩
        by_cases hpk : p = k
        · subst hpk
          have : ¬ mk c L p (rd.getD p 0) < mk c L b (rd.getD b 0) := fun h => ho ⟨hop, .inr h⟩
          exact ⟨by omega, fun h => by omega⟩
        · exact h4 p (by omega) hop
theorem next_unique {c : ConfD} {L : List PartD} {rd : List Nat} {k b b' : Nat} (h : Next c L rd k b) (h' : Next c L rd k b') : b = b' := by
  obtain ⟨a1, a2, a3⟩ := h
  obtain ⟨b1, b2, b3⟩ := h'
  have x := a3 b' b1 b2
  have y := b3 b a1 a2
  rcases Nat.lt_trichotomy b b' with h | h | h
  · have := y.2 h; omega
  · exact h
  · have := x.2 h; omega
theorem scan_next {c : ConfD} {L : List PartD} {rd : List Nat} {k b : Nat} (h : Next c L rd k b) : scan c L rd k = (b : Int) := by
  rcases scan_spec c L rd k with ⟨_, h2⟩ | ⟨b', h1, h2⟩
  · have := h2 b h.1; rw [h.2.1] at this; cases this
  · rw [h1, next_unique h2 h]
/-- The next record is read. -/
def rdNext (rd : List Nat) (b : Nat) : List Nat := rd.set b (rd.getD b 0 + 1)
noncomputable def ordFrom (c : ConfD) (L : List PartD) : Nat → List Nat → List (Int × Int)
  | 0, _ => []
  | f + 1, rd => if scan c L rd L.length < 0 then [] else
    ((scan c L rd L.length), ((rd.getD (scan c L rd L.length).toNat 0 : Nat) : Int)) :: ordFrom c L f (rdNext rd (scan c L rd L.length).toNat)
def totalD (L : List PartD) : Nat := (L.map fun q => q.recs.length).sum
/-- The order of all records. -/
noncomputable def ordD (c : ConfD) (L : List PartD) : List (Int × Int) := ordFrom c L (totalD L) (List.replicate L.length 0)
/-- MergeOrder. -/
noncomputable def mergeD (c : ConfD) (L : List PartD) : List (Int × Int) := if logsB c L = true then ordD c L else []

/-- So many were read: out is what came, rd how many of each part. -/
structure Under (c : ConfD) (L : List PartD) (out : List (Int × Int)) (rd : List Nat) : Prop where
  len : rd.length = L.length
  le : ∀ p, rd.getD p 0 ≤ (recsOf L p).length
  sum : rd.sum = out.length
  eq : out ++ ordFrom c L (totalD L - out.length) rd = ordD c L
theorem getD_replicate (n p : Nat) : (List.replicate n 0).getD p 0 = 0 := by
  rw [List.getD_eq_getElem?_getD, List.getElem?_replicate]
  split <;> rfl
theorem Under.start (c : ConfD) (L : List PartD) : Under c L [] (List.replicate L.length 0) :=
  ⟨by simp, fun p => by rw [getD_replicate]; exact Nat.zero_le _, by simp, by simp [ordD]⟩
theorem sum_le_total : ∀ {L : List PartD} {rd : List Nat}, rd.length = L.length → (∀ p, rd.getD p 0 ≤ (recsOf L p).length) → rd.sum ≤ totalD L ∧ ((∃ p, rd.getD p 0 < (recsOf L p).length) → rd.sum < totalD L)
  | [], [], _, _ => ⟨Nat.le_refl _, fun ⟨p, h⟩ => by simp [recsOf] at h⟩
  | [], _ :: _, h, _ => by simp at h
  | _ :: _, [], h, _ => by simp at h
  | q :: L, r :: rd, h, hle => by
    have h0 := hle 0
    simp [recsOf] at h0
    have hr := sum_le_total (L := L) (rd := rd) (by simpa using h) (fun p => by have := hle (p + 1); simpa [recsOf] using this)
    simp only [List.sum_cons, totalD, List.map_cons]
    simp only [totalD] at hr
    refine ⟨by omega, ?_⟩
    rintro ⟨p, hp⟩
    cases p with
    | zero => simp [recsOf] at hp; omega
    | succ p => have := hr.2 ⟨p, by simpa [recsOf] using hp⟩; omega
theorem Under.le_total {c : ConfD} {L : List PartD} {out : List (Int × Int)} {rd : List Nat} (h : Under c L out rd) : out.length ≤ totalD L := by
  rw [← h.sum]; exact (sum_le_total h.len h.le).1
theorem getD_set {rd : List Nat} {b p v : Nat} (hb : b < rd.length) : (rd.set b v).getD p 0 = if p = b then v else rd.getD p 0 := by
  rw [List.getD_eq_getElem?_getD, List.getD_eq_getElem?_getD]
  by_cases h : p = b
  · subst h; simp [hb]
  · rw [if_neg h, List.getElem?_set_ne (fun e => h e.symm)]
theorem sum_set : ∀ {rd : List Nat} {b : Nat}, b < rd.length → (rdNext rd b).sum = rd.sum + 1
  | [], b, h => by simp at h
  | r :: rd, 0, _ => by simp [rdNext]; omega
  | r :: rd, b + 1, h => by
    have := sum_set (rd := rd) (b := b) (by simpa using h)
    simp only [rdNext, List.getD_cons_succ, List.set_cons_succ, List.sum_cons] at this ⊢
    omega
theorem Under.step {c : ConfD} {L : List PartD} {out : List (Int × Int)} {rd : List Nat} (h : Under c L out rd) {b : Nat} (hn : Next c L rd L.length b) : out.length < totalD L ∧ Under c L (out ++ [((b : Int), ((rd.getD b 0 : Nat) : Int))]) (rdNext rd b) := by
  have hs := scan_next hn
  have ho : rd.getD b 0 < (recsOf L b).length := of_decide_eq_true hn.2.1
  have hlt : out.length < totalD L := by rw [← h.sum]; exact (sum_le_total h.len h.le).2 ⟨b, ho⟩
  have hb : b < rd.length := by rw [h.len]; exact hn.1
  refine ⟨hlt, by rw [rdNext, List.length_set, h.len], fun p => ?_, by rw [sum_set hb, h.sum]; simp, ?_⟩
  · rw [rdNext, getD_set hb]
    split
    · rename_i e; subst e; omega
    · exact h.le p
  · have e := h.eq
    rw [show totalD L - out.length = (totalD L - (out.length + 1)) + 1 by omega, ordFrom, hs, if_neg (by omega)] at e
    simp only [Int.toNat_natCast] at e
    rw [List.length_append, List.length_singleton, List.append_assoc]
    exact e
theorem Under.done {c : ConfD} {L : List PartD} {out : List (Int × Int)} {rd : List Nat} (h : Under c L out rd) (hs : ∀ p, p < L.length → opn L rd p = false) : out = ordD c L := by
  have e := h.eq
  have h1 : scan c L rd L.length = -1 := by
    rcases scan_spec c L rd L.length with h | ⟨b, h1, h2⟩
    · exact h.1
    · have := hs b h2.1; rw [h2.2.1] at this; cases this
  have : ordFrom c L (totalD L - out.length) rd = [] := by
    cases totalD L - out.length with
    | zero => rfl
    | succ f => rw [ordFrom, if_pos (by rw [h1]; omega)]
  rw [this, List.append_nil] at e
  exact e

/-! ### A heap of at most three -/
/-- A part that has unread records; its records' own slice. -/
structure RdD where
  part : Int
  a : Option Addr
  n : Nat
  c : Nat
  read : Int
  mark : Int
def lessB (x y : RdD) : Bool := if x.mark = y.mark then decide (x.part < y.part) else decide (x.mark < y.mark)
/-- The first is least. -/
def Heap : List RdD → Prop
  | [] => True
  | x :: r => ∀ y ∈ r, lessB y x = false
/-- Behind a push. -/
def upL : List RdD → List RdD
  | [x, y] => if lessB y x = true then [y, x] else [x, y]
  | [x, y, z] => if lessB z x = true then [z, y, x] else [x, y, z]
  | l => l
/-- Behind a change of the first. -/
def downL : List RdD → List RdD
  | [x, y] => if lessB y x = true then [y, x] else [x, y]
  | [x, y, z] => if lessB z y = true then (if lessB z x = true then [z, y, x] else [x, y, z]) else (if lessB y x = true then [y, x, z] else [x, y, z])
  | l => l
/-- Behind a pop: without the first. -/
def popL : List RdD → List RdD
  | [_, y] => [y]
  | [_, y, z] => if lessB y z = true then [y, z] else [z, y]
  | _ => []
theorem less_cases (x y : RdD) : (lessB x y = true ∧ (x.mark < y.mark ∨ x.mark = y.mark ∧ x.part < y.part)) ∨ (lessB x y = false ∧ (y.mark < x.mark ∨ x.mark = y.mark ∧ y.part ≤ x.part)) := by
  unfold lessB
  by_cases h : x.mark = y.mark
  · rw [if_pos h]
    by_cases h2 : x.part < y.part
    · exact .inl ⟨by simpa using h2, .inr ⟨h, h2⟩⟩
    · exact .inr ⟨by simpa using h2, .inr ⟨h, by omega⟩⟩
  · rw [if_neg h]
    by_cases h2 : x.mark < y.mark
    · exact .inl ⟨by simpa using h2, .inl h2⟩
    · exact .inr ⟨by simpa using h2, .inl (by omega)⟩
theorem less_not {x y : RdD} (h : lessB x y = true) : lessB y x = false := by
  rcases less_cases x y with ⟨_, h1⟩ | ⟨h1, _⟩
  · rcases less_cases y x with ⟨_, h2⟩ | ⟨h2, _⟩
    · omega
    · exact h2
  · rw [h] at h1; cases h1
/-- z ahead of x, x not behind y: z ahead of y too. -/
theorem less_trans {x y z : RdD} (h : lessB z x = true) (h2 : lessB y x = false) : lessB y z = false := by
  rcases less_cases z x with ⟨_, h1⟩ | ⟨h1, _⟩
  · rcases less_cases y x with ⟨h3, _⟩ | ⟨_, h3⟩
    · rw [h2] at h3; cases h3
    · rcases less_cases y z with ⟨_, h4⟩ | ⟨h4, _⟩
      · omega
      · exact h4
  · rw [h] at h1; cases h1
theorem not_trans {x y z : RdD} (h : lessB y z = false) (h2 : lessB z x = false) : lessB y x = false := by
  rcases less_cases y x with ⟨_, h1⟩ | ⟨h1, _⟩
  · rcases less_cases y z with ⟨h3, _⟩ | ⟨_, h3⟩
    · rw [h] at h3; cases h3
    · rcases less_cases z x with ⟨h4, _⟩ | ⟨_, h4⟩
      · rw [h2] at h4; cases h4
      · omega
  · exact h1
theorem bool_no {b : Bool} (h : ¬ b = true) : b = false := by simpa using h
theorem up_heap {l : List RdD} {x : RdD} (h : Heap l) (hl : l.length ≤ 2) : (upL (l ++ [x])).Perm (l ++ [x]) ∧ Heap (upL (l ++ [x])) := by
  match l, h, hl with
  | [], _, _ => exact ⟨List.Perm.refl _, by simp [upL, Heap]⟩
  | [y], _, _ =>
    simp only [List.cons_append, List.nil_append, upL]
    by_cases c : lessB x y = true
    · rw [if_pos c]; exact ⟨List.Perm.swap _ _ _, by simp [Heap, less_not c]⟩
    · rw [if_neg c]; exact ⟨List.Perm.refl _, by simp [Heap, bool_no c]⟩
  | [y, z], h, _ =>
    simp only [List.cons_append, List.nil_append, upL]
    have hz : lessB z y = false := h z (by simp)
    by_cases c : lessB x y = true
    · rw [if_pos c]
      refine ⟨?_, by simp [Heap, less_not c, less_trans c hz]⟩
      exact (List.Perm.swap z x [y]).trans ((List.Perm.cons z (List.Perm.swap y x [])).trans (List.Perm.swap y z [x]))
    · rw [if_neg c]; exact ⟨List.Perm.refl _, by simp [Heap, bool_no c, hz]⟩
theorem down_heap {l : List RdD} (hl : l.length ≤ 3) : (downL l).Perm l ∧ Heap (downL l) := by
  match l, hl with
  | [], _ => exact ⟨List.Perm.refl _, by simp [downL, Heap]⟩
  | [x], _ => exact ⟨List.Perm.refl _, by simp [downL, Heap]⟩
  | [x, y], _ =>
    simp only [downL]
    by_cases c : lessB y x = true
    · rw [if_pos c]; exact ⟨List.Perm.swap _ _ _, by simp [Heap, less_not c]⟩
    · rw [if_neg c]; exact ⟨List.Perm.refl _, by simp [Heap, bool_no c]⟩
  | [x, y, z], _ =>
    simp only [downL]
    by_cases d : lessB z y = true
    · rw [if_pos d]
      by_cases c : lessB z x = true
      · rw [if_pos c]
        exact ⟨(List.Perm.swap y z [x]).trans ((List.Perm.cons y (List.Perm.swap x z [])).trans (List.Perm.swap x y [z])), by simp [Heap, less_not c, less_not d]⟩
      · rw [if_neg c]
        exact ⟨List.Perm.refl _, by simp [Heap, bool_no c, not_trans (less_not d) (bool_no c)]⟩
    · rw [if_neg d]
      by_cases c : lessB y x = true
      · rw [if_pos c]
        exact ⟨List.Perm.swap _ _ _, by simp [Heap, less_not c, bool_no d]⟩
      · rw [if_neg c]
        exact ⟨List.Perm.refl _, by simp [Heap, bool_no c, not_trans (bool_no d) (bool_no c)]⟩
theorem pop_heap {x : RdD} {r : List RdD} (hl : r.length ≤ 2) : (popL (x :: r)).Perm r ∧ Heap (popL (x :: r)) := by
  match r, hl with
  | [], _ => exact ⟨List.Perm.refl _, by simp [popL, Heap]⟩
  | [y], _ => exact ⟨List.Perm.refl _, by simp [popL, Heap]⟩
  | [y, z], _ =>
    simp only [popL]
    by_cases d : lessB y z = true
    · rw [if_pos d]; exact ⟨List.Perm.refl _, by simp [Heap, less_not d]⟩
    · rw [if_neg d]; exact ⟨List.Perm.swap _ _ _, by simp [Heap, bool_no d]⟩
end Go.Proofs.YtdipkbgfkbmfnaaGreatDoor.dat

/-
  THE READERS OF A MERGE: which parts stand in the heap, with which marks; its first is the part that is read next; what is behind one record more.
-/
namespace Go.Proofs.YtdipkbgfkbmfnaaGreatDoor.dat
open Go.RowKit Go.Proofs.YtdipkbgfkbmfnaaGreatDoor.win

/-- The reader of a part. -/
noncomputable def mkR (c : ConfD) (L : List PartD) (H : List PartH) (rd : List Nat) (p : Nat) : RdD :=
  let h := H.getD p ⟨none, 0, 0⟩
  ⟨(p : Int), h.recsa, h.recsl, h.recsc, ((rd.getD p 0 : Nat) : Int), mk c L p (rd.getD p 0)⟩
theorem mkR_part (c : ConfD) (L : List PartD) (H : List PartH) (rd : List Nat) (p : Nat) : (mkR c L H rd p).part = (p : Int) := rfl
theorem mkR_mark (c : ConfD) (L : List PartD) (H : List PartH) (rd : List Nat) (p : Nat) : (mkR c L H rd p).mark = mk c L p (rd.getD p 0) := rfl
/-- The readers of the first k parts that have unread records. -/
structure Readers (c : ConfD) (L : List PartD) (H : List PartH) (rd : List Nat) (k : Nat) (l : List RdD) : Prop where
  all : ∀ x ∈ l, ∃ p, p < k ∧ opn L rd p = true ∧ x = mkR c L H rd p
  has : ∀ p, p < k → opn L rd p = true → mkR c L H rd p ∈ l
  nd : (l.map RdD.part).Nodup
  len : l.length ≤ k
theorem Readers.perm {c : ConfD} {L : List PartD} {H : List PartH} {rd : List Nat} {k : Nat} {l l' : List RdD} (h : Readers c L H rd k l) (p : l'.Perm l) : Readers c L H rd k l' :=
  ⟨fun x hx => h.all x (p.mem_iff.1 hx), fun q hq ho => p.mem_iff.2 (h.has q hq ho), (p.map _).nodup_iff.2 h.nd, by rw [p.length_eq]; exact h.len⟩
theorem Readers.start (c : ConfD) (L : List PartD) (H : List PartH) (rd : List Nat) : Readers c L H rd 0 [] := ⟨by simp, fun p hp => by omega, by simp, by simp⟩
theorem Readers.skip {c : ConfD} {L : List PartD} {H : List PartH} {rd : List Nat} {k : Nat} {l : List RdD} (h : Readers c L H rd k l) (ho : opn L rd k = false) : Readers c L H rd (k + 1) l :=
  ⟨fun x hx => by obtain ⟨p, h1, h2⟩ := h.all x hx; exact ⟨p, by omega, h2⟩, fun p hp hop => by
    by_cases e : p = k
    · subst e; rw [ho] at hop; cases hop
    · exact h.has p (by omega) hop, h.nd, Nat.le_succ_of_le h.len⟩
theorem Readers.add {c : ConfD} {L : List PartD} {H : List PartH} {rd : List Nat} {k : Nat} {l : List RdD} (h : Readers c L H rd k l) (ho : opn L rd k = true) : Readers c L H rd (k + 1) (l ++ [mkR c L H rd k]) := by
  refine ⟨fun x hx => ?_, fun p hp hop => ?_, ?_, by have := h.len; simp; omega⟩
  · rcases List.mem_append.1 hx with hx | hx
    · obtain ⟨p, h1, h2⟩ := h.all x hx; exact ⟨p, by omega, h2⟩
    · simp at hx; exact ⟨k, by omega, ho, hx⟩
  · by_cases e : p = k
    · subst e; simp
    · exact List.mem_append.2 (.inl (h.has p (by omega) hop))
  · rw [List.map_append, List.nodup_append]
    refine ⟨h.nd, by simp, ?_⟩
    intro a ha b hb e
    simp [mkR_part] at hb
    obtain ⟨x, hx, rfl⟩ := List.mem_map.1 ha
    obtain ⟨p, h1, _, rfl⟩ := h.all x hx
    rw [mkR_part] at e
    omega
/-- The first of a heap is the part that is read next. -/
theorem Readers.first {c : ConfD} {L : List PartD} {H : List PartH} {rd : List Nat} {k : Nat} {x : RdD} {r : List RdD} (h : Readers c L H rd k (x :: r)) (hh : Heap (x :: r)) : ∃ p, x = mkR c L H rd p ∧ Next c L rd k p := by
  obtain ⟨p, hp, ho, rfl⟩ := h.all x (by simp)
  refine ⟨p, rfl, hp, ho, fun q hq hoq => ?_⟩
  rcases List.mem_cons.1 (h.has q hq hoq) with e | hm
  · have : (q : Int) = (p : Int) := by rw [← mkR_part c L H rd q, e]; rfl
    have : q = p := by omega
    subst this
    exact ⟨Int.le_refl _, fun h => by omega⟩
  · have hl := hh _ hm
    rcases less_cases (mkR c L H rd q) (mkR c L H rd p) with ⟨h1, _⟩ | ⟨_, h1⟩
    · rw [hl] at h1; cases h1
    · rw [mkR_mark, mkR_mark, mkR_part, mkR_part] at h1
      exact ⟨by omega, fun _ => by omega⟩
theorem Readers.none {c : ConfD} {L : List PartD} {H : List PartH} {rd : List Nat} {k : Nat} (h : Readers c L H rd k []) : ∀ p, p < k → opn L rd p = false := by
  intro p hp
  cases ho : opn L rd p with
  | false => rfl
  | true => have := h.has p hp ho; simp at this
theorem mkR_other {c : ConfD} {L : List PartD} {H : List PartH} {rd : List Nat} {b p : Nat} (hb : b < rd.length) (h : p ≠ b) : mkR c L H (rdNext rd b) p = mkR c L H rd p := by
  unfold mkR rdNext
  rw [getD_set hb, if_neg h]
theorem opn_other {L : List PartD} {rd : List Nat} {b p : Nat} (hb : b < rd.length) (h : p ≠ b) : opn L (rdNext rd b) p = opn L rd p := by
  unfold opn rdNext
  rw [getD_set hb, if_neg h]
/-- One record more, the part has others. -/
theorem Readers.more {c : ConfD} {L : List PartD} {H : List PartH} {rd : List Nat} {k b : Nat} {r : List RdD} (h : Readers c L H rd k (mkR c L H rd b :: r)) (hk : b < k) (hb : b < rd.length) (ho : opn L (rdNext rd b) b = true) :
    Readers c L H (rdNext rd b) k (mkR c L H (rdNext rd b) b :: r) := by
  have hlen := h.len
  have hnd := h.nd
  rw [List.map_cons, List.nodup_cons] at hnd
  have hne : ∀ x ∈ r, ∀ p, x = mkR c L H rd p → p ≠ b := by
    rintro x hx p rfl rfl
    exact hnd.1 (List.mem_map.2 ⟨_, hx, rfl⟩)
  refine ⟨fun x hx => ?_, fun p hp hop => ?_, ?_, by simpa using hlen⟩
  · rcases List.mem_cons.1 hx with rfl | hx
    · exact ⟨b, hk, ho, rfl⟩
    · obtain ⟨p, h1, h2, h3⟩ := h.all x (by simp [hx])
      have hpb := hne x hx p h3
      exact ⟨p, h1, by rw [opn_other hb hpb]; exact h2, by rw [mkR_other hb hpb]; exact h3⟩
  · by_cases e : p = b
    · subst e; simp
    · rw [opn_other hb e] at hop
      rw [mkR_other hb e]
      rcases List.mem_cons.1 (h.has p hp hop) with e' | hm
      · exact absurd (by have : (p : Int) = (b : Int) := by rw [← mkR_part c L H rd p, e']; rfl
                         omega) e
      · exact List.mem_cons_of_mem _ hm
  · rw [List.map_cons, List.nodup_cons]
    exact hnd
/-- .. it has none. -/
theorem Readers.last {c : ConfD} {L : List PartD} {H : List PartH} {rd : List Nat} {k b : Nat} {r : List RdD} (h : Readers c L H rd k (mkR c L H rd b :: r)) (hb : b < rd.length) (ho : opn L (rdNext rd b) b = false) :
    Readers c L H (rdNext rd b) k r := by
  have hnd := h.nd
  rw [List.map_cons, List.nodup_cons] at hnd
  have hne : ∀ x ∈ r, ∀ p, x = mkR c L H rd p → p ≠ b := by
    rintro x hx p rfl rfl
    exact hnd.1 (List.mem_map.2 ⟨_, hx, rfl⟩)
  refine ⟨fun x hx => ?_, fun p hp hop => ?_, hnd.2, by have := h.len; simp at this; omega⟩
  · obtain ⟨p, h1, h2, h3⟩ := h.all x (by simp [hx])
    have hpb := hne x hx p h3
    exact ⟨p, h1, by rw [opn_other hb hpb]; exact h2, by rw [mkR_other hb hpb]; exact h3⟩
  · by_cases e : p = b
    · subst e; rw [ho] at hop; cases hop
    · rw [opn_other hb e] at hop
      rw [mkR_other hb e]
      rcases List.mem_cons.1 (h.has p hp hop) with e' | hm
      · exact absurd (by have : (p : Int) = (b : Int) := by rw [← mkR_part c L H rd p, e']; rfl
                         omega) e
      · exact hm
end Go.Proofs.YtdipkbgfkbmfnaaGreatDoor.dat

/-
  A HEAP OF READERS in memory: its slice in a box, its elements in a block of the call's own; the contracts of its methods (Len, Less, Swap, Push, Pop).
-/
namespace Go.Proofs.YtdipkbgfkbmfnaaGreatDoor.dat
open Go.RowKit Go.Proofs.YtdipkbgfkbmfnaaGreatDoor.win

/-- A reader's cells. -/
def RdD.list (x : RdD) : List Value := [.int .i64 x.part, .slice x.a x.n x.c, .int .i64 x.read, .int .i64 x.mark]
def rdFlat (l : List RdD) : List Value := (l.map RdD.list).flatten
/-- The heap: its slice stands in box q, its elements in block g. -/
structure InHeap (w : World) (q g cap : Nat) (l : List RdD) : Prop where
  box : Blk w q 67 [.slice (some ⟨g, 0, none⟩) l.length cap]
  row : ∃ rest, Blk w g 98 (rdFlat l ++ rest) ∧ rest.length = (cap - l.length) * 4
  le : l.length ≤ cap
  ne : q ≠ g

theorem InHeap.slot {w : World} {q g cap : Nat} {l : List RdD} (h : InHeap w q g cap l) : w.cell? ⟨q, 0, none⟩ = some (.slice (some ⟨g, 0, none⟩) l.length cap) := by
  have := h.box.cell 0
  simpa using this

set_option maxRecDepth 100000 in
set_option maxHeartbeats 1000000 in
theorem rd_less (g len cap i j : Nat) (x y : RdD) (w : World) (hi : i < len) (hj : j < len) (xp : w.cell? ⟨g, i * 4, none⟩ = some (.int .i64 x.part)) (xm : w.cell? ⟨g, i * 4 + 3, none⟩ = some (.int .i64 x.mark)) (yp : w.cell? ⟨g, j * 4, none⟩ = some (.int .i64 y.part)) (ym : w.cell? ⟨g, j * 4 + 3, none⟩ = some (.int .i64 y.mark)) :
    Calls Tryz.prog 160 #[.slice (some ⟨g, 0, none⟩) len cap, .int .i64 i, .int .i64 j] w fun e w' => e = .returned (.bool (lessB x y)) ∧ Below w.heap.size w w' := by
  have hi2 : (i : Int) < (len : Int) := by omega
  have hj2 : (j : Int) < (len : Int) := by omega
  have hi0 : (0 : Int) ≤ (i : Int) := by omega
  have hj0 : (0 : Int) ≤ (j : Int) := by omega
  by_cases hm : x.mark = y.mark
  · have HM := Lib.hid (show lessB x y = decide (x.part < y.part) by unfold lessB; rw [if_pos hm])
    go_enter Tryz.func160, Tryz.ntmps160
    go_wp2_with fail
    go_quiet (fail)
    go_wp2_with fail
    have e0 : (w.drewN nq).cell? ⟨g, i * 4, none⟩ = some (.int .i64 x.part) := xp
    have e1 : (w.drewN nq).cell? ⟨g, j * 4, none⟩ = some (.int .i64 y.part) := yp
    obtain ⟨wd, hwd⟩ : ∃ wd, w.drewN nq = wd := ⟨_, rfl⟩
    rw [hwd] at e0 e1 ⊢
    have HD := Lib.hid hwd
    clear hwd xp xm yp ym
    go_quiet (fail)
    go_wp2_with fail
    go_ret
    exact ⟨ret_bool HM.out.symm, by rw [← HD.out]; exact below_drewN (below_drewN (Below.refl _ _) _) _⟩
  · have HM := Lib.hid (show lessB x y = decide (x.mark < y.mark) by unfold lessB; rw [if_neg hm])
    go_enter Tryz.func160, Tryz.ntmps160
    go_wp2_with fail
    go_quiet (fail)
    go_wp2_with fail
    have e0 : (w.drewN nq).cell? ⟨g, i * 4 + 3, none⟩ = some (.int .i64 x.mark) := xm
    have e1 : (w.drewN nq).cell? ⟨g, j * 4 + 3, none⟩ = some (.int .i64 y.mark) := ym
    obtain ⟨wd, hwd⟩ : ∃ wd, w.drewN nq = wd := ⟨_, rfl⟩
    rw [hwd] at e0 e1 ⊢
    have HD := Lib.hid hwd
    clear hwd xp xm yp ym
    go_quiet (fail)
    go_wp2_with fail
    go_ret
    exact ⟨ret_bool HM.out.symm, by rw [← HD.out]; exact below_drewN (below_drewN (Below.refl _ _) _) _⟩

set_option maxRecDepth 100000 in
set_option maxHeartbeats 1000000 in
theorem rd_swap10 (g len cap : Nat) (x : RdD) (rest : List Value) (w : World) (hl : 0 < len) (hb : Blk w g 98 (rdFlat [x] ++ rest)) :
    Calls Tryz.prog 161 #[.slice (some ⟨g, 0, none⟩) len cap, .int .i64 0, .int .i64 0] w fun e w' => e = .returned (.tuple #[]) ∧ Blk w' g 98 (rdFlat [x] ++ rest) ∧ Apart [g] w w' := by
  have hj2 : (0 : Int) < (len : Int) := by omega
  have hi2 : (0 : Int) < (len : Int) := by omega
  have hf := hb.frozen
  have HB := Lib.hid hb
  have c0 := hb.cell 0
  have c1 := hb.cell 1
  have c2 := hb.cell 2
  have c3 := hb.cell 3
  simp [rdFlat, RdD.list] at c0 c1 c2 c3
  clear hb
  go_enter Tryz.func161, Tryz.ntmps161
  go_wp2_with fail
  go_region
  all_goals go_wp2_with fail
  all_goals go_end0
  all_goals exact ⟨rfl, by (apply Blk.of_eq; (repeat (first | (with_reducible exact HB.out) | (with_reducible apply Blk.set) | ((with_reducible apply Blk.other); · first | (simp; done) | (simp; omega)) | (with_reducible apply Blk.drew))); rfl), by with_reducible (repeat (first | exact Apart.refl _ _ | apply Apart.drew | refine Apart.setCell ?_ (List.mem_singleton.2 rfl) _ _))⟩

set_option maxRecDepth 100000 in
set_option maxHeartbeats 1000000 in
theorem rd_swap21 (g len cap : Nat) (x y : RdD) (rest : List Value) (w : World) (hl : 1 < len) (hb : Blk w g 98 (rdFlat [x, y] ++ rest)) :
    Calls Tryz.prog 161 #[.slice (some ⟨g, 0, none⟩) len cap, .int .i64 0, .int .i64 1] w fun e w' => e = .returned (.tuple #[]) ∧ Blk w' g 98 (rdFlat [y, x] ++ rest) ∧ Apart [g] w w' := by
  have hj2 : (1 : Int) < (len : Int) := by omega
  have hi2 : (0 : Int) < (len : Int) := by omega
  have hf := hb.frozen
  have HB := Lib.hid hb
  have c0 := hb.cell 0
  have c1 := hb.cell 1
  have c2 := hb.cell 2
  have c3 := hb.cell 3
  have c4 := hb.cell 4
  have c5 := hb.cell 5
  have c6 := hb.cell 6
  have c7 := hb.cell 7
  simp [rdFlat, RdD.list] at c0 c1 c2 c3 c4 c5 c6 c7
  clear hb
  go_enter Tryz.func161, Tryz.ntmps161
  go_wp2_with fail
  go_region
  all_goals go_wp2_with fail
  all_goals go_end0
  all_goals exact ⟨rfl, by (apply Blk.of_eq; (repeat (first | (with_reducible exact HB.out) | (with_reducible apply Blk.set) | ((with_reducible apply Blk.other); · first | (simp; done) | (simp; omega)) | (with_reducible apply Blk.drew))); rfl), by with_reducible (repeat (first | exact Apart.refl _ _ | apply Apart.drew | refine Apart.setCell ?_ (List.mem_singleton.2 rfl) _ _))⟩

set_option maxRecDepth 100000 in
set_option maxHeartbeats 1000000 in
theorem rd_swap31 (g len cap : Nat) (x y z : RdD) (rest : List Value) (w : World) (hl : 1 < len) (hb : Blk w g 98 (rdFlat [x, y, z] ++ rest)) :
    Calls Tryz.prog 161 #[.slice (some ⟨g, 0, none⟩) len cap, .int .i64 0, .int .i64 1] w fun e w' => e = .returned (.tuple #[]) ∧ Blk w' g 98 (rdFlat [y, x, z] ++ rest) ∧ Apart [g] w w' := by
  have hj2 : (1 : Int) < (len : Int) := by omega
  have hi2 : (0 : Int) < (len : Int) := by omega
  have hf := hb.frozen
  have HB := Lib.hid hb
  have c0 := hb.cell 0
  have c1 := hb.cell 1
  have c2 := hb.cell 2
  have c3 := hb.cell 3
  have c4 := hb.cell 4
  have c5 := hb.cell 5
  have c6 := hb.cell 6
  have c7 := hb.cell 7
  have c8 := hb.cell 8
  have c9 := hb.cell 9
  have c10 := hb.cell 10
  have c11 := hb.cell 11
  simp [rdFlat, RdD.list] at c0 c1 c2 c3 c4 c5 c6 c7 c8 c9 c10 c11
  clear hb
  go_enter Tryz.func161, Tryz.ntmps161
  go_wp2_with fail
  go_region
  all_goals go_wp2_with fail
  all_goals go_end0
  all_goals exact ⟨rfl, by (apply Blk.of_eq; (repeat (first | (with_reducible exact HB.out) | (with_reducible apply Blk.set) | ((with_reducible apply Blk.other); · first | (simp; done) | (simp; omega)) | (with_reducible apply Blk.drew))); rfl), by with_reducible (repeat (first | exact Apart.refl _ _ | apply Apart.drew | refine Apart.setCell ?_ (List.mem_singleton.2 rfl) _ _))⟩

set_option maxRecDepth 100000 in
set_option maxHeartbeats 1000000 in
theorem rd_swap32 (g len cap : Nat) (x y z : RdD) (rest : List Value) (w : World) (hl : 2 < len) (hb : Blk w g 98 (rdFlat [x, y, z] ++ rest)) :
    Calls Tryz.prog 161 #[.slice (some ⟨g, 0, none⟩) len cap, .int .i64 0, .int .i64 2] w fun e w' => e = .returned (.tuple #[]) ∧ Blk w' g 98 (rdFlat [z, y, x] ++ rest) ∧ Apart [g] w w' := by
  have hj2 : (2 : Int) < (len : Int) := by omega
  have hi2 : (0 : Int) < (len : Int) := by omega
  have hf := hb.frozen
  have HB := Lib.hid hb
  have c0 := hb.cell 0
  have c1 := hb.cell 1
  have c2 := hb.cell 2
  have c3 := hb.cell 3
  have c4 := hb.cell 4
  have c5 := hb.cell 5
  have c6 := hb.cell 6
  have c7 := hb.cell 7
  have c8 := hb.cell 8
  have c9 := hb.cell 9
  have c10 := hb.cell 10
  have c11 := hb.cell 11
  simp [rdFlat, RdD.list] at c0 c1 c2 c3 c4 c5 c6 c7 c8 c9 c10 c11
  clear hb
  go_enter Tryz.func161, Tryz.ntmps161
  go_wp2_with fail
  go_region
  all_goals go_wp2_with fail
  all_goals go_end0
  all_goals exact ⟨rfl, by (apply Blk.of_eq; (repeat (first | (with_reducible exact HB.out) | (with_reducible apply Blk.set) | ((with_reducible apply Blk.other); · first | (simp; done) | (simp; omega)) | (with_reducible apply Blk.drew))); rfl), by with_reducible (repeat (first | exact Apart.refl _ _ | apply Apart.drew | refine Apart.setCell ?_ (List.mem_singleton.2 rfl) _ _))⟩

end Go.Proofs.YtdipkbgfkbmfnaaGreatDoor.dat

/-
  THE HEAP's OWN FUNCTIONS (container/heap: up, down, Push, Pop, Fix) over at most three readers.
-/
namespace Go.Proofs.YtdipkbgfkbmfnaaGreatDoor.dat
open Go.RowKit Go.Proofs.YtdipkbgfkbmfnaaGreatDoor.win

theorem meth_at {q fuel : Nat} {a : Option Addr} {n c T U f : Nat} {nm : String} {w : World} {P : Program} (hrow : ∃ I m, (∀ w, (typeInfo T).run P w = .ok I w) ∧ I.methods.find? (·.name == nm) = some m ∧ m.path = #[] ∧ m.func = some (f, false))
    (hr : ∀ s, (receiverAt T (.val (.pointer (some ⟨q, 0, none⟩))) false (some s)).run P w = (loadVar U ⟨q, 0, none⟩).run P w) (hl : (loadVar U ⟨q, 0, none⟩).run P w = .ok (.slice a n c) w) :
    (method (fuel + 1) T (.pointer (some ⟨q, 0, none⟩)) nm).run P w = .ok (f, .slice a n c) w := by
  obtain ⟨I, m, h1, h2, h3, h4⟩ := hrow
  rw [method]
  simp only [Sem.run_bind, h1, Result.andThen_ok, h2, h3, follow, Sem.run_pure, h4]
  simp [hr, hl]
theorem rd_load (q : Nat) (a : Option Addr) (n c : Nat) (w : World) (h : w.cell? ⟨q, 0, none⟩ = some (.slice a n c)) : (loadVar 67 ⟨q, 0, none⟩).run Tryz.prog w = .ok (.slice a n c) w := by
  simp [go_sem, h]
theorem rd_recv (q : Nat) (w : World) (s : String) : (receiverAt 96 (.val (.pointer (some ⟨q, 0, none⟩))) false (some s)).run Tryz.prog w = (loadVar 67 ⟨q, 0, none⟩).run Tryz.prog w := by kernel_rfl
theorem meth_Len (q : Nat) (a : Option Addr) (n c : Nat) (w : World) (h : w.cell? ⟨q, 0, none⟩ = some (.slice a n c)) : (method 294 96 (.pointer (some ⟨q, 0, none⟩)) "Len").run Tryz.prog w = .ok (159, .slice a n c) w :=
  meth_at ⟨(Tryz.prog.info? 96).getD default, (((Tryz.prog.info? 96).getD default).methods.find? (·.name == "Len")).getD default, fun w => by kernel_rfl, by kernel_rfl, by kernel_rfl, by kernel_rfl⟩ (rd_recv q w) (rd_load q a n c w h)
theorem meth_Less (q : Nat) (a : Option Addr) (n c : Nat) (w : World) (h : w.cell? ⟨q, 0, none⟩ = some (.slice a n c)) : (method 294 96 (.pointer (some ⟨q, 0, none⟩)) "Less").run Tryz.prog w = .ok (160, .slice a n c) w :=
  meth_at ⟨(Tryz.prog.info? 96).getD default, (((Tryz.prog.info? 96).getD default).methods.find? (·.name == "Less")).getD default, fun w => by kernel_rfl, by kernel_rfl, by kernel_rfl, by kernel_rfl⟩ (rd_recv q w) (rd_load q a n c w h)
theorem meth_Swap (q : Nat) (a : Option Addr) (n c : Nat) (w : World) (h : w.cell? ⟨q, 0, none⟩ = some (.slice a n c)) : (method 294 96 (.pointer (some ⟨q, 0, none⟩)) "Swap").run Tryz.prog w = .ok (161, .slice a n c) w :=
  meth_at ⟨(Tryz.prog.info? 96).getD default, (((Tryz.prog.info? 96).getD default).methods.find? (·.name == "Swap")).getD default, fun w => by kernel_rfl, by kernel_rfl, by kernel_rfl, by kernel_rfl⟩ (rd_recv q w) (rd_load q a n c w h)
theorem meth_Push (q : Nat) (w : World) : (method 294 96 (.pointer (some ⟨q, 0, none⟩)) "Push").run Tryz.prog w = .ok (166, .pointer (some ⟨q, 0, none⟩)) w := by kernel_rfl
theorem meth_Pop (q : Nat) (w : World) : (method 294 96 (.pointer (some ⟨q, 0, none⟩)) "Pop").run Tryz.prog w = .ok (165, .pointer (some ⟨q, 0, none⟩)) w := by kernel_rfl

set_option maxRecDepth 100000 in
set_option maxHeartbeats 1000000 in
theorem up0 (v : Value) (w : World) : Calls Tryz.prog 87 #[v, .int .i64 0] w fun e w' => e = .returned (.tuple #[]) ∧ w' = w := by
  go_enter Tryz.func87, Tryz.ntmps87
  go_wp2_with fail
  go_loopg [1] 0 (fun k j wr => k = 0 ∧ j = .int .i64 0 ∧ wr = w)
  case atStart => exact ⟨rfl, rfl, rfl⟩
  case round =>
    obtain ⟨rfl, rfl, rfl⟩ := hrel
    go_wp2_with fail
    go_end0
    exact ⟨rfl, rfl⟩

set_option maxRecDepth 100000 in
set_option maxHeartbeats 1000000 in
theorem up2 (q g cap : Nat) (x y : RdD) (rest : List Value) (w : World) (hq : Blk w q 67 [.slice (some ⟨g, 0, none⟩) 2 cap]) (hg : Blk w g 98 (rdFlat [x, y] ++ rest)) :
    Calls Tryz.prog 87 #[.iface 96 (.pointer (some ⟨q, 0, none⟩)), .int .i64 1] w fun e w' => e = .returned (.tuple #[]) ∧ Blk w' g 98 (rdFlat (upL [x, y]) ++ rest) ∧ Apart [g] w w' := by
  have q0 := hq.cell 0
  simp at q0
  go_enter Tryz.func87, Tryz.ntmps87
  go_wp2_with fail
  go_loopg [1] 1 (fun k j wr => (k = 1 ∧ j = .int .i64 1 ∧ wr = w) ∨ (k = 0 ∧ j = .int .i64 0 ∧ Blk wr g 98 (rdFlat (upL [x, y]) ++ rest) ∧ Apart [g] w wr))
  case atStart => exact .inl ⟨rfl, rfl, rfl⟩
  case round =>
    rcases hrel with ⟨rfl, rfl, rfl⟩ | ⟨rfl, rfl, hb, ha⟩
    · have m1 := meth_Less q _ _ _ _ q0
      have HG := Lib.hid hg
      have HQ := Lib.hid hq
      have HA := Lib.hid (Apart.refl [g] wr)
      clear hg hq
      have g4 := HG.out.cell 4
      have g7 := HG.out.cell 7
      have g0 := HG.out.cell 0
      have g3 := HG.out.cell 3
      simp [rdFlat, RdD.list] at g4 g7 g0 g3
      have HL := Lib.hid (rd_less g 2 cap 1 0 y x wr (by omega) (by omega) g4 g7 g0 g3)
      clear g4 g7 g0 g3
      go_wp2_with fail
      refine HL.out.mono ?_
      rintro e w1 ⟨rfl, b1⟩
      have G1 := Lib.hid (HG.out.below b1 HG.out.lt)
      have Q1 := Lib.hid (HQ.out.below b1 HQ.out.lt)
      have q1 := Q1.out.cell 0
      simp at q1
      have A1 := Lib.hid (HA.out.trans (Apart.of_below (fp := [g]) b1))
      clear b1 HL
      clear HG HQ HA q0 m1
      cases hp : lessB y x with
      | false =>
        have HU := Lib.hid (show [x, y] = upL [x, y] by simp [upL, hp])
        clear hp q1
        go_wp2_with fail
        go_end0
        exact ⟨rfl, by rw [← HU.out]; exact G1.out, A1.out⟩
      | true =>
        have HU := Lib.hid (show [y, x] = upL [x, y] by simp [upL, hp])
        clear hp
        have m2 := meth_Swap q _ _ _ _ q1
        go_wp2_with fail
        refine (rd_swap21 g 2 cap x y rest w1 (by omega) G1.out).mono ?_
        rintro e w9 ⟨rfl, k9, a9⟩
        have G9 := Lib.hid k9
        have A9 := Lib.hid (A1.out.trans a9)
        clear k9 a9
        go_wp2_with fail
        go_roundg 0
        case measure => omega
        case rel => exact .inr ⟨rfl, by go_num, by rw [← HU.out]; exact G9.out, A9.out⟩
    · have HB := Lib.hid hb
      have HA := Lib.hid ha
      clear hb ha
      go_wp2_with fail
      go_end0
      exact ⟨rfl, HB.out, HA.out⟩

set_option maxRecDepth 100000 in
set_option maxHeartbeats 1000000 in
theorem up3 (q g cap : Nat) (x y z : RdD) (rest : List Value) (w : World) (hq : Blk w q 67 [.slice (some ⟨g, 0, none⟩) 3 cap]) (hg : Blk w g 98 (rdFlat [x, y, z] ++ rest)) :
    Calls Tryz.prog 87 #[.iface 96 (.pointer (some ⟨q, 0, none⟩)), .int .i64 2] w fun e w' => e = .returned (.tuple #[]) ∧ Blk w' g 98 (rdFlat (upL [x, y, z]) ++ rest) ∧ Apart [g] w w' := by
  have q0 := hq.cell 0
  simp at q0
  go_enter Tryz.func87, Tryz.ntmps87
  go_wp2_with fail
  go_loopg [1] 1 (fun k j wr => (k = 1 ∧ j = .int .i64 2 ∧ wr = w) ∨ (k = 0 ∧ j = .int .i64 0 ∧ Blk wr g 98 (rdFlat (upL [x, y, z]) ++ rest) ∧ Apart [g] w wr))
  case atStart => exact .inl ⟨rfl, rfl, rfl⟩
  case round =>
    rcases hrel with ⟨rfl, rfl, rfl⟩ | ⟨rfl, rfl, hb, ha⟩
    · have m1 := meth_Less q _ _ _ _ q0
      have HG := Lib.hid hg
      have HQ := Lib.hid hq
      have HA := Lib.hid (Apart.refl [g] wr)
      clear hg hq
      have g8 := HG.out.cell 8
      have g11 := HG.out.cell 11
      have g0 := HG.out.cell 0
      have g3 := HG.out.cell 3
      simp [rdFlat, RdD.list] at g8 g11 g0 g3
      have HL := Lib.hid (rd_less g 3 cap 2 0 z x wr (by omega) (by omega) g8 g11 g0 g3)
      clear g8 g11 g0 g3
      go_wp2_with fail
      refine HL.out.mono ?_
      rintro e w1 ⟨rfl, b1⟩
      have G1 := Lib.hid (HG.out.below b1 HG.out.lt)
      have Q1 := Lib.hid (HQ.out.below b1 HQ.out.lt)
      have q1 := Q1.out.cell 0
      simp at q1
      have A1 := Lib.hid (HA.out.trans (Apart.of_below (fp := [g]) b1))
      clear b1 HL
      clear HG HQ HA q0 m1
      cases hp : lessB z x with
      | false =>
        have HU := Lib.hid (show [x, y, z] = upL [x, y, z] by simp [upL, hp])
        clear hp q1
        go_wp2_with fail
        go_end0
        exact ⟨rfl, by rw [← HU.out]; exact G1.out, A1.out⟩
      | true =>
        have HU := Lib.hid (show [z, y, x] = upL [x, y, z] by simp [upL, hp])
        clear hp
        have m2 := meth_Swap q _ _ _ _ q1
        go_wp2_with fail
        refine (rd_swap32 g 3 cap x y z rest w1 (by omega) G1.out).mono ?_
        rintro e w9 ⟨rfl, k9, a9⟩
        have G9 := Lib.hid k9
        have A9 := Lib.hid (A1.out.trans a9)
        clear k9 a9
        go_wp2_with fail
        go_roundg 0
        case measure => omega
        case rel => exact .inr ⟨rfl, by go_num, by rw [← HU.out]; exact G9.out, A9.out⟩
    · have HB := Lib.hid hb
      have HA := Lib.hid ha
      clear hb ha
      go_wp2_with fail
      go_end0
      exact ⟨rfl, HB.out, HA.out⟩

set_option maxRecDepth 100000 in
set_option maxHeartbeats 1000000 in
theorem down0 (v : Value) (w : World) : Calls Tryz.prog 90 #[v, .int .i64 0, .int .i64 0] w fun e w' => (∃ r, e = .returned (.bool r)) ∧ w' = w := by
  go_enter Tryz.func90, Tryz.ntmps90
  go_wp2_with fail
  go_loopg [7] 0 (fun k i wr => k = 0 ∧ i = .int .i64 0 ∧ wr = w)
  case atStart => exact ⟨rfl, rfl, rfl⟩
  case round =>
    obtain ⟨rfl, rfl, rfl⟩ := hrel
    go_wp2_with fail
    go_ret
    exact ⟨⟨_, rfl⟩, rfl⟩

set_option maxRecDepth 100000 in
set_option maxHeartbeats 1000000 in
theorem down1 (v : Value) (w : World) : Calls Tryz.prog 90 #[v, .int .i64 0, .int .i64 1] w fun e w' => (∃ r, e = .returned (.bool r)) ∧ w' = w := by
  go_enter Tryz.func90, Tryz.ntmps90
  go_wp2_with fail
  go_loopg [7] 0 (fun k i wr => k = 0 ∧ i = .int .i64 0 ∧ wr = w)
  case atStart => exact ⟨rfl, rfl, rfl⟩
  case round =>
    obtain ⟨rfl, rfl, rfl⟩ := hrel
    go_wp2_with fail
    go_ret
    exact ⟨⟨_, rfl⟩, rfl⟩

set_option maxRecDepth 100000 in
set_option maxHeartbeats 1000000 in
theorem down2 (q g cap : Nat) (x y : RdD) (rest : List Value) (w : World) (hq : Blk w q 67 [.slice (some ⟨g, 0, none⟩) 2 cap]) (hg : Blk w g 98 (rdFlat [x, y] ++ rest)) :
    Calls Tryz.prog 90 #[.iface 96 (.pointer (some ⟨q, 0, none⟩)), .int .i64 0, .int .i64 2] w fun e w' => (∃ r, e = .returned (.bool r)) ∧ Blk w' g 98 (rdFlat (downL [x, y]) ++ rest) ∧ Apart [g] w w' := by
  have q0 := hq.cell 0
  simp at q0
  go_enter Tryz.func90, Tryz.ntmps90
  go_wp2_with fail
  go_loopg [7] 1 (fun k i wr => (k = 1 ∧ i = .int .i64 0 ∧ wr = w) ∨ (k = 0 ∧ (i = .int .i64 1 ∨ i = .int .i64 2) ∧ Blk wr g 98 (rdFlat (downL [x, y]) ++ rest) ∧ Apart [g] w wr))
  case atStart => exact .inl ⟨rfl, rfl, rfl⟩
  case round =>
    rcases hrel with ⟨rfl, rfl, rfl⟩ | ⟨rfl, hi, hb, ha⟩
    · have m1 := meth_Less q _ _ _ _ q0
      have HG := Lib.hid hg
      have HQ := Lib.hid hq
      have HA := Lib.hid (Apart.refl [g] wr)
      clear hg hq
      have g4 := HG.out.cell 4
      have g7 := HG.out.cell 7
      have g0 := HG.out.cell 0
      have g3 := HG.out.cell 3
      simp [rdFlat, RdD.list] at g4 g7 g0 g3
      have HL := Lib.hid (rd_less g 2 cap 1 0 y x wr (by omega) (by omega) g4 g7 g0 g3)
      clear g4 g7 g0 g3
      go_wp2_with fail
      refine HL.out.mono ?_
      rintro e w1 ⟨rfl, b1⟩
      have G1 := Lib.hid (HG.out.below b1 HG.out.lt)
      have Q1 := Lib.hid (HQ.out.below b1 HQ.out.lt)
      have q1 := Q1.out.cell 0
      simp at q1
      have A1 := Lib.hid (HA.out.trans (Apart.of_below (fp := [g]) b1))
      clear b1 HL
      clear HG HQ HA
      cases hp : lessB y x with
      | false =>
        have HU := Lib.hid (show [x, y] = downL [x, y] by simp [downL, hp])
        clear hp q1
        go_wp2_with fail
        go_ret
        exact ⟨⟨_, rfl⟩, by rw [← HU.out]; exact G1.out, A1.out⟩
      | true =>
        have HU := Lib.hid (show [y, x] = downL [x, y] by simp [downL, hp])
        clear hp
        have m2 := meth_Swap q _ _ _ _ q1
        go_wp2_with fail
        refine (rd_swap21 g 2 cap x y rest w1 (by omega) G1.out).mono ?_
        rintro e w9 ⟨rfl, k9, a9⟩
        have G9 := Lib.hid k9
        have A9 := Lib.hid (A1.out.trans a9)
        clear k9 a9
        go_wp2_with fail
        go_roundg 0
        case measure => omega
        case rel => exact .inr ⟨rfl, .inl (by go_num), by rw [← HU.out]; exact G9.out, A9.out⟩
    · have HB := Lib.hid hb
      have HA := Lib.hid ha
      clear hb ha
      rcases hi with rfl | rfl
      all_goals go_wp2_with fail
      all_goals go_ret
      all_goals exact ⟨⟨_, rfl⟩, HB.out, HA.out⟩

set_option maxRecDepth 100000 in
set_option maxHeartbeats 1000000 in
theorem down23 (q g cap : Nat) (x y z : RdD) (rest : List Value) (w : World) (hq : Blk w q 67 [.slice (some ⟨g, 0, none⟩) 3 cap]) (hg : Blk w g 98 (rdFlat [x, y, z] ++ rest)) :
    Calls Tryz.prog 90 #[.iface 96 (.pointer (some ⟨q, 0, none⟩)), .int .i64 0, .int .i64 2] w fun e w' => (∃ r, e = .returned (.bool r)) ∧ Blk w' g 98 (rdFlat (downL [x, y] ++ [z]) ++ rest) ∧ Apart [g] w w' := by
  have q0 := hq.cell 0
  simp at q0
  go_enter Tryz.func90, Tryz.ntmps90
  go_wp2_with fail
  go_loopg [7] 1 (fun k i wr => (k = 1 ∧ i = .int .i64 0 ∧ wr = w) ∨ (k = 0 ∧ (i = .int .i64 1 ∨ i = .int .i64 2) ∧ Blk wr g 98 (rdFlat (downL [x, y] ++ [z]) ++ rest) ∧ Apart [g] w wr))
  case atStart => exact .inl ⟨rfl, rfl, rfl⟩
  case round =>
    rcases hrel with ⟨rfl, rfl, rfl⟩ | ⟨rfl, hi, hb, ha⟩
    · have m1 := meth_Less q _ _ _ _ q0
      have HG := Lib.hid hg
      have HQ := Lib.hid hq
      have HA := Lib.hid (Apart.refl [g] wr)
      clear hg hq
      have g4 := HG.out.cell 4
      have g7 := HG.out.cell 7
      have g0 := HG.out.cell 0
      have g3 := HG.out.cell 3
      simp [rdFlat, RdD.list] at g4 g7 g0 g3
      have HL := Lib.hid (rd_less g 3 cap 1 0 y x wr (by omega) (by omega) g4 g7 g0 g3)
      clear g4 g7 g0 g3
      go_wp2_with fail
      refine HL.out.mono ?_
      rintro e w1 ⟨rfl, b1⟩
      have G1 := Lib.hid (HG.out.below b1 HG.out.lt)
      have Q1 := Lib.hid (HQ.out.below b1 HQ.out.lt)
      have q1 := Q1.out.cell 0
      simp at q1
      have A1 := Lib.hid (HA.out.trans (Apart.of_below (fp := [g]) b1))
      clear b1 HL
      clear HG HQ HA
      cases hp : lessB y x with
      | false =>
        have HU := Lib.hid (show [x, y, z] = downL [x, y] ++ [z] by simp [downL, hp])
        clear hp q1
        go_wp2_with fail
        go_ret
        exact ⟨⟨_, rfl⟩, by rw [← HU.out]; exact G1.out, A1.out⟩
      | true =>
        have HU := Lib.hid (show [y, x, z] = downL [x, y] ++ [z] by simp [downL, hp])
        clear hp
        have m2 := meth_Swap q _ _ _ _ q1
        go_wp2_with fail
        refine (rd_swap31 g 3 cap x y z rest w1 (by omega) G1.out).mono ?_
        rintro e w9 ⟨rfl, k9, a9⟩
        have G9 := Lib.hid k9
        have A9 := Lib.hid (A1.out.trans a9)
        clear k9 a9
        go_wp2_with fail
        go_roundg 0
        case measure => omega
        case rel => exact .inr ⟨rfl, .inl (by go_num), by rw [← HU.out]; exact G9.out, A9.out⟩
    · have HB := Lib.hid hb
      have HA := Lib.hid ha
      clear hb ha
      rcases hi with rfl | rfl
      all_goals go_wp2_with fail
      all_goals go_ret
      all_goals exact ⟨⟨_, rfl⟩, HB.out, HA.out⟩

set_option maxRecDepth 100000 in
set_option maxHeartbeats 1000000 in
theorem down3 (q g cap : Nat) (x y z : RdD) (rest : List Value) (w : World) (hq : Blk w q 67 [.slice (some ⟨g, 0, none⟩) 3 cap]) (hg : Blk w g 98 (rdFlat [x, y, z] ++ rest)) :
    Calls Tryz.prog 90 #[.iface 96 (.pointer (some ⟨q, 0, none⟩)), .int .i64 0, .int .i64 3] w fun e w' => (∃ r, e = .returned (.bool r)) ∧ Blk w' g 98 (rdFlat (downL [x, y, z]) ++ rest) ∧ Apart [g] w w' := by
  have q0 := hq.cell 0
  simp at q0
  go_enter Tryz.func90, Tryz.ntmps90
  go_wp2_with fail
  go_loopg [7] 1 (fun k i wr => (k = 1 ∧ i = .int .i64 0 ∧ wr = w) ∨ (k = 0 ∧ (i = .int .i64 1 ∨ i = .int .i64 2) ∧ Blk wr g 98 (rdFlat (downL [x, y, z]) ++ rest) ∧ Apart [g] w wr))
  case atStart => exact .inl ⟨rfl, rfl, rfl⟩
  case round =>
    rcases hrel with ⟨rfl, rfl, rfl⟩ | ⟨rfl, hi, hb, ha⟩
    · have m1 := meth_Less q _ _ _ _ q0
      have HG := Lib.hid hg
      have HQ := Lib.hid hq
      have HA := Lib.hid (Apart.refl [g] wr)
      clear hg hq
      have g8 := HG.out.cell 8
      have g11 := HG.out.cell 11
      have g4 := HG.out.cell 4
      have g7 := HG.out.cell 7
      simp [rdFlat, RdD.list] at g8 g11 g4 g7
      have HL := Lib.hid (rd_less g 3 cap 2 1 z y wr (by omega) (by omega) g8 g11 g4 g7)
      clear g8 g11 g4 g7
      go_wp2_with fail
      refine HL.out.mono ?_
      rintro e w5 ⟨rfl, b1⟩
      have G5 := Lib.hid (HG.out.below b1 HG.out.lt)
      have Q5 := Lib.hid (HQ.out.below b1 HQ.out.lt)
      have q5 := Q5.out.cell 0
      simp at q5
      have A5 := Lib.hid (HA.out.trans (Apart.of_below (fp := [g]) b1))
      clear b1 HL
      clear HG HQ HA q0 m1
      have m1 := meth_Less q _ _ _ _ q5
      cases hd : lessB z y with
      | false =>
        have HD := Lib.hid hd
        clear hd
        have g4 := G5.out.cell 4
        have g7 := G5.out.cell 7
        have g0 := G5.out.cell 0
        have g3 := G5.out.cell 3
        simp [rdFlat, RdD.list] at g4 g7 g0 g3
        have HL := Lib.hid (rd_less g 3 cap 1 0 y x w5 (by omega) (by omega) g4 g7 g0 g3)
        clear g4 g7 g0 g3
        go_wp2_with fail
        refine HL.out.mono ?_
        rintro e w6 ⟨rfl, b1⟩
        have G6 := Lib.hid (G5.out.below b1 G5.out.lt)
        have Q6 := Lib.hid (Q5.out.below b1 Q5.out.lt)
        have q6 := Q6.out.cell 0
        simp at q6
        have A6 := Lib.hid (A5.out.trans (Apart.of_below (fp := [g]) b1))
        clear b1 HL
        clear G5 Q5 A5
        cases hp : lessB y x with
        | false =>
          have HU := Lib.hid (show [x, y, z] = downL [x, y, z] by simp [downL, hp, HD.out])
          clear hp q6
          go_wp2_with fail
          go_ret
          exact ⟨⟨_, rfl⟩, by rw [← HU.out]; exact G6.out, A6.out⟩
        | true =>
          have HU := Lib.hid (show [y, x, z] = downL [x, y, z] by simp [downL, hp, HD.out])
          clear hp
          have m2 := meth_Swap q _ _ _ _ q6
          go_wp2_with fail
          refine (rd_swap31 g 3 cap x y z rest w6 (by omega) G6.out).mono ?_
          rintro e w9 ⟨rfl, k9, a9⟩
          have G9 := Lib.hid k9
          have A9 := Lib.hid (A6.out.trans a9)
          clear k9 a9
          go_wp2_with fail
          go_roundg 0
          case measure => omega
          case rel => exact .inr ⟨rfl, .inl (by go_num), by rw [← HU.out]; exact G9.out, A9.out⟩
      | true =>
        have HD := Lib.hid hd
        clear hd
        have g8 := G5.out.cell 8
        have g11 := G5.out.cell 11
        have g0 := G5.out.cell 0
        have g3 := G5.out.cell 3
        simp [rdFlat, RdD.list] at g8 g11 g0 g3
        have HL := Lib.hid (rd_less g 3 cap 2 0 z x w5 (by omega) (by omega) g8 g11 g0 g3)
        clear g8 g11 g0 g3
        go_wp2_with fail
        refine HL.out.mono ?_
        rintro e w6 ⟨rfl, b1⟩
        have G6 := Lib.hid (G5.out.below b1 G5.out.lt)
        have Q6 := Lib.hid (Q5.out.below b1 Q5.out.lt)
        have q6 := Q6.out.cell 0
        simp at q6
        have A6 := Lib.hid (A5.out.trans (Apart.of_below (fp := [g]) b1))
        clear b1 HL
        clear G5 Q5 A5
        cases hp : lessB z x with
        | false =>
          have HU := Lib.hid (show [x, y, z] = downL [x, y, z] by simp [downL, hp, HD.out])
          clear hp q6
          go_wp2_with fail
          go_ret
          exact ⟨⟨_, rfl⟩, by rw [← HU.out]; exact G6.out, A6.out⟩
        | true =>
          have HU := Lib.hid (show [z, y, x] = downL [x, y, z] by simp [downL, hp, HD.out])
          clear hp
          have m2 := meth_Swap q _ _ _ _ q6
          go_wp2_with fail
          refine (rd_swap32 g 3 cap x y z rest w6 (by omega) G6.out).mono ?_
          rintro e w9 ⟨rfl, k9, a9⟩
          have G9 := Lib.hid k9
          have A9 := Lib.hid (A6.out.trans a9)
          clear k9 a9
          go_wp2_with fail
          go_roundg 0
          case measure => omega
          case rel => exact .inr ⟨rfl, .inr (by go_num), by rw [← HU.out]; exact G9.out, A9.out⟩
    · have HB := Lib.hid hb
      have HA := Lib.hid ha
      clear hb ha
      rcases hi with rfl | rfl
      all_goals go_wp2_with fail
      all_goals go_ret
      all_goals exact ⟨⟨_, rfl⟩, HB.out, HA.out⟩

end Go.Proofs.YtdipkbgfkbmfnaaGreatDoor.dat

/-
  A HEAP OF READERS THAT GROWS: the method Push and container/heap.Push.
-/
namespace Go.Proofs.YtdipkbgfkbmfnaaGreatDoor.dat
open Go.RowKit Go.Proofs.YtdipkbgfkbmfnaaGreatDoor.win

def RRd : Rel RdD := fun _ cs x f => cs = RdD.list x ∧ f = []
theorem local_rd : Local RRd := ⟨fun h _ => h, fun h b hb => by rw [h.2] at hb; simp at hb⟩
/-- The heap under way: its slice in box q, its row behind the box. -/
def HeapAt (q : Nat) (l : List RdD) (w : World) : Prop := ∃ v, Blk w q 67 [v] ∧ Grows 4 RRd 98 (q + 1) w v l
theorem info_reader : (Tryz.prog.info? 98).map (fun i => (i.zero, i.size, i.bytes)) = some (some (.agg #[.int .i64 0, .slice none 0 0, .int .i64 0, .int .i64 0]), 4, 48) := by kernel_rfl
theorem assert_rd (v : Value) (w : World) : (Instr.typeAssert (.iface 98 v) 20 98 false).run Tryz.prog w = .ok v w := by kernel_rfl

set_option maxRecDepth 100000 in
set_option maxHeartbeats 1000000 in
theorem rd_push (q : Nat) (l : List RdD) (x : RdD) (w : World) (h : HeapAt q l w) (h2 : l.length ≤ 2) :
    Calls Tryz.prog 166 #[.pointer (some ⟨q, 0, none⟩), .iface 98 (.agg (RdD.list x).toArray)] w fun e w' => e = .returned (.tuple #[]) ∧ HeapAt q (l ++ [x]) w' ∧ Below q w w' := by
  obtain ⟨v, hb, hG⟩ := h
  obtain ⟨a, cap, rfl⟩ := hG.slice
  have c0 := hb.cell 0
  have ql := hb.lt
  simp at c0
  have HB := Lib.hid hb
  have HG := Lib.hid hG
  clear hb hG
  simp only [RdD.list]
  go_enter Tryz.func166, Tryz.ntmps166
  go_wp2_with fail
  refine mix.wp_region_tail (fun w' => w'.cell? ⟨q, 0, none⟩ = some (.slice a l.length cap)) [6,7] [0,1,2,3,4,5,6,7,8] (by kernel_rfl) (by kernel_rfl) (fun _ _ d _ _ h => by cases d <;> exact h) c0 ?_
  simp only [List.filterMap_cons, List.filterMap_nil, List.getElem?_cons_zero, List.getElem?_cons_succ, Option.map_some]
  have as1 := assert_rd
  (repeat (apply mix.ordt_take; (· rfl); (· rfl); (· (intro w' hSw; (try dsimp only at hSw); go_simp; try with_reducible rfl)); (try simp only [Act.put, List.setIfInBounds_toArray, List.set_cons_zero, List.set_cons_succ])))
  clear as1
  refine mix.ordt_hard rfl (fun K hK => ?_); go_simp
  have hb7 : Below w.drew.heap.size w.drew (w.drew.alloc (.cells #[.int .i64 x.part, .slice x.a x.n x.c, .int .i64 x.read, .int .i64 x.mark] 98)) := (Below.refl _ _).alloc (Nat.le_refl _) _
  have d2 : (w.drew.alloc (.cells #[.int .i64 x.part, .slice x.a x.n x.c, .int .i64 x.read, .int .i64 x.mark] 98)).cell? ⟨q, 0, none⟩ = some (.slice a l.length cap) := (hb7.cell (p := ⟨q, 0, none⟩) ql).trans c0
  refine hK.out _ _ (by exact d2) (fun hSw => ?_); clear hK K hSw; (try simp only [Act.put, List.setIfInBounds_toArray, List.set_cons_zero, List.set_cons_succ])
  obtain ⟨i0, hi, hi2⟩ := Option.map_eq_some_iff.1 info_reader
  simp only [Prod.mk.injEq] at hi2
  obtain ⟨hz0, hz1, hz2⟩ := hi2
  refine mix.ordt_hardb rfl rfl (fun K hK => ?_)
  refine push_wp (v := .slice a l.length cap) local_rd _ _ 67 rfl i0 (.agg #[.int .i64 0, .slice none 0 0, .int .i64 0, .int .i64 0]) 48 Tryz.underlying67 hi hz0 hz1 hz2 rfl (by decide) rfl (HG.out.below local_rd (Below.refl _ _).drew) hb7 w.drew.heap.size 1 rfl (RdD.list x) rfl (fun u hu => by simp [RdD.list] at hu; rcases hu with rfl | rfl | rfl | rfl <;> rfl) (fun j u hj => ?_) x [] ⟨rfl, rfl⟩ Own.nil (by omega) (by unfold maxLen; omega) (Nat.succ_le_of_lt ql) ?_
  · exact ((blk_new w.drew 98 (RdD.list x)).cell j).trans hj
  intro v8 W8 hG8 hb8 hk8 hw8
  obtain ⟨a8, cap8, hv8⟩ := hG8.slice
  subst hv8
  generalize hn8 : (l ++ [x]).length = n8 at *
  have hBl : Below (q + 1) w W8 := (((Below.refl _ _).drew).alloc (Nat.succ_le_of_lt ql) _).trans hb8
  have X8 := Lib.hid (HB.out.below hBl (Nat.lt_succ_self q))
  have G8 := Lib.hid hG8
  have B8 := Lib.hid (hBl.mono (Nat.le_succ q))
  have d8 := X8.out.cell 0
  have f8 := X8.out.frozen
  simp at d8
  clear hk8 hw8 hb8 hG8 hBl hb7 d2 c0 HB HG
  refine hK.out _ _ (by exact d8) (fun hSw => ?_); clear hK K hSw; (try simp only [Act.put, List.setIfInBounds_toArray, List.set_cons_zero, List.set_cons_succ])
  (repeat (apply mix.ordt_take; (· rfl); (· rfl); (· (intro w' hSw; (try dsimp only at hSw); go_simp; try with_reducible rfl)); (try simp only [Act.put, List.setIfInBounds_toArray, List.set_cons_zero, List.set_cons_succ])))
  refine mix.ordt_end ?_; refine mix.last_step (fun K hK => ?_); go_simp
  refine hK _ _ ?_
  clear hK K
  go_wp2_with fail
  go_end0
  refine ⟨rfl, ⟨_, (X8.out.set 0 _).of_eq rfl, G8.out.keep local_rd (fun b h1 _ => Below.heap_setCell _ _ _ b (by show b ≠ q; omega))⟩, B8.out.setCell (Nat.le_refl _) _⟩

theorem rdFlat_len (l : List RdD) : (rdFlat l).length = l.length * 4 := by
  unfold rdFlat
  induction l with
  | nil => rfl
  | cons x r ih => rw [List.map_cons, List.flatten_cons, List.length_append, ih]; simp [RdD.list]; omega
theorem rd_css {w : World} : ∀ {l : List RdD} {css : List (List Value)} {F : List (List Nat)}, css.length = l.length → F.length = l.length → (∀ (i : Nat) x c f, l[i]? = some x → css[i]? = some c → F[i]? = some f → RRd w c x f) → css.flatten = rdFlat l
  | [], css, F, h1, _, _ => by
    obtain rfl : css = [] := List.length_eq_zero_iff.1 h1
    rfl
  | x :: l, [], _, h1, _, _ => by simp at h1
  | x :: l, c :: css, [], _, h2, _ => by simp at h2
  | x :: l, c :: css, f :: F, h1, h2, h => by
    have e := (h 0 x c f rfl rfl rfl).1
    have r := rd_css (l := l) (css := css) (F := F) (by simpa using h1) (by simpa using h2) (fun i x c f a b d => h (i + 1) x c f (by simpa using a) (by simpa using b) (by simpa using d))
    rw [List.flatten_cons, e, r]
    simp [rdFlat]
/-- The heap's blocks written out. -/
structure HB (w : World) (q g cap : Nat) (l : List RdD) (rest : List Value) : Prop where
  box : Blk w q 67 [.slice (some ⟨g, 0, none⟩) l.length cap]
  row : Blk w g 98 (rdFlat l ++ rest)
  ne : q ≠ g
  le : l.length ≤ cap
  mx : cap ≤ maxLen
  sz : (rdFlat l ++ rest).length = cap * 4
theorem HeapAt.blk {q : Nat} {l : List RdD} {w : World} (h : HeapAt q l w) (hl : 0 < l.length) : ∃ g cap rest, HB w q g cap l rest ∧ q < g := by
  obtain ⟨v, hb, hG⟩ := h
  obtain ⟨css, F, h1, h2, h3, h4, h5, h6, ho⟩ := hG.ex
  rcases ho.2 with ⟨_, h0⟩ | ⟨g, cap, cur, rfl, hbg, hg, hnc, hcm, hcs, htake⟩
  · omega
  · have e := rd_css h1 h2 h4
    have hd : cur.toList = rdFlat l ++ cur.toList.drop (l.length * 4) := by
      conv => lhs; rw [← List.take_append_drop (l.length * 4) cur.toList]
      rw [htake, e]
    refine ⟨g, cap, cur.toList.drop (l.length * 4), ⟨hb, ?_, by omega, hnc, hcm, by rw [← hd]; simpa using hcs⟩, by omega⟩
    show w.heap[g]? = some (.cells (rdFlat l ++ cur.toList.drop (l.length * 4)).toArray _ (0, 0))
    rw [← hd]
    simpa using hg
theorem HB.at {q g cap : Nat} {l : List RdD} {rest : List Value} {w : World} (h : HB w q g cap l rest) (hq : q < g) : HeapAt q l w := by
  refine ⟨_, h.box, ⟨l.map RdD.list, List.replicate l.length [], by simp, by simp, ?_, ?_, ?_, ?_, ?_⟩⟩
  · intro c hc
    obtain ⟨x, _, rfl⟩ := List.mem_map.1 hc
    rfl
  · intro i x c f hx hc hf
    rw [List.getElem?_map, hx] at hc
    simp at hc
    exact ⟨hc.symm, (List.mem_replicate.1 (List.mem_of_getElem? hf)).2⟩
  · simp
  · intro b hb'
    simp at hb'
  · refine ⟨by show (rdFlat l).length = _; exact rdFlat_len l, .inr ⟨g, cap, (rdFlat l ++ rest).toArray, rfl, by omega, h.row, h.le, h.mx, by simpa using h.sz, ?_⟩⟩
    show (rdFlat l ++ rest).take _ = rdFlat l
    rw [← rdFlat_len, List.take_left]

/-- up, from the last on. -/
theorem up_any {q g cap : Nat} {l : List RdD} {rest : List Value} {w : World} (h : HB w q g cap l rest) (h0 : 0 < l.length) (h3 : l.length ≤ 3) :
    Calls Tryz.prog 87 #[.iface 96 (.pointer (some ⟨q, 0, none⟩)), .int .i64 ((l.length : Int) - 1)] w fun e w' => e = .returned (.tuple #[]) ∧ HB w' q g cap (upL l) rest ∧ Apart [g] w w' := by
  match l, h, h0, h3 with
  | [x], h, _, _ =>
    refine (up0 _ w).mono ?_
    rintro e w' ⟨rfl, rfl⟩
    exact ⟨rfl, h, Apart.refl _ _⟩
  | [x, y], h, _, _ =>
    refine (up2 q g cap x y rest w h.box h.row).mono ?_
    rintro e w' ⟨rfl, k, a⟩
    have hl : (upL [x, y]).length = 2 := by simp only [upL]; split <;> rfl
    exact ⟨rfl, ⟨by rw [hl]; exact (a.block q h.box.lt (by simpa using h.ne)).trans h.box, k, h.ne, by rw [hl]; exact h.le, h.mx, by have := h.sz; rw [List.length_append, rdFlat_len] at this ⊢; rw [hl]; exact this⟩, a⟩
  | [x, y, z], h, _, _ =>
    refine (up3 q g cap x y z rest w h.box h.row).mono ?_
    rintro e w' ⟨rfl, k, a⟩
    have hl : (upL [x, y, z]).length = 3 := by simp only [upL]; split <;> rfl
    exact ⟨rfl, ⟨by rw [hl]; exact (a.block q h.box.lt (by simpa using h.ne)).trans h.box, k, h.ne, by rw [hl]; exact h.le, h.mx, by have := h.sz; rw [List.length_append, rdFlat_len] at this ⊢; rw [hl]; exact this⟩, a⟩
theorem rd_len (a : Option Addr) (n c : Nat) (w : World) : Calls Tryz.prog 159 #[.slice a n c] w fun e w' => e = .returned (.int .i64 n) ∧ w' = w := by
  go_enter Tryz.func159, Tryz.ntmps159
  go_wp2_with fail
  go_ret
  exact ⟨rfl, rfl⟩

set_option maxRecDepth 100000 in
set_option maxHeartbeats 1000000 in
theorem heap_Push (q : Nat) (l : List RdD) (x : RdD) (w : World) (h : HeapAt q l w) (h2 : l.length ≤ 2) :
    Calls Tryz.prog 63 #[.iface 96 (.pointer (some ⟨q, 0, none⟩)), .iface 98 (.agg (RdD.list x).toArray)] w fun e w' => e = .returned (.tuple #[]) ∧ HeapAt q (upL (l ++ [x])) w' ∧ Below q w w' := by
  have m0 := meth_Push q w
  have HP := Lib.hid (rd_push q l x w h h2)
  clear h
  simp only [RdD.list] at HP ⊢
  go_enter Tryz.func63, Tryz.ntmps63
  go_wp2_with fail
  refine HP.out.mono ?_
  rintro e w1 ⟨rfl, h1, b1⟩
  obtain ⟨g, cap, rest, hB, hqg⟩ := h1.blk (by simp)
  have hl1 : (l ++ [x]).length ≤ 3 := by simp; omega
  have hl0 : 0 < (l ++ [x]).length := by simp
  obtain ⟨L, hL⟩ : ∃ L, l ++ [x] = L := ⟨_, rfl⟩
  rw [hL] at hB hl1 hl0
  have HL := Lib.hid hL
  clear hL
  have q0 := hB.box.cell 0
  simp at q0
  have m1 := meth_Len q _ _ _ _ q0
  have HH := Lib.hid hB
  have B1 := Lib.hid b1
  clear hB b1 h1 m0 HP
  go_wp2_with fail
  refine (rd_len _ _ _ _).mono ?_
  rintro e w2 ⟨rfl, rfl⟩
  have hw : IntKind.i64.wrap ((L.length : Int) - 1) = (L.length : Int) - 1 := by rw [IntKind.wrap_i64]; omega
  clear m1 q0
  go_wp2_with fail
  refine (up_any HH.out hl0 hl1).mono ?_
  rintro e w3 ⟨rfl, h3, a3⟩
  have H3 := Lib.hid (h3.at hqg)
  have A3 := Lib.hid (B1.out.trans (a3.below (lo := q) (by simp; omega) (by have := HH.out.box.lt; omega)))
  clear h3 a3
  go_wp2_with fail
  go_end0
  exact ⟨rfl, by rw [HL.out]; exact H3.out, A3.out⟩
end Go.Proofs.YtdipkbgfkbmfnaaGreatDoor.dat

/-
  A HEAP OF READERS THAT SHRINKS: the method Pop, container/heap.Pop and Fix, over at most three.
-/
namespace Go.Proofs.YtdipkbgfkbmfnaaGreatDoor.dat
open Go.RowKit Go.Proofs.YtdipkbgfkbmfnaaGreatDoor.win

theorem rdFlat_snoc (l : List RdD) (x : RdD) (rest : List Value) : rdFlat (l ++ [x]) ++ rest = rdFlat l ++ (RdD.list x ++ rest) := by simp [rdFlat]
theorem HB.short {w w' : World} {q g cap : Nat} {l : List RdD} {x : RdD} {rest : List Value} (h : HB w q g cap (l ++ [x]) rest) (hq : Blk w' q 67 [.slice (some ⟨g, 0, none⟩) l.length cap]) (a : Apart [q] w w') : HB w' q g cap l (RdD.list x ++ rest) :=
  ⟨hq, by rw [← rdFlat_snoc]; exact (a.block g h.row.lt (by simpa using h.ne.symm)).trans h.row, h.ne, by have := h.le; simp at this; omega, h.mx, by rw [← rdFlat_snoc]; exact h.sz⟩
theorem HB.other {w w' : World} {q g cap : Nat} {l l' : List RdD} {rest : List Value} (h : HB w q g cap l rest) (k : Blk w' g 98 (rdFlat l' ++ rest)) (hl : l'.length = l.length) (a : Apart [g] w w') : HB w' q g cap l' rest :=
  ⟨by rw [hl]; exact (a.block q h.box.lt (by simpa using h.ne)).trans h.box, k, h.ne, by rw [hl]; exact h.le, h.mx, by have := h.sz; rw [List.length_append, rdFlat_len] at this ⊢; rw [hl]; exact this⟩

set_option maxRecDepth 100000 in
set_option maxHeartbeats 1000000 in
theorem rd_pop1 {q g cap : Nat} {x : RdD} {rest : List Value} {w : World} (h : HB w q g cap [x] rest) :
    Calls Tryz.prog 165 #[.pointer (some ⟨q, 0, none⟩)] w fun e w' => (∃ v, e = .returned v) ∧ Blk w' q 67 [.slice (some ⟨g, 0, none⟩) 0 cap] ∧ Apart [q] w w' := by
  have q0 := h.box.cell 0
  have ql := h.box.lt
  have qf := h.box.frozen
  have hc := h.le
  have hne := h.ne
  simp at q0 hc
  have hc2 : (1 : Int) ≤ (cap : Int) := by omega
  have hc3 : (0 : Int) ≤ (cap : Int) := by omega
  have hc4 : 0 ≤ cap := by omega
  have hc5 : ¬ cap = 0 := by omega
  have hgl := h.row.lt
  have HQ := Lib.hid h.box
  have c0 := h.row.cell 0
  have c1 := h.row.cell 1
  have c2 := h.row.cell 2
  have c3 := h.row.cell 3
  simp [rdFlat, RdD.list] at c0 c1 c2 c3
  clear h
  go_enter Tryz.func165, Tryz.ntmps165
  go_wp2_with fail
  go_ret
  refine ⟨⟨_, rfl⟩, ?_, ?_⟩
  · exact ((HQ.out.set 0 _).alloc _).of_eq rfl
  · with_reducible (repeat (first | exact Apart.refl _ _ | apply Apart.drew | refine Apart.alloc ?_ _ | refine Apart.setCell ?_ (List.mem_singleton.2 rfl) _ _))

set_option maxRecDepth 100000 in
set_option maxHeartbeats 1000000 in
theorem rd_pop2 {q g cap : Nat} {x y : RdD} {rest : List Value} {w : World} (h : HB w q g cap [x, y] rest) :
    Calls Tryz.prog 165 #[.pointer (some ⟨q, 0, none⟩)] w fun e w' => (∃ v, e = .returned v) ∧ Blk w' q 67 [.slice (some ⟨g, 0, none⟩) 1 cap] ∧ Apart [q] w w' := by
  have q0 := h.box.cell 0
  have ql := h.box.lt
  have qf := h.box.frozen
  have hc := h.le
  have hne := h.ne
  simp at q0 hc
  have hc2 : (2 : Int) ≤ (cap : Int) := by omega
  have hc3 : (1 : Int) ≤ (cap : Int) := by omega
  have hc4 : 1 ≤ cap := by omega
  have hc5 : ¬ cap = 0 := by omega
  have hgl := h.row.lt
  have HQ := Lib.hid h.box
  have c4 := h.row.cell 4
  have c5 := h.row.cell 5
  have c6 := h.row.cell 6
  have c7 := h.row.cell 7
  simp [rdFlat, RdD.list] at c4 c5 c6 c7
  clear h
  go_enter Tryz.func165, Tryz.ntmps165
  go_wp2_with fail
  go_ret
  refine ⟨⟨_, rfl⟩, ?_, ?_⟩
  · exact ((HQ.out.set 0 _).alloc _).of_eq rfl
  · with_reducible (repeat (first | exact Apart.refl _ _ | apply Apart.drew | refine Apart.alloc ?_ _ | refine Apart.setCell ?_ (List.mem_singleton.2 rfl) _ _))

set_option maxRecDepth 100000 in
set_option maxHeartbeats 1000000 in
theorem rd_pop3 {q g cap : Nat} {x y z : RdD} {rest : List Value} {w : World} (h : HB w q g cap [x, y, z] rest) :
    Calls Tryz.prog 165 #[.pointer (some ⟨q, 0, none⟩)] w fun e w' => (∃ v, e = .returned v) ∧ Blk w' q 67 [.slice (some ⟨g, 0, none⟩) 2 cap] ∧ Apart [q] w w' := by
  have q0 := h.box.cell 0
  have ql := h.box.lt
  have qf := h.box.frozen
  have hc := h.le
  have hne := h.ne
  simp at q0 hc
  have hc2 : (3 : Int) ≤ (cap : Int) := by omega
  have hc3 : (2 : Int) ≤ (cap : Int) := by omega
  have hc4 : 2 ≤ cap := by omega
  have hc5 : ¬ cap = 0 := by omega
  have hgl := h.row.lt
  have HQ := Lib.hid h.box
  have c8 := h.row.cell 8
  have c9 := h.row.cell 9
  have c10 := h.row.cell 10
  have c11 := h.row.cell 11
  simp [rdFlat, RdD.list] at c8 c9 c10 c11
  clear h
  go_enter Tryz.func165, Tryz.ntmps165
  go_wp2_with fail
  go_ret
  refine ⟨⟨_, rfl⟩, ?_, ?_⟩
  · exact ((HQ.out.set 0 _).alloc _).of_eq rfl
  · with_reducible (repeat (first | exact Apart.refl _ _ | apply Apart.drew | refine Apart.alloc ?_ _ | refine Apart.setCell ?_ (List.mem_singleton.2 rfl) _ _))

set_option maxRecDepth 100000 in
set_option maxHeartbeats 1000000 in
theorem heap_Pop1 {q g cap : Nat} {x : RdD} {rest : List Value} {w : World} (h : HB w q g cap [x] rest) :
    Calls Tryz.prog 65 #[.iface 96 (.pointer (some ⟨q, 0, none⟩))] w fun e w' => (∃ v, e = .returned v) ∧ (∃ rest', HB w' q g cap (popL [x]) rest') ∧ Apart [q, g] w w' := by
  have q0 := h.box.cell 0
  simp at q0
  have m0 := meth_Len q _ _ _ _ q0
  have m1 := meth_Swap q _ _ _ _ q0
  have HH := Lib.hid h
  clear h
  go_enter Tryz.func65, Tryz.ntmps65
  go_wp2_with fail
  refine (rd_len _ _ _ _).mono ?_
  rintro e w0 ⟨rfl, rfl⟩
  go_wp2_with fail
  refine (rd_swap10 g 1 cap x rest w0 (by omega) HH.out.row).mono ?_
  rintro e w1 ⟨rfl, k1, a1⟩
  have H1 := Lib.hid (HH.out.other k1 rfl a1)
  have A1 := Lib.hid (a1.mono (fp' := [q, g]) (by simp))
  clear k1 a1 m0 m1 q0 HH
  go_wp2_with fail
  refine (down0 _ _).mono ?_
  rintro e w2 ⟨⟨r, rfl⟩, rfl⟩
  have m2 := meth_Pop q w2
  go_wp2_with fail
  refine (rd_pop1 H1.out).mono ?_
  rintro e w9 ⟨⟨v, rfl⟩, k9, a9⟩
  have H9 := Lib.hid (HB.short (l := []) H1.out k9 a9)
  have A9 := Lib.hid (A1.out.trans (a9.mono (fp' := [q, g]) (by simp)))
  clear k9 a9
  go_wp2_with fail
  go_ret
  exact ⟨⟨_, rfl⟩, ⟨_, H9.out⟩, A9.out⟩

set_option maxRecDepth 100000 in
set_option maxHeartbeats 1000000 in
theorem heap_Pop2 {q g cap : Nat} {x y : RdD} {rest : List Value} {w : World} (h : HB w q g cap [x, y] rest) :
    Calls Tryz.prog 65 #[.iface 96 (.pointer (some ⟨q, 0, none⟩))] w fun e w' => (∃ v, e = .returned v) ∧ (∃ rest', HB w' q g cap (popL [x, y]) rest') ∧ Apart [q, g] w w' := by
  have q0 := h.box.cell 0
  simp at q0
  have m0 := meth_Len q _ _ _ _ q0
  have m1 := meth_Swap q _ _ _ _ q0
  have HH := Lib.hid h
  clear h
  go_enter Tryz.func65, Tryz.ntmps65
  go_wp2_with fail
  refine (rd_len _ _ _ _).mono ?_
  rintro e w0 ⟨rfl, rfl⟩
  go_wp2_with fail
  refine (rd_swap21 g 2 cap x y rest w0 (by omega) HH.out.row).mono ?_
  rintro e w1 ⟨rfl, k1, a1⟩
  have H1 := Lib.hid (HH.out.other k1 rfl a1)
  have A1 := Lib.hid (a1.mono (fp' := [q, g]) (by simp))
  clear k1 a1 m0 m1 q0 HH
  go_wp2_with fail
  refine (down1 _ _).mono ?_
  rintro e w2 ⟨⟨r, rfl⟩, rfl⟩
  have m2 := meth_Pop q w2
  go_wp2_with fail
  refine (rd_pop2 H1.out).mono ?_
  rintro e w9 ⟨⟨v, rfl⟩, k9, a9⟩
  have H9 := Lib.hid (HB.short (l := [y]) H1.out k9 a9)
  have A9 := Lib.hid (A1.out.trans (a9.mono (fp' := [q, g]) (by simp)))
  clear k9 a9
  go_wp2_with fail
  go_ret
  exact ⟨⟨_, rfl⟩, ⟨_, H9.out⟩, A9.out⟩

set_option maxRecDepth 100000 in
set_option maxHeartbeats 1000000 in
theorem heap_Pop3 {q g cap : Nat} {x y z : RdD} {rest : List Value} {w : World} (h : HB w q g cap [x, y, z] rest) :
    Calls Tryz.prog 65 #[.iface 96 (.pointer (some ⟨q, 0, none⟩))] w fun e w' => (∃ v, e = .returned v) ∧ (∃ rest', HB w' q g cap (popL [x, y, z]) rest') ∧ Apart [q, g] w w' := by
  have q0 := h.box.cell 0
  simp at q0
  have m0 := meth_Len q _ _ _ _ q0
  have m1 := meth_Swap q _ _ _ _ q0
  have HH := Lib.hid h
  clear h
  go_enter Tryz.func65, Tryz.ntmps65
  go_wp2_with fail
  refine (rd_len _ _ _ _).mono ?_
  rintro e w0 ⟨rfl, rfl⟩
  go_wp2_with fail
  refine (rd_swap32 g 3 cap x y z rest w0 (by omega) HH.out.row).mono ?_
  rintro e w1 ⟨rfl, k1, a1⟩
  have H1 := Lib.hid (HH.out.other k1 rfl a1)
  have A1 := Lib.hid (a1.mono (fp' := [q, g]) (by simp))
  clear k1 a1 m0 m1 q0 HH
  go_wp2_with fail
  refine (down23 q g cap z y x rest w1 H1.out.box H1.out.row).mono ?_
  rintro e w2 ⟨⟨r, rfl⟩, k2, a2⟩
  have A2 := Lib.hid (A1.out.trans (a2.mono (fp' := [q, g]) (by simp)))
  cases hp : lessB y z with
  | false =>
    have hd : downL [z, y] = [z, y] := by simp [downL, hp]
    have HU := Lib.hid (show popL [x, y, z] = [z, y] by simp [popL, hp])
    rw [hd] at k2
    have H2 := Lib.hid (H1.out.other k2 rfl a2)
    clear hp hd k2 a2
    have m2 := meth_Pop q w2
    go_wp2_with fail
    refine (rd_pop3 H2.out).mono ?_
    rintro e w9 ⟨⟨v, rfl⟩, k9, a9⟩
    have H9 := Lib.hid (HB.short (l := [z, y]) H2.out k9 a9)
    have A9 := Lib.hid (A2.out.trans (a9.mono (fp' := [q, g]) (by simp)))
    clear k9 a9
    go_wp2_with fail
    go_ret
    exact ⟨⟨_, rfl⟩, ⟨_, by rw [HU.out]; exact H9.out⟩, A9.out⟩
  | true =>
    have hd : downL [z, y] = [y, z] := by simp [downL, hp]
    have HU := Lib.hid (show popL [x, y, z] = [y, z] by simp [popL, hp])
    rw [hd] at k2
    have H2 := Lib.hid (H1.out.other (l' := [y, z, x]) k2 rfl a2)
    clear hp hd k2 a2
    have m2 := meth_Pop q w2
    go_wp2_with fail
    refine (rd_pop3 H2.out).mono ?_
    rintro e w9 ⟨⟨v, rfl⟩, k9, a9⟩
    have H9 := Lib.hid (HB.short (l := [y, z]) H2.out k9 a9)
    have A9 := Lib.hid (A2.out.trans (a9.mono (fp' := [q, g]) (by simp)))
    clear k9 a9
    go_wp2_with fail
    go_ret
    exact ⟨⟨_, rfl⟩, ⟨_, by rw [HU.out]; exact H9.out⟩, A9.out⟩

set_option maxRecDepth 100000 in
set_option maxHeartbeats 1000000 in
theorem heap_Fix1 {q g cap : Nat} {x : RdD} {rest : List Value} {w : World} (h : HB w q g cap [x] rest) :
    Calls Tryz.prog 66 #[.iface 96 (.pointer (some ⟨q, 0, none⟩)), .int .i64 0] w fun e w' => e = .returned (.tuple #[]) ∧ (∃ rest', HB w' q g cap (downL [x]) rest') ∧ Apart [q, g] w w' := by
  have q0 := h.box.cell 0
  simp at q0
  have m0 := meth_Len q _ _ _ _ q0
  have HH := Lib.hid h
  clear h
  go_enter Tryz.func66, Tryz.ntmps66
  go_wp2_with fail
  refine (rd_len _ _ _ _).mono ?_
  rintro e w0 ⟨rfl, rfl⟩
  go_wp2_with fail
  refine (down1 _ _).mono ?_
  rintro e w2 ⟨⟨r, rfl⟩, rfl⟩
  have H2 := Lib.hid (show HB w2 q g cap (downL [x]) rest from HH.out)
  have A2 := Lib.hid (Apart.refl [q, g] w2)
  clear HH m0 q0
  cases r with
  | true =>
    go_wp2_with fail
    go_end0
    exact ⟨rfl, ⟨_, H2.out⟩, A2.out⟩
  | false =>
    go_wp2_with fail
    refine (up0 _ _).mono ?_
    rintro e w3 ⟨rfl, rfl⟩
    go_wp2_with fail
    go_end0
    exact ⟨rfl, ⟨_, H2.out⟩, A2.out⟩

set_option maxRecDepth 100000 in
set_option maxHeartbeats 1000000 in
theorem heap_Fix2 {q g cap : Nat} {x y : RdD} {rest : List Value} {w : World} (h : HB w q g cap [x, y] rest) :
    Calls Tryz.prog 66 #[.iface 96 (.pointer (some ⟨q, 0, none⟩)), .int .i64 0] w fun e w' => e = .returned (.tuple #[]) ∧ (∃ rest', HB w' q g cap (downL [x, y]) rest') ∧ Apart [q, g] w w' := by
  have q0 := h.box.cell 0
  simp at q0
  have m0 := meth_Len q _ _ _ _ q0
  have HH := Lib.hid h
  clear h
  go_enter Tryz.func66, Tryz.ntmps66
  go_wp2_with fail
  refine (rd_len _ _ _ _).mono ?_
  rintro e w0 ⟨rfl, rfl⟩
  go_wp2_with fail
  refine (down2 q g cap x y rest w0 HH.out.box HH.out.row).mono ?_
  rintro e w2 ⟨⟨r, rfl⟩, k2, a2⟩
  have hl : (downL [x, y]).length = 2 := by simp only [downL]; (repeat' split) <;> rfl
  have H2 := Lib.hid (HH.out.other k2 hl a2)
  have A2 := Lib.hid (a2.mono (fp' := [q, g]) (by simp))
  clear k2 a2 hl
  clear HH m0 q0
  cases r with
  | true =>
    go_wp2_with fail
    go_end0
    exact ⟨rfl, ⟨_, H2.out⟩, A2.out⟩
  | false =>
    go_wp2_with fail
    refine (up0 _ _).mono ?_
    rintro e w3 ⟨rfl, rfl⟩
    go_wp2_with fail
    go_end0
    exact ⟨rfl, ⟨_, H2.out⟩, A2.out⟩

set_option maxRecDepth 100000 in
set_option maxHeartbeats 1000000 in
theorem heap_Fix3 {q g cap : Nat} {x y z : RdD} {rest : List Value} {w : World} (h : HB w q g cap [x, y, z] rest) :
    Calls Tryz.prog 66 #[.iface 96 (.pointer (some ⟨q, 0, none⟩)), .int .i64 0] w fun e w' => e = .returned (.tuple #[]) ∧ (∃ rest', HB w' q g cap (downL [x, y, z]) rest') ∧ Apart [q, g] w w' := by
  have q0 := h.box.cell 0
  simp at q0
  have m0 := meth_Len q _ _ _ _ q0
  have HH := Lib.hid h
  clear h
  go_enter Tryz.func66, Tryz.ntmps66
  go_wp2_with fail
  refine (rd_len _ _ _ _).mono ?_
  rintro e w0 ⟨rfl, rfl⟩
  go_wp2_with fail
  refine (down3 q g cap x y z rest w0 HH.out.box HH.out.row).mono ?_
  rintro e w2 ⟨⟨r, rfl⟩, k2, a2⟩
  have hl : (downL [x, y, z]).length = 3 := by simp only [downL]; (repeat' split) <;> rfl
  have H2 := Lib.hid (HH.out.other k2 hl a2)
  have A2 := Lib.hid (a2.mono (fp' := [q, g]) (by simp))
  clear k2 a2 hl
  clear HH m0 q0
  cases r with
  | true =>
    go_wp2_with fail
    go_end0
    exact ⟨rfl, ⟨_, H2.out⟩, A2.out⟩
  | false =>
    go_wp2_with fail
    refine (up0 _ _).mono ?_
    rintro e w3 ⟨rfl, rfl⟩
    go_wp2_with fail
    go_end0
    exact ⟨rfl, ⟨_, H2.out⟩, A2.out⟩

/-- container/heap.Pop. -/
theorem heap_Pop {q g cap : Nat} {x : RdD} {r : List RdD} {rest : List Value} {w : World} (h : HB w q g cap (x :: r) rest) (hr : r.length ≤ 2) :
    Calls Tryz.prog 65 #[.iface 96 (.pointer (some ⟨q, 0, none⟩))] w fun e w' => (∃ v, e = .returned v) ∧ (∃ rest', HB w' q g cap (popL (x :: r)) rest') ∧ Apart [q, g] w w' := by
  match r, h, hr with
  | [], h, _ => exact heap_Pop1 h
  | [y], h, _ => exact heap_Pop2 h
  | [y, z], h, _ => exact heap_Pop3 h
/-- container/heap.Fix at the first place. -/
theorem heap_Fix {q g cap : Nat} {x : RdD} {r : List RdD} {rest : List Value} {w : World} (h : HB w q g cap (x :: r) rest) (hr : r.length ≤ 2) :
    Calls Tryz.prog 66 #[.iface 96 (.pointer (some ⟨q, 0, none⟩)), .int .i64 0] w fun e w' => e = .returned (.tuple #[]) ∧ (∃ rest', HB w' q g cap (downL (x :: r)) rest') ∧ Apart [q, g] w w' := by
  match r, h, hr with
  | [], h, _ => exact heap_Fix1 h
  | [y], h, _ => exact heap_Fix2 h
  | [y, z], h, _ => exact heap_Fix3 h
end Go.Proofs.YtdipkbgfkbmfnaaGreatDoor.dat

/-
  readersOf: the heap of the parts that have records.
-/
namespace Go.Proofs.YtdipkbgfkbmfnaaGreatDoor.dat
open Go.RowKit Go.Proofs.YtdipkbgfkbmfnaaGreatDoor.win

/-- Logs in memory: the parts' own slices. -/
structure Logs (w : World) (a : Option Addr) (L : List PartD) (H : List PartH) : Prop where
  len : H.length = L.length
  el : ∀ (i : Nat) x, L[i]? = some x → ∃ (b off : Nat) (h : PartH) (f : List Nat), a = some ⟨b, off, none⟩ ∧ b < w.heap.size ∧ H[i]? = some h ∧ Part.Is w x h f ∧ w.cell? ⟨b, off + i, none⟩ = some (.slice h.recsa h.recsl h.recsc)
theorem logs_of {w : World} {a : Option Addr} {len : Nat} {L : List PartD} {fp : List Nat} (h : GRow 1 RPart w a len L fp) : ∃ H, Logs w a L H := by
  classical
  have hex : ∀ i : Nat, ∃ h : PartH, ∀ x, L[i]? = some x → ∃ (b off : Nat) (f : List Nat), a = some ⟨b, off, none⟩ ∧ b < w.heap.size ∧ Part.Is w x h f ∧ w.cell? ⟨b, off + i, none⟩ = some (.slice h.recsa h.recsl h.recsc) := by
    intro i
    by_cases hi : i < len
    · obtain ⟨b, off, x, f, cs, e, hb, hx, hcl, ⟨hh, rfl, his⟩, hc⟩ := h.at hi
      refine ⟨hh, fun y hy => ?_⟩
      rw [hx] at hy
      cases hy
      exact ⟨b, off, f, e, hb, his, by have := hc 0 (by omega); simpa [Part.list] using this⟩
    · exact ⟨⟨none, 0, 0⟩, fun x hx => by have := (List.getElem?_eq_some_iff.1 hx).1; rw [h.1] at this; omega⟩
  refine ⟨(List.range L.length).map fun i => Classical.choose (hex i), by simp, fun i x hx => ?_⟩
  have hi := (List.getElem?_eq_some_iff.1 hx).1
  obtain ⟨b, off, f, h1, h2, h3, h4⟩ := Classical.choose_spec (hex i) x hx
  exact ⟨b, off, _, f, h1, h2, by simp [hi], h3, h4⟩
theorem Logs.below {w w' : World} {a : Option Addr} {L : List PartD} {H : List PartH} (h : Logs w a L H) (hb : Below w.heap.size w w') : Logs w' a L H :=
  ⟨h.len, fun i x hx => by
    obtain ⟨b, off, hh, f, h1, h2, h3, h4, h5⟩ := h.el i x hx
    exact ⟨b, off, hh, f, h1, Nat.lt_of_lt_of_le h2 hb.size, h3, h4.below hb, (hb.cell (p := ⟨b, off + i, none⟩) h2).trans h5⟩⟩
theorem HeapAt.next {q : Nat} {l : List RdD} {w w' : World} (h : HeapAt q l w) (hb : Below w.heap.size w w') : HeapAt q l w' := by
  obtain ⟨v, h1, h2⟩ := h
  exact ⟨v, h1.below hb h1.lt, h2.below local_rd hb⟩
/-- Nothing is read. -/
def zeros (L : List PartD) : List Nat := List.replicate L.length 0
theorem mkR_zero (c : ConfD) (L : List PartD) (H : List PartH) (p : Nat) {h : PartH} (hh : H[p]? = some h) : mkR c L H (zeros L) p = ⟨(p : Int), h.recsa, h.recsl, h.recsc, 0, -200000⟩ := by
  unfold mkR zeros
  rw [getD_replicate, List.getD_eq_getElem?_getD, hh]
  simp [mk, tideL]
theorem opn_zero {L : List PartD} {p : Nat} {x : PartD} (hx : L[p]? = some x) : opn L (zeros L) p = decide (0 < x.recs.length) := by
  unfold opn zeros
  rw [getD_replicate, recsOf_at hx]

set_option maxRecDepth 100000 in
set_option maxHeartbeats 2000000 in
theorem impl_readersOf (c : ConfD) (a : Option Addr) (len cap : Nat) (L : List PartD) (H : List PartH) (w : World) (hlog : Logs w a L H) (hl : L.length = len) (h3 : len ≤ 3) :
    Calls Tryz.prog 39 #[.slice a len cap] w fun e w' => ∃ v l, e = .returned v ∧ Grows 4 RRd 98 (w.heap.size + 1) w' v l ∧ Readers c L H (zeros L) len l ∧ Heap l ∧ Below w.heap.size w w' := by
  have HL := Lib.hid hlog
  clear hlog
  go_enter Tryz.func39, Tryz.ntmps39
  go_wp2_with fail
  go_loopg [8] len (fun k i wr => ∃ (j : Nat) (l : List RdD), j + k = len ∧ i = .int .i64 j ∧ HeapAt w.heap.size l wr ∧ Readers c L H (zeros L) j l ∧ Heap l ∧ Below w.heap.size w wr)
  case atStart => exact ⟨0, [], by omega, rfl, ⟨_, by with_reducible (repeat (first | (refine blk_new_at _ _ _ _ ?_; first | rfl | (simp; done)) | refine Blk.alloc ?_ _ | apply Blk.drew | refine Blk.setOther ?_ (by first | (simp; done) | (simp; omega)) _)), Grows.nil⟩, Readers.start _ _ _ _, trivial, by repeat (first | exact Below.refl _ _ | refine Below.setCell ?_ (by first | omega | (simp; done) | (simp; omega)) _ | refine Below.alloc ?_ (by first | omega | (simp; done) | (simp; omega)) _ | apply Below.drew)⟩
  case round =>
    obtain ⟨j, l, hj, rfl, hA, hR, hh, hB⟩ := hrel
    have HA := Lib.hid hA
    have HR := Lib.hid hR
    have HH := Lib.hid hh
    have HB := Lib.hid hB
    by_cases hlt : j < len
    case neg =>
      obtain rfl : j = len := by omega
      obtain ⟨v, hb, hG⟩ := hA
      have c0 := hb.cell 0
      simp at c0
      have HG := Lib.hid hG
      clear hR hh hB hb hG
      go_wp2_with fail
      go_ret
      exact ⟨v, l, rfl, HG.out, HR.out, HH.out, HB.out⟩
    obtain ⟨x, hx⟩ : ∃ x, L[j]? = some x := ⟨L[j]'(by omega), List.getElem?_eq_getElem (by omega)⟩
    obtain ⟨b, off, h, f, rfl, hbl, hh', his, hc⟩ := HL.out.el j x hx
    obtain ⟨ra, rl, rc⟩ := h
    simp only at hc
    have HZ := Lib.hid (mkR_zero c L H j hh')
    have HO := Lib.hid (opn_zero hx)
    have hrl : x.recs.length = rl := by obtain ⟨f0, _, r0, _⟩ := his; exact r0.1
    rw [hrl] at HO
    have d0 : wr.cell? ⟨b, off + j, none⟩ = some (.slice ra rl rc) := (hB.cell (p := ⟨b, off + j, none⟩) hbl).trans hc
    have hlt2 : (j : Int) < (len : Int) := by omega
    have h02 : (0 : Int) ≤ (j : Int) := by omega
    have hlen := hR.len
    clear hA hR hh hB hc his hx hh' hrl
    by_cases hp : 0 < rl
    · have hp2 : (0 : Int) < (rl : Int) := by omega
      have HO2 := Lib.hid (HO.out.trans (decide_eq_true hp))
      go_wp2_with fail
      refine calls_gen (fun W => Below wr.heap.size wr W) (by repeat (first | exact Below.refl _ _ | refine Below.setCell ?_ (by first | omega | (simp; done) | (simp; omega)) _ | refine Below.alloc ?_ (by first | omega | (simp; done) | (simp; omega)) _ | apply Below.drew)) ?_
      intro W1 b1
      refine (heap_Push w.heap.size l ⟨(j : Int), ra, rl, rc, 0, -200000⟩ W1 (HA.out.next b1) (by omega)).mono ?_
      rintro e W2 ⟨rfl, h2, b2⟩
      have H2 := Lib.hid h2
      have B2 := Lib.hid ((HB.out.trans (b1.mono HB.out.size)).trans b2)
      clear h2 b2 b1
      go_wp2_with fail
      go_roundg (len - (j + 1))
      case measure => omega
      case rel =>
        have hu := up_heap (x := mkR c L H (zeros L) j) HH.out (by omega)
        refine ⟨j + 1, _, by omega, by go_num, H2.out, ?_, ?_, B2.out⟩
        · have := (HR.out.add HO2.out).perm hu.1
          rw [HZ.out] at this
          exact this
        · have := hu.2
          rw [HZ.out] at this
          exact this
    · have hp2 : ¬ (0 : Int) < (rl : Int) := by omega
      have HO2 := Lib.hid (HO.out.trans (decide_eq_false hp))
      go_wp2_with fail
      go_roundg (len - (j + 1))
      case measure => omega
      case rel => exact ⟨j + 1, l, by omega, by go_num, HA.out.next (by repeat (first | exact Below.refl _ _ | refine Below.setCell ?_ (by first | omega | (simp; done) | (simp; omega)) _ | refine Below.alloc ?_ (by first | omega | (simp; done) | (simp; omega)) _ | apply Below.drew)), HR.out.skip HO2.out, HH.out, HB.out.alloc HB.out.size _⟩
end Go.Proofs.YtdipkbgfkbmfnaaGreatDoor.dat

/-
  readNext: the first reader's next record; the heap behind it.
-/
namespace Go.Proofs.YtdipkbgfkbmfnaaGreatDoor.dat
open Go.RowKit Go.Proofs.YtdipkbgfkbmfnaaGreatDoor.win
open Go.Proofs.YtdipkbgfkbmfnaaGreatDoor.num (Env Env.next)

theorem HB.keep {w w' : World} {q g cap : Nat} {l : List RdD} {rest : List Value} (h : HB w q g cap l rest) (hb : Below w.heap.size w w') : HB w' q g cap l rest :=
  ⟨h.box.below hb h.box.lt, h.row.below hb h.row.lt, h.ne, h.le, h.mx, h.sz⟩
theorem HB.off {w : World} {q g cap c : Nat} {l : List RdD} {rest : List Value} (h : HB w q g cap l rest) (hq : q ≠ c) (hg : g ≠ c) (o : Nat) (v : Value) : HB (w.setCell ⟨c, o, none⟩ v) q g cap l rest :=
  ⟨h.box.setOther hq v, h.row.setOther hg v, h.ne, h.le, h.mx, h.sz⟩
theorem apart_new {fp : List Nat} {a w : World} (h : Apart fp a w) {c : Nat} (hc : a.heap.size ≤ c) (o : Nat) (v : Value) : Apart fp a (w.setCell ⟨c, o, none⟩ v) :=
  ⟨h.os, h.tape, h.output, Nat.le_trans h.size (by simp [World.setCell]), fun b hb hn => (Below.heap_setCell w ⟨c, o, none⟩ v b (by show b ≠ c; omega)).trans (h.block b hb hn)⟩
/-- What is left of the heap behind a record. -/
def behind (x' : RdD) (r : List RdD) : List RdD := if x'.read = (x'.n : Int) then popL (x' :: r) else downL (x' :: r)

set_option maxRecDepth 100000 in
set_option maxHeartbeats 2000000 in
theorem impl_readNext (c : ConfD) (ch : ConfigH) (cf : List Nat) (q g cap : Nat) (x : RdD) (r : List RdD) (rest : List Value) (k b off : Nat) (s : ByteArray) (w : World) (hc : Config.Is w c ch cf) (hE : Env w) (hH : HB w q g cap (x :: r) rest) (hr : r.length ≤ 2)
    (hk : x.read = (k : Int)) (hkn : k < x.n) (hn : x.n ≤ 2000000) (ha : x.a = some ⟨b, off, none⟩) (hs : w.cell? ⟨b, off + k, none⟩ = some (.string s)) (hsz : s.size ≤ 2000000) :
    Calls Tryz.prog 40 #[.pointer (some ⟨q, 0, none⟩), .agg (Config.list c ch).toArray] w fun e w' => e = .returned (.agg #[.int .i64 x.part, .int .i64 k]) ∧ (∃ rest', HB w' q g cap (behind ⟨x.part, x.a, x.n, x.c, (k : Int) + 1, markB c x.mark s⟩ r) rest') ∧ Apart [q, g] w w' := by
  obtain ⟨xp, xa, xn, xc, xr, xm⟩ := x
  simp only at hk hkn hn ha
  subst hk ha
  have HC := Lib.hid hc
  have HE := Lib.hid hE
  have HH := Lib.hid hH
  have HS := Lib.hid hs
  clear hc hE hH hs
  have q0 := HH.out.box.cell 0
  have ql := HH.out.box.lt
  simp at q0
  have q1 : (0 : Int) < ((r.length + 1 : Nat) : Int) := by omega
  simp only [Config.list]
  go_enter Tryz.func40, Tryz.ntmps40
  go_wp2_with fail
  refine wp_gen (fun W => Below w.heap.size w W ∧ Blk W w.heap.size 33 (Config.list c ch) ∧ Blk W (w.heap.size + 1) 55 [.int .i64 0, .int .i64 0]) ⟨by repeat (first | exact Below.refl _ _ | refine Below.setCell ?_ (by first | omega | (simp; done) | (simp; omega)) _ | refine Below.alloc ?_ (by first | omega | (simp; done) | (simp; omega)) _ | apply Below.drew), by unfold Config.list; with_reducible (repeat (first | (refine blk_new_at _ _ _ _ ?_; first | rfl | (simp; done)) | refine Blk.alloc ?_ _ | apply Blk.drew | refine Blk.setOther ?_ (by first | (simp; done) | (simp; omega)) _)), by with_reducible (repeat (first | (refine blk_new_at _ _ _ _ ?_; first | rfl | (simp; done)) | refine Blk.alloc ?_ _ | apply Blk.drew | refine Blk.setOther ?_ (by first | (simp; done) | (simp; omega)) _))⟩ ?_
  rintro W0 ⟨b0, k0, p0⟩
  have B0 := Lib.hid b0
  have K0 := Lib.hid k0
  have P0 := Lib.hid p0
  have H0 := Lib.hid (HH.out.keep b0)
  have S0 := Lib.hid ((b0.cell (p := ⟨b, off + k, none⟩) (World.block_lt_of_cell? _ _ HS.out)).trans HS.out)
  have g0 := H0.out.row.cell 0
  have g1 := H0.out.row.cell 1
  have g2 := H0.out.row.cell 2
  have g3 := H0.out.row.cell 3
  simp [rdFlat, RdD.list] at g0 g1 g2 g3
  have gl := H0.out.row.lt
  have HQW := Lib.hid HH.out.box.lt
  have HGW := Lib.hid HH.out.row.lt
  clear b0 k0 p0 q0 ql q1 HH HS
  go_cut [6] (fun v wx => ∃ bx, v = .pointer (some ⟨bx, 0, none⟩) ∧ W0.heap.size ≤ bx ∧ Blk wx bx 55 [.int .i64 xp, .int .i64 k] ∧ Below W0.heap.size W0 wx)
  case first =>
    go_region
    all_goals (go_wp2_with fail; go_meet)
    all_goals exact ⟨_, rfl, Nat.le_refl _, (blk_new _ _ _).drew, ((Below.refl _ _).alloc (Nat.le_refl _) _).drew⟩
  case rest =>
  obtain ⟨bx, rfl, hbx, kx, bw⟩ := hcut
  generalize wc = W1 at *
  have B1 := Lib.hid (B0.out.trans (bw.mono B0.out.size))
  have K1 := Lib.hid (K0.out.below bw K0.out.lt)
  have P1 := Lib.hid (P0.out.below bw P0.out.lt)
  have H1 := Lib.hid (H0.out.keep bw)
  have S1 := Lib.hid ((bw.cell (p := ⟨b, off + k, none⟩) (World.block_lt_of_cell? _ _ S0.out)).trans S0.out)
  have X1 := Lib.hid kx
  have hpl : w.heap.size + 1 < bx := Nat.lt_of_lt_of_le P0.out.lt hbx
  have hgx : g < bx := Nat.lt_of_lt_of_le H0.out.row.lt hbx
  have hqx : q < bx := Nat.lt_of_lt_of_le H0.out.box.lt hbx
  clear bw kx hbx B0 K0 P0 H0 S0 g0 g1 g2 g3 gl
  have k0 := K1.out.cell 0
  have k1 := K1.out.cell 1
  have k2 := K1.out.cell 2
  have k3 := K1.out.cell 3
  have k4 := K1.out.cell 4
  have g1 := H1.out.row.cell 1
  have g2 := H1.out.row.cell 2
  have g3 := H1.out.row.cell 3
  simp [rdFlat, RdD.list] at g1 g2 g3
  simp [Config.list] at k0 k1 k2 k3 k4
  have hk2 : (k : Int) < (xn : Int) := by omega
  have hk0 : (0 : Int) ≤ (k : Int) := by omega
  go_wp2_with fail
  refine mix.wp_region_tail (fun w' => w'.cell? ⟨w.heap.size, 0, none⟩ = some (.int .i64 c.d) ∧ w'.cell? ⟨w.heap.size, 1, none⟩ = some (.slice ch.wsa ch.wsl ch.wsc) ∧ w'.cell? ⟨w.heap.size, 2, none⟩ = some (.slice ch.msa ch.msl ch.msc) ∧ w'.cell? ⟨w.heap.size, 3, none⟩ = some (.int .i64 c.dl) ∧ w'.cell? ⟨w.heap.size, 4, none⟩ = some (.int .i64 c.lt) ∧ w'.cell? ⟨g, 1, none⟩ = some (.slice (some ⟨b, off, none⟩) xn xc) ∧ w'.cell? ⟨g, 2, none⟩ = some (.int .i64 k) ∧ w'.cell? ⟨g, 3, none⟩ = some (.int .i64 xm) ∧ w'.cell? ⟨b, off + k, none⟩ = some (.string s)) [16] [0,1,2,3,4,5,6,7,8,9,10,11,12,13,14,15,16,17,18] (by kernel_rfl) (by kernel_rfl) (fun _ _ d _ _ h => by cases d <;> exact h) ⟨k0, k1, k2, k3, k4, g1, g2, g3, S1.out⟩ ?_
  simp only [List.filterMap_cons, List.filterMap_nil, List.getElem?_cons_zero, List.getElem?_cons_succ, Option.map_some]
  (repeat (apply mix.ordt_take; (· rfl); (· rfl); (· (intro w' hSw; (try dsimp only at hSw); go_simp; try with_reducible rfl)); (try simp only [Act.put, List.setIfInBounds_toArray, List.set_cons_zero, List.set_cons_succ])))
  refine mix.ordt_hard rfl (fun K hK => ?_); go_simp
  refine (markBehind c ch cf xm s W1.drew (HC.out.below B1.out.drew) hsz (HE.out.next B1.out.drew)).mono ?_
  rintro e W2 ⟨rfl, b2⟩
  have bq := (Below.refl W1.heap.size W1).drew.trans b2
  have B2 := Lib.hid (B1.out.trans (bq.mono B1.out.size))
  have K2 := Lib.hid (K1.out.below bq K1.out.lt)
  have P2 := Lib.hid (P1.out.below bq P1.out.lt)
  have H2 := Lib.hid (H1.out.keep bq)
  have X2 := Lib.hid (X1.out.below bq X1.out.lt)
  have e0 := (bq.cell (p := ⟨w.heap.size, 0, none⟩) K1.out.lt).trans k0
  have e1 := (bq.cell (p := ⟨w.heap.size, 1, none⟩) K1.out.lt).trans k1
  have e2 := (bq.cell (p := ⟨w.heap.size, 2, none⟩) K1.out.lt).trans k2
  have e3 := (bq.cell (p := ⟨w.heap.size, 3, none⟩) K1.out.lt).trans k3
  have e4 := (bq.cell (p := ⟨w.heap.size, 4, none⟩) K1.out.lt).trans k4
  have f1 := (bq.cell (p := ⟨g, 1, none⟩) H1.out.row.lt).trans g1
  have f2 := (bq.cell (p := ⟨g, 2, none⟩) H1.out.row.lt).trans g2
  have f3 := (bq.cell (p := ⟨g, 3, none⟩) H1.out.row.lt).trans g3
  have s2 := (bq.cell (p := ⟨b, off + k, none⟩) (World.block_lt_of_cell? _ _ S1.out)).trans S1.out
  have gf := H2.out.row.frozen
  have HSS := Lib.hid (And.intro e0 (And.intro e1 (And.intro e2 (And.intro e3 (And.intro e4 (And.intro f1 (And.intro f2 (And.intro f3 s2))))))))
  clear b2 bq k0 k1 k2 k3 k4 g1 g2 g3 e0 e1 e2 e3 e4 s2 B1 K1 P1 H1 X1 S1
  refine hK.out _ _ (by exact HSS.out) (fun hSw => ?_); clear hK K hSw; (try simp only [Act.put, List.setIfInBounds_toArray, List.set_cons_zero, List.set_cons_succ])
  clear HSS
  (repeat (apply mix.ordt_take; (· rfl); (· rfl); (· (intro w' hSw; (try dsimp only at hSw); go_simp; try with_reducible rfl)); (try simp only [Act.put, List.setIfInBounds_toArray, List.set_cons_zero, List.set_cons_succ])))
  refine mix.ordt_end ?_; refine mix.last_step (fun K hK => ?_); go_simp
  refine hK _ _ ?_
  clear hK K
  go_wp2_with fail
  have hqw : q < w.heap.size := HQW.out
  have hgw : g < w.heap.size := HGW.out
  refine wp_gen (fun W => HB W q g cap (⟨xp, some ⟨b, off, none⟩, xn, xc, (k : Int) + 1, markB c xm s⟩ :: r) rest ∧ Apart [q, g] w W ∧ Blk W (w.heap.size + 1) 55 [.int .i64 0, .int .i64 0] ∧ Blk W bx 55 [.int .i64 xp, .int .i64 k]) ⟨?_, ?_, (P2.out.setOther (by simp; omega) _).setOther (by simp; omega) _, (X2.out.setOther (by simp; omega) _).setOther (by simp; omega) _⟩ ?_
  · have a3 : Apart [g] W2 ((W2.setCell ⟨g, 3, none⟩ (.int .i64 (markB c xm s))).setCell ⟨g, 2, none⟩ (.int .i64 ((k : Int) + 1))) := ((Apart.refl [g] W2).setCell (by simp) _ _).setCell (by simp) _ _
    exact H2.out.other (((H2.out.row.set 3 _).set 2 _).of_eq rfl) rfl a3
  · exact ((Apart.of_below (fp := [q, g]) B2.out).setCell (by simp) _ _).setCell (by simp) _ _
  rintro W3 ⟨h3, a3, p3, x3⟩
  have H3 := Lib.hid h3
  have A3 := Lib.hid a3
  have P3 := Lib.hid p3
  have X3 := Lib.hid x3
  have i1 := h3.row.cell 1
  have i2 := h3.row.cell 2
  simp [rdFlat, RdD.list] at i1 i2
  clear h3 a3 p3 x3 H2 B2 K2 P2 X2 f1 f2 f3 gf
  go_quiet (fail)
  generalize hwd : W3.drewN nq = Wd at *
  have hbd : Below W3.heap.size W3 Wd := by rw [← hwd]; exact below_drewN (Below.refl _ _) _
  have H3_ := Lib.hid (H3.out.keep hbd)
  have A3_ := Lib.hid (A3.out.trans (Apart.of_below hbd))
  have P3_ := Lib.hid (P3.out.below hbd P3.out.lt)
  have X3_ := Lib.hid (X3.out.below hbd X3.out.lt)
  clear H3 A3 P3 X3 hbd hwd i1 i2
  have H3 := H3_
  have A3 := A3_
  have P3 := P3_
  have X3 := X3_
  clear H3_ A3_ P3_ X3_
  by_cases hkx : (k : Int) + 1 = (xn : Int)
  · have HBE := Lib.hid (show behind ⟨xp, some ⟨b, off, none⟩, xn, xc, (k : Int) + 1, markB c xm s⟩ r = popL (⟨xp, some ⟨b, off, none⟩, xn, xc, (k : Int) + 1, markB c xm s⟩ :: r) from if_pos hkx)
    have hke : ((k : Int) + 1 == (xn : Int)) = true := by simpa using hkx
    clear hkx
    go_wp2_with fail
    refine (heap_Pop H3.out hr).mono ?_
    rintro e W4 ⟨⟨v, rfl⟩, ⟨rest', h4⟩, a4⟩
    have H4 := Lib.hid h4
    have A4 := Lib.hid (A3.out.trans a4)
    have P4 := Lib.hid (show Blk W4 (w.heap.size + 1) 55 [.int .i64 0, .int .i64 0] from (a4.block _ P3.out.lt (by simp; omega)).trans P3.out)
    have X4 := Lib.hid (show Blk W4 bx 55 [.int .i64 xp, .int .i64 k] from (a4.block _ X3.out.lt (by simp; omega)).trans X3.out)
    have x0 := X4.out.cell 0
    have x1 := X4.out.cell 1
    have y0 := P4.out.cell 0
    have y1 := P4.out.cell 1
    have yf := P4.out.frozen
    simp at x0 x1 y0 y1
    clear h4 a4 H3 A3 P3 X3
    go_wp2_with fail
    refine body_gen (fun W => (∃ rest', HB W q g cap (behind ⟨xp, some ⟨b, off, none⟩, xn, xc, (k : Int) + 1, markB c xm s⟩ r) rest') ∧ Blk W (w.heap.size + 1) 55 [.int .i64 xp, .int .i64 k] ∧ Apart [q, g] w W) ⟨⟨rest', ?_⟩, ((P4.out.set 0 _).set 1 _).of_eq rfl, ?_⟩ ?_
    · rw [HBE.out]
      exact (H4.out.off (c := w.heap.size + 1) (by omega) (by omega) _ _).off (by omega) (by omega) _ _
    · exact apart_new (apart_new A4.out (by omega) _ _) (by omega) _ _
    rintro W ⟨h5, k5, a5⟩
    have z0 := k5.cell 0
    have z1 := k5.cell 1
    simp at z0 z1
    refine bodyPost_ret (v := .agg #[.int .i64 xp, .int .i64 k]) (by simp [results, Tryz.results40, go_sem, z0, z1]) rfl ?_
    exact ⟨rfl, h5, a5⟩
  · have HBE := Lib.hid (show behind ⟨xp, some ⟨b, off, none⟩, xn, xc, (k : Int) + 1, markB c xm s⟩ r = downL (⟨xp, some ⟨b, off, none⟩, xn, xc, (k : Int) + 1, markB c xm s⟩ :: r) from if_neg hkx)
    have hke : ((k : Int) + 1 == (xn : Int)) = false := by simpa using hkx
    clear hkx
    go_wp2_with fail
    refine (heap_Fix H3.out hr).mono ?_
    rintro e W4 ⟨rfl, ⟨rest', h4⟩, a4⟩
    have H4 := Lib.hid h4
    have A4 := Lib.hid (A3.out.trans a4)
    have P4 := Lib.hid (show Blk W4 (w.heap.size + 1) 55 [.int .i64 0, .int .i64 0] from (a4.block _ P3.out.lt (by simp; omega)).trans P3.out)
    have X4 := Lib.hid (show Blk W4 bx 55 [.int .i64 xp, .int .i64 k] from (a4.block _ X3.out.lt (by simp; omega)).trans X3.out)
    have x0 := X4.out.cell 0
    have x1 := X4.out.cell 1
    have y0 := P4.out.cell 0
    have y1 := P4.out.cell 1
    have yf := P4.out.frozen
    simp at x0 x1 y0 y1
    clear h4 a4 H3 A3 P3 X3
    go_wp2_with fail
    refine body_gen (fun W => (∃ rest', HB W q g cap (behind ⟨xp, some ⟨b, off, none⟩, xn, xc, (k : Int) + 1, markB c xm s⟩ r) rest') ∧ Blk W (w.heap.size + 1) 55 [.int .i64 xp, .int .i64 k] ∧ Apart [q, g] w W) ⟨⟨rest', ?_⟩, ((P4.out.set 0 _).set 1 _).of_eq rfl, ?_⟩ ?_
    · rw [HBE.out]
      exact (H4.out.off (c := w.heap.size + 1) (by omega) (by omega) _ _).off (by omega) (by omega) _ _
    · exact apart_new (apart_new A4.out (by omega) _ _) (by omega) _ _
    rintro W ⟨h5, k5, a5⟩
    have z0 := k5.cell 0
    have z1 := k5.cell 1
    simp at z0 z1
    refine bodyPost_ret (v := .agg #[.int .i64 xp, .int .i64 k]) (by simp [results, Tryz.results40, go_sem, z0, z1]) rfl ?_
    exact ⟨rfl, h5, a5⟩
end Go.Proofs.YtdipkbgfkbmfnaaGreatDoor.dat

/-
  THE CONTRACT OF MergeOrder of the program: the order of all records, in memory of its own; nothing that was there is written.
-/
namespace Go.Proofs.YtdipkbgfkbmfnaaGreatDoor.dat
open Go.RowKit Go.Proofs.YtdipkbgfkbmfnaaGreatDoor.win
open Go.Proofs.YtdipkbgfkbmfnaaGreatDoor.num (Env Env.next)

theorem logs_bounds {c : ConfD} {L : List PartD} (h : logsB c L = true) : 1 ≤ L.length ∧ L.length ≤ 3 ∧ ∀ x ∈ L, x.recs.length ≤ 24 ∧ ∀ s ∈ x.recs, s.size ≤ 60 := by
  unfold logsB at h
  simp only [Bool.and_eq_true, List.all_eq_true, decide_eq_true_eq] at h
  obtain ⟨⟨_, h1⟩, h2⟩ := h
  refine ⟨by omega, by omega, fun x hx => ?_⟩
  have := h2 x hx
  unfold partB at this
  simp only [Bool.and_eq_true, List.all_eq_true, decide_eq_true_eq] at this
  refine ⟨by omega, fun s hs => ?_⟩
  have := this.2 s hs
  unfold recB at this
  have := of_decide_eq_true this
  omega
theorem total_le : ∀ {L : List PartD} {m : Nat}, (∀ x ∈ L, x.recs.length ≤ m) → totalD L ≤ L.length * m
  | [], m, _ => by simp [totalD]
  | x :: L, m, h => by
    have h1 := h x (by simp)
    have h2 := total_le (L := L) (m := m) (fun y hy => h y (by simp [hy]))
    simp only [totalD, List.map_cons, List.sum_cons, List.length_cons] at h2 ⊢
    rw [Nat.succ_mul]
    omega
theorem logs_total {c : ConfD} {L : List PartD} (h : logsB c L = true) : totalD L ≤ 72 := by
  obtain ⟨_, h2, h3⟩ := logs_bounds h
  have := total_le (L := L) (m := 24) (fun x hx => (h3 x hx).1)
  have : L.length * 24 ≤ 3 * 24 := Nat.mul_le_mul_right _ h2
  omega
theorem mkR_next (c : ConfD) (L : List PartD) (H : List PartH) {rd : List Nat} {p : Nat} (hp : p < rd.length) {s : ByteArray} (hs : (recsOf L p)[rd.getD p 0]? = some s) :
    mkR c L H (rdNext rd p) p = ⟨(mkR c L H rd p).part, (mkR c L H rd p).a, (mkR c L H rd p).n, (mkR c L H rd p).c, ((rd.getD p 0 : Nat) : Int) + 1, markB c (mkR c L H rd p).mark s⟩ := by
  unfold mkR rdNext
  rw [getD_set hp, if_pos rfl]
  simp only [mk, tideL_succ hs, RdD.mk.injEq, true_and, and_true]
  omega
theorem after_next {c : ConfD} {L : List PartD} {H : List PartH} {rd : List Nat} {k p : Nat} {r : List RdD} (h : Readers c L H rd k (mkR c L H rd p :: r)) (hk : p < k) (h3 : k ≤ 3) (hp : p < rd.length) (hn : (mkR c L H rd p).n = (recsOf L p).length) (hop : opn L rd p = true) :
    Readers c L H (rdNext rd p) k (behind (mkR c L H (rdNext rd p) p) r) ∧ Heap (behind (mkR c L H (rdNext rd p) p) r) := by
  have hlen := h.len
  simp at hlen
  have hlt : rd.getD p 0 < (recsOf L p).length := of_decide_eq_true hop
  have hget : (rdNext rd p).getD p 0 = rd.getD p 0 + 1 := by rw [rdNext, getD_set hp, if_pos rfl]
  have hn2 : (mkR c L H (rdNext rd p) p).n = (recsOf L p).length := hn
  have hrd : (mkR c L H (rdNext rd p) p).read = ((rd.getD p 0 + 1 : Nat) : Int) := by show (((rdNext rd p).getD p 0 : Nat) : Int) = _; rw [hget]
  unfold behind
  rw [hrd, hn2]
  by_cases e : rd.getD p 0 + 1 = (recsOf L p).length
  · rw [if_pos (by omega)]
    have ho : opn L (rdNext rd p) p = false := by unfold opn; rw [hget]; exact decide_eq_false (by omega)
    have hpp := pop_heap (x := mkR c L H (rdNext rd p) p) (r := r) (by omega)
    exact ⟨(h.last hp ho).perm hpp.1, hpp.2⟩
  · rw [if_neg (by omega)]
    have ho : opn L (rdNext rd p) p = true := by unfold opn; rw [hget]; exact decide_eq_true (by omega)
    have hdd := down_heap (l := mkR c L H (rdNext rd p) p :: r) (by simp; omega)
    exact ⟨(h.more hk hp ho).perm hdd.1, hdd.2⟩
theorem info_Pos : (Tryz.prog.info? 55).map (fun i => (i.zero, i.size, i.bytes)) = some (some (.agg #[.int .i64 0, .int .i64 0]), 2, 16) := by kernel_rfl
/-- A row of positions in new memory. -/
def GiveP (w : World) (l : List (Int × Int)) (r : Ending) (w' : World) : Prop := ∃ (a : Option Addr) (n c' : Nat) (f : List Nat), r = .returned (.slice a n c') ∧ GRow 2 RPos w' a n l f ∧ n ≤ c' ∧ c' ≤ 9223372036854775807 ∧ Own w.heap.size w' f ∧ Below w.heap.size w w'
theorem givep_nil {w w' : World} (hB : Below w.heap.size w w') : GiveP w [] (.returned (.slice none 0 0)) w' := ⟨none, 0, 0, [], rfl, GRow.nil, Nat.le_refl _, Nat.zero_le _, Own.nil, hB⟩
theorem givep_of {w wr : World} {base : Nat} {v : Value} {l : List (Int × Int)} (h : Grows 2 RPos 55 base wr v l) (hb : w.heap.size ≤ base) (hB : Below w.heap.size w wr) : GiveP w l (.returned v) wr := by
  obtain ⟨a, cap, fp, rfl, h1, h2, h3, h4⟩ := h.done
  exact ⟨a, _, cap, fp, rfl, h1, h2, h3, h4.mono hb, hB⟩
theorem row_blk {base : Nat} {w : World} {v : Value} {l : List RdD} (hG : Grows 4 RRd 98 base w v l) (hl : 0 < l.length) : ∃ g cap rest, v = .slice (some ⟨g, 0, none⟩) l.length cap ∧ base ≤ g ∧ Blk w g 98 (rdFlat l ++ rest) ∧ l.length ≤ cap ∧ cap ≤ maxLen ∧ (rdFlat l ++ rest).length = cap * 4 := by
  obtain ⟨css, F, h1, h2, h3, h4, h5, h6, ho⟩ := hG.ex
  rcases ho.2 with ⟨_, h0⟩ | ⟨g, cap, cur, rfl, hbg, hg, hnc, hcm, hcs, htake⟩
  · omega
  · have e := rd_css h1 h2 h4
    have hd : cur.toList = rdFlat l ++ cur.toList.drop (l.length * 4) := by
      conv => lhs; rw [← List.take_append_drop (l.length * 4) cur.toList]
      rw [htake, e]
    refine ⟨g, cap, cur.toList.drop (l.length * 4), rfl, hbg, ?_, hnc, hcm, by rw [← hd]; simpa using hcs⟩
    show w.heap[g]? = some (.cells (rdFlat l ++ cur.toList.drop (l.length * 4)).toArray _ (0, 0))
    rw [← hd]
    simpa using hg
theorem HB.belowB {B : Nat} {w w' : World} {q g cap : Nat} {l : List RdD} {rest : List Value} (h : HB w q g cap l rest) (hb : Below B w w') (hq : q < B) (hg : g < B) : HB w' q g cap l rest :=
  ⟨h.box.below hb hq, h.row.below hb hg, h.ne, h.le, h.mx, h.sz⟩
/-- The merge under way: what came stands in vo, the heap in box q. -/
structure Merging (c : ConfD) (L : List PartD) (H : List PartH) (w : World) (q : Nat) (K : List Value) (n : Nat) (vo : Value) (wr : World) : Prop where
  ex : ∃ out rd l vq aq cq, n + out.length = totalD L ∧ Under c L out rd ∧ Readers c L H rd L.length l ∧ Heap l ∧ vq = .slice aq l.length cq ∧ Blk wr q 67 [vq] ∧ (l ≠ [] → ∃ g cap rest, HB wr q g cap l rest ∧ w.heap.size < g ∧ g < q) ∧ Grows 2 RPos 55 (q + 1) wr vo out
  conf : Blk wr w.heap.size 33 K
  below : Below w.heap.size w wr

set_option maxRecDepth 100000 in
set_option maxHeartbeats 4000000 in
theorem impl_MergeOrder_any (c : ConfD) (ch : ConfigH) (cf : List Nat) (a : Option Addr) (len cap : Nat) (L : List PartD) (fp : List Nat) (w : World) (hc : Config.Is w c ch cf) (hrow : GRow 1 RPart w a len L fp) (u1 : len ≤ cap) (u2 : cap ≤ 9223372036854775807) (hE : Env w) :
    Calls Tryz.prog 12 #[.agg (Config.list c ch).toArray, .slice a len cap] w (GiveP w (mergeD c L)) := by
  have hl := hrow.1
  obtain ⟨H, hlog⟩ := logs_of hrow
  have HC := Lib.hid hc
  have HE := Lib.hid hE
  have HG := Lib.hid hrow
  have HL := Lib.hid hlog
  have HO := Lib.hid (fun w h1 h2 => impl_LogsOk c ch cf a len cap L fp w h1 h2 u1 u2)
  clear hc hE hrow hlog
  simp only [Config.list] at HO ⊢
  go_enter Tryz.func12, Tryz.ntmps12
  go_wp2_with fail
  refine calls_gen (fun W => Below w.heap.size w W ∧ Blk W w.heap.size 33 (Config.list c ch)) ⟨by repeat (first | exact Below.refl _ _ | refine Below.setCell ?_ (by first | omega | (simp; done) | (simp; omega)) _ | refine Below.alloc ?_ (by first | omega | (simp; done) | (simp; omega)) _ | apply Below.drew), by unfold Config.list; with_reducible (repeat (first | (refine blk_new_at _ _ _ _ ?_; first | rfl | (simp; done)) | refine Blk.alloc ?_ _ | apply Blk.drew | refine Blk.setOther ?_ (by first | (simp; done) | (simp; omega)) _))⟩ ?_
  rintro W1 ⟨b1, k1⟩
  refine (HO.out _ (HC.out.below b1) (HG.out.below local_Part b1)).mono ?_
  rintro e' W2 ⟨rfl, b2⟩
  have B2 := Lib.hid (b1.trans (b2.mono b1.size))
  have K2 := Lib.hid (k1.below b2 k1.lt)
  clear b1 b2 k1
  cases hlg : logsB c L with
  | false =>
    have HM := Lib.hid (show mergeD c L = [] by unfold mergeD; rw [hlg]; rfl)
    clear hlg
    go_wp2_with fail
    go_ret
    rw [HM.out]
    exact givep_nil B2.out
  | true =>
  have HM := Lib.hid (show mergeD c L = ordD c L by unfold mergeD; rw [hlg]; rfl)
  have hbd := logs_bounds hlg
  have htt := logs_total hlg
  have HBD := Lib.hid hbd
  have h3 : len ≤ 3 := by omega
  clear hlg hbd
  go_wp2_with fail
  refine (impl_readersOf c a len cap L H W2 (HL.out.below B2.out) hl h3).mono ?_
  rintro e' W3 ⟨v, l, rfl, hG3, hR3, hH3, b3⟩
  obtain ⟨aq, cq, rfl⟩ := hG3.slice
  have B3 := Lib.hid (B2.out.trans (b3.mono B2.out.size))
  have K3 := Lib.hid (K2.out.below b3 K2.out.lt)
  have G3 := Lib.hid hG3
  have R3 := Lib.hid hR3
  have H3 := Lib.hid hH3
  have hw2 : w.heap.size < W2.heap.size := K2.out.lt
  have hw3 : W2.heap.size ≤ W3.heap.size := b3.size
  clear b3 hG3 hR3 hH3 K2
  go_wp2_with fail
  go_loopg [5] (totalD L) (fun n vo wr => Merging c L H w W3.heap.size (Config.list c ch) n vo wr)
  case atStart =>
    refine ⟨⟨[], List.replicate L.length 0, l, _, aq, cq, by simp, Under.start c L, (by show Readers c L H (zeros L) L.length l; rw [hl]; exact R3.out), H3.out, rfl, by with_reducible (repeat (first | (refine blk_new_at _ _ _ _ ?_; first | rfl | (simp; done)) | refine Blk.alloc ?_ _ | apply Blk.drew | refine Blk.setOther ?_ (by first | (simp; done) | (simp; omega)) _)), fun hne => ?_, Grows.nil⟩, by with_reducible (repeat (first | exact K3.out | (refine blk_new_at _ _ _ _ ?_; first | rfl | (simp; done)) | refine Blk.alloc ?_ _ | apply Blk.drew | refine Blk.setOther ?_ (by first | (simp; done) | (simp; omega)) _)), by repeat (first | exact Below.refl _ _ | refine Below.setCell ?_ (by first | omega | (simp; done) | (simp; omega)) _ | refine Below.alloc ?_ (by first | omega | (simp; done) | (simp; omega)) _ | apply Below.drew | refine Below.trans ?_ (B3.out.mono (by first | omega | (simp; done) | (simp; omega))))⟩
    obtain ⟨g, cap', rest, e, hg, hb, h1, h2, h4⟩ := row_blk G3.out (List.length_pos_iff.2 hne)
    have hbl := hb.lt
    exact ⟨g, cap', rest, ⟨by rw [← e]; with_reducible (repeat (first | (refine blk_new_at _ _ _ _ ?_; first | rfl | (simp; done)) | refine Blk.alloc ?_ _ | apply Blk.drew | refine Blk.setOther ?_ (by first | (simp; done) | (simp; omega)) _)), by with_reducible (repeat (first | exact hb | (refine blk_new_at _ _ _ _ ?_; first | rfl | (simp; done)) | refine Blk.alloc ?_ _ | apply Blk.drew | refine Blk.setOther ?_ (by first | (simp; done) | (simp; omega)) _)), by omega, h1, h2, h4⟩, by omega, hbl⟩
  case round =>
    obtain ⟨⟨out, rd, l', vq, aq', cq', hn, hU, hR, hHp, rfl, hbq, hHB, hGo⟩, hK, hB⟩ := hrel
    have hout := hU.le_total
    obtain ⟨ao, co, rfl⟩ := hGo.slice
    have q0 := hbq.cell 0
    simp at q0
    have HU := Lib.hid hU
    have HR := Lib.hid hR
    have HK := Lib.hid hK
    have HB := Lib.hid hB
    have HGo := Lib.hid hGo
    clear G3 R3 H3 K3 hbq
    cases l' with
    | nil =>
      simp only [List.length_nil] at q0
      have HD := Lib.hid (hU.done hR.none)
      clear hU hR hHp hHB hK hB hGo
      go_wp2_with fail
      go_ret
      rw [HM.out, ← HD.out]
      exact givep_of HGo.out (by omega) HB.out
    | cons x r =>
    obtain ⟨g, cap', rest, hHB', hwg, hgq⟩ := hHB (by simp)
    have HHB := Lib.hid hHB'
    obtain ⟨p, rfl, hnx⟩ := hR.first hHp
    have HNX := Lib.hid hnx
    have hrl := hR.len
    simp only [List.length_cons] at hrl q0
    have hpl := hnx.1
    obtain ⟨xp, hxp⟩ : ∃ xp, L[p]? = some xp := ⟨L[p], List.getElem?_eq_getElem hpl⟩
    obtain ⟨bb, oo, hh, ff, -, -, hHp2, hIs, -⟩ := (HL.out.below hB).el p xp hxp
    obtain ⟨f0, -, r0, -, -⟩ := hIs
    have hrec := recsOf_at hxp
    have hopn := hnx.2.1
    have hlt : rd.getD p 0 < xp.recs.length := by have := of_decide_eq_true hopn; rwa [hrec] at this
    have hmem : xp ∈ L := List.mem_of_getElem? hxp
    have hb24 := HBD.out.2.2 xp hmem
    obtain ⟨k, hk⟩ : ∃ k, rd.getD p 0 = k := ⟨_, rfl⟩
    rw [hk] at hlt
    obtain ⟨b, off, s, f, cs, ea, hbl, hs, hcl, hRs, hcs⟩ := r0.at (show k < hh.recsl by rw [← r0.1]; exact hlt)
    obtain ⟨rfl, -, rfl⟩ := hRs
    have hcell : wr.cell? ⟨b, off + k, none⟩ = some (.string s) := by have := hcs 0 (by omega); simpa using this
    have hsz : s.size ≤ 60 := hb24.2 s (List.mem_of_getElem? hs)
    have hxn : (mkR c L H rd p).n = xp.recs.length := by show (H.getD p ⟨none, 0, 0⟩).recsl = _; rw [List.getD_eq_getElem?_getD, hHp2]; exact r0.1.symm
    have hxa : (mkR c L H rd p).a = some ⟨b, off, none⟩ := by show (H.getD p ⟨none, 0, 0⟩).recsa = _; rw [List.getD_eq_getElem?_getD, hHp2]; exact ea
    have hxr : (mkR c L H rd p).read = (k : Int) := by show ((rd.getD p 0 : Nat) : Int) = _; rw [hk]
    have hprd : p < rd.length := by rw [hU.len]; exact hpl
    have hst := hU.step hnx
    rw [hk] at hst
    have HST := Lib.hid hst
    have hmn := mkR_next c L H hprd (by rw [hrec, hk]; exact hs)
    rw [hk] at hmn
    have haf := after_next hR hpl (by omega) hprd (by rw [hrec]; exact hxn) hopn
    rw [hmn] at haf
    have HAF := Lib.hid haf
    have HN := Lib.hid (impl_readNext c ch cf W3.heap.size g cap' (mkR c L H rd p) r rest k b off s wr (HC.out.below hB) (HE.out.next hB) hHB' (by omega) hxr (by rw [hxn]; exact hlt) (by rw [hxn]; omega) hxa hcell (by omega))
    obtain ⟨x', hx'⟩ : ∃ x', (⟨(mkR c L H rd p).part, (mkR c L H rd p).a, (mkR c L H rd p).n, (mkR c L H rd p).c, (k : Int) + 1, markB c (mkR c L H rd p).mark s⟩ : RdD) = x' := ⟨_, rfl⟩
    rw [hx'] at HN HAF
    rw [mkR_part] at HN
    have c0 := hK.cell 0
    have c1 := hK.cell 1
    have c2 := hK.cell 2
    have c3 := hK.cell 3
    have c4 := hK.cell 4
    simp [Config.list] at c0 c1 c2 c3 c4
    simp only [Config.list] at HN
    have hkw := hK.lt
    have q1 : (0 : Int) < ((r.length + 1 : Nat) : Int) := by omega
    obtain ⟨i0, hi, hi2⟩ := Option.map_eq_some_iff.1 info_Pos
    simp only [Prod.mk.injEq] at hi2
    obtain ⟨hz0, hz1, hz2⟩ := hi2
    have h72 : out.length < 72 := by have := hst.1; omega
    clear hU hR hHp hHB hK hB hGo hHB' hnx hxp hHp2 r0 hrec hopn hlt hmem hb24 hk ea hbl hs hcl hcs hcell hsz hxn hxa hxr hst hmn haf hx' HU HR HNX
    go_wp2_with fail
    refine HN.out.mono ?_
    rintro e W5 ⟨rfl, ⟨rest', h5⟩, a5⟩
    have H5 := Lib.hid h5
    have q5 := h5.box.lt
    have B5 := Lib.hid (HB.out.trans (a5.below (lo := w.heap.size) (by simp; omega) HB.out.size))
    have K5 := Lib.hid (show Blk W5 w.heap.size 33 (Config.list c ch) from (a5.block _ HK.out.lt (by simp; omega)).trans HK.out)
    have G5 := Lib.hid (HGo.out.keep (w' := W5) local_Pos (fun b h1 h2 => a5.block b h2 (by simp; omega)))
    clear h5 a5 c0 c1 c2 c3 c4 q0 HGo HN HHB HB HK
    go_wp2_with (at_builtin; refine push local_Pos rfl _ _ 29 rfl i0 (.agg #[.int .i64 0, .int .i64 0]) 16 Tryz.underlying29 hi hz0 hz1 hz2 rfl (by decide) rfl G5.out ((Below.refl _ _).alloc (Nat.le_refl _) _) W5.heap.size 1 rfl [.int .i64 p, .int .i64 k] rfl (fun u hu => by simp at hu; rcases hu with rfl | rfl <;> rfl) (fun j u hj => ((blk_new W5 55 [.int .i64 p, .int .i64 k]).cell j).trans hj) ((p : Int), (k : Int)) [] ⟨rfl, rfl⟩ Own.nil (by omega) (by unfold maxLen; omega) (by omega) ?_; intro v' w6 hG6 hb6)
    have hB6 : Below (W3.heap.size + 1) W5 w6 := ((Below.refl _ _).alloc (by omega) _).trans hb6
    have hH6 := H5.out.belowB hB6 (by omega) (by omega)
    have hK6 := K5.out.below hB6 (by omega)
    have hB7 := B5.out.trans (hB6.mono (by omega))
    go_roundg (totalD L - (out.length + 1))
    case measure => have := HST.out.1; omega
    case rel => exact ⟨⟨_, _, _, _, _, _, by have := HST.out.1; simp; omega, HST.out.2, by exact HAF.out.1, HAF.out.2, rfl, hH6.box, fun _ => ⟨g, cap', rest', hH6, hwg, hgq⟩, hG6⟩, hK6, hB7⟩
end Go.Proofs.YtdipkbgfkbmfnaaGreatDoor.dat

/-
  THE CONTRACT OF MergeOrder of the model: the order of all records; nothing that was there is written.
-/
namespace Go.Proofs.YtdipkbgfkbmfnaaGreatDoor.dat
open Go.RowKit Go.Proofs.YtdipkbgfkbmfnaaGreatDoor.win

def rdCells (rd : List Nat) : List Value := rd.map fun n : Nat => Value.int .i64 (n : Int)
theorem rdCells_at {rd : List Nat} {j : Nat} (h : j < rd.length) : (rdCells rd)[j]? = some (.int .i64 ((rd.getD j 0 : Nat) : Int)) := by
  unfold rdCells
  rw [List.getElem?_map, List.getElem?_eq_getElem h, List.getD_eq_getElem?_getD, List.getElem?_eq_getElem h]
  rfl
theorem rdCells_next {rd : List Nat} {b : Nat} : (rdCells rd).set b (.int .i64 (((rd.getD b 0 : Nat) : Int) + 1)) = rdCells (rdNext rd b) := by
  unfold rdCells rdNext
  rw [List.map_set]
  congr 1
theorem Logs.at {w : World} {b off : Nat} {L : List PartD} {H : List PartH} (h : Logs w (some ⟨b, off, none⟩) L H) {i : Nat} {x : PartD} (hx : L[i]? = some x) : ∃ (hh : PartH) (f : List Nat), Part.Is w x hh f ∧ w.cell? ⟨b, off + i, none⟩ = some (.slice hh.recsa hh.recsl hh.recsc) ∧ b < w.heap.size ∧ hh.recsl = x.recs.length := by
  obtain ⟨b', off', hh, f, e, h2, h3, h4, h5⟩ := h.el i x hx
  cases e
  refine ⟨hh, f, h4, h5, h2, ?_⟩
  obtain ⟨f0, _, r0, _⟩ := h4
  exact r0.1.symm
theorem scan_no {c : ConfD} {L : List PartD} {rd : List Nat} {j : Nat} (h : opn L rd j = false) : scan c L rd (j + 1) = scan c L rd j := by
  rw [scan, if_neg (fun e => by rw [h] at e; cases e.1)]
theorem scan_first {c : ConfD} {L : List PartD} {rd : List Nat} {j : Nat} (h : opn L rd j = true) (h0 : scan c L rd j < 0) : scan c L rd (j + 1) = (j : Int) := by
  rw [scan, if_pos ⟨h, .inl h0⟩]
theorem scan_less {c : ConfD} {L : List PartD} {rd : List Nat} {j b : Nat} (h : opn L rd j = true) (hb : scan c L rd j = (b : Int)) (hl : mk c L j (rd.getD j 0) < mk c L b (rd.getD b 0)) : scan c L rd (j + 1) = (j : Int) := by
  rw [scan, if_pos ⟨h, .inr (by rw [hb]; simpa using hl)⟩]
theorem scan_more {c : ConfD} {L : List PartD} {rd : List Nat} {j b : Nat} (hb : scan c L rd j = (b : Int)) (hl : ¬ mk c L j (rd.getD j 0) < mk c L b (rd.getD b 0)) : scan c L rd (j + 1) = scan c L rd j := by
  rw [scan, if_neg]
  rintro ⟨_, h | h⟩
  · omega
  · rw [hb] at h
    exact hl (by simpa using h)
theorem mk_is {c : ConfD} {L : List PartD} {p k : Nat} {x : PartD} (hx : L[p]? = some x) : mk c L p k = markD c x (k : Int) := by
  unfold mk markD
  rw [recsOf_at hx, Int.toNat_natCast]
theorem made_zero (n : Nat) : madeCells #[Value.int .i64 0] n = (rdCells (List.replicate n 0)).toArray := by
  have h := made_eq [Value.int .i64 0] (by simp) n
  simp only [List.length_singleton, Nat.mul_one] at h
  rw [h]
  unfold rdCells
  simp [List.flatten_replicate_singleton]
/-- The merge under way, in the model: what came stands in vo, how many of each part in block gr. -/
structure MergingS (c : ConfD) (L : List PartD) (w : World) (gr : Nat) (K : List Value) (n : Nat) (vo : Value) (wr : World) : Prop where
  ex : ∃ out rd, n + out.length = totalD L ∧ Under c L out rd ∧ Blk wr gr 3 (rdCells rd) ∧ Grows 2 RPos 55 (w.heap.size + 1) wr vo out ∧ vo.ownBlock ≠ some gr
  conf : Blk wr w.heap.size 33 K
  below : Below w.heap.size w wr

set_option maxRecDepth 100000 in
set_option maxHeartbeats 8000000 in
theorem spec_MergeOrder_any (c : ConfD) (ch : ConfigH) (cf : List Nat) (a : Option Addr) (len cap : Nat) (L : List PartD) (fp : List Nat) (w : World) (hc : Config.Is w c ch cf) (hrow : GRow 1 RPart w a len L fp) (u1 : len ≤ cap) (u2 : cap ≤ 9223372036854775807) (zl : szL Part.sz L ≤ 2000000) :
    Calls Tryz.prog 9 #[.agg (Config.list c ch).toArray, .slice a len cap] w (GiveP w (mergeD c L)) := by
  have hl := hrow.1
  obtain ⟨H, hlog⟩ := logs_of hrow
  have HC := Lib.hid hc
  have HG := Lib.hid hrow
  have HL := Lib.hid hlog
  have HZ := Lib.hid (fun x (hx : x ∈ L) => show Part.sz x ≤ 2000000 by
    obtain ⟨i, hi, rfl⟩ := List.getElem_of_mem hx
    have := sz_elem_le Part.sz L (List.getElem?_eq_getElem hi)
    unfold szL at zl
    omega)
  have HO := Lib.hid (fun w h1 h2 => spec_LogsOk c ch cf a len cap L fp w h1 h2 u1 u2)
  have HMK := Lib.hid (fun x h f n w h1 h2 h3 => spec_MarkOf_any c ch cf x h f n w h1 h2 h3)
  clear hc hrow hlog zl
  simp only [Config.list, Part.list] at HO HMK ⊢
  go_enter Tryz.func9, Tryz.ntmps9
  go_wp2_with fail
  refine calls_gen (fun W => Below w.heap.size w W ∧ Blk W w.heap.size 33 (Config.list c ch) ∧ Grows 2 RPos 55 (w.heap.size + 1) W (.slice (some ⟨w.heap.size + 1, 0, none⟩) 0 0) ([] : List (Int × Int))) ⟨by repeat (first | exact Below.refl _ _ | refine Below.setCell ?_ (by first | omega | (simp; done) | (simp; omega)) _ | refine Below.alloc ?_ (by first | omega | (simp; done) | (simp; omega)) _ | apply Below.drew), by unfold Config.list; with_reducible (repeat (first | (refine blk_new_at _ _ _ _ ?_; first | rfl | (simp; done)) | refine Blk.alloc ?_ _ | apply Blk.drew | refine Blk.setOther ?_ (by first | (simp; done) | (simp; omega)) _)), ?_⟩ ?_
  · have := Grows.made (k := 2) (R := RPos) (e := 55) (base := w.heap.size + 1) (w := w.alloc (.cells (Config.list c ch).toArray 33)) #[] 0 (by simp) (by simp [maxLen]) rfl
    simpa [Config.list] using this
  rintro W1 ⟨b1, k1, g1⟩
  refine (HO.out _ (HC.out.below b1) (HG.out.below local_Part b1)).mono ?_
  rintro e' W2 ⟨rfl, b2⟩
  have B2 := Lib.hid (b1.trans (b2.mono b1.size))
  have K2 := Lib.hid (k1.below b2 k1.lt)
  have G2 := Lib.hid (g1.below local_Pos b2)
  clear b1 b2 k1 g1
  cases hlg : logsB c L with
  | false =>
    have HM := Lib.hid (show mergeD c L = [] by unfold mergeD; rw [hlg]; rfl)
    clear hlg
    go_wp2_with fail
    go_ret
    rw [HM.out]
    exact givep_of G2.out (Nat.le_succ _) B2.out
  | true =>
  have HM := Lib.hid (show mergeD c L = ordD c L by unfold mergeD; rw [hlg]; rfl)
  have hbd := logs_bounds hlg
  have htt := logs_total hlg
  have h3 : len ≤ 3 := by omega
  have h1 : 1 ≤ len := by omega
  obtain ⟨b, off, -, -, rfl, hbw, -⟩ := HL.out.el 0 (L[0]'(by omega)) (List.getElem?_eq_getElem (by omega))
  clear hlg hbd
  have hmake := fun w => run_make_n (P := Tryz.prog) 23 3 (.int .i64 0) 1 8 Tryz.underlying23 info_int .i64 .i64 len (by omega) (by omega) w
  go_wp2_with fail
  clear hmake
  go_loopg [5] (totalD L) (fun n vo wr => MergingS c L w W2.heap.size (Config.list c ch) n vo wr)
  case atStart =>
    have hg := G2.out.lt _ rfl
    refine ⟨⟨[], List.replicate L.length 0, by simp, Under.start c L, ?_, G2.out.below local_Pos ((Below.refl _ _).alloc (Nat.le_refl _) _), ?_⟩, K2.out.alloc _, B2.out.alloc B2.out.size _⟩
    · rw [made_zero, hl]
      exact blk_new _ _ _
    · simp [Value.ownBlock]
      omega
  case round =>
    obtain ⟨⟨out, rd, hn, hU, hR, hGo, hne⟩, hK, hB⟩ := hrel
    obtain ⟨ao, co, rfl⟩ := hGo.slice
    have HU := Lib.hid hU
    have HR := Lib.hid hR
    have HK := Lib.hid hK
    have HB := Lib.hid hB
    have HGo := Lib.hid hGo
    have HNE := Lib.hid hne
    have hout := hU.le_total
    have hrl := hU.len
    have hw2 : w.heap.size < W2.heap.size := K2.out.lt
    have hwr : W2.heap.size < wr.heap.size := hR.lt
    clear hU hR hK hB hGo hne G2 B2 K2
    generalize wr = wo at *
    go_wp2_with fail
    go_loopg [7, 8] len (fun k best p wi => ∃ j : Nat, j + k = len ∧ p = .int .i64 j ∧ best = .int .i64 (scan c L rd j) ∧ Below wo.heap.size wo wi)
    case atStart => exact ⟨0, by omega, rfl, rfl, Below.refl _ _⟩
    case round =>
      obtain ⟨j, hj, rfl, rfl, hbi⟩ := hrel
      have HBI := Lib.hid hbi
      have BI := Lib.hid (HB.out.trans (hbi.mono HB.out.size))
      by_cases hlt : j < len
      case neg =>
        obtain rfl : j = len := by omega
        clear hbi
        rcases scan_spec c L rd j with ⟨hs, hno⟩ | ⟨B, hs, hnx⟩
        · have HD := Lib.hid (HU.out.done (fun p hp => hno p (by omega)))
          rw [hs]
          clear hs hno
          go_wp2_with fail
          go_ret
          rw [HM.out, ← HD.out]
          exact givep_of (HGo.out.below local_Pos HBI.out) (Nat.le_succ _) BI.out
        · have hnx' : Next c L rd L.length B := by rw [hl]; exact hnx
          have hst := HU.out.step hnx'
          have HST := Lib.hid hst
          have hBj := hnx.1
          obtain ⟨y, hy⟩ : ∃ y, L[B]? = some y := ⟨L[B]'(by omega), List.getElem?_eq_getElem (by omega)⟩
          have zy := HZ.out y (List.mem_of_getElem? hy)
          have hkn : rd.getD B 0 < y.recs.length := by have := of_decide_eq_true hnx.2.1; rwa [recsOf_at hy] at this
          have hyl : y.recs.length ≤ 2000000 := by unfold Part.sz szL at zy; omega
          obtain ⟨kb, hkb⟩ : ∃ k : Int, ((rd.getD B 0 : Nat) : Int) = k := ⟨_, rfl⟩
          have hkb1 : 0 ≤ kb ∧ kb ≤ 2000000 := by omega
          have RI := Lib.hid (HR.out.below HBI.out HR.out.lt)
          have d1 : wr.cell? ⟨W2.heap.size, B, none⟩ = some (.int .i64 kb) := (RI.out.cell B).trans (by rw [rdCells_at (by omega), hkb])
          have hB2 : (B : Int) < (j : Int) := by omega
          have hB0 : (0 : Int) ≤ (B : Int) := by omega
          have hB3 : ¬ (B : Int) < 0 := by omega
          have hgl := RI.out.lt
          have GI := Lib.hid (HGo.out.below local_Pos HBI.out)
          have KI := Lib.hid (HK.out.below HBI.out HK.out.lt)
          have HKB := Lib.hid hkb
          have hwr2 := BI.out.size
          obtain ⟨i0, hi, hi2⟩ := Option.map_eq_some_iff.1 info_Pos
          simp only [Prod.mk.injEq] at hi2
          obtain ⟨hz0, hz1, hz2⟩ := hi2
          have h72 : out.length < 72 := by have := hst.1; omega
          rw [hs]
          clear hs hnx hnx' hst hy zy hkn hyl hkb
          go_wp2_with (at_builtin; refine push2 local_Pos rfl _ _ 29 rfl i0 (.agg #[.int .i64 0, .int .i64 0]) 16 Tryz.underlying29 hi hz0 hz1 hz2 rfl (by decide) rfl GI.out ((Below.refl _ _).alloc (Nat.le_refl _) _) wr.heap.size 1 rfl [.int .i64 B, .int .i64 kb] rfl (fun u hu => by simp at hu; rcases hu with rfl | rfl <;> rfl) (fun j u hj => ((blk_new wr 55 [.int .i64 B, .int .i64 kb]).cell j).trans hj) ((B : Int), kb) [] ⟨rfl, rfl⟩ Own.nil (by omega) (by unfold maxLen; omega) (by omega) ?_; intro v' w6 hG6 hb6 hk6 hw6; have R6 := Lib.hid (show Blk w6 W2.heap.size 3 (rdCells rd) from (hk6 _ (by simp; omega) HNE.out).trans (RI.out.alloc _)); have r6 := R6.out.cell B; have f6 := R6.out.frozen; rw [rdCells_at (by omega), HKB.out] at r6; have G6 := Lib.hid hG6; have B6 := Lib.hid (show Below (w.heap.size + 1) wr w6 from ((Below.refl _ _).alloc (by omega) _).trans hb6); have N6 := Lib.hid (show v'.ownBlock ≠ some W2.heap.size from by rcases hw6 with e | e <;> rw [e]; exact HNE.out; simp; omega); clear hG6 hb6 hk6 hw6 d1)
          have hwv : IntKind.i64.wrap (kb + 1) = kb + 1 := by rw [IntKind.wrap_i64]; omega
          go_roundg (totalD L - (out.length + 1))
          case measure => have := HST.out.1; omega
          case rel =>
            have h1 := HST.out.2
            rw [HKB.out] at h1
            refine ⟨⟨_, _, by have := HST.out.1; simp; omega, h1, ?_, ?_, N6.out⟩, ?_, ?_⟩
            · have := R6.out.set B (.int .i64 (((rd.getD B 0 : Nat) : Int) + 1))
              rw [rdCells_next] at this
              rw [HKB.out] at this
              exact this
            · exact G6.out.stay local_Pos (fun _ _ _ _ h => h.2) (fun b hb => Below.heap_setCell _ _ _ b (fun e => N6.out (by rw [hb, e])))
            · exact (KI.out.below B6.out (Nat.lt_succ_self _)).setOther (by simp; omega) _
            · exact ((BI.out.trans (B6.out.mono (Nat.le_succ _))).setCell (by simp; omega) _)
      obtain ⟨x, hx⟩ : ∃ x, L[j]? = some x := ⟨L[j]'(by omega), List.getElem?_eq_getElem (by omega)⟩
      obtain ⟨hh, ff, hIs, hcl, -, hrec⟩ := (HL.out.below BI.out).at hx
      obtain ⟨ra, rl, rc⟩ := hh
      simp only at hcl hrec
      obtain ⟨kj, hkj⟩ : ∃ k : Int, ((rd.getD j 0 : Nat) : Int) = k := ⟨_, rfl⟩
      have d0 : wr.cell? ⟨W2.heap.size, j, none⟩ = some (.int .i64 kj) := (hbi.cell (p := ⟨W2.heap.size, j, none⟩) HR.out.lt).trans ((HR.out.cell j).trans (by rw [rdCells_at (by omega), hkj]))
      have hopn : opn L rd j = decide (kj < (rl : Int)) := by unfold opn; rw [recsOf_at hx, ← hrec, ← hkj]; simp
      have hlt2 : (j : Int) < (len : Int) := by omega
      have h02 : (0 : Int) ≤ (j : Int) := by omega
      have HX := Lib.hid hx
      have HKJ := Lib.hid hkj
      have HIS := Lib.hid hIs
      clear hx hIs hkj hbi hrec
      cases ho : opn L rd j with
      | false =>
        have HS := Lib.hid (scan_no (c := c) ho)
        rw [ho] at hopn
        have hop := hopn.symm
        clear hopn ho
        obtain ⟨q, hq⟩ : ∃ q, scan c L rd j = q := ⟨_, rfl⟩
        rw [hq] at HS ⊢
        clear hq
        go_wp2_with fail
        go_quiet (fail)
        go_wp2_with fail
        go_roundg (len - (j + 1))
        case measure => omega
        case rel => exact ⟨j + 1, by omega, by go_num, by rw [HS.out], below_drewN HBI.out _⟩
      | true =>
      rw [ho] at hopn
      have hop := hopn.symm
      have HOP := Lib.hid ho
      clear hopn ho
      rcases scan_spec c L rd j with ⟨hs, -⟩ | ⟨B, hs, hnx⟩
      · have HS := Lib.hid (scan_first (c := c) HOP.out (by rw [hs]; omega))
        rw [hs]
        clear hs
        go_wp2_with fail
        go_quiet (fail)
        go_wp2_with fail
        go_roundg (len - (j + 1))
        case measure => omega
        case rel => exact ⟨j + 1, by omega, by go_num, by rw [HS.out], below_drewN HBI.out _⟩
      · have hBj := hnx.1
        obtain ⟨y, hy⟩ : ∃ y, L[B]? = some y := ⟨L[B]'(by omega), List.getElem?_eq_getElem (by omega)⟩
        obtain ⟨hy', fy, hIy, hcy, -, -⟩ := (HL.out.below BI.out).at hy
        obtain ⟨sa, sl, sc⟩ := hy'
        simp only at hcy
        obtain ⟨kb, hkb⟩ : ∃ k : Int, ((rd.getD B 0 : Nat) : Int) = k := ⟨_, rfl⟩
        have d1 : wr.cell? ⟨W2.heap.size, B, none⟩ = some (.int .i64 kb) := (HBI.out.cell (p := ⟨W2.heap.size, B, none⟩) HR.out.lt).trans ((HR.out.cell B).trans (by rw [rdCells_at (by omega), hkb]))
        have hm1 : mk c L j (rd.getD j 0) = markD c x kj := by rw [mk_is HX.out, HKJ.out]
        have hm2 : mk c L B (rd.getD B 0) = markD c y kb := by rw [mk_is hy, hkb]
        have hB2 : (B : Int) < (len : Int) := by omega
        have hB0 : (0 : Int) ≤ (B : Int) := by omega
        have hB3 : ¬ (B : Int) < 0 := by omega
        have zx := HZ.out x (List.mem_of_getElem? HX.out)
        have zy := HZ.out y (List.mem_of_getElem? hy)
        have HIY := Lib.hid hIy
        have kk := HK.out.below HBI.out HK.out.lt
        have c0 := kk.cell 0
        have c1 := kk.cell 1
        have c2 := kk.cell 2
        have c3 := kk.cell 3
        have c4 := kk.cell 4
        simp [Config.list] at c0 c1 c2 c3 c4
        have HSL := Lib.hid (fun h => scan_less (c := c) HOP.out hs h)
        have HSM := Lib.hid (fun h => scan_more (c := c) hs h)
        rw [hm1, hm2] at HSL HSM
        rw [hs] at HSM ⊢
        clear hnx hy hIy hkb hm1 hm2 hs kk
        obtain ⟨m1, hm1⟩ : ∃ m, markD c x kj = m := ⟨_, rfl⟩
        obtain ⟨m2, hm2⟩ : ∃ m, markD c y kb = m := ⟨_, rfl⟩
        have M1 := Lib.hid (fun w h1 h2 => HMK.out x ⟨ra, rl, rc⟩ ff kj w h1 h2 zx)
        have M2 := Lib.hid (fun w h1 h2 => HMK.out y ⟨sa, sl, sc⟩ fy kb w h1 h2 zy)
        rw [hm1] at M1 HSL HSM
        rw [hm2] at M2 HSL HSM
        clear hm1 hm2
        go_wp2_with fail
        refine mix.wp_region_ord (fun w' => w'.cell? ⟨w.heap.size, 0, none⟩ = some (.int .i64 c.d) ∧ w'.cell? ⟨w.heap.size, 1, none⟩ = some (.slice ch.wsa ch.wsl ch.wsc) ∧ w'.cell? ⟨w.heap.size, 2, none⟩ = some (.slice ch.msa ch.msl ch.msc) ∧ w'.cell? ⟨w.heap.size, 3, none⟩ = some (.int .i64 c.dl) ∧ w'.cell? ⟨w.heap.size, 4, none⟩ = some (.int .i64 c.lt) ∧ w'.cell? ⟨b, off + j, none⟩ = some (.slice ra rl rc) ∧ w'.cell? ⟨b, off + B, none⟩ = some (.slice sa sl sc) ∧ w'.cell? ⟨W2.heap.size, j, none⟩ = some (.int .i64 kj) ∧ w'.cell? ⟨W2.heap.size, B, none⟩ = some (.int .i64 kb)) [24,34] [0,1,2,3,4,5,6,7,8,9,10,11,12,13,14,15,16,17,18,19,20,21,22,23,25,26,27,28,29,30,31,32,33,24,34,35,36,37] (by kernel_rfl) (by kernel_rfl) (fun _ _ d _ _ h => by cases d <;> exact h) ⟨c0, c1, c2, c3, c4, hcl, hcy, d0, d1⟩ ?_
        have HS0 : Hid ((fun w' => w'.cell? ⟨w.heap.size, 0, none⟩ = some (.int .i64 c.d) ∧ w'.cell? ⟨w.heap.size, 1, none⟩ = some (.slice ch.wsa ch.wsl ch.wsc) ∧ w'.cell? ⟨w.heap.size, 2, none⟩ = some (.slice ch.msa ch.msl ch.msc) ∧ w'.cell? ⟨w.heap.size, 3, none⟩ = some (.int .i64 c.dl) ∧ w'.cell? ⟨w.heap.size, 4, none⟩ = some (.int .i64 c.lt) ∧ w'.cell? ⟨b, off + j, none⟩ = some (.slice ra rl rc) ∧ w'.cell? ⟨b, off + B, none⟩ = some (.slice sa sl sc) ∧ w'.cell? ⟨W2.heap.size, j, none⟩ = some (.int .i64 kj) ∧ w'.cell? ⟨W2.heap.size, B, none⟩ = some (.int .i64 kb)) wr.drew) := ⟨c0, c1, c2, c3, c4, hcl, hcy, d0, d1⟩
        clear c0 c1 c2 c3 c4 hcl hcy d0 d1
        simp only [List.filterMap_cons, List.filterMap_nil, List.getElem?_cons_zero, List.getElem?_cons_succ, Option.map_some]
        (repeat (first | (apply mix.ord_take; (· rfl); (· rfl); (· (intro w' hSw; (try dsimp only at hSw); go_simp; try with_reducible rfl)); (try simp only [Act.put, List.setIfInBounds_toArray, List.set_cons_zero, List.set_cons_succ])) | ((refine mix.ord_pass rfl (by rfl) ?_); (try simp only [Act.put, List.setIfInBounds_toArray, List.set_cons_zero, List.set_cons_succ]))))
        refine mix.ord_hard rfl (fun K hK => ?_); go_simp
        refine (M1.out _ (HC.out.below BI.out.drew) (HIS.out.below (Below.refl _ _).drew)).mono ?_
        rintro e W5 ⟨rfl, b5⟩
        have bq5 := (Below.refl wr.heap.size wr).drew.trans b5
        have HS1 : Hid ((fun w' => w'.cell? ⟨w.heap.size, 0, none⟩ = some (.int .i64 c.d) ∧ w'.cell? ⟨w.heap.size, 1, none⟩ = some (.slice ch.wsa ch.wsl ch.wsc) ∧ w'.cell? ⟨w.heap.size, 2, none⟩ = some (.slice ch.msa ch.msl ch.msc) ∧ w'.cell? ⟨w.heap.size, 3, none⟩ = some (.int .i64 c.dl) ∧ w'.cell? ⟨w.heap.size, 4, none⟩ = some (.int .i64 c.lt) ∧ w'.cell? ⟨b, off + j, none⟩ = some (.slice ra rl rc) ∧ w'.cell? ⟨b, off + B, none⟩ = some (.slice sa sl sc) ∧ w'.cell? ⟨W2.heap.size, j, none⟩ = some (.int .i64 kj) ∧ w'.cell? ⟨W2.heap.size, B, none⟩ = some (.int .i64 kb)) W5) := by
          obtain ⟨e0, e1, e2, e3, e4, e5, e6, e7, e8⟩ := HS0.out
          exact ⟨(b5.cell (p := ⟨w.heap.size, 0, none⟩) (World.block_lt_of_cell? _ _ e0)).trans e0, (b5.cell (p := ⟨w.heap.size, 1, none⟩) (World.block_lt_of_cell? _ _ e1)).trans e1, (b5.cell (p := ⟨w.heap.size, 2, none⟩) (World.block_lt_of_cell? _ _ e2)).trans e2, (b5.cell (p := ⟨w.heap.size, 3, none⟩) (World.block_lt_of_cell? _ _ e3)).trans e3, (b5.cell (p := ⟨w.heap.size, 4, none⟩) (World.block_lt_of_cell? _ _ e4)).trans e4, (b5.cell (p := ⟨b, off + j, none⟩) (World.block_lt_of_cell? _ _ e5)).trans e5, (b5.cell (p := ⟨b, off + B, none⟩) (World.block_lt_of_cell? _ _ e6)).trans e6, (b5.cell (p := ⟨W2.heap.size, j, none⟩) (World.block_lt_of_cell? _ _ e7)).trans e7, (b5.cell (p := ⟨W2.heap.size, B, none⟩) (World.block_lt_of_cell? _ _ e8)).trans e8⟩
        have B5 := Lib.hid bq5
        clear b5 bq5 HS0
        refine hK.out _ _ (HS1.out) (fun hSw => ?_); clear hK K hSw; (try simp only [Act.put, List.setIfInBounds_toArray, List.set_cons_zero, List.set_cons_succ])
        (repeat (first | (apply mix.ord_take; (· rfl); (· rfl); (· (intro w' hSw; (try dsimp only at hSw); go_simp; try with_reducible rfl)); (try simp only [Act.put, List.setIfInBounds_toArray, List.set_cons_zero, List.set_cons_succ])) | ((refine mix.ord_pass rfl (by rfl) ?_); (try simp only [Act.put, List.setIfInBounds_toArray, List.set_cons_zero, List.set_cons_succ]))))
        refine mix.ord_hard rfl (fun K hK => ?_); go_simp
        refine (M2.out _ (HC.out.below (BI.out.trans (B5.out.mono BI.out.size))) (HIY.out.below B5.out)).mono ?_
        rintro e W6 ⟨rfl, b6⟩
        have HS2 : Hid ((fun w' => w'.cell? ⟨w.heap.size, 0, none⟩ = some (.int .i64 c.d) ∧ w'.cell? ⟨w.heap.size, 1, none⟩ = some (.slice ch.wsa ch.wsl ch.wsc) ∧ w'.cell? ⟨w.heap.size, 2, none⟩ = some (.slice ch.msa ch.msl ch.msc) ∧ w'.cell? ⟨w.heap.size, 3, none⟩ = some (.int .i64 c.dl) ∧ w'.cell? ⟨w.heap.size, 4, none⟩ = some (.int .i64 c.lt) ∧ w'.cell? ⟨b, off + j, none⟩ = some (.slice ra rl rc) ∧ w'.cell? ⟨b, off + B, none⟩ = some (.slice sa sl sc) ∧ w'.cell? ⟨W2.heap.size, j, none⟩ = some (.int .i64 kj) ∧ w'.cell? ⟨W2.heap.size, B, none⟩ = some (.int .i64 kb)) W6) := by
          obtain ⟨e0, e1, e2, e3, e4, e5, e6, e7, e8⟩ := HS1.out
          exact ⟨(b6.cell (p := ⟨w.heap.size, 0, none⟩) (World.block_lt_of_cell? _ _ e0)).trans e0, (b6.cell (p := ⟨w.heap.size, 1, none⟩) (World.block_lt_of_cell? _ _ e1)).trans e1, (b6.cell (p := ⟨w.heap.size, 2, none⟩) (World.block_lt_of_cell? _ _ e2)).trans e2, (b6.cell (p := ⟨w.heap.size, 3, none⟩) (World.block_lt_of_cell? _ _ e3)).trans e3, (b6.cell (p := ⟨w.heap.size, 4, none⟩) (World.block_lt_of_cell? _ _ e4)).trans e4, (b6.cell (p := ⟨b, off + j, none⟩) (World.block_lt_of_cell? _ _ e5)).trans e5, (b6.cell (p := ⟨b, off + B, none⟩) (World.block_lt_of_cell? _ _ e6)).trans e6, (b6.cell (p := ⟨W2.heap.size, j, none⟩) (World.block_lt_of_cell? _ _ e7)).trans e7, (b6.cell (p := ⟨W2.heap.size, B, none⟩) (World.block_lt_of_cell? _ _ e8)).trans e8⟩
        have B6 := Lib.hid (HBI.out.trans ((B5.out.trans (b6.mono B5.out.size)).mono HBI.out.size))
        clear b6 HS1 B5
        refine hK.out _ _ (HS2.out) (fun hSw => ?_); clear hK K hSw; (try simp only [Act.put, List.setIfInBounds_toArray, List.set_cons_zero, List.set_cons_succ])
        clear HS2
        by_cases hmm : m1 < m2
        · have HS := Lib.hid (HSL.out hmm)
          (repeat (first | (apply mix.ord_take; (· rfl); (· rfl); (· (intro w' hSw; (try dsimp only at hSw); go_simp; try with_reducible rfl)); (try simp only [Act.put, List.setIfInBounds_toArray, List.set_cons_zero, List.set_cons_succ])) | ((refine mix.ord_pass rfl (by rfl) ?_); (try simp only [Act.put, List.setIfInBounds_toArray, List.set_cons_zero, List.set_cons_succ]))))
          refine mix.ord_end ?_
          go_wp2_with fail
          go_roundg (len - (j + 1))
          case measure => omega
          case rel => exact ⟨j + 1, by omega, by go_num, by rw [HS.out], B6.out⟩
        · have HS := Lib.hid (HSM.out (by omega))
          (repeat (first | (apply mix.ord_take; (· rfl); (· rfl); (· (intro w' hSw; (try dsimp only at hSw); go_simp; try with_reducible rfl)); (try simp only [Act.put, List.setIfInBounds_toArray, List.set_cons_zero, List.set_cons_succ])) | ((refine mix.ord_pass rfl (by rfl) ?_); (try simp only [Act.put, List.setIfInBounds_toArray, List.set_cons_zero, List.set_cons_succ]))))
          refine mix.ord_end ?_
          go_wp2_with fail
          go_roundg (len - (j + 1))
          case measure => omega
          case rel => exact ⟨j + 1, by omega, by go_num, by rw [HS.out], B6.out⟩
end Go.Proofs.YtdipkbgfkbmfnaaGreatDoor.dat
