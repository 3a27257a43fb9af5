/-
  DISKS: what the functions of chapter 8 are on data: names in their order, a name's place, what is put, synced, left by a crash.
-/
import Derived.Test.YtoglclmaacjdaaaDataDisks
import Derived.Lib.Bytealg
import Derived.Lib.Strings
namespace Go.Proofs.Ytoglclmaacjdaaa.dat

/-! ### Names: their order -/
/-- One text ahead of another. -/
def ltB (a b : ByteArray) : Bool := Op.bytesLess a.toList b.toList
theorem less_iff : ∀ (x y : List UInt8), Op.bytesLess x y = true ↔ x < y
  | [], [] => by simp [Op.bytesLess]
  | _ :: _, [] => by simp [Op.bytesLess]
  | [], _ :: _ => by simp [Op.bytesLess]
  | a :: x, b :: y => by
    have ih := less_iff x y
    rw [List.cons_lt_cons_iff, ← ih]
    simp [Op.bytesLess]
theorem ltB_iff (a b : ByteArray) : ltB a b = true ↔ a.data.toList < b.data.toList := by
  unfold ltB
  rw [less_iff, Lib.toList_data, Lib.toList_data]
theorem cmp_lt : ∀ (x y : List UInt8), Lib.compareBytes x y < 0 ↔ x < y
  | [], [] => by simp [Lib.compareBytes]
  | [], _ :: _ => by simp [Lib.compareBytes]
  | _ :: _, [] => by simp [Lib.compareBytes]
  | a :: x, b :: y => by
    have ih := cmp_lt x y
    unfold Lib.compareBytes
    rw [List.cons_lt_cons_iff]
    by_cases h1 : a < b
    · simp [h1]
    · by_cases h2 : b < a
      · have : ¬ a = b := fun e => by subst e; exact h1 h2
        simp [h1, h2, this]
      · have : a = b := UInt8.le_antisymm (UInt8.not_lt.1 h2) (UInt8.not_lt.1 h1)
        simp [this, ih]
theorem cmp_zero : ∀ (x y : List UInt8), Lib.compareBytes x y = 0 ↔ x = y
  | [], [] => by simp [Lib.compareBytes]
  | [], _ :: _ => by simp [Lib.compareBytes]
  | _ :: _, [] => by simp [Lib.compareBytes]
  | a :: x, b :: y => by
    have ih := cmp_zero x y
    unfold Lib.compareBytes
    by_cases h1 : a < b
    · have : ¬ a = b := fun e => by subst e; exact UInt8.lt_irrefl _ h1
      simp [h1, this]
    · by_cases h2 : b < a
      · have : ¬ a = b := fun e => by subst e; exact h1 h2
        simp [h1, h2, this]
      · have : a = b := UInt8.le_antisymm (UInt8.not_lt.1 h2) (UInt8.not_lt.1 h1)
        simp [this, ih]
theorem cmp_range : ∀ (x y : List UInt8), -1 ≤ Lib.compareBytes x y ∧ Lib.compareBytes x y ≤ 1
  | [], [] => by simp [Lib.compareBytes]
  | [], _ :: _ => by simp [Lib.compareBytes]
  | _ :: _, [] => by simp [Lib.compareBytes]
  | a :: x, b :: y => by
    have ih := cmp_range x y
    unfold Lib.compareBytes
    split
    · simp
    · split
      · simp
      · exact ih
/-- strings.Compare of names. -/
def cmpN (a b : ByteArray) : Int := Lib.compareBytes a.data.toList b.data.toList
theorem cmpN_lt (a b : ByteArray) : cmpN a b < 0 ↔ ltB a b = true := by rw [cmpN, cmp_lt, ltB_iff]
theorem data_ext {a b : ByteArray} (h : a.data.toList = b.data.toList) : a = b := by
  cases a; cases b
  simp at h
  rw [h]
theorem cmpN_zero (a b : ByteArray) : cmpN a b = 0 ↔ a = b := by
  rw [cmpN, cmp_zero]
  exact ⟨data_ext, fun h => by rw [h]⟩
theorem toList_inj {a b : ByteArray} : a.toList = b.toList ↔ a = b := by
  rw [Lib.toList_data, Lib.toList_data]
  exact ⟨data_ext, fun h => by rw [h]⟩
theorem lt_irreflL (x : List UInt8) : ¬ x < x := fun h => by
  have := (cmp_lt x x).2 h
  rw [(cmp_zero x x).2 rfl] at this
  omega
theorem ltB_irrefl (a : ByteArray) : ltB a a = false := by
  cases h : ltB a a
  · rfl
  · exact absurd ((ltB_iff a a).1 h) (lt_irreflL _)
theorem ltB_trans {a b c : ByteArray} (h : ltB a b = true) (k : ltB b c = true) : ltB a c = true := by
  rw [ltB_iff] at *
  exact List.lt_trans h k
theorem ltB_tri (a b : ByteArray) : ltB a b = true ∨ a = b ∨ ltB b a = true := by
  by_cases h : ltB a b = true
  · exact .inl h
  by_cases e : a = b
  · exact .inr (.inl e)
  refine .inr (.inr ?_)
  rw [ltB_iff] at *
  rcases List.le_iff_lt_or_eq.1 (List.not_lt.1 h) with k | k
  · exact k
  · exact absurd (data_ext k.symm) e
theorem ltB_asymm {a b : ByteArray} (h : ltB a b = true) : ltB b a = false := by
  cases k : ltB b a
  · rfl
  · have := ltB_trans h k
    rw [ltB_irrefl] at this
    cases this

/-! ### Files, disks -/
def fileB (f : FileD) : Bool := decide (1 ≤ f.name.size) && decide (f.name.size ≤ 20) && decide (f.safe.size ≤ 200000) && decide (f.now.size ≤ 200000)
/-- The first n are files; they rise. -/
def FilesTo (l : List FileD) (n : Nat) : Prop := ∀ (i : Nat) f, i < n → l[i]? = some f → fileB f = true
def RiseTo (l : List FileD) (n : Nat) : Prop := ∀ (i : Nat) a b, i + 1 < n → l[i]? = some a → l[i + 1]? = some b → ltB a.name b.name = true
structure DiskP (l : List FileD) : Prop where
  len : l.length ≤ 4
  files : FilesTo l l.length
  rise : RiseTo l l.length
open Classical in
noncomputable def diskB (l : List FileD) : Bool := decide (DiskP l)
theorem diskB_iff (l : List FileD) : diskB l = true ↔ DiskP l := by simp [diskB]
theorem FilesTo.zero (l : List FileD) : FilesTo l 0 := fun i f h => absurd h (by omega)
theorem FilesTo.succ {l : List FileD} {n : Nat} {f : FileD} (h : FilesTo l n) (hx : l[n]? = some f) (hf : fileB f = true) : FilesTo l (n + 1) := fun i g hi hg => by
  by_cases e : i = n
  · subst e; rw [hx] at hg; cases hg; exact hf
  · exact h i g (by omega) hg
theorem RiseTo.zero (l : List FileD) : RiseTo l 0 := fun i a b h => absurd h (by omega)
theorem RiseTo.one (l : List FileD) : RiseTo l 1 := fun i a b h => absurd h (by omega)
theorem RiseTo.succ {l : List FileD} {n : Nat} {a b : FileD} (h : RiseTo l (n + 1)) (ha : l[n]? = some a) (hb : l[n + 1]? = some b) (hf : ltB a.name b.name = true) : RiseTo l (n + 2) := fun i p q hi hp hq => by
  by_cases e : i = n
  · subst e; rw [ha] at hp; rw [hb] at hq; cases hp; cases hq; exact hf
  · exact h i p q (by omega) hp hq
theorem DiskP.lt {l : List FileD} (h : DiskP l) {i j : Nat} {a b : FileD} (hij : i < j) (ha : l[i]? = some a) (hb : l[j]? = some b) : ltB a.name b.name = true := by
  induction j generalizing b with
  | zero => omega
  | succ j ih =>
    have hj : j + 1 < l.length := (List.getElem?_eq_some_iff.1 hb).1
    have hc : l[j]? = some (l[j]'(by omega)) := List.getElem?_eq_getElem (by omega)
    have h1 := h.rise j _ _ hj hc hb
    by_cases e : i = j
    · subst e; rw [hc] at ha; cases ha; exact h1
    · exact ltB_trans (ih (by omega) hc) h1

/-- The place of a name. -/
def placeF (l : List FileD) (name : ByteArray) : Nat := (l.takeWhile fun f => ltB f.name name).length
def atF (l : List FileD) (name : ByteArray) : Option FileD := l.find? fun f => decide (f.name = name)
noncomputable def readD (l : List FileD) (name : ByteArray) : ByteArray := if diskB l then ((atF l name).map FileD.now).getD ByteArray.empty else ByteArray.empty
/-- A file's Now put; one that is not there comes at its place. -/
def putF (name s : ByteArray) : List FileD → List FileD
  | [] => [⟨name, ByteArray.empty, s⟩]
  | f :: r => if f.name = name then ⟨f.name, f.safe, s⟩ :: r else if ltB name f.name then ⟨name, ByteArray.empty, s⟩ :: f :: r else f :: putF name s r
noncomputable def putD (l : List FileD) (name s : ByteArray) : List FileD × Bool :=
  if diskB l && (decide (1 ≤ name.size) && decide (name.size ≤ 20)) && decide (s.size ≤ 200000) then
    if (putF name s l).length ≤ 4 then (putF name s l, true) else ([], false)
  else ([], false)
noncomputable def addD (l : List FileD) (name s : ByteArray) : List FileD × Bool := if s.size ≤ 200000 then putD l name (readD l name ++ s) else ([], false)
/-- What a crash leaves. -/
def survD (f : FileD) (cut : Int) : ByteArray :=
  if Lib.hasPrefix f.now.data.toList f.safe.data.toList then f.now.extract 0 (f.safe.size + (cut % (f.now.size - f.safe.size + 1 : Int)).toNat)
  else if cut % 2 = 1 then f.now else f.safe
def crashF (f : FileD) (cut : Int) : FileD := ⟨f.name, survD f cut, survD f cut⟩
def crashL : List FileD → List Int → List FileD
  | [], _ => []
  | f :: r, [] => crashF f 0 :: crashL r []
  | f :: r, c :: cs => crashF f c :: crashL r cs
noncomputable def crashD (l : List FileD) (cuts : List Int) : List FileD := if diskB l then crashL l cuts else []

/-! ### A name's place -/
/-- All ahead of i come ahead of the name. -/
def Ahead (l : List FileD) (name : ByteArray) (i : Nat) : Prop := ∀ (j : Nat) f, j < i → l[j]? = some f → ltB f.name name = true
theorem Ahead.zero (l : List FileD) (name : ByteArray) : Ahead l name 0 := fun j f h => absurd h (by omega)
theorem Ahead.succ {l : List FileD} {name : ByteArray} {i : Nat} {f : FileD} (h : Ahead l name i) (hx : l[i]? = some f) (hf : ltB f.name name = true) : Ahead l name (i + 1) := fun j g hj hg => by
  by_cases e : j = i
  · subst e; rw [hx] at hg; cases hg; exact hf
  · exact h j g (by omega) hg
theorem Ahead.tail {f : FileD} {r : List FileD} {name : ByteArray} {i : Nat} (h : Ahead (f :: r) name (i + 1)) : Ahead r name i := fun j g hj hg => h (j + 1) g (by omega) (by simpa using hg)
theorem ltB_ne {a b : ByteArray} (h : ltB a b = true) : ¬ a = b := fun e => by subst e; rw [ltB_irrefl] at h; cases h
theorem putF_there {name s : ByteArray} {f : FileD} (e : f.name = name) : ∀ {l : List FileD} {i : Nat}, Ahead l name i → l[i]? = some f → putF name s l = l.take i ++ ⟨f.name, f.safe, s⟩ :: l.drop (i + 1) := by
  intro l
  induction l with
  | nil => intro i _ h; simp at h
  | cons g r ih =>
    intro i ha hi
    cases i with
    | zero =>
      simp at hi
      subst hi
      simp [putF, e]
    | succ i =>
      have h0 := ha 0 g (by omega) (by simp)
      rw [putF, if_neg (ltB_ne h0), if_neg (by rw [ltB_asymm h0]; simp), ih ha.tail (by simpa using hi)]
      simp
theorem putF_new {name s : ByteArray} : ∀ {l : List FileD} {i : Nat}, Ahead l name i → i ≤ l.length → (∀ f, l[i]? = some f → ltB name f.name = true) → putF name s l = l.take i ++ ⟨name, ByteArray.empty, s⟩ :: l.drop i := by
  intro l
  induction l with
  | nil =>
    intro i _ h _
    obtain rfl : i = 0 := by simpa using h
    simp [putF]
  | cons g r ih =>
    intro i ha hi hf
    cases i with
    | zero =>
      have h0 := hf g (by simp)
      rw [putF, if_neg (fun e => ltB_ne h0 e.symm), if_pos h0]
      simp
    | succ i =>
      have h0 := ha 0 g (by omega) (by simp)
      rw [putF, if_neg (ltB_ne h0), if_neg (by rw [ltB_asymm h0]; simp), ih ha.tail (by simpa using hi) (fun f hf' => hf f (by simpa using hf'))]
      simp
theorem atF_there {name : ByteArray} {l : List FileD} {i : Nat} {f : FileD} (ha : ∀ (j : Nat) g, j < i → l[j]? = some g → ¬ g.name = name) (hi : l[i]? = some f) (e : f.name = name) : atF l name = some f := by
  unfold atF
  rw [List.find?_eq_some_iff_getElem]
  obtain ⟨h1, h2⟩ := List.getElem?_eq_some_iff.1 hi
  refine ⟨by simpa using e, i, h1, h2, fun j hj => ?_⟩
  simpa using ha j _ hj (List.getElem?_eq_getElem (by omega))
theorem atF_none {name : ByteArray} {l : List FileD} (ha : ∀ (j : Nat) g, l[j]? = some g → ¬ g.name = name) : atF l name = none := by
  unfold atF
  rw [List.find?_eq_none]
  intro g hg
  obtain ⟨j, hj, rfl⟩ := List.getElem_of_mem hg
  simpa using ha j _ (List.getElem?_eq_getElem hj)
/-- Where the names rise: behind one that is not ahead of the name none is the name. -/
theorem DiskP.none_at {l : List FileD} (h : DiskP l) {name : ByteArray} {i : Nat} (ha : Ahead l name i) (hf : ∀ f, l[i]? = some f → ltB name f.name = true) : ∀ (j : Nat) g, l[j]? = some g → ¬ g.name = name := by
  intro j g hg
  rcases Nat.lt_trichotomy j i with hj | rfl | hj
  · exact ltB_ne (ha j g hj hg)
  · exact fun e => ltB_ne (hf g hg) e.symm
  · have hl : i < l.length := by have := (List.getElem?_eq_some_iff.1 hg).1; omega
    have hc : l[i]? = some l[i] := List.getElem?_eq_getElem hl
    exact fun e => ltB_ne (ltB_trans (hf _ hc) (h.lt hj hc hg)) e.symm
theorem Ahead.ne {l : List FileD} {name : ByteArray} {i : Nat} (ha : Ahead l name i) : ∀ (j : Nat) g, j < i → l[j]? = some g → ¬ g.name = name := fun j g hj hg => ltB_ne (ha j g hj hg)
/-- One name, one place. -/
theorem DiskP.uniq {l : List FileD} (h : DiskP l) {i j : Nat} {a b : FileD} (ha : l[i]? = some a) (hb : l[j]? = some b) (e : a.name = b.name) : i = j := by
  rcases Nat.lt_trichotomy i j with hj | rfl | hj
  · exact absurd e (ltB_ne (h.lt hj ha hb))
  · rfl
  · exact absurd e.symm (ltB_ne (h.lt hj hb ha))
def syncF (name : ByteArray) (f : FileD) : FileD := if f.name = name then ⟨f.name, f.now, f.now⟩ else f
noncomputable def syncD (l : List FileD) (name : ByteArray) : List FileD := if diskB l then l.map (syncF name) else []
theorem sync_there {l : List FileD} (h : DiskP l) {name : ByteArray} {i : Nat} {f : FileD} (hi : l[i]? = some f) (e : f.name = name) : l.map (syncF name) = l.take i ++ ⟨f.name, f.now, f.now⟩ :: l.drop (i + 1) := by
  have hl := (List.getElem?_eq_some_iff.1 hi).1
  apply List.ext_getElem?
  intro j
  rw [List.getElem?_map]
  rcases Nat.lt_trichotomy j i with hj | rfl | hj
  · rw [List.getElem?_append_left (by simp; omega), List.getElem?_take, if_pos hj]
    cases hg : l[j]? with
    | none => rfl
    | some g =>
      have : ¬ g.name = name := fun e' => by have := h.uniq hg hi (e'.trans e.symm); omega
      simp [syncF, this]
  · rw [List.getElem?_append_right (by simp; omega), hi]
    simp [syncF, e, Nat.min_eq_left (Nat.le_of_lt hl)]
  · rw [List.getElem?_append_right (by simp; omega)]
    have e1 : j - (l.take i).length = (j - i - 1) + 1 := by simp; omega
    rw [e1, List.getElem?_cons_succ, List.getElem?_drop, show i + 1 + (j - i - 1) = j by omega]
    cases hg : l[j]? with
    | none => rfl
    | some g =>
      have : ¬ g.name = name := fun e' => by have := h.uniq hg hi (e'.trans e.symm); omega
      simp [syncF, this]
theorem sync_none {l : List FileD} {name : ByteArray} (ha : ∀ (j : Nat) g, l[j]? = some g → ¬ g.name = name) : l.map (syncF name) = l := by
  conv => rhs; rw [← List.map_id l]
  apply List.map_congr_left
  intro g hg
  obtain ⟨j, hj, rfl⟩ := List.getElem_of_mem hg
  simp [syncF, ha j _ (List.getElem?_eq_getElem hj)]
theorem crashL_length : ∀ (l : List FileD) (cuts : List Int), (crashL l cuts).length = l.length
  | [], _ => rfl
  | _ :: r, [] => by simp [crashL, crashL_length r]
  | _ :: r, _ :: cs => by simp [crashL, crashL_length r]
theorem crashL_at : ∀ (l : List FileD) (cuts : List Int) (i : Nat), (crashL l cuts)[i]? = l[i]?.map fun f => crashF f (cuts.getD i 0)
  | [], _, i => by simp [crashL]
  | f :: r, [], 0 => by simp [crashL]
  | f :: r, [], i + 1 => by simp [crashL, crashL_at r [] i]
  | f :: r, c :: cs, 0 => by simp [crashL]
  | f :: r, c :: cs, i + 1 => by simp [crashL, crashL_at r cs i]
theorem crashL_take_succ {l : List FileD} (cuts : List Int) {i : Nat} {f : FileD} (hx : l[i]? = some f) : (crashL l cuts).take (i + 1) = (crashL l cuts).take i ++ [crashF f (cuts.getD i 0)] := by
  rw [List.take_add_one, crashL_at, hx]
  rfl
end Go.Proofs.Ytoglclmaacjdaaa.dat
