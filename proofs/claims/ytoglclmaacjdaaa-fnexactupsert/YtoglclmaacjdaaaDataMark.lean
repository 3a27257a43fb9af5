/-
  MARKS: what the laws write into a row and look for again: pure functions on data; a row one of whose elements is written anew.
-/
import Derived.Test.YtoglclmaacjdaaaData
namespace Go.Proofs.Ytoglclmaacjdaaa.dat
open Go.RowKit Go.Proofs.Ytoglclmaacjdaaa.win

/-- Each element marked, from k on. -/
def markL {α : Type} (mk : Int → α → α) (cn : α → Nat) : Int → List α → List α
  | _, [] => []
  | k, x :: r => mk k x :: markL mk cn (k + cn x) r
def cntL {α : Type} (cn : α → Nat) (l : List α) : Nat := (l.map cn).sum
theorem cntL_take_succ {α : Type} (cn : α → Nat) (l : List α) {j : Nat} {x : α} (hx : l[j]? = some x) : cntL cn (l.take (j + 1)) = cntL cn (l.take j) + cn x := sum_take_succ cn l hx
theorem cntL_take_le {α : Type} (cn : α → Nat) (l : List α) (j : Nat) : cntL cn (l.take j) ≤ cntL cn l := sum_take_le cn l j
theorem cntL_all {α : Type} (cn : α → Nat) (l : List α) {j : Nat} (h : l.length ≤ j) : cntL cn (l.take j) = cntL cn l := by rw [List.take_of_length_le h]
theorem markL_length {α : Type} (mk : Int → α → α) (cn : α → Nat) (l : List α) : ∀ k, (markL mk cn k l).length = l.length := by
  induction l with
  | nil => intro k; rfl
  | cons x r ih => intro k; simp [markL, ih]
theorem markL_append {α : Type} (mk : Int → α → α) (cn : α → Nat) (l r : List α) : ∀ k, markL mk cn k (l ++ r) = markL mk cn k l ++ markL mk cn (k + cntL cn l) r := by
  induction l with
  | nil => intro k; simp [markL, cntL]
  | cons x l ih =>
    intro k
    rw [List.cons_append, markL, ih, markL, List.cons_append]
    simp only [cntL, List.map_cons, List.sum_cons]
    rw [show k + (cn x : Int) + ((l.map cn).sum : Nat) = k + ((cn x + (l.map cn).sum : Nat) : Int) by omega]
/-- The first j elements marked, the others as they were. -/
def markH {α : Type} (mk : Int → α → α) (cn : α → Nat) (k : Int) (l : List α) (j : Nat) : List α := markL mk cn k (l.take j) ++ l.drop j
theorem markH_zero {α : Type} (mk : Int → α → α) (cn : α → Nat) (k : Int) (l : List α) : markH mk cn k l 0 = l := by simp [markH, markL]
theorem markH_all {α : Type} (mk : Int → α → α) (cn : α → Nat) (k : Int) (l : List α) {j : Nat} (h : l.length ≤ j) : markH mk cn k l j = markL mk cn k l := by
  rw [markH, List.take_of_length_le h, List.drop_of_length_le h, List.append_nil]
theorem markH_at {α : Type} (mk : Int → α → α) (cn : α → Nat) (k : Int) (l : List α) {j : Nat} (h : j ≤ l.length) : (markH mk cn k l j)[j]? = l[j]? := by
  have hl : (markL mk cn k (l.take j)).length = j := by rw [markL_length, List.length_take]; omega
  rw [markH, List.getElem?_append_right (by omega), hl, Nat.sub_self, List.getElem?_drop, Nat.add_zero]
theorem markH_succ {α : Type} (mk : Int → α → α) (cn : α → Nat) (k : Int) (l : List α) {j : Nat} {x : α} (hx : l[j]? = some x) : (markH mk cn k l j).set j (mk (k + cntL cn (l.take j)) x) = markH mk cn k l (j + 1) := by
  have hj : j < l.length := (List.getElem?_eq_some_iff.1 hx).1
  have hl : (markL mk cn k (l.take j)).length = j := by rw [markL_length, List.length_take]; omega
  unfold markH
  rw [List.set_append_right _ _ (by omega), hl, Nat.sub_self, List.drop_eq_getElem_cons hj, List.set_cons_zero, List.take_add_one, hx, Option.toList_some, markL_append]
  simp [markL]
theorem markL_at {α : Type} (mk : Int → α → α) (cn : α → Nat) (l : List α) : ∀ (k : Int) {j : Nat} {x : α}, l[j]? = some x → (markL mk cn k l)[j]? = some (mk (k + cntL cn (l.take j)) x) := by
  induction l with
  | nil => intro k j x h; simp at h
  | cons y r ih =>
    intro k j x h
    cases j with
    | zero =>
      simp at h
      subst h
      simp [markL, cntL]
    | succ j =>
      simp only [List.getElem?_cons_succ] at h
      rw [markL, List.getElem?_cons_succ, ih _ h, List.take_succ_cons]
      simp only [cntL, List.map_cons, List.sum_cons]
      rw [show k + (cn y : Int) + (((r.take j).map cn).sum : Nat) = k + ((cn y + ((r.take j).map cn).sum : Nat) : Int) by omega]

theorem cell_setCell_other (w : World) (b o o' : Nat) (v : Value) (h : o ≠ o') : (w.setCell ⟨b, o, none⟩ v).cell? ⟨b, o', none⟩ = w.cell? ⟨b, o', none⟩ := by
  apply World.cell?_setCell_other
  intro e
  cases e
  exact h rfl

/-- A row whose element j is written anew. -/
theorem GRow.update {α : Type} {k : Nat} {R : Rel α} {w : World} {a : Option Addr} {len : Nat} {l : List α} {fp : List Nat} (hR : Local R) (h : GRow k R w a len l fp) (hnd : fp.Nodup) {j : Nat} (hj : j < len) :
    ∃ b off f x, a = some ⟨b, off, none⟩ ∧ l[j]? = some x ∧ b < w.heap.size ∧ b ∈ fp ∧ (∀ c ∈ f, c ∈ fp ∧ c ≠ b) ∧ f.Nodup ∧ El k R w b (off + j * k) x f ∧
      ∀ (w' : World) (x' : α), (∀ c, c ∈ fp → c ≠ b → c ∉ f → w'.heap[c]? = w.heap[c]?) → (∀ o, o < off + j * k ∨ off + j * k + k ≤ o → w'.cell? ⟨b, o, none⟩ = w.cell? ⟨b, o, none⟩) → b < w'.heap.size → El k R w' b (off + j * k) x' f → GRow k R w' a len (l.set j x') fp := by
  obtain ⟨h1, ⟨h0, _⟩ | ⟨b, off, F, e, hb, rfl, hF, hx⟩⟩ := h
  · omega
  have hjl : j < l.length := by omega
  have hjF : j < F.length := by omega
  have hnd' := List.nodup_cons.1 hnd
  refine ⟨b, off, F[j], l[j], e, List.getElem?_eq_getElem hjl, hb, by simp, ?_, ?_, hx j _ _ (List.getElem?_eq_getElem hjl) (List.getElem?_eq_getElem hjF), ?_⟩
  · intro c hc
    have := mem_flatten_of (List.getElem?_eq_getElem hjF) hc
    exact ⟨by simp [this], fun e => hnd'.1 (e ▸ this)⟩
  · exact (List.pairwise_flatten.1 hnd'.2).1 _ (List.getElem_mem hjF)
  · intro w' x' hoth hcell hb' hel
    refine ⟨by simpa using h1, .inr ⟨b, off, F, e, hb', rfl, hF, ?_⟩⟩
    intro i y f hy hf
    by_cases hij : i = j
    · subst hij
      rw [List.getElem?_set_self hjl] at hy
      rw [List.getElem?_eq_getElem hjF] at hf
      cases hy; cases hf
      exact hel
    · rw [List.getElem?_set_ne (by omega)] at hy
      obtain ⟨cs, h2, h3, h4⟩ := hx i y f hy hf
      refine ⟨cs, h2, hR.keep h3 (fun c hc => ?_), fun o ho => ?_⟩
      · have hcF := mem_flatten_of hf hc
        refine hoth c (by simp [hcF]) (fun e => hnd'.1 (e ▸ hcF)) (fun hcj => ?_)
        have hp := (List.pairwise_flatten.1 hnd'.2).2
        rw [List.pairwise_iff_getElem] at hp
        have hiF := (List.getElem?_eq_some_iff.1 hf)
        rcases Nat.lt_or_gt_of_ne hij with hlt | hgt
        · exact hp i j hiF.1 hjF hlt c (by rw [hiF.2]; exact hc) c hcj rfl
        · exact hp j i hjF hiF.1 hgt c hcj c (by rw [hiF.2]; exact hc) rfl
      · rw [hcell _ ?_]
        · exact h4 o ho
        · rcases Nat.lt_or_gt_of_ne hij with hlt | hgt
          · left
            have : (i + 1) * k ≤ j * k := Nat.mul_le_mul_right k hlt
            rw [Nat.succ_mul] at this
            omega
          · right
            have : (j + 1) * k ≤ i * k := Nat.mul_le_mul_right k hgt
            rw [Nat.succ_mul] at this
            omega

/-- What a mark answers and leaves: the row marked, all other blocks as they were. -/
def Marked {α : Type} (k : Nat) (R : Rel α) (mk : Int → α → α) (cn : α → Nat) (lo : Nat) (w : World) (a : Option Addr) (len : Nat) (l : List α) (fp : List Nat) (m : Int) (e : Ending) (w' : World) : Prop :=
  e = .returned (.int .i64 (m + (cntL cn l : Nat))) ∧ GRow k R w' a len (markL mk cn m l) fp ∧ Own lo w' fp ∧ Apart fp w w'

theorem GRow.apart {α : Type} {k : Nat} {R : Rel α} {w w' : World} {a : Option Addr} {len : Nat} {l : List α} {fp fq : List Nat} (hR : Local R) (h : GRow k R w a len l fp) (ha : Apart fq w w') (hd : ∀ b ∈ fp, b ∉ fq) : GRow k R w' a len l fp :=
  h.keep hR fun b hb => ha.block b (h.lt hR b hb) (hd b hb)
theorem blk_apart {w w' : World} {g : Nat} {t : TypeId} {vs : List Value} {fq : List Nat} (h : Blk w g t vs) (ha : Apart fq w w') (hd : g ∉ fq) : Blk w' g t vs := (ha.block g h.lt hd).trans h
theorem Own.apart {lo : Nat} {w w' : World} {fp fq : List Nat} (h : Own lo w fp) (ha : Apart fq w w') (hd : ∀ b ∈ fp, b ∉ fq) : Own lo w' fp := h.keep fun b hb => ha.block b (h.2 b hb).2.lt (hd b hb)
theorem apart_lt {L : Nat} {w : World} {fp fq : List Nat} (h : ∀ b ∈ fp, b < L) (ho : Own L w fq) : ∀ b ∈ fp, b ∉ fq := fun b hb hq => by have := h b hb; have := (ho.2 b hq).1; omega
theorem apart_gt {L : Nat} {w : World} {fp fq : List Nat} (h : ∀ b ∈ fq, b < L) (ho : Own L w fp) : ∀ b ∈ fp, b ∉ fq := fun b hb hq => by have := h b hq; have := (ho.2 b hb).1; omega
theorem cntL_le {α : Type} {cn sz : α → Nat} (h : ∀ x, cn x ≤ 8 * (sz x + 1)) (l : List α) : cntL cn l ≤ 8 * szL sz l := by
  induction l with
  | nil => simp [cntL]
  | cons x r ih =>
    have := h x
    simp only [cntL, szL, List.map_cons, List.sum_cons, List.length_cons] at *
    omega
theorem cntL_le' {α : Type} {cn : α → Nat} (h : ∀ x, cn x ≤ 8) (l : List α) : cntL cn l ≤ 8 * l.length := by
  induction l with
  | nil => simp [cntL]
  | cons x r ih =>
    have := h x
    simp only [cntL, List.map_cons, List.sum_cons, List.length_cons] at *
    omega

def mkInt (k : Int) (_ : Int) : Int := k
def cnInt (_ : Int) : Nat := 1
theorem cn_le_int (x : Int) : cnInt x ≤ 8 := by unfold cnInt; omega
end Go.Proofs.Ytoglclmaacjdaaa.dat
