/-
  WHAT THE CONTRACT OF RollUp of the model wants.
-/
import Derived.Test.YtpcekmllmnfmmaaGreatSpecPut
import Derived.Test.YtpcekmllmnfmmaaGreatRollMath
import Derived.Test.YtpcekmllmnfmmaaGreatPanesSpecOk
namespace Go.Proofs.YtpcekmllmnfmmaaGreat.dat
open Go.RowKit Go.Proofs.YtpcekmllmnfmmaaGreat.win

theorem keyR_len (mf mt : Int) (key : List Int) : ∀ j, (keyR mf mt key j).length ≤ rank mf j
  | 0 => by simp [keyR]
  | j + 1 => by
    have := keyR_len mf mt key j
    simp only [keyR, rank, List.length_append]
    cases h1 : bitB mf j <;> cases h2 : bitB mt j <;> cases h3 : key[rank mf j]? <;> simp <;> omega
theorem rank_le (m : Int) : ∀ j, rank m j ≤ j
  | 0 => Nat.le_refl _
  | j + 1 => by
    have := rank_le m j
    simp only [rank]
    split <;> omega
theorem sz_putL (p : PaneD) : ∀ (l : List PaneD), szL Pane.sz (putL p l) ≤ szL Pane.sz l + (1 + Pane.sz p)
  | [] => by simp [putL, szL]
  | x :: r => by
    have ih := sz_putL p r
    unfold szL at *
    simp only [putL]
    split
    · simp only [List.length_cons, List.map_cons, List.sum_cons]; omega
    · split
      · simp only [List.length_cons, List.map_cons, List.sum_cons]
        have : Pane.sz (⟨p.win, p.mask, p.start, p.key, joinA x.a p.a⟩ : PaneD) = Pane.sz p := rfl
        omega
      · simp only [List.length_cons, List.map_cons, List.sum_cons]; omega
theorem keyR_yes {mf mt : Int} {key : List Int} {j : Nat} {v : Int} (h1 : bitB mf j = true) (h2 : bitB mt j = true) (h : key[rank mf j]? = some v) : keyR mf mt key (j + 1) = keyR mf mt key j ++ [v] := by
  simp only [keyR, h1, h2, h]; rfl
theorem keyR_no {mf mt : Int} {key : List Int} {j : Nat} (h : (bitB mf j && bitB mt j) = false) : keyR mf mt key (j + 1) = keyR mf mt key j := by
  simp only [keyR, h]; simp
theorem rank_yes {m : Int} {j : Nat} (h : bitB m j = true) : rank m (j + 1) = rank m j + 1 := by simp only [rank, h]; rfl
theorem rank_no {m : Int} {j : Nat} (h : bitB m j = false) : rank m (j + 1) = rank m j := by simp only [rank, h]; rfl
/-- What the model hands back. -/
def GiveP (w : World) (L : List PaneD) (e : Ending) (w' : World) : Prop := ∃ (a : Option Addr) (n c : Nat) (f : List Nat), e = .returned (.slice a n c) ∧ GRow 8 RPane w' a n L f ∧ n ≤ c ∧ c ≤ 9223372036854775807 ∧ Below w.heap.size w w'
theorem give_none {w w' : World} {b : Nat} (h : Below w.heap.size w w') : GiveP w [] (.returned (.slice (some ⟨b, 0, none⟩) 0 0)) w' := ⟨_, 0, 0, [], rfl, GRow.nil, Nat.le_refl _, Nat.zero_le _, h⟩
theorem keep5 {W w' : World} {p : Nat} {t : TypeId} {v0 v1 v2 v3 v4 : Value} (hk : Blk W p t [v0, v1, v2, v3, v4]) (e1 : w'.heap[p]? = W.heap[p]?) :
    w'.cell? ⟨p, 0, none⟩ = some v0 ∧ w'.cell? ⟨p, 1, none⟩ = some v1 ∧ w'.cell? ⟨p, 2, none⟩ = some v2 ∧ w'.cell? ⟨p, 3, none⟩ = some v3 ∧ w'.cell? ⟨p, 4, none⟩ = some v4 := by
  have k : Blk w' p t [v0, v1, v2, v3, v4] := e1.trans hk
  exact ⟨by simpa using k.cell 0, by simpa using k.cell 1, by simpa using k.cell 2, by simpa using k.cell 3, by simpa using k.cell 4⟩
theorem keep7 {W w' : World} {p b o1 o2 : Nat} {t : TypeId} {v0 v1 v2 v3 v4 u1 u2 : Value} (hk : Blk W p t [v0, v1, v2, v3, v4]) (h1 : W.cell? ⟨b, o1, none⟩ = some u1) (h2 : W.cell? ⟨b, o2, none⟩ = some u2) (e1 : w'.heap[p]? = W.heap[p]?) (e2 : w'.heap[b]? = W.heap[b]?) :
    w'.cell? ⟨p, 0, none⟩ = some v0 ∧ w'.cell? ⟨p, 1, none⟩ = some v1 ∧ w'.cell? ⟨p, 2, none⟩ = some v2 ∧ w'.cell? ⟨p, 3, none⟩ = some v3 ∧ w'.cell? ⟨p, 4, none⟩ = some v4 ∧ w'.cell? ⟨b, o1, none⟩ = some u1 ∧ w'.cell? ⟨b, o2, none⟩ = some u2 := by
  obtain ⟨a0, a1, a2, a3, a4⟩ := keep5 hk e1
  exact ⟨a0, a1, a2, a3, a4, (cell_same e2 _).trans h1, (cell_same e2 _).trans h2⟩

end Go.Proofs.YtpcekmllmnfmmaaGreat.dat
