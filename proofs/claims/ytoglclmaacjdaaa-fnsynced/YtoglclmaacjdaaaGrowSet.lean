/-
  A ROW OF THE CALL'S OWN, ONE CELL OF ONE ELEMENT WRITTEN (elements that own no blocks).
-/
import Derived.Test.YtoglclmaacjdaaaGrow2
namespace Go.Proofs.Ytoglclmaacjdaaa.dat
open Go.RowKit Go.Proofs.Ytoglclmaacjdaaa.win

theorem flat_set {k i : Nat} (hi : i < k) (u : Value) : ∀ {css : List (List Value)} {j : Nat} {c : List Value}, (∀ c ∈ css, c.length = k) → css[j]? = some c → css.flatten.set (j * k + i) u = (css.set j (c.set i u)).flatten
  | [], j, c, _, h => by simp at h
  | d :: r, 0, c, hk, h => by
    have hd : d.length = k := hk d (by simp)
    simp at h
    subst h
    rw [List.set_cons_zero, List.flatten_cons, List.flatten_cons, List.set_append_left _ _ (by omega), Nat.zero_mul, Nat.zero_add]
  | d :: r, j + 1, c, hk, h => by
    have hd : d.length = k := hk d (by simp)
    rw [List.set_cons_succ, List.flatten_cons, List.flatten_cons, List.set_append_right _ _ (by rw [Nat.succ_mul]; omega), ← flat_set hi u (fun c hc => hk c (by simp [hc])) (show r[j]? = some c by simpa using h)]
    congr 2
    rw [Nat.succ_mul]
    omega
theorem Grows.put {α : Type} {k : Nat} {R : Rel α} {e : TypeId} {base : Nat} {w : World} {v : Value} {l : List α} (hf : ∀ {w c x f}, R w c x f → f = []) (hind : ∀ {w w' c x}, R w c x [] → R w' c x []) (h : Grows k R e base w v l) {j i : Nat} {x x' : α} {u : Value} (hj : l[j]? = some x) (hi : i < k)
    (hset : ∀ c, R w c x [] → R w (c.set i u) x' []) {g : Nat} (hg : v.ownBlock = some g) : Grows k R e base (w.setCell ⟨g, j * k + i, none⟩ u) v (l.set j x') := by
  obtain ⟨css, F, h1, h2, h3, h4, h5, h6, ho⟩ := h.ex
  have hjl : j < l.length := (List.getElem?_eq_some_iff.1 hj).1
  obtain ⟨c, hc⟩ : ∃ c, css[j]? = some c := ⟨_, List.getElem?_eq_getElem (by omega)⟩
  have hcl : c.length = k := h3 c (List.mem_of_getElem? hc)
  have hfe : ∀ f ∈ F, f = [] := fun f hm => by
    obtain ⟨q, hq, rfl⟩ := List.getElem_of_mem hm
    exact hf (h4 q _ _ _ (List.getElem?_eq_getElem (by omega)) (List.getElem?_eq_getElem (by omega)) (List.getElem?_eq_getElem hq))
  rcases ho.2 with ⟨rfl, _⟩ | ⟨g0, cap, cur, rfl, hb, hh, hnc, hcm, hcs, htk⟩
  · cases hg
  · have e0 : g0 = g := by simpa [Value.ownBlock] using hg
    subst e0
    obtain ⟨L, hL⟩ : ∃ L, cur = L.toArray := ⟨cur.toList, rfl⟩
    subst hL
    have hk' : Blk (w.setCell ⟨g0, j * k + i, none⟩ u) g0 e (L.set (j * k + i) u) := Blk.set (show Blk w g0 e L from hh) _ _
    refine ⟨css.set j (c.set i u), F, by simp [h1], by simp [h2], ?_, ?_, h5, ?_, ?_⟩
    · intro d hd
      rcases List.mem_or_eq_of_mem_set hd with hd | rfl
      · exact h3 d hd
      · simpa using hcl
    · intro q y d f hy hd hff
      have hfn := hfe f (List.mem_of_getElem? hff)
      subst hfn
      by_cases hq : q = j
      · subst hq
        rw [List.getElem?_set_self hjl] at hy
        rw [List.getElem?_set_self (by omega)] at hd
        cases hy
        cases hd
        exact hind (hset c (h4 q x c [] hj hc hff))
      · rw [List.getElem?_set_ne (Ne.symm hq)] at hy hd
        exact hind (h4 q y d [] hy hd hff)
    · intro b hbm
      obtain ⟨f, hm, hbf⟩ := List.mem_flatten.1 hbm
      rw [hfe f hm] at hbf
      cases hbf
    · have hfs := flat_set hi u h3 hc
      refine ⟨?_, .inr ⟨g0, cap, (L.set (j * k + i) u).toArray, by simp, hb, hk', by simpa using hnc, hcm, by simpa using hcs, ?_⟩⟩
      · rw [← hfs, List.length_set, List.length_set]; exact ho.1
      · rw [← hfs, List.length_set, ← htk]
        simp [List.take_set]
end Go.Proofs.Ytoglclmaacjdaaa.dat
