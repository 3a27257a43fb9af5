/-
  THE CONTRACT OF THE MODEL's l01Nums: the numbers of a row of words, in new memory, and whether all are numbers.
  Condition: at most 61 words, none longer than 60 bytes.
-/
import Derived.Test.YtdipkbgfkbmfnaaDoorSpecNum
import Derived.Deep.LoopGhost
namespace Go.Proofs.YtdipkbgfkbmfnaaDoor.num
open Go.RowKit

theorem info_i64 : (Tryd.prog.info? 3).map (fun i => (i.zero, i.size, i.bytes)) = some (some (.int .i64 0), 1, 8) := by kernel_rfl

def ints (l : List Int) : List Value := l.map fun x => .int .i64 x

/-- The elements of a row of one's own. -/
theorem cells_of_owns {base n : Nat} {w : World} {e : TypeId} {v : Value} {l : List Value} (h : w.ownsRow base e 1 v n l) (hn : v ≠ .slice none 0 0) : ∃ b cap, v = .slice (some ⟨b, 0, none⟩) n cap ∧ (b < w.heap.size ∧ ∀ (j : Nat) (x : Value), l[j]? = some x → w.cell? ⟨b, j, none⟩ = some x) ∧ base ≤ b ∧ n ≤ cap ∧ cap ≤ 9223372036854775807 := by
  obtain ⟨h1, h2⟩ := h
  rcases h2 with ⟨h0, _⟩ | ⟨k, cap, cur, hv, hk, hh, hnc, hcm, hcs, ht⟩
  · exact absurd h0 hn
  · refine ⟨k, cap, hv, ⟨(Array.getElem?_eq_some_iff.1 hh).1, fun j x hx => ?_⟩, hk, hnc, by simp only [maxLen] at hcm; omega⟩
    have hj : j < l.length := (List.getElem?_eq_some_iff.1 hx).1
    have hl : l.length = n * 1 := h1
    have e2 : (cur.toList.take (n * 1))[j]? = l[j]? := by rw [ht]
    rw [List.getElem?_take, if_pos (by omega), Array.getElem?_toList, hx] at e2
    simp [World.cell?, hh, e2]

theorem owns_below {base : Nat} {w w' : World} {e : TypeId} {size n : Nat} {v : Value} {xs : List Value} (h : w.ownsRow base e size v n xs) (hb : Below w.heap.size w w') : w'.ownsRow base e size v n xs := by
  obtain ⟨h1, h2⟩ := h
  refine ⟨h1, ?_⟩
  rcases h2 with h2 | ⟨k, cap, cur, hv, hk, hh, r⟩
  · exact .inl h2
  · have hlt : k < w.heap.size := (Array.getElem?_eq_some_iff.1 hh).1
    exact .inr ⟨k, cap, cur, hv, hk, (hb.block k hlt).trans hh, r⟩

/-- Along the way: the numbers of the words so far. -/
structure Numbering (W : List (List UInt8)) (w : World) (xs : List Int) (v : Value) (wr : World) : Prop where
  owns : wr.ownsRow w.heap.size 3 1 v xs.length (ints xs)
  nn : v ≠ .slice none 0 0
  below : Below w.heap.size w wr
  nums : xs.map Lib.itoa = W.take xs.length

/-- What l01Nums answers, and what it leaves. -/
def NumsR (W : List (List UInt8)) (w : World) (e : Ending) (w' : World) : Prop :=
  ∃ (b cp : Nat) (xs : List Int) (t : Bool), e = .returned (.tuple #[.slice (some ⟨b, 0, none⟩) xs.length cp, .bool t]) ∧ (b < w'.heap.size ∧ ∀ (j : Nat) (x : Value), (ints xs)[j]? = some x → w'.cell? ⟨b, j, none⟩ = some x) ∧
    (t = true → xs.map Lib.itoa = W) ∧ ((∀ x ∈ W, x.length ≤ 11 ∧ ∃ y, Lib.itoa y = x) → t = true) ∧ Below w.heap.size w w' ∧ xs.length ≤ cp ∧ cp ≤ 9223372036854775807 ∧ w.heap.size ≤ b

set_option maxHeartbeats 1000000 in
set_option maxRecDepth 100000 in
theorem l01Nums_any (b cap : Nat) (W : List (List UInt8)) (w : World) (hb : b < w.heap.size) (hc : ∀ (j : Nat) (x : Value), (strs W)[j]? = some x → w.cell? ⟨b, j, none⟩ = some x) (hW : W.length ≤ 61) (hx : ∀ x ∈ W, x.length ≤ 60) :
    Calls Tryd.prog 27 #[.slice (some ⟨b, 0, none⟩) W.length cap] w (NumsR W w) := by
  obtain ⟨i0, hi, hz0, hz1, hz2⟩ := info_parts info_i64
  have HC := Lib.hid hc
  have HX := Lib.hid hx
  clear hc hx
  go_enter Tryd.func27, Tryd.ntmps27
  go_wp2_with fail
  go_loopg [4, 5] W.length (fun k v i wr => ∃ (xs : List Int), xs.length + k = W.length ∧ i = .int .i64 xs.length ∧ Numbering W w xs v wr)
  case atStart =>
    refine ⟨[], by simp, rfl, ?_, by simp, (Below.refl _ _).alloc (Nat.le_refl _) _, by simp⟩
    exact ⟨rfl, .inr ⟨w.heap.size, 0, #[], rfl, Nat.le_refl _, (MapKept.heap_alloc w _).1, Nat.le_refl _, by simp [maxLen], rfl, rfl⟩⟩
  case round =>
    obtain ⟨xs, hk, rfl, hd⟩ := hrel
    have HD := Lib.hid hd
    have hsz := hd.below.size
    obtain ⟨n, hn⟩ : ∃ n, xs.length = n := ⟨_, rfl⟩
    have HN := Lib.hid hn
    rw [hn] at hk ⊢
    clear hd hn
    by_cases hlt : n < W.length
    · obtain ⟨x, hx⟩ : ∃ x, W[n] = x := ⟨_, rfl⟩
      have hcell : wr.cell? ⟨b, n, none⟩ = some (.string (str x)) := by
        refine (HD.out.below.cell (p := ⟨b, n, none⟩) hb).trans (HC.out n _ ?_)
        simp [strs, List.getElem?_eq_getElem hlt, hx]
      have h60 := HX.out x (by rw [← hx]; exact List.getElem_mem _)
      have HX1 := Lib.hid hx
      clear hx
      go_wp2_with fail
      refine (l01Num_any (str x) _ h60).mono ?_
      rintro e w2 ⟨y, t, rfl, ht1, ht2, hyb, hb2⟩
      have HT1 := Lib.hid ht1
      have HT2 := Lib.hid ht2
      have hown := owns_below HD.out.owns hb2
      rw [HN.out] at hown
      have hB := HD.out.below.trans (hb2.mono hsz)
      have hsz2 := hB.size
      have HB := Lib.hid hB
      have HB2 := Lib.hid hb2
      clear ht1 ht2 hb2 hB hcell
      cases t with
      | true =>
        go_wp2_with (at_builtin; refine wpList_append_own _ rfl _ _ 23 rfl w.heap.size 3 i0 (.int .i64 0) 1 8 Tryd.underlying23 hi hz0 hz1 hz2 rfl (by decide) _ _ _ rfl (hown.alloc _) ⟨w2.heap.size, 0, none⟩ 1 1 [.int .i64 y] rfl rfl (cell_one_new _ _ _) (fun x hx => by simp at hx; subst hx; rfl) (by unfold maxLen; omega) (by omega) (by simp; omega) ?_; intro v' w3 hown' hgrow3 hnil3)
        go_roundg (W.length - (n + 1))
        case measure => omega
        case rel =>
          have hB3 : Below w.heap.size w2 w3 := ((Below.refl _ _).alloc hsz2 _).grown hgrow3 (by simp; omega) (own_ge hown)
          have hlen : (xs ++ [y]).length = n + 1 := by simp [HN.out]
          refine ⟨xs ++ [y], by rw [hlen]; omega, by rw [hlen]; go_num, ?_, fun e => by have := (hnil3.1 e).2; omega, HB.out.trans hB3, ?_⟩
          · rw [hlen, show ints (xs ++ [y]) = ints xs ++ [.int .i64 y] by simp [ints]]
            exact hown'
          · rw [hlen, List.take_succ_eq_append_getElem hlt, HX1.out, List.map_append, HD.out.nums, HN.out]
            have := HT1.out (by simp)
            simp only [List.map_cons, List.map_nil, this]
            rfl
      | false =>
        go_wp2_with fail
        go_ret2
        refine ⟨w2.heap.size, 0, [], false, rfl, ⟨by simp, by simp [ints]⟩, by simp, ?_, HB.out.alloc hsz2 _, Nat.le_refl _, Nat.zero_le _, hsz2⟩
        intro hall
        obtain ⟨h11, z, hz⟩ := hall x (by rw [← HX1.out]; exact List.getElem_mem _)
        have := HT2.out z hz h11
        cases this
    · go_wp2_with fail
      go_ret2
      obtain ⟨b', cp, hv, hcells, hge, hcp⟩ := cells_of_owns HD.out.owns HD.out.nn
      refine ⟨b', cp, xs, true, ?_, hcells, ?_, by simp, HD.out.below, hcp.1, hcp.2, hge⟩
      · rw [← hv]; rfl
      · intro _
        rw [HD.out.nums]
        exact List.take_of_length_le (by have := HN.out; omega)
end Go.Proofs.YtdipkbgfkbmfnaaDoor.num
