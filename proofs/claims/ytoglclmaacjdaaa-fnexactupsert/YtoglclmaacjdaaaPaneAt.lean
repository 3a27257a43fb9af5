/-
  THE CONTRACTS OF PaneAt of the program and of the model: the place of the first pane with these four, -1 of none; nothing that was there is written.
  Condition: panes and keys of at most 2,000,000 numbers.
-/
import Derived.Test.YtoglclmaacjdaaaPaneCmp
import Derived.Test.YtoglclmaacjdaaaBridge
namespace Go.Proofs.Ytoglclmaacjdaaa.dat
open Go.RowKit Go.Proofs.Ytoglclmaacjdaaa.win

theorem lexC_zero : ∀ {a b : List Int}, lexC a b = 0 ↔ a = b
  | [], [] => by simp [lexC]
  | [], _ :: _ => by simp [lexC]
  | _ :: _, [] => by simp [lexC]
  | x :: a, y :: b => by
    simp only [lexC]
    by_cases h : x = y
    · rw [if_pos (sgn_eq h), lexC_zero]; simp [h]
    · rw [if_neg (fun e => h (sgn_zero.1 e))]
      constructor
      · intro e; exact absurd (sgn_zero.1 e) h
      · intro e; simp at e; exact absurd e.1 h
/-- These four. -/
def fourB (win mask start : Int) (key : List Int) (p : PaneD) : Bool := p.win == win && p.mask == mask && p.start == start && decide (p.key = key)
theorem paneC_zero {p q : PaneD} : paneC p q = 0 ↔ p.win = q.win ∧ p.mask = q.mask ∧ p.start = q.start ∧ p.key = q.key := by
  unfold paneC
  by_cases h1 : p.win = q.win
  · rw [if_neg (fun e => e (sgn_eq h1))]
    by_cases h2 : p.mask = q.mask
    · rw [if_neg (fun e => e (sgn_eq h2))]
      by_cases h3 : p.start = q.start
      · rw [if_neg (fun e => e (sgn_eq h3)), lexC_zero]
        exact ⟨fun h => ⟨h1, h2, h3, h⟩, fun h => h.2.2.2⟩
      · have : sgn p.start q.start ≠ 0 := fun e => h3 (sgn_zero.1 e)
        rw [if_pos this]
        exact ⟨fun h => absurd h this, fun h => absurd h.2.2.1 h3⟩
    · have : sgn p.mask q.mask ≠ 0 := fun e => h2 (sgn_zero.1 e)
      rw [if_pos this]
      exact ⟨fun h => absurd h this, fun h => absurd h.2.1 h2⟩
  · have : sgn p.win q.win ≠ 0 := fun e => h1 (sgn_zero.1 e)
    rw [if_pos this]
    exact ⟨fun h => absurd h this, fun h => absurd h.1 h1⟩
theorem four_cmp (win mask start : Int) (key : List Int) (a : AggD) (p : PaneD) : (paneC p ⟨win, mask, start, key, a⟩ == 0) = fourB win mask start key p := by
  rw [Bool.eq_iff_iff]
  simp only [beq_iff_eq, paneC_zero, fourB, Bool.and_eq_true, decide_eq_true_eq]
  exact ⟨fun h => ⟨⟨⟨h.1, h.2.1⟩, h.2.2.1⟩, h.2.2.2⟩, fun h => ⟨h.1.1.1, h.1.1.2, h.1.2, h.2⟩⟩
/-- The place of the first one, or -1. -/
def placeOf (m : PaneD → Bool) (l : List PaneD) : Int := if l.any m then (l.findIdx m : Int) else -1
theorem place_found {m : PaneD → Bool} {l : List PaneD} {j : Nat} {x : PaneD} (hno : ∀ i y, i < j → l[i]? = some y → m y = false) (hx : l[j]? = some x) (hm : m x = true) : placeOf m l = (j : Int) := by
  unfold placeOf
  obtain ⟨h1, h2⟩ := List.getElem?_eq_some_iff.1 hx
  rw [if_pos (List.any_eq_true.2 ⟨x, List.mem_of_getElem? hx, hm⟩), (List.findIdx_eq h1).2 ⟨by rw [h2]; exact hm, fun i hi => hno i _ hi (List.getElem?_eq_getElem (by omega))⟩]
theorem place_none {m : PaneD → Bool} {l : List PaneD} {j : Nat} (hno : ∀ i y, i < j → l[i]? = some y → m y = false) (hj : l.length = j) : placeOf m l = -1 := by
  unfold placeOf
  rw [if_neg]
  intro h
  obtain ⟨x, hx, hm⟩ := List.any_eq_true.1 h
  obtain ⟨i, hi, rfl⟩ := List.getElem_of_mem hx
  rw [hno i _ (by omega) (List.getElem?_eq_getElem hi)] at hm
  cases hm
theorem no_succ {m : PaneD → Bool} {l : List PaneD} {j : Nat} {x : PaneD} (hno : ∀ i y, i < j → l[i]? = some y → m y = false) (hx : l[j]? = some x) (hm : m x = false) : ∀ i y, i < j + 1 → l[i]? = some y → m y = false := by
  intro i y hi hy
  by_cases h : i = j
  · subst h
    rw [hx] at hy
    cases hy
    exact hm
  · exact hno i y (by omega) hy

set_option maxRecDepth 100000 in
set_option maxHeartbeats 2000000 in
theorem l01Same (a a' : Option Addr) (n n' cap cap' : Nat) (l l' : List Int) (fp fp' : List Nat) (w : World) (hmax : n ≤ 2000000) (hmax' : n' ≤ 2000000) (hrow : GRow 1 RInt w a n l fp) (hrow' : GRow 1 RInt w a' n' l' fp') :
    Calls Try.prog 119 #[.slice a n cap, .slice a' n' cap'] w fun e w' => e = .returned (.bool (decide (l = l'))) ∧ Below w.heap.size w w' := by
  obtain ⟨r, hr⟩ : ∃ r, decide (l = l') = r := ⟨_, rfl⟩
  rw [hr]
  have HR := Lib.hid hr
  have HC := Lib.hid hrow
  have HC' := Lib.hid hrow'
  clear hr hrow hrow'
  by_cases hn : n = n'
  case neg =>
    have h1 : ((n : Int) != (n' : Int)) = true := by simp; omega
    have E : Hid (r = false) := by
      show r = false
      rw [← HR.out, decide_eq_false_iff_not]
      intro e
      exact hn (by rw [← HC.out.1, ← HC'.out.1, e])
    go_enter Try.func119, Try.ntmps119
    go_wp2_with fail
    go_ret
    exact ⟨ret_bool E.out.symm, Below.refl _ _⟩
  subst hn
  go_enter Try.func119, Try.ntmps119
  go_wp2_with fail
  go_loopg [5] n (fun k i wr => ∃ j : Nat, j + k = n ∧ i = .int .i64 j ∧ Below w.heap.size w wr ∧ l.take j = l'.take j)
  case atStart => exact ⟨0, by omega, rfl, Below.refl _ _, by simp⟩
  case round =>
    obtain ⟨j, hj, rfl, hb, ht⟩ := hrel
    have HB := Lib.hid hb
    have HT := Lib.hid ht
    clear ht
    by_cases hlt : j < n
    case neg =>
      obtain rfl : j = n := by omega
      clear hb
      have E : Hid (r = true) := by
        show r = true
        have := HT.out
        rw [List.take_of_length_le (by rw [HC.out.1]; omega), List.take_of_length_le (by rw [HC'.out.1]; omega)] at this
        rw [← HR.out, decide_eq_true_iff]
        exact this
      go_wp2_with fail
      go_ret
      exact ⟨ret_bool E.out.symm, HB.out⟩
    have hlt2 : (j : Int) < (n : Int) := by omega
    have h02 : (0 : Int) ≤ (j : Int) := by omega
    obtain ⟨b, off, x, f, cs, rfl, hbl, hx, hcl, hR, hc⟩ := HC.out.at hlt
    obtain ⟨rfl, rfl⟩ := hR
    have c0 : wr.cell? ⟨b, off + j, none⟩ = some (.int .i64 x) := by have := (HB.out.cell (p := ⟨b, off + j * 1 + 0, none⟩) hbl).trans (hc 0 (by omega)); simpa using this
    obtain ⟨b', off', y, f', cs', rfl, hbl', hy, hcl', hR', hc'⟩ := HC'.out.at hlt
    obtain ⟨rfl, rfl⟩ := hR'
    have c1 : wr.cell? ⟨b', off' + j, none⟩ = some (.int .i64 y) := by have := (HB.out.cell (p := ⟨b', off' + j * 1 + 0, none⟩) hbl').trans (hc' 0 (by omega)); simpa using this
    have HX := Lib.hid hx
    have HY := Lib.hid hy
    clear hb hx hy hc hc'
    by_cases h5 : x = y
    · have h5' : (x != y) = false := by simp [h5]
      have E : Hid (l.take (j + 1) = l'.take (j + 1)) := by
        show l.take (j + 1) = l'.take (j + 1)
        rw [List.take_add_one, List.take_add_one, HT.out, HX.out, HY.out, h5]
      clear h5
      go_wp2_with fail
      go_quiet (fail)
      go_wp2_with fail
      go_roundg (n - (j + 1))
      case measure => omega
      case rel => exact ⟨j + 1, by omega, by go_num, below_drewN HB.out _, E.out⟩
    · have h5' : (x != y) = true := by simp [h5]
      have E : Hid (r = false) := by
        show r = false
        rw [← HR.out, decide_eq_false_iff_not]
        intro e
        have h6 := HX.out
        rw [e, HY.out] at h6
        exact h5 (Option.some.inj h6).symm
      clear h5
      go_wp2_with fail
      go_quiet (fail)
      go_wp2_with fail
      go_ret
      exact ⟨ret_bool E.out.symm, below_drewN HB.out _⟩

set_option maxRecDepth 100000 in
set_option maxHeartbeats 4000000 in
theorem spec_PaneAt (a : Option Addr) (len cap : Nat) (l : List PaneD) (fp : List Nat) (win mask start : Int) (a' : Option Addr) (n c : Nat) (key : List Int) (fk : List Nat) (w : World) (hrow : GRow 8 RPane w a len l fp) (_ : len ≤ cap) (_ : cap ≤ 9223372036854775807)
    (_ : (Lit.int .i64 win).wf = true) (_ : (Lit.int .i64 mask).wf = true) (_ : (Lit.int .i64 start).wf = true) (hkey : GRow 1 RInt w a' n key fk) (_ : n ≤ c) (_ : c ≤ 9223372036854775807) (zl : szL Pane.sz l ≤ 2000000) (zk : key.length ≤ 2000000) :
    Calls Try.prog 85 #[.slice a len cap, .int .i64 win, .int .i64 mask, .int .i64 start, .slice a' n c] w fun e w' => e = .returned (.int .i64 (placeOf (fourB win mask start key) l)) ∧ Below w.heap.size w w' := by
  have hsz : l.length ≤ 2000000 := by unfold szL at zl; omega
  have hlm : len ≤ 2000000 := by rw [← hrow.1]; exact hsz
  have hnm : Hid (n ≤ 2000000) := by show n ≤ 2000000; rw [← hkey.1]; exact zk
  have HC := Lib.hid hrow
  have HK := Lib.hid hkey
  have HM := Lib.hid zl
  clear hrow hkey zl zk hsz
  go_enter Try.func85, Try.ntmps85
  go_wp2_with fail
  go_loopg [11] len (fun r i wr => ∃ j : Nat, j + r = len ∧ i = .int .i64 j ∧ Below w.heap.size w wr ∧ ∀ i y', i < j → l[i]? = some y' → fourB win mask start key y' = false)
  case atStart => exact ⟨0, by omega, rfl, Below.refl _ _, fun i _ hi => by omega⟩
  case round =>
    obtain ⟨j, hj, rfl, hb, hno⟩ := hrel
    have HB := Lib.hid hb
    have HN := Lib.hid hno
    clear hno
    by_cases hlt : j < len
    case neg =>
      clear hb
      obtain rfl : j = len := by omega
      go_wp2_with fail
      go_ret
      exact ⟨ret_int (place_none HN.out HC.out.1).symm, HB.out⟩
    have hlt2 : (j : Int) < (len : Int) := by omega
    have h02 : (0 : Int) ≤ (j : Int) := by omega
    obtain ⟨b, off, x, f, cs, rfl, hbl, hx, hcl, hR, hc⟩ := HC.out.at hlt
    obtain ⟨h, rfl, hi⟩ := hR
    have c0 := (hb.cell (p := ⟨b, off + j * 8 + 0, none⟩) hbl).trans (hc 0 (by omega))
    have c1 := (hb.cell (p := ⟨b, off + j * 8 + 1, none⟩) hbl).trans (hc 1 (by omega))
    have c2 := (hb.cell (p := ⟨b, off + j * 8 + 2, none⟩) hbl).trans (hc 2 (by omega))
    have c3 := (hb.cell (p := ⟨b, off + j * 8 + 3, none⟩) hbl).trans (hc 3 (by omega))
    simp [Pane.list] at c0 c1 c2 c3
    have HI := Lib.hid (hi.below hb)
    have HX := Lib.hid hx
    have HZ := Lib.hid (show Pane.sz x ≤ 2000000 by have := sz_elem_le Pane.sz l HX.out; have := HM.out; unfold szL at this; omega)
    clear hb hc hx hi
    cases p1 : (x.win == win) with
    | false =>
      have HP := Lib.hid (no_succ (m := fourB win mask start key) HN.out HX.out (by unfold fourB; rw [p1]; rfl))
      go_wp2_with fail
      go_roundg (len - (j + 1))
      case measure => omega
      case rel => exact ⟨j + 1, by omega, by go_num, HB.out, HP.out⟩
    | true =>
    have P1 := Lib.hid p1
    cases p2 : (x.mask == mask) with
    | false =>
      have HP := Lib.hid (no_succ (m := fourB win mask start key) HN.out HX.out (by unfold fourB; rw [p2]; simp))
      go_wp2_with fail
      go_roundg (len - (j + 1))
      case measure => omega
      case rel => exact ⟨j + 1, by omega, by go_num, HB.out, HP.out⟩
    | true =>
    have P2 := Lib.hid p2
    cases p3 : (x.start == start) with
    | false =>
      have HP := Lib.hid (no_succ (m := fourB win mask start key) HN.out HX.out (by unfold fourB; rw [p3]; simp))
      go_wp2_with fail
      go_roundg (len - (j + 1))
      case measure => omega
      case rel => exact ⟨j + 1, by omega, by go_num, HB.out, HP.out⟩
    | true =>
    have P3 := Lib.hid p3
    go_wp2_with fail
    obtain ⟨f0, hf0, r0, u0, v0⟩ := HI.out
    have zx : h.keyl ≤ 2000000 := by rw [← r0.1]; exact HZ.out
    refine (l01Same _ _ _ _ _ _ _ _ _ _ _ zx hnm.out r0 (HK.out.below local_int HB.out)).mono ?_
    rintro e w3 ⟨rfl, hb3⟩
    have HB3 := Lib.hid (show Below w.heap.size w w3 from HB.out.trans (hb3.mono HB.out.size))
    clear hb3 c0 c1 c2 c3 p1 p2 p3 r0 u0 v0 hf0 zx
    cases hp : decide (x.key = key) with
    | false =>
      have HP := Lib.hid (no_succ (m := fourB win mask start key) HN.out HX.out (by unfold fourB; rw [hp]; simp))
      clear hp
      go_wp2_with fail
      go_roundg (len - (j + 1))
      case measure => omega
      case rel => exact ⟨j + 1, by omega, by go_num, HB3.out, HP.out⟩
    | true =>
      have HP := Lib.hid (place_found (m := fourB win mask start key) HN.out HX.out (by unfold fourB; rw [P1.out, P2.out, P3.out, hp]; rfl))
      clear hp
      go_wp2_with fail
      go_ret
      exact ⟨ret_int HP.out.symm, HB3.out⟩
end Go.Proofs.Ytoglclmaacjdaaa.dat
