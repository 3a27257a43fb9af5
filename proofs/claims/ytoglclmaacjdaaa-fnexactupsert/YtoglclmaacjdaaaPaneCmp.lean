/-
  THE CONTRACTS OF PaneCmp of the program and of the model: by Win, Mask, Start, then Key, number by number; nothing that was there is written.
  Condition: keys of at most 2,000,000 numbers.
-/
import Derived.Test.YtoglclmaacjdaaaDataPanes
namespace Go.Proofs.Ytoglclmaacjdaaa.dat
open Go.RowKit Go.Proofs.Ytoglclmaacjdaaa.win

def sgn (a b : Int) : Int := if a < b then -1 else if b < a then 1 else 0
theorem sgn_lt {a b : Int} (h : a < b) : sgn a b = -1 := by unfold sgn; rw [if_pos h]
theorem sgn_gt {a b : Int} (h : b < a) : sgn a b = 1 := by unfold sgn; rw [if_neg (by omega), if_pos h]
theorem sgn_eq {a b : Int} (h : a = b) : sgn a b = 0 := by unfold sgn; rw [if_neg (by omega), if_neg (by omega)]
theorem sgn_zero {a b : Int} : sgn a b = 0 ↔ a = b := by
  constructor
  · intro h
    unfold sgn at h
    split at h
    · cases h
    · split at h
      · cases h
      · omega
  · exact sgn_eq
/-- Lists, number by number. -/
def lexC : List Int → List Int → Int
  | [], [] => 0
  | [], _ :: _ => -1
  | _ :: _, [] => 1
  | x :: a, y :: b => if sgn x y = 0 then lexC a b else sgn x y
/-- PaneCmp. -/
def paneC (p q : PaneD) : Int := if sgn p.win q.win ≠ 0 then sgn p.win q.win else if sgn p.mask q.mask ≠ 0 then sgn p.mask q.mask else if sgn p.start q.start ≠ 0 then sgn p.start q.start else lexC p.key q.key

set_option maxHeartbeats 400000 in
theorem isNaN (a : Int) (w : World) : Calls Try.prog 162 #[.int .i64 a] w fun e w' => e = .returned (.bool false) ∧ w = w' := by
  go_enter Try.func162, Try.ntmps162
  go_wp2_with fail
  go_ret
  exact ⟨by simp, rfl⟩
set_option maxHeartbeats 1000000 in
theorem cmpCompare (a b : Int) (w : World) : Calls Try.prog 136 #[.int .i64 a, .int .i64 b] w fun e w' => e = .returned (.int .i64 (sgn a b)) ∧ w = w' := by
  rcases Int.lt_trichotomy a b with h | h | h
  · rw [sgn_lt h]
    have h2 : ¬ b < a := by omega
    go_enter Try.func136, Try.ntmps136
    go_wp2_with (go_at_call 162; refine (isNaN _ _).mono ?_; rintro e w' ⟨rfl, rfl⟩)
    go_ret
    exact ⟨rfl, rfl⟩
  · rw [sgn_eq h]
    have h1 : ¬ a < b := by omega
    have h2 : ¬ b < a := by omega
    clear h
    go_enter Try.func136, Try.ntmps136
    go_wp2_with (go_at_call 162; refine (isNaN _ _).mono ?_; rintro e w' ⟨rfl, rfl⟩)
    go_ret
    exact ⟨rfl, rfl⟩
  · rw [sgn_gt h]
    have h2 : ¬ a < b := by omega
    go_enter Try.func136, Try.ntmps136
    go_wp2_with (go_at_call 162; refine (isNaN _ _).mono ?_; rintro e w' ⟨rfl, rfl⟩)
    go_ret
    exact ⟨rfl, rfl⟩
set_option maxHeartbeats 1000000 in
theorem l04Sign (a b : Int) (w : World) : Calls Try.prog 120 #[.int .i64 a, .int .i64 b] w fun e w' => e = .returned (.int .i64 (sgn a b)) ∧ w = w' := by
  rcases Int.lt_trichotomy a b with h | h | h
  · rw [sgn_lt h]
    have h2 : ¬ b < a := by omega
    go_enter Try.func120, Try.ntmps120
    go_wp2_with fail
    go_ret
    exact ⟨rfl, rfl⟩
  · rw [sgn_eq h]
    have h1 : ¬ a < b := by omega
    have h2 : ¬ b < a := by omega
    clear h
    go_enter Try.func120, Try.ntmps120
    go_wp2_with fail
    go_ret
    exact ⟨rfl, rfl⟩
  · rw [sgn_gt h]
    have h2 : ¬ a < b := by omega
    go_enter Try.func120, Try.ntmps120
    go_wp2_with fail
    go_ret
    exact ⟨rfl, rfl⟩

theorem drop_at {l : List Int} {j : Nat} {x : Int} (h : l[j]? = some x) : l.drop j = x :: l.drop (j + 1) := by
  obtain ⟨h1, h2⟩ := List.getElem?_eq_some_iff.1 h
  rw [List.drop_eq_getElem_cons h1, h2]

set_option maxRecDepth 100000 in
set_option maxHeartbeats 1000000 in
theorem slicesCompare (a a' : Option Addr) (n n' cap cap' : Nat) (l l' : List Int) (fp fp' : List Nat) (w : World) (hmax : n ≤ 2000000) (hmax' : n' ≤ 2000000) (hrow : GRow 1 RInt w a n l fp) (hrow' : GRow 1 RInt w a' n' l' fp') :
    Calls Try.prog 137 #[.slice a n cap, .slice a' n' cap'] w fun e w' => e = .returned (.int .i64 (lexC l l')) ∧ w = w' := by
  obtain ⟨r, hr⟩ : ∃ r, lexC l l' = r := ⟨_, rfl⟩
  rw [hr]
  have HR := Lib.hid hr
  have HC := Lib.hid hrow
  have HC' := Lib.hid hrow'
  clear hr hrow hrow'
  go_enter Try.func137, Try.ntmps137
  go_wp2_with fail
  go_loopg [11] n (fun k i wr => ∃ j : Nat, j + k = n ∧ i = .int .i64 j ∧ w = wr ∧ lexC (l.drop j) (l'.drop j) = r)
  case atStart => exact ⟨0, by omega, rfl, rfl, by simpa using HR.out⟩
  case round =>
    obtain ⟨j, hj, rfl, rfl, hl⟩ := hrel
    have HL := Lib.hid hl
    clear hl
    by_cases hlt : j < n
    case neg =>
      obtain rfl : j = n := by omega
      have e1 : l.drop j = [] := List.drop_of_length_le (by rw [HC.out.1]; exact Nat.le_refl _)
      by_cases h2 : j < n'
      · have h3 : (j : Int) < (n' : Int) := by omega
        have E : Hid (r = -1) := by
          show r = -1
          rw [← HL.out, e1]
          have h4 : j < l'.length := by rw [HC'.out.1]; exact h2
          rw [List.drop_eq_getElem_cons h4]
          rfl
        clear e1
        go_wp2_with fail
        go_ret
        exact ⟨ret_int E.out.symm, rfl⟩
      · have h3 : ¬ (j : Int) < (n' : Int) := by omega
        have E : Hid (r = 0) := by
          show r = 0
          rw [← HL.out, e1, List.drop_of_length_le (by rw [HC'.out.1]; omega)]
          rfl
        clear e1
        go_wp2_with fail
        go_ret
        exact ⟨ret_int E.out.symm, rfl⟩
    have hlt2 : (j : Int) < (n : Int) := by omega
    have h02 : (0 : Int) ≤ (j : Int) := by omega
    obtain ⟨b, off, x, f, cs, rfl, hbl, hx, hcl, hR, hc⟩ := HC.out.at hlt
    obtain ⟨rfl, rfl⟩ := hR
    have c0 : w.cell? ⟨b, off + j, none⟩ = some (.int .i64 x) := by have := hc 0 (by omega); simpa using this
    have HX := Lib.hid hx
    clear hx hc
    by_cases h2 : j < n'
    case neg =>
      have h3 : (n' : Int) ≤ (j : Int) := by omega
      have E : Hid (r = 1) := by
        show r = 1
        rw [← HL.out, drop_at HX.out, show l'.drop j = [] from List.drop_of_length_le (by rw [HC'.out.1]; omega)]
        rfl
      go_wp2_with fail
      go_ret
      exact ⟨ret_int E.out.symm, rfl⟩
    have h3 : ¬ (n' : Int) ≤ (j : Int) := by omega
    have h4 : (j : Int) < (n' : Int) := by omega
    obtain ⟨b', off', y, f', cs', rfl, hbl', hy, hcl', hR', hc'⟩ := HC'.out.at h2
    obtain ⟨rfl, rfl⟩ := hR'
    have c1 : w.cell? ⟨b', off' + j, none⟩ = some (.int .i64 y) := by have := hc' 0 (by omega); simpa using this
    have HY := Lib.hid hy
    clear hy hc'
    have hl2 := HL.out
    rw [drop_at HX.out, drop_at HY.out] at hl2
    simp only [lexC] at hl2
    obtain ⟨s, hs⟩ : ∃ s, sgn x y = s := ⟨_, rfl⟩
    rw [hs] at hl2
    have HS := Lib.hid hs
    have HL2 := Lib.hid hl2
    clear hs hl2
    by_cases h5 : s = 0
    · have h5' : (s != 0) = false := by simp [h5]
      go_wp2_with (go_at_call 136; refine (cmpCompare _ _ _).mono ?_; rintro e w' ⟨rfl, rfl⟩; rw [HS.out])
      go_roundg (n - (j + 1))
      case measure => omega
      case rel => exact ⟨j + 1, by omega, by go_num, rfl, by have := HL2.out; rwa [if_pos h5] at this⟩
    · have h5' : (s != 0) = true := by simp [h5]
      go_wp2_with (go_at_call 136; refine (cmpCompare _ _ _).mono ?_; rintro e w' ⟨rfl, rfl⟩; rw [HS.out])
      go_ret
      exact ⟨ret_int (by have := HL2.out; rwa [if_neg h5] at this), rfl⟩

/-- The first of four that is not 0. -/
def orC (a b c d : Int) : Int := if a ≠ 0 then a else if b ≠ 0 then b else if c ≠ 0 then c else d
set_option maxRecDepth 100000 in
set_option maxHeartbeats 2000000 in
theorem cmpOr (g : Nat) (p q r s : Int) (w : World) (h0 : w.cell? ⟨g, 0, none⟩ = some (.int .i64 p)) (h1 : w.cell? ⟨g, 1, none⟩ = some (.int .i64 q)) (h2 : w.cell? ⟨g, 2, none⟩ = some (.int .i64 r)) (h3 : w.cell? ⟨g, 3, none⟩ = some (.int .i64 s)) :
    Calls Try.prog 135 #[.slice (some ⟨g, 0, none⟩) 4 4] w fun e w' => e = .returned (.int .i64 (orC p q r s)) ∧ w = w' := by
  obtain ⟨z, hz⟩ : ∃ z, orC p q r s = z := ⟨_, rfl⟩
  rw [hz]
  have HZ := Lib.hid hz
  clear hz
  go_enter Try.func135, Try.ntmps135
  go_wp2_with fail
  go_loopg [8] 4 (fun k i wr => ∃ j : Nat, j + k = 4 ∧ i = .int .i64 j ∧ w = wr ∧ (0 < j → p = 0) ∧ (1 < j → q = 0) ∧ (2 < j → r = 0) ∧ (3 < j → s = 0))
  case atStart => exact ⟨0, by omega, rfl, rfl, by omega, by omega, by omega, by omega⟩
  case round =>
    obtain ⟨j, hj, rfl, rfl, e0, e1, e2, e3⟩ := hrel
    have E := Lib.hid (And.intro e0 (And.intro e1 (And.intro e2 e3)))
    clear e0 e1 e2 e3
    have hj5 : j = 0 ∨ j = 1 ∨ j = 2 ∨ j = 3 ∨ j = 4 := by omega
    rcases hj5 with rfl | rfl | rfl | rfl | rfl
    · by_cases hp : p = 0
      · have hp' : (p != 0) = false := by simp [hp]
        go_wp2_with fail
        go_roundg 3
        case measure => omega
        case rel => exact ⟨1, by omega, rfl, rfl, fun _ => hp, by omega, by omega, by omega⟩
      · have hp' : (p != 0) = true := by simp [hp]
        go_wp2_with fail
        go_ret
        exact ⟨ret_int (by rw [← HZ.out]; unfold orC; rw [if_pos hp]), rfl⟩
    · have hp := E.out.1 (by omega)
      have HP := Lib.hid hp
      clear hp
      by_cases hq : q = 0
      · have hq' : (q != 0) = false := by simp [hq]
        go_wp2_with fail
        go_roundg 2
        case measure => omega
        case rel => exact ⟨2, by omega, rfl, rfl, fun _ => HP.out, fun _ => hq, by omega, by omega⟩
      · have hq' : (q != 0) = true := by simp [hq]
        go_wp2_with fail
        go_ret
        exact ⟨ret_int (by rw [← HZ.out]; unfold orC; rw [if_neg (by simp [HP.out]), if_pos hq]), rfl⟩
    · have HP := Lib.hid (E.out.1 (by omega))
      have HQ := Lib.hid (E.out.2.1 (by omega))
      by_cases hq : r = 0
      · have hq' : (r != 0) = false := by simp [hq]
        go_wp2_with fail
        go_roundg 1
        case measure => omega
        case rel => exact ⟨3, by omega, rfl, rfl, fun _ => HP.out, fun _ => HQ.out, fun _ => hq, by omega⟩
      · have hq' : (r != 0) = true := by simp [hq]
        go_wp2_with fail
        go_ret
        exact ⟨ret_int (by rw [← HZ.out]; unfold orC; rw [if_neg (by simp [HP.out]), if_neg (by simp [HQ.out]), if_pos hq]), rfl⟩
    · have HP := Lib.hid (E.out.1 (by omega))
      have HQ := Lib.hid (E.out.2.1 (by omega))
      have HR := Lib.hid (E.out.2.2.1 (by omega))
      by_cases hq : s = 0
      · have hq' : (s != 0) = false := by simp [hq]
        go_wp2_with fail
        go_roundg 0
        case measure => omega
        case rel => exact ⟨4, by omega, rfl, rfl, fun _ => HP.out, fun _ => HQ.out, fun _ => HR.out, fun _ => hq⟩
      · have hq' : (s != 0) = true := by simp [hq]
        go_wp2_with fail
        go_ret
        exact ⟨ret_int (by rw [← HZ.out]; unfold orC; rw [if_neg (by simp [HP.out]), if_neg (by simp [HQ.out]), if_neg (by simp [HR.out])]), rfl⟩
    · have HP := Lib.hid (E.out.1 (by omega))
      have HQ := Lib.hid (E.out.2.1 (by omega))
      have HR := Lib.hid (E.out.2.2.1 (by omega))
      have HS := Lib.hid (E.out.2.2.2 (by omega))
      go_wp2_with fail
      go_ret
      exact ⟨ret_int (by rw [← HZ.out]; unfold orC; rw [if_neg (by simp [HP.out]), if_neg (by simp [HQ.out]), if_neg (by simp [HR.out]), HS.out]), rfl⟩
theorem flip_call {P : Program} {f : Nat} {args : Array Value} {w : World} {v : Value} (h : Calls P f args w fun e w' => e = .returned v ∧ w = w') : Calls P f args w fun e w' => e = .returned v ∧ w' = w := h.mono fun _ _ h => ⟨h.1, h.2.symm⟩
theorem list_gen {P : Program} {ops : Array Oper} {Q : Exit → Act → World → Prop} {rest : List Oper} {a : Act} {w : World} (R : World → Prop) (h : R w) (k : ∀ W, R W → wpList P ops Q rest a W) : wpList P ops Q rest a w := k w h
theorem paneC_or (p q : PaneD) : orC (sgn p.win q.win) (sgn p.mask q.mask) (sgn p.start q.start) (lexC p.key q.key) = paneC p q := rfl

set_option maxRecDepth 100000 in
set_option maxHeartbeats 2000000 in
theorem impl_PaneCmp_grow (x : PaneD) (h : PaneH) (f : List Nat) (y : PaneD) (k : PaneH) (g : List Nat) (w : World) (hx : Pane.Is w x h f) (hy : Pane.Is w y k g) (zx : Pane.sz x ≤ 2000000) (zy : Pane.sz y ≤ 2000000) :
    Calls Try.prog 108 #[.agg (Pane.list x h).toArray, .agg (Pane.list y k).toArray] w fun e w' => e = .returned (.int .i64 (paneC x y)) ∧ Below w.heap.size w w' ∧ w'.drawn = w.drawn + 1 := by
  rw [← paneC_or]
  obtain ⟨f0, rfl, r0, u0, v0⟩ := hx
  obtain ⟨g0, rfl, r1, u1, v1⟩ := hy
  unfold Pane.sz at zx zy
  have zx' : h.keyl ≤ 2000000 := by rw [← r0.1]; exact zx
  have zy' : k.keyl ≤ 2000000 := by rw [← r1.1]; exact zy
  have HX := Lib.hid r0
  have HY := Lib.hid r1
  have ZX := Lib.hid zx'
  have ZY := Lib.hid zy'
  clear r0 r1 u0 v0 u1 v1 zx zy zx' zy'
  simp only [Pane.list]
  go_enter Try.func108, Try.ntmps108
  go_wp2_with fail
  refine wp_gen (fun W => W.drawn = w.drawn ∧ Below w.heap.size w W ∧ Blk W w.heap.size 144 (Pane.list x h) ∧ Blk W (w.heap.size + 1) 144 (Pane.list y k)) ⟨rfl, by repeat (first | exact Below.refl _ _ | refine Below.setCell ?_ (by first | omega | (simp; done) | (simp; omega)) _ | refine Below.alloc ?_ (by first | omega | (simp; done) | (simp; omega)) _ | apply Below.drew), by unfold Pane.list; with_reducible (repeat (first | (refine blk_new_at _ _ _ _ ?_; first | rfl | (simp; done)) | refine Blk.alloc ?_ _ | apply Blk.drew | refine Blk.setOther ?_ (by first | (simp; done) | (simp; omega)) _)), by unfold Pane.list; with_reducible (repeat (first | (refine blk_new_at _ _ _ _ ?_; first | rfl | (simp; done)) | refine Blk.alloc ?_ _ | apply Blk.drew | refine Blk.setOther ?_ (by first | (simp; done) | (simp; omega)) _))⟩ ?_
  rintro W1 ⟨n1, b1, k1, m1⟩
  have N1 := Lib.hid n1
  clear n1
  have B1 := Lib.hid b1
  have RX := Lib.hid (HX.out.below local_int b1)
  have RY := Lib.hid (HY.out.below local_int b1)
  have c0 := k1.cell 0
  have c1 := k1.cell 1
  have c2 := k1.cell 2
  have c3 := k1.cell 3
  have d0 := m1.cell 0
  have d1 := m1.cell 1
  have d2 := m1.cell 2
  have d3 := m1.cell 3
  simp [Pane.list] at c0 c1 c2 c3 d0 d1 d2 d3
  clear k1 m1 b1
  go_still_tail 20, (by kernel_rfl)
  still_call (flip_call (cmpCompare _ _ _))
  repeat still_step
  still_call (flip_call (cmpCompare _ _ _))
  repeat still_step
  still_call (flip_call (cmpCompare _ _ _))
  repeat still_step
  still_call (flip_call (slicesCompare _ _ _ _ _ _ _ _ _ _ _ ZX.out ZY.out (RX.out.keep local_int (fun _ _ => rfl)) (RY.out.keep local_int (fun _ _ => rfl))))
  refine wpStill_nil ?_
  change wpList _ _ _ _ _ W1.drew
  have b := B1.out.drew
  have n2 : W1.drew.drawn = w.drawn + 1 := by rw [← N1.out]; rfl
  generalize W1.drew = W at b n2 ⊢
  have B := Lib.hid b
  have N2 := Lib.hid n2
  clear b n2
  go_wp2_with fail
  refine calls_gen (fun V => V.drawn = w.drawn + 1 ∧ Below w.heap.size w V ∧ Blk V W.heap.size 3 [.int .i64 (sgn x.win y.win), .int .i64 (sgn x.mask y.mask), .int .i64 (sgn x.start y.start), .int .i64 (lexC x.key y.key)]) ⟨N2.out, B.out.alloc B.out.size _, by with_reducible (repeat (first | (refine blk_new_at _ _ _ _ ?_; first | rfl | (simp; done)) | refine Blk.alloc ?_ _ | apply Blk.drew | refine Blk.setOther ?_ (by first | (simp; done) | (simp; omega)) _))⟩ ?_
  rintro V ⟨n3, b, kk⟩
  have N3 := Lib.hid n3
  clear n3
  have k0 := kk.cell 0
  have k1 := kk.cell 1
  have k2 := kk.cell 2
  have k3 := kk.cell 3
  simp at k0 k1 k2 k3
  refine (cmpOr _ _ _ _ _ _ k0 k1 k2 k3).mono ?_
  rintro e w' ⟨rfl, rfl⟩
  go_wp2_with fail
  go_ret
  exact ⟨rfl, b, N3.out⟩

theorem impl_PaneCmp (x : PaneD) (h : PaneH) (f : List Nat) (y : PaneD) (k : PaneH) (g : List Nat) (w : World) (hx : Pane.Is w x h f) (hy : Pane.Is w y k g) (zx : Pane.sz x ≤ 2000000) (zy : Pane.sz y ≤ 2000000) :
    Calls Try.prog 108 #[.agg (Pane.list x h).toArray, .agg (Pane.list y k).toArray] w fun e w' => e = .returned (.int .i64 (paneC x y)) ∧ Below w.heap.size w w' :=
  (impl_PaneCmp_grow x h f y k g w hx hy zx zy).mono fun _ _ h => ⟨h.1, h.2.1⟩

set_option maxRecDepth 100000 in
set_option maxHeartbeats 2000000 in
theorem l04Lists (a a' : Option Addr) (n n' cap cap' : Nat) (l l' : List Int) (fp fp' : List Nat) (w : World) (hmax : n ≤ 2000000) (hmax' : n' ≤ 2000000) (hrow : GRow 1 RInt w a n l fp) (hrow' : GRow 1 RInt w a' n' l' fp') :
    Calls Try.prog 121 #[.slice a n cap, .slice a' n' cap'] w fun e w' => e = .returned (.int .i64 (lexC l l')) ∧ Below w.heap.size w w' := by
  obtain ⟨r, hr⟩ : ∃ r, lexC l l' = r := ⟨_, rfl⟩
  rw [hr]
  have HR := Lib.hid hr
  have HC := Lib.hid hrow
  have HC' := Lib.hid hrow'
  clear hr hrow hrow'
  go_enter Try.func121, Try.ntmps121
  go_wp2_with fail
  go_loopg [5] n (fun k i wr => ∃ j : Nat, j + k = n ∧ i = .int .i64 j ∧ Below w.heap.size w wr ∧ lexC (l.drop j) (l'.drop j) = r ∧ j ≤ n')
  case atStart => exact ⟨0, by omega, rfl, Below.refl _ _, by simpa using HR.out, by omega⟩
  case round =>
    obtain ⟨j, hj, rfl, hb, hl, hjn⟩ := hrel
    have HL := Lib.hid hl
    have HB := Lib.hid hb
    clear hl hb
    by_cases hlt : j < n
    case neg =>
      obtain rfl : j = n := by omega
      have e1 : l.drop j = [] := List.drop_of_length_le (by rw [HC.out.1]; exact Nat.le_refl _)
      have E : Hid (sgn (j : Int) (n' : Int) = r) := by
        show sgn (j : Int) (n' : Int) = r
        rw [← HL.out, e1]
        by_cases h2 : j < n'
        · rw [List.drop_eq_getElem_cons (by rw [HC'.out.1]; exact h2), sgn_lt (by omega)]; rfl
        · rw [List.drop_of_length_le (by rw [HC'.out.1]; omega), sgn_eq (by omega)]; rfl
      have h3 : ¬ (j : Int) < (j : Int) := by omega
      clear e1
      go_wp2_with (go_at_call 120; refine (l04Sign _ _ _).mono ?_; rintro e w' ⟨rfl, rfl⟩; rw [E.out])
      go_ret
      exact ⟨rfl, HB.out⟩
    have hlt2 : (j : Int) < (n : Int) := by omega
    have h02 : (0 : Int) ≤ (j : Int) := by omega
    obtain ⟨b, off, x, f, cs, rfl, hbl, hx, hcl, hR, hc⟩ := HC.out.at hlt
    obtain ⟨rfl, rfl⟩ := hR
    have c0 : wr.cell? ⟨b, off + j, none⟩ = some (.int .i64 x) := by have := (HB.out.cell (p := ⟨b, off + j * 1 + 0, none⟩) hbl).trans (hc 0 (by omega)); simpa using this
    have HX := Lib.hid hx
    clear hx hc
    by_cases h2 : j < n'
    case neg =>
      have h3 : ¬ (j : Int) < (n' : Int) := by omega
      have E : Hid (sgn (n : Int) (n' : Int) = r) := by
        show sgn (n : Int) (n' : Int) = r
        rw [← HL.out, drop_at HX.out, show l'.drop j = [] from List.drop_of_length_le (by rw [HC'.out.1]; omega), sgn_gt (by omega)]
        rfl
      go_wp2_with (go_at_call 120; refine (l04Sign _ _ _).mono ?_; rintro e w' ⟨rfl, rfl⟩; rw [E.out])
      go_ret
      exact ⟨rfl, HB.out⟩
    have h4 : (j : Int) < (n' : Int) := by omega
    obtain ⟨b', off', y, f', cs', rfl, hbl', hy, hcl', hR', hc'⟩ := HC'.out.at h2
    obtain ⟨rfl, rfl⟩ := hR'
    have c1 : wr.cell? ⟨b', off' + j, none⟩ = some (.int .i64 y) := by have := (HB.out.cell (p := ⟨b', off' + j * 1 + 0, none⟩) hbl').trans (hc' 0 (by omega)); simpa using this
    have HY := Lib.hid hy
    clear hy hc'
    have hl2 := HL.out
    rw [drop_at HX.out, drop_at HY.out] at hl2
    simp only [lexC] at hl2
    have HL2 := Lib.hid hl2
    clear hl2
    by_cases h5 : x = y
    · have h5' : (x != y) = false := by simp [h5]
      have H5 := Lib.hid h5
      clear h5
      go_wp2_with fail
      go_quiet (fail)
      go_wp2_with fail
      go_roundg (n - (j + 1))
      case measure => omega
      case rel => exact ⟨j + 1, by omega, by go_num, below_drewN HB.out _, by have := HL2.out; rwa [if_pos (sgn_eq H5.out)] at this, by omega⟩
    · have h5' : (x != y) = true := by simp [h5]
      have E : Hid (sgn x y = r) := by
        have := HL2.out
        rwa [if_neg (fun h => h5 (sgn_zero.1 h))] at this
      have hS : ∀ w, Calls Try.prog 120 #[.int .i64 x, .int .i64 y] w fun e w' => e = .returned (.int .i64 r) ∧ w' = w := by rw [← E.out]; exact fun w => flip_call (l04Sign x y w)
      have HS := Lib.hid hS
      clear h5 hS
      go_wp2_with fail
      go_quiet (fail)
      go_wp2_with fail
      have e0 : (wr.drewN nq).cell? ⟨b, off + j, none⟩ = some (.int .i64 x) := c0
      have e1 : (wr.drewN nq).cell? ⟨b', off' + j, none⟩ = some (.int .i64 y) := c1
      have HB2 := Lib.hid (below_drewN HB.out nq)
      clear c0 c1
      generalize wr.drewN nq = wd at *
      go_quiet (first | (go_at_call 120; exact Calls.quiet_of_same (HS.out _)))
      go_wp2_with fail
      go_ret
      exact ⟨rfl, below_drewN HB2.out _⟩

set_option maxRecDepth 100000 in
set_option maxHeartbeats 2000000 in
theorem spec_PaneCmp (x : PaneD) (h : PaneH) (f : List Nat) (y : PaneD) (k : PaneH) (g : List Nat) (w : World) (hx : Pane.Is w x h f) (hy : Pane.Is w y k g) (zx : Pane.sz x ≤ 2000000) (zy : Pane.sz y ≤ 2000000) :
    Calls Try.prog 87 #[.agg (Pane.list x h).toArray, .agg (Pane.list y k).toArray] w fun e w' => e = .returned (.int .i64 (paneC x y)) ∧ Below w.heap.size w w' := by
  obtain ⟨r, hr⟩ : ∃ r, paneC x y = r := ⟨_, rfl⟩
  rw [hr]
  unfold paneC at hr
  obtain ⟨f0, rfl, r0, u0, v0⟩ := hx
  obtain ⟨g0, rfl, r1, u1, v1⟩ := hy
  unfold Pane.sz at zx zy
  have zx' : h.keyl ≤ 2000000 := by rw [← r0.1]; exact zx
  have zy' : k.keyl ≤ 2000000 := by rw [← r1.1]; exact zy
  have HX := Lib.hid r0
  have HY := Lib.hid r1
  have ZX := Lib.hid zx'
  have ZY := Lib.hid zy'
  clear r0 r1 u0 v0 u1 v1 zx zy zx' zy'
  simp only [Pane.list]
  by_cases h1 : x.win = y.win
  case neg =>
    rw [if_pos (fun e => h1 (sgn_zero.1 e))] at hr
    have HR := Lib.hid hr
    clear hr
    have h1' : (x.win != y.win) = true := by simp [h1]
    go_enter Try.func87, Try.ntmps87
    go_wp2_with (go_at_call 120; refine (l04Sign _ _ _).mono ?_; rintro e w' ⟨rfl, rfl⟩; rw [HR.out])
    go_ret
    exact ⟨rfl, by repeat (first | exact Below.refl _ _ | refine Below.setCell ?_ (by first | omega | (simp; done) | (simp; omega)) _ | refine Below.alloc ?_ (by first | omega | (simp; done) | (simp; omega)) _ | apply Below.drew)⟩
  rw [if_neg (fun e => e (sgn_eq h1))] at hr
  have h1' : (x.win != y.win) = false := by simp [h1]
  clear h1
  by_cases h2 : x.mask = y.mask
  case neg =>
    rw [if_pos (fun e => h2 (sgn_zero.1 e))] at hr
    have HR := Lib.hid hr
    clear hr
    have h2' : (x.mask != y.mask) = true := by simp [h2]
    go_enter Try.func87, Try.ntmps87
    go_wp2_with (go_at_call 120; refine (l04Sign _ _ _).mono ?_; rintro e w' ⟨rfl, rfl⟩; rw [HR.out])
    go_ret
    exact ⟨rfl, by repeat (first | exact Below.refl _ _ | refine Below.setCell ?_ (by first | omega | (simp; done) | (simp; omega)) _ | refine Below.alloc ?_ (by first | omega | (simp; done) | (simp; omega)) _ | apply Below.drew)⟩
  rw [if_neg (fun e => e (sgn_eq h2))] at hr
  have h2' : (x.mask != y.mask) = false := by simp [h2]
  clear h2
  by_cases h3 : x.start = y.start
  case neg =>
    rw [if_pos (fun e => h3 (sgn_zero.1 e))] at hr
    have HR := Lib.hid hr
    clear hr
    have h3' : (x.start != y.start) = true := by simp [h3]
    go_enter Try.func87, Try.ntmps87
    go_wp2_with (go_at_call 120; refine (l04Sign _ _ _).mono ?_; rintro e w' ⟨rfl, rfl⟩; rw [HR.out])
    go_ret
    exact ⟨rfl, by repeat (first | exact Below.refl _ _ | refine Below.setCell ?_ (by first | omega | (simp; done) | (simp; omega)) _ | refine Below.alloc ?_ (by first | omega | (simp; done) | (simp; omega)) _ | apply Below.drew)⟩
  rw [if_neg (fun e => e (sgn_eq h3))] at hr
  have h3' : (x.start != y.start) = false := by simp [h3]
  have HR := Lib.hid hr
  clear h3 hr
  go_enter Try.func87, Try.ntmps87
  go_wp2_with fail
  refine calls_gen (fun V => Below w.heap.size w V) (by repeat (first | exact Below.refl _ _ | refine Below.setCell ?_ (by first | omega | (simp; done) | (simp; omega)) _ | refine Below.alloc ?_ (by first | omega | (simp; done) | (simp; omega)) _ | apply Below.drew)) ?_
  intro V b
  refine (l04Lists _ _ _ _ _ _ _ _ _ _ _ ZX.out ZY.out (HX.out.below local_int b) (HY.out.below local_int b)).mono ?_
  rintro e w' ⟨rfl, b2⟩
  have B := Lib.hid (b.trans (b2.mono b.size))
  clear b b2
  go_wp2_with fail
  go_ret
  exact ⟨ret_int HR.out, B.out⟩
end Go.Proofs.Ytoglclmaacjdaaa.dat
