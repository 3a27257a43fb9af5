/-
  THE CONTRACT OF eventNums of the program: the numbers behind the first word.
-/
import Derived.Test.YtdipkbgfkbmfnaaDoorItems
import Derived.Test.YtdipkbgfkbmfnaaDoorBridge
namespace Go.Proofs.YtdipkbgfkbmfnaaDoor.dat
open Go.RowKit Go.Proofs.YtdipkbgfkbmfnaaDoor.win
open Go.Proofs.YtdipkbgfkbmfnaaDoor.num (Env Env.next numA numA_some numRead_any words words_ne str)

/-- The numbers behind the word 'e' of the first seven words. -/
def evNo (L : List (List UInt8)) : Option (List Int) := match L with
  | x :: ws => if x = [101] then ws.mapM numA else none
  | [] => none
theorem evNo_cons (x : List UInt8) (ws : List (List UInt8)) : evNo (x :: ws) = if x = [101] then ws.mapM numA else none := rfl
def NumsI (L : List (List UInt8)) (w : World) (r : Ending) (w' : World) : Prop :=
  ∃ (a : Option Addr) (n c : Nat) (fp : List Nat), r = .returned (.tuple #[.slice a n c, .bool (evNo L).isSome]) ∧ GRow 1 RInt w' a n ((evNo L).getD []) fp ∧ n ≤ c ∧ c ≤ 9223372036854775807 ∧ (∀ b ∈ fp, w.heap.size ≤ b) ∧ Below w.heap.size w w'
theorem numsI_none {L : List (List UInt8)} {w w' : World} (h : evNo L = none) (hb : Below w.heap.size w w') : NumsI L w (.returned (.tuple #[.slice none 0 0, .bool false])) w' := by
  unfold NumsI
  rw [h]
  exact ⟨none, 0, 0, [], rfl, GRow.nil, Nat.le_refl _, Nat.zero_le _, by simp, hb⟩
theorem numA_e : numA [101] = none := by
  cases h : numA [101] with
  | none => rfl
  | some v =>
    have := numA_some h
    rcases num.itoa_cases v with ⟨_, e⟩ | ⟨_, e⟩
    · rw [e] at this; cases this
    · rw [e] at this
      have := num.digits_mem v.natAbs 101 (by rw [this]; simp)
      simp at this
theorem mapM_take_succ {ws : List (List UInt8)} {j : Nat} {x : List UInt8} {ns : List Int} {n : Int} (hx : ws[j]? = some x) (h : (ws.take j).mapM numA = some ns) (hn : numA x = some n) : (ws.take (j + 1)).mapM numA = some (ns ++ [n]) := by
  rw [List.take_add_one, hx, Option.toList_some, List.mapM_append, h]
  simp [hn]
theorem mapM_none {ws : List (List UInt8)} {j : Nat} {x : List UInt8} (hx : ws[j]? = some x) (hn : numA x = none) : ws.mapM numA = none := by
  induction ws generalizing j with
  | nil => simp at hx
  | cons y r ih =>
    cases j with
    | zero =>
      simp at hx
      subst hx
      simp [List.mapM_cons, hn]
    | succ j =>
      have := ih (j := j) (by simpa using hx)
      rw [List.mapM_cons, this]
      cases numA y <;> rfl
theorem mapM_len {ws : List (List UInt8)} {ns : List Int} (h : ws.mapM numA = some ns) : ns.length = ws.length := by
  induction ws generalizing ns with
  | nil => simp at h; subst h; rfl
  | cons y r ih =>
    rw [List.mapM_cons] at h
    cases h1 : numA y with
    | none => rw [h1] at h; simp at h
    | some v =>
      cases h2 : r.mapM numA with
      | none => rw [h1, h2] at h; simp at h
      | some q =>
        rw [h1, h2] at h
        simp at h
        subst h
        simp [ih h2]

theorem as_int_int (v : Value) (w : World) : (Instr.typeAssert (.iface 3 v) 20 3 true).run Tryd.prog w = .ok (.tuple #[v, .bool true]) w := by kernel_rfl
theorem as_int_str (v : Value) (w : World) : (Instr.typeAssert (.iface 3 v) 20 9 true).run Tryd.prog w = .ok (.tuple #[.string ByteArray.empty, .bool false]) w := by kernel_rfl
theorem as_str_str (v : Value) (w : World) : (Instr.typeAssert (.iface 9 v) 20 9 true).run Tryd.prog w = .ok (.tuple #[v, .bool true]) w := by kernel_rfl
theorem as_str_int (v : Value) (w : World) : (Instr.typeAssert (.iface 9 v) 20 3 true).run Tryd.prog w = .ok (.tuple #[.int .i64 0, .bool false]) w := by kernel_rfl

set_option maxRecDepth 100000 in
set_option maxHeartbeats 4000000 in
theorem eventNums (s : ByteArray) (w : World) (hs : s.size ≤ 2000000) (hE : Env w) : Calls Tryd.prog 37 #[.string s] w (NumsI ((words s.data.toList).take 7) w) := by
  have HE := Lib.hid hE
  clear hE
  obtain ⟨i0, hi, hz0, hz1, hz2⟩ := (show ∃ i, Tryd.prog.info? 3 = some i ∧ i.zero = some (.int .i64 0) ∧ i.size = 1 ∧ i.bytes = 8 from by
    obtain ⟨i, hi, h⟩ := Option.map_eq_some_iff.1 info_int
    simp only [Prod.mk.injEq] at h
    exact ⟨i, hi, h.1, h.2.1, h.2.2⟩)
  have as1 := as_int_int
  have as2 := as_int_str
  have as3 := as_str_str
  have as4 := as_str_int
  have hni := itemsOf s w hs HE.out
  unfold Itemed at hni
  have hne : (words s.data.toList).take 7 ≠ [] := by
    have := words_ne s.data.toList
    cases h : words s.data.toList with
    | nil => exact absurd h this
    | cons x r => simp
  have hlen7 : ((words s.data.toList).take 7).length ≤ 7 := by simp; omega
  obtain ⟨L, hL⟩ : ∃ L, (words s.data.toList).take 7 = L := ⟨_, rfl⟩
  rw [hL] at hni hne hlen7 ⊢
  have HI := Lib.hid hni
  clear hni hL
  obtain ⟨x, ws, rfl⟩ : ∃ x ws, L = x :: ws := by
    cases L with
    | nil => exact absurd rfl hne
    | cons x ws => exact ⟨x, ws, rfl⟩
  clear hne
  go_enter Tryd.func37, Tryd.ntmps37
  go_wp2_with fail
  refine HI.out.mono ?_
  rintro e W1 ⟨a, cp, fp, rfl, hrow, hle, hmx, b1⟩
  have B1 := Lib.hid b1
  have HR := Lib.hid hrow
  obtain ⟨n, hn⟩ : ∃ n, (x :: ws).length = n := ⟨_, rfl⟩
  have HNL := Lib.hid hn
  rw [hn] at hle hlen7 hrow ⊢
  have hn1 : 0 < n := by rw [← hn]; simp
  obtain ⟨b, off, x', f', cs, rfl, hbl, hx', hcl, hR, hc⟩ := hrow.at (j := 0) hn1
  obtain ⟨rfl, rfl⟩ := hR
  obtain rfl : x = x' := by simpa using hx'
  have c0 : W1.cell? ⟨b, off, none⟩ = some (itemV x) := by have := hc 0 (by omega); simpa using this
  have hn1i : (0 : Int) < (n : Int) := by omega
  have hnz : ¬ n = 0 := by omega
  clear b1 hc hx' hcl hrow hn
  cases hnum : numA x with
  | some v =>
    have hv : itemV x = .iface 3 (.int .i64 v) := by unfold itemV; rw [hnum]
    have HN := Lib.hid (show evNo (x :: ws) = none by
      rw [evNo_cons, if_neg (fun e => by rw [e, numA_e] at hnum; cases hnum)])
    rw [hv] at c0
    clear hv hnum
    go_wp2_with fail
    go_ret2
    exact numsI_none HN.out B1.out
  | none =>
  have hv : itemV x = .iface 9 (.string (str x)) := by unfold itemV; rw [hnum]
  rw [hv] at c0
  clear hv hnum
  by_cases he : x = [101]
  case neg =>
    have hne : ((str x).toList == [101]) = false := by
      rw [ByteArray.toList_eq, beq_eq_false_iff_ne]
      simpa [str] using he
    have HN := Lib.hid (show evNo (x :: ws) = none by rw [evNo_cons, if_neg he])
    go_wp2_with fail
    go_ret2
    exact numsI_none HN.out B1.out
  have hne : ((str x).toList == [101]) = true := by
    rw [ByteArray.toList_eq]
    simp [str, he]
  have HEV := Lib.hid (show evNo (x :: ws) = ws.mapM numA by rw [evNo_cons, if_pos he])
  clear he
  obtain ⟨m, hm⟩ : ∃ m, m + 1 = n := ⟨n - 1, by omega⟩
  have HM := Lib.hid hm
  have m1 : (n : Int) - 1 = (m : Int) := by omega
  have mw : IntKind.i64.wrap (m : Int) = (m : Int) := by rw [IntKind.wrap_i64]; omega
  have m2 : m ≤ 100000 := by omega
  have hnm : n - 1 = m := by omega
  have n1 : 1 ≤ n := by omega
  have n1i : (1 : Int) ≤ (n : Int) := by omega
  have n2i : (n : Int) ≤ (cp : Int) := by omega
  have hmk := fun w => run_make0 m m2 w
  clear hm
  by_cases hcp : cp = 1
  case pos =>
    obtain rfl : n = 1 := by omega
    obtain rfl : m = 0 := by have := HM.out; omega
    subst hcp
    have hws : ws = [] := by have h1 := HNL.out; simp at h1; exact h1
    have HD : Hid (∀ W, Below w.heap.size w W → NumsI (x :: ws) w (.returned (.tuple #[.slice (some ⟨W1.heap.size, 0, none⟩) 0 0, .bool true])) W) := fun W hb => by
      unfold NumsI
      rw [HEV.out, hws]
      exact ⟨_, 0, 0, [], rfl, GRow.nil, Nat.le_refl _, Nat.zero_le _, by simp, hb⟩
    clear hws
    have hmk0 : ∀ w, (Instr.makeSlice 23 (.int .i64 0) (.int .i64 0)).run Tryd.prog w = .ok (.slice (some ⟨w.heap.size, 0, none⟩) 0 0) (w.alloc (.cells (madeCells #[.int .i64 0] 0) 3)) := hmk
    clear hmk m1 mw
    go_wp2_with fail
    go_loopg [7, 34] 0 (fun k v i wr => i = .int .i64 0 ∧ v = .slice (some ⟨W1.heap.size, 0, none⟩) 0 0 ∧ Below w.heap.size w wr)
    case atStart => exact ⟨rfl, rfl, B1.out.alloc B1.out.size _⟩
    case round =>
      obtain ⟨rfl, rfl, hB⟩ := hrel
      have HB := Lib.hid hB
      clear hB
      go_wp2_with fail
      go_ret2
      exact HD.out _ HB.out
  have hcp1 : ¬ cp - 1 = 0 := by omega
  have hcp2 : 1 < cp := by omega
  have hcp3 : ¬ cp ≤ 1 := by omega
  go_wp2_with fail
  refine wp_gen (fun W => Below W1.heap.size W1 W ∧ Grows 1 RInt 3 W1.heap.size W (.slice (some ⟨W1.heap.size, 0, none⟩) 0 m) []) ⟨(Below.refl _ _).alloc (Nat.le_refl _) _, Grows.made _ _ (Nat.le_refl _) (by unfold maxLen; omega) (by simp [size_madeCells])⟩ ?_
  rintro W2 ⟨b2, g2⟩
  clear hmk c0 hne
  go_loopg [7, 34] m (fun k v i wr => ∃ (j : Nat) (ns : List Int), j + k = m ∧ i = .int .i64 j ∧ (ws.take j).mapM numA = some ns ∧ ns.length = j ∧ Below W1.heap.size W1 wr ∧ Grows 1 RInt 3 W1.heap.size wr v ns)
  case atStart => exact ⟨0, [], by omega, rfl, by simp, rfl, b2, g2⟩
  case round =>
    clear b2 g2
    obtain ⟨j, ns, hj, rfl, hmap, hnl, hB, hG⟩ := hrel
    have HB := Lib.hid hB
    have HG := Lib.hid hG
    have HMP := Lib.hid hmap
    have HNS := Lib.hid hnl
    by_cases hlt : j < m
    · obtain ⟨b', off', y, f'', cs', hab, hbl', hy, hcl', hRy, hcc⟩ := HR.out.at (j := j + 1) (by rw [HNL.out]; have := HM.out; omega)
      obtain ⟨rfl, rfl⟩ := hRy
      cases hab
      have hy' : ws[j]? = some y := by simpa using hy
      have c1 : wr.cell? ⟨b, off + 1 + j, none⟩ = some (itemV y) := by
        have := (hB.cell (p := ⟨b, off + (j + 1) * 1 + 0, none⟩) hbl).trans (hcc 0 (by omega))
        rw [show off + (j + 1) * 1 + 0 = off + 1 + j by omega] at this
        simpa using this
      have hlt2 : (j : Int) < (m : Int) := by omega
      have h02 : (0 : Int) ≤ (j : Int) := by omega
      have HY := Lib.hid hy'
      clear hB hG hmap hnl hcc hy hy' hcl'
      cases hnum : numA y with
      | none =>
        have hv : itemV y = .iface 9 (.string (str y)) := by unfold itemV; rw [hnum]
        rw [hv] at c1
        have HN := Lib.hid (show evNo (x :: ws) = none by rw [HEV.out]; exact mapM_none HY.out hnum)
        clear hv hnum
        go_wp2_with fail
        go_ret2
        exact numsI_none HN.out (B1.out.trans (HB.out.mono B1.out.size))
      | some nn =>
        have hv : itemV y = .iface 3 (.int .i64 nn) := by unfold itemV; rw [hnum]
        rw [hv] at c1
        have HMS := Lib.hid (mapM_take_succ HY.out HMP.out hnum)
        have hnl := HNS.out
        clear hv hnum
        go_wp2_with (at_builtin; refine push local_int rfl _ _ 23 rfl i0 (.int .i64 0) 8 Tryd.underlying23 hi hz0 hz1 hz2 rfl (by decide) rfl HG.out ((Below.refl _ _).alloc (Nat.le_refl _) _) wr.heap.size 1 rfl [.int .i64 nn] rfl (fun u hu => by simp at hu; subst hu; rfl) (fun j u hj => by have := cell_one_new wr (.int .i64 nn) 3 j u hj; rwa [Go.WideShapes.add_plain, Nat.zero_add] at this) nn [] ⟨rfl, rfl⟩ Own.nil (by omega) (by unfold maxLen; omega) HB.out.size ?_; intro v' w3 hG3 hb3)
        go_roundg (m - (j + 1))
        case measure => omega
        case rel => exact ⟨j + 1, ns ++ [nn], by omega, by go_num, HMS.out, by simp [HNS.out], (HB.out.alloc HB.out.size _).trans hb3, hG3⟩
    · have hws : ws.length ≤ j := by have h1 := HNL.out; have h2 := HM.out; simp at h1; omega
      rw [List.take_of_length_le hws] at HMP
      obtain ⟨a', cap', fp', hv', hrow', hc1, hc2, ho⟩ := hG.done
      have HD := Lib.hid (show NumsI (x :: ws) w (.returned (.tuple #[.slice a' ns.length cap', .bool true])) wr from by
        unfold NumsI
        rw [HEV.out, HMP.out]
        exact ⟨a', ns.length, cap', fp', rfl, hrow', hc1, hc2, fun b hb => Nat.le_trans B1.out.size (ho.2 b hb).1, B1.out.trans (HB.out.mono B1.out.size)⟩)
      subst hv'
      clear hB hG hmap hnl hrow' ho
      go_wp2_with fail
      go_ret2
      exact HD.out
end Go.Proofs.YtdipkbgfkbmfnaaDoor.dat
