/-
  THE CONTRACTS OF slices.Index, slices.Contains, allDiffer AND allOf, over windows and over numbers: what each call answers; nothing that was there is written.
  Condition: at most 2,000,000 elements.
-/
import Derived.Test.YtoglclmaacjdaaaWinRows
import Derived.Test.YtoglclmaacjdaaaBlk
namespace Go.Proofs.Ytoglclmaacjdaaa.win
open Go.RowKit

theorem mem_take_succ {α : Type} [DecidableEq α] {l : List α} {d : α} {j : Nat} (h : j < l.length) (v : α) : v ∈ l.take (j + 1) ↔ v ∈ l.take j ∨ l.getD j d = v := by
  rw [List.take_add_one, List.getElem?_eq_getElem h, List.mem_append, List.getD_eq_getElem?_getD, List.getElem?_eq_getElem h]
  simp [eq_comm]
theorem mem_of_getD {α : Type} {l : List α} {d : α} {j : Nat} (h : j < l.length) {v : α} (e : l.getD j d = v) : v ∈ l := by
  rw [List.getD_eq_getElem?_getD, List.getElem?_eq_getElem h] at e
  simp at e
  rw [← e]; exact List.getElem_mem h
theorem nodup_take_succ {α : Type} [DecidableEq α] {l : List α} {d : α} {j : Nat} (h : j < l.length) : (l.take (j + 1)).Nodup ↔ (l.take j).Nodup ∧ l.getD j d ∉ l.take j := by
  rw [List.take_add_one, List.getElem?_eq_getElem h, List.getD_eq_getElem?_getD, List.getElem?_eq_getElem h]
  simp only [Option.toList_some, Option.getD_some]
  rw [List.nodup_append]
  simp only [List.nodup_cons, List.not_mem_nil, not_false_eq_true, List.nodup_nil, and_self, List.mem_cons, or_false, true_and]
  constructor
  · rintro ⟨h1, h2⟩
    exact ⟨h1, fun hm => h2 _ hm _ rfl rfl⟩
  · rintro ⟨h1, h2⟩
    exact ⟨h1, fun x hx y hy e => h2 (by rw [← hy, ← e]; exact hx)⟩
theorem nodup_of_take {α : Type} {l : List α} {j : Nat} (h : ¬ (l.take j).Nodup) : ¬ l.Nodup := fun hn => h (hn.sublist (List.take_sublist _ _))

theorem all_no {α : Type} {l : List α} {d : α} {p : α → Bool} {j : Nat} (h : j < l.length) (e : p (l.getD j d) = false) : l.all p = false := by
  rw [List.all_eq_false]
  exact ⟨l.getD j d, mem_of_getD h rfl, by rw [e]; simp⟩
theorem all_take_succ {α : Type} {l : List α} {d : α} {p : α → Bool} {j : Nat} (h : j < l.length) (ha : (l.take j).all p = true) (e : p (l.getD j d) = true) : (l.take (j + 1)).all p = true := by
  rw [List.getD_eq_getElem?_getD, List.getElem?_eq_getElem h] at e
  rw [List.take_add_one, List.getElem?_eq_getElem h, List.all_append, ha]
  simpa using e

theorem Row.take {w : World} {a : Option Addr} {len : Nat} {l : List Int} (h : Row w a len l) {j : Nat} (hj : j ≤ len) : Row w a j (l.take j) := by
  refine ⟨by rw [List.length_take, h.1]; omega, fun h0 => ?_⟩
  obtain ⟨b, off, e, hb, hc⟩ := h.2 (by omega)
  refine ⟨b, off, e, hb, fun i hi => ?_⟩
  rw [hc i (by omega), List.getD_eq_getElem?_getD, List.getD_eq_getElem?_getD, List.getElem?_take, if_pos hi]
theorem WRow.take {w : World} {a : Option Addr} {len : Nat} {l : List (Int × Int)} (h : WRow w a len l) {j : Nat} (hj : j ≤ len) : WRow w a j (l.take j) := by
  refine ⟨by rw [List.length_take, h.1]; omega, fun h0 => ?_⟩
  obtain ⟨b, off, e, hb, hc⟩ := h.2 (by omega)
  refine ⟨b, off, e, hb, fun i hi => ?_⟩
  rw [List.getD_eq_getElem?_getD, List.getElem?_take, if_pos hi, ← List.getD_eq_getElem?_getD]
  exact hc i (by omega)

/-- An index, or -1. -/
def Found (t : Bool) (w : World) (e : Ending) (w' : World) : Prop := ∃ i : Int, e = .returned (.int .i64 i) ∧ decide (0 ≤ i) = t ∧ Below w.heap.size w w'

set_option maxHeartbeats 400000 in
theorem indexInt (a : Option Addr) (len cap : Nat) (l : List Int) (v : Int) (w : World) (hmax : len ≤ 2000000) (hrow : Row w a len l) :
    Calls Try.prog 218 #[.slice a len cap, .int .i64 v] w (Found (decide (v ∈ l)) w) := by
  have HC := Lib.hid hrow.2
  have HL := Lib.hid hrow.1
  clear hrow
  go_enter Try.func218, Try.ntmps218
  go_wp2_with fail
  go_loopg [8] len (fun k i wr => ∃ j : Nat, j + k = len ∧ i = .int .i64 j ∧ Below w.heap.size w wr ∧ v ∉ l.take j)
  case atStart => exact ⟨0, by omega, rfl, Below.refl _ _, by simp⟩
  case round =>
    obtain ⟨j, hj, rfl, hb, hno⟩ := hrel
    have HB := Lib.hid hb
    have HN := Lib.hid hno
    clear hno
    by_cases hlt : j < len
    · obtain ⟨b, off, rfl, hbl, hc⟩ := HC.out (by omega)
      obtain ⟨x, hx⟩ : ∃ x, l.getD j 0 = x := ⟨_, rfl⟩
      have hcell : wr.cell? ⟨b, off + j, none⟩ = some (.int .i64 x) := by
        rw [hb.cell (p := ⟨b, off + j, none⟩) hbl, ← hx]
        exact hc j hlt
      have hlt2 : (j : Int) < (len : Int) := by omega
      have h02 : (0 : Int) ≤ (j : Int) := by omega
      have HX := Lib.hid hx
      clear hb hx hc HC
      by_cases hv : v = x
      · have hv' : (v == x) = true := by simp [hv]
        have hm : v ∈ l := mem_of_getD (d := 0) (by rw [HL.out]; omega) (HX.out.trans hv.symm)
        have HM := Lib.hid hm
        clear hv hm
        go_wp2_with fail
        go_ret
        exact ⟨_, rfl, by simp [HM.out], HB.out⟩
      · have hv' : (v == x) = false := by simp [hv]
        have HV := Lib.hid hv
        clear hv
        go_wp2_with fail
        go_roundg (len - (j + 1))
        case measure => omega
        case rel =>
          refine ⟨j + 1, by omega, by go_num, HB.out, ?_⟩
          rw [mem_take_succ (d := 0) (by rw [HL.out]; omega)]
          rintro (h | h)
          · exact HN.out h
          · exact HV.out (h.symm.trans HX.out)
    · clear hb
      obtain rfl : j = len := by omega
      go_wp2_with fail
      go_ret
      have : v ∉ l := by have := HN.out; rwa [List.take_of_length_le (by rw [HL.out]; omega)] at this
      exact ⟨_, rfl, by simp [this], HB.out⟩

set_option maxHeartbeats 400000 in
theorem containsInt (a : Option Addr) (len cap : Nat) (l : List Int) (v : Int) (w : World) (hmax : len ≤ 2000000) (hrow : Row w a len l) :
    Calls Try.prog 209 #[.slice a len cap, .int .i64 v] w fun e w' => e = .returned (.bool (decide (v ∈ l))) ∧ Below w.heap.size w w' := by
  go_enter Try.func209, Try.ntmps209
  go_wp2_with fail
  refine (indexInt _ _ _ l _ _ hmax hrow).mono ?_
  rintro e w' ⟨i, rfl, hi, hb⟩
  go_wp2_with fail
  go_ret
  exact ⟨rfl, hb⟩

set_option maxHeartbeats 400000 in
theorem differInt (a : Option Addr) (len cap : Nat) (l : List Int) (w : World) (hmax : len ≤ 2000000) (hcap : len ≤ cap) (hrow : Row w a len l) :
    Calls Try.prog 189 #[.slice a len cap] w fun e w' => e = .returned (.bool (decide l.Nodup)) ∧ Below w.heap.size w w' := by
  have HR := Lib.hid hrow
  clear hrow
  go_enter Try.func189, Try.ntmps189
  go_wp2_with fail
  go_loopg [7] len (fun k i wr => ∃ j : Nat, j + k = len ∧ i = .int .i64 j ∧ Below w.heap.size w wr ∧ (l.take j).Nodup)
  case atStart => exact ⟨0, by omega, rfl, Below.refl _ _, by simp⟩
  case round =>
    obtain ⟨j, hj, rfl, hb, hno⟩ := hrel
    have HB := Lib.hid hb
    have HN := Lib.hid hno
    clear hno
    by_cases hlt : j < len
    · obtain ⟨b, off, rfl, hbl, hc⟩ := HR.out.2 (by omega)
      obtain ⟨x, hx⟩ : ∃ x, l.getD j 0 = x := ⟨_, rfl⟩
      have hcell : wr.cell? ⟨b, off + j, none⟩ = some (.int .i64 x) := by
        rw [hb.cell (p := ⟨b, off + j, none⟩) hbl, ← hx]
        exact hc j hlt
      have hlt2 : (j : Int) < (len : Int) := by omega
      have h02 : (0 : Int) ≤ (j : Int) := by omega
      have hjc : (j : Int) ≤ (cap : Int) := by omega
      have HX := Lib.hid hx
      clear hb hx hc
      go_wp2_with fail
      refine (containsInt _ _ _ (l.take j) _ _ (by omega) ((HR.out.below HB.out).take (by omega))).mono ?_
      rintro e w3 ⟨rfl, hb3⟩
      have HB3 := Lib.hid (HB.out.trans (hb3.mono HB.out.size))
      clear hb3
      by_cases hm : x ∈ l.take j
      · have hd : decide (x ∈ l.take j) = true := by simp [hm]
        have hn : ¬ l.Nodup := by
          refine nodup_of_take (j := j + 1) ?_
          rw [nodup_take_succ (d := 0) (by rw [HR.out.1]; omega), HX.out]
          exact fun h => h.2 hm
        have HM := Lib.hid hn
        clear hm hn
        go_wp2_with fail
        go_ret
        exact ⟨ret_bool (by simp [HM.out]), HB3.out⟩
      · have hd : decide (x ∈ l.take j) = false := by simp [hm]
        have hn : (l.take (j + 1)).Nodup := by
          rw [nodup_take_succ (d := 0) (by rw [HR.out.1]; omega), HX.out]
          exact ⟨HN.out, hm⟩
        have HM := Lib.hid hn
        clear hm hn
        go_wp2_with fail
        go_roundg (len - (j + 1))
        case measure => omega
        case rel => exact ⟨j + 1, by omega, by go_num, HB3.out, HM.out⟩
    · clear hb
      obtain rfl : j = len := by omega
      go_wp2_with fail
      go_ret
      have : l.Nodup := by have := HN.out; rwa [List.take_of_length_le (by rw [HR.out.1]; omega)] at this
      exact ⟨ret_bool (by simp [this]), HB.out⟩

set_option maxRecDepth 100000 in
set_option maxHeartbeats 400000 in
theorem indexWin (a : Option Addr) (len cap : Nat) (l : List (Int × Int)) (v u : Int) (w : World) (hmax : len ≤ 2000000) (hrow : WRow w a len l) :
    Calls Try.prog 217 #[.slice a len cap, .agg #[.int .i64 v, .int .i64 u]] w (Found (decide ((v, u) ∈ l)) w) := by
  have HC := Lib.hid hrow.2
  have HL := Lib.hid hrow.1
  clear hrow
  go_enter Try.func217, Try.ntmps217
  go_wp2_with fail
  go_loopg [8] len (fun k i wr => ∃ j : Nat, j + k = len ∧ i = .int .i64 j ∧ Below w.heap.size w wr ∧ Blk wr w.heap.size 158 [.int .i64 v, .int .i64 u] ∧ (v, u) ∉ l.take j)
  case atStart => exact ⟨0, by omega, rfl, by repeat (first | exact Below.refl _ _ | refine Below.setCell ?_ (by first | omega | (simp; done) | (simp; omega)) _ | refine Below.alloc ?_ (by first | omega | (simp; done) | (simp; omega)) _ | apply Below.drew), by with_reducible (repeat (first | (refine blk_new_at _ _ _ _ ?_; first | rfl | (simp; done)) | refine Blk.alloc ?_ _ | apply Blk.drew | refine Blk.setOther ?_ (by first | (simp; done) | (simp; omega)) _)), by simp⟩
  case round =>
    obtain ⟨j, hj, rfl, hb, hk, hno⟩ := hrel
    have HB := Lib.hid hb
    have HN := Lib.hid hno
    have HK := Lib.hid hk
    have k0 := hk.cell 0
    have k1 := hk.cell 1
    simp at k0 k1
    clear hno hk
    by_cases hlt : j < len
    · obtain ⟨b, off, rfl, hbl, hc⟩ := HC.out (by omega)
      obtain ⟨x, hx⟩ : ∃ x, l.getD j (0, 0) = x := ⟨_, rfl⟩
      obtain ⟨z, s⟩ := x
      have hc0 := hc j hlt
      rw [hx] at hc0
      have hcell : wr.cell? ⟨b, off + j * 2, none⟩ = some (.int .i64 z) := (hb.cell (p := ⟨b, off + j * 2, none⟩) hbl).trans hc0.1
      have hcell1 : wr.cell? ⟨b, off + j * 2 + 1, none⟩ = some (.int .i64 s) := (hb.cell (p := ⟨b, off + j * 2 + 1, none⟩) hbl).trans hc0.2
      have hlt2 : (j : Int) < (len : Int) := by omega
      have h02 : (0 : Int) ≤ (j : Int) := by omega
      have HX := Lib.hid hx
      clear hb hx hc hc0 HC
      by_cases hv : v = z ∧ u = s
      · obtain ⟨rfl, rfl⟩ := hv
        have hm : (v, u) ∈ l := mem_of_getD (d := (0, 0)) (by rw [HL.out]; omega) HX.out
        have HM := Lib.hid hm
        clear hm
        go_wp2_with fail
        go_quiet (fail)
        go_wp2_with fail
        go_ret
        exact ⟨_, rfl, by simp [HM.out], below_drewN HB.out _⟩
      · have HV := Lib.hid hv
        clear hv
        by_cases e : v = z
        · subst e
          have hv' : (u == s) = false := by simp; exact fun e' => HV.out ⟨rfl, e'⟩
          go_wp2_with fail
          go_quiet (fail)
          go_wp2_with fail
          go_roundg (len - (j + 1))
          case measure => omega
          case rel =>
            refine ⟨j + 1, by omega, by go_num, below_drewN HB.out _, HK.out, ?_⟩
            rw [mem_take_succ (d := (0, 0)) (by rw [HL.out]; omega)]
            rintro (h | h)
            · exact HN.out h
            · rw [HX.out] at h
              cases h
              exact HV.out (by simp)
        · have hv' : (v == z) = false := by simp [e]
          clear e
          go_wp2_with fail
          go_quiet (fail)
          go_wp2_with fail
          go_roundg (len - (j + 1))
          case measure => omega
          case rel =>
            refine ⟨j + 1, by omega, by go_num, below_drewN HB.out _, HK.out, ?_⟩
            rw [mem_take_succ (d := (0, 0)) (by rw [HL.out]; omega)]
            rintro (h | h)
            · exact HN.out h
            · rw [HX.out] at h
              cases h
              exact HV.out (by simp)
    · clear hb
      obtain rfl : j = len := by omega
      go_wp2_with fail
      go_ret
      have : (v, u) ∉ l := by have := HN.out; rwa [List.take_of_length_le (by rw [HL.out]; omega)] at this
      exact ⟨_, rfl, by simp [this], HB.out⟩

set_option maxHeartbeats 400000 in
theorem containsWin (a : Option Addr) (len cap : Nat) (l : List (Int × Int)) (v u : Int) (w : World) (hmax : len ≤ 2000000) (hrow : WRow w a len l) :
    Calls Try.prog 208 #[.slice a len cap, .agg #[.int .i64 v, .int .i64 u]] w fun e w' => e = .returned (.bool (decide ((v, u) ∈ l))) ∧ Below w.heap.size w w' := by
  have HR := Lib.hid hrow
  clear hrow
  go_enter Try.func208, Try.ntmps208
  go_wp2_with fail
  refine calls_gen (fun W => Below w.heap.size w W) (by repeat (first | exact Below.refl _ _ | refine Below.setCell ?_ (by first | omega | (simp; done) | (simp; omega)) _ | refine Below.alloc ?_ (by first | omega | (simp; done) | (simp; omega)) _ | apply Below.drew)) ?_
  intro W1 b1
  refine (indexWin _ _ _ l _ _ _ hmax (HR.out.below b1)).mono ?_
  rintro e w' ⟨i, rfl, hi, hb⟩
  have B := Lib.hid (b1.trans (hb.mono b1.size))
  clear hb b1
  go_wp2_with fail
  go_ret
  exact ⟨rfl, B.out⟩

set_option maxRecDepth 100000 in
set_option maxHeartbeats 400000 in
theorem differWin (a : Option Addr) (len cap : Nat) (l : List (Int × Int)) (w : World) (hmax : len ≤ 2000000) (hcap : len ≤ cap) (hrow : WRow w a len l) :
    Calls Try.prog 186 #[.slice a len cap] w fun e w' => e = .returned (.bool (decide l.Nodup)) ∧ Below w.heap.size w w' := by
  have HR := Lib.hid hrow
  clear hrow
  go_enter Try.func186, Try.ntmps186
  go_wp2_with fail
  go_loopg [7] len (fun k i wr => ∃ j : Nat, j + k = len ∧ i = .int .i64 j ∧ Below w.heap.size w wr ∧ (l.take j).Nodup)
  case atStart => exact ⟨0, by omega, rfl, Below.refl _ _, by simp⟩
  case round =>
    obtain ⟨j, hj, rfl, hb, hno⟩ := hrel
    have HB := Lib.hid hb
    have HN := Lib.hid hno
    clear hno
    by_cases hlt : j < len
    · obtain ⟨b, off, rfl, hbl, hc⟩ := HR.out.2 (by omega)
      obtain ⟨x, hx⟩ : ∃ x, l.getD j (0, 0) = x := ⟨_, rfl⟩
      obtain ⟨z, s⟩ := x
      have hc0 := hc j hlt
      rw [hx] at hc0
      have hcell : wr.cell? ⟨b, off + j * 2, none⟩ = some (.int .i64 z) := (hb.cell (p := ⟨b, off + j * 2, none⟩) hbl).trans hc0.1
      have hcell1 : wr.cell? ⟨b, off + j * 2 + 1, none⟩ = some (.int .i64 s) := (hb.cell (p := ⟨b, off + j * 2 + 1, none⟩) hbl).trans hc0.2
      have hlt2 : (j : Int) < (len : Int) := by omega
      have h02 : (0 : Int) ≤ (j : Int) := by omega
      have hjc : (j : Int) ≤ (cap : Int) := by omega
      have HX := Lib.hid hx
      clear hb hx hc hc0
      go_wp2_with fail
      refine wp_gen (fun W => Below w.heap.size w W ∧ Blk W wr.heap.size 158 [.int .i64 z, .int .i64 s]) ⟨HB.out.alloc HB.out.size _, by with_reducible (repeat (first | (refine blk_new_at _ _ _ _ ?_; first | rfl | (simp; done)) | refine Blk.alloc ?_ _ | apply Blk.drew | refine Blk.setOther ?_ (by first | (simp; done) | (simp; omega)) _))⟩ ?_
      rintro W1 ⟨b1, k1⟩
      have m0 := k1.cell 0
      have m1 := k1.cell 1
      simp at m0 m1
      have B1 := Lib.hid b1
      clear b1 k1 hcell hcell1
      go_still_tail 4, (by kernel_rfl)
      change wpList _ _ _ _ _ W1.drew
      have B2 := Lib.hid B1.out.drew
      generalize W1.drew = W2 at *
      go_wp2_with fail
      refine (containsWin _ _ _ (l.take j) _ _ _ (by omega) ((HR.out.below B2.out).take (by omega))).mono ?_
      rintro e w3 ⟨rfl, hb3⟩
      have HB3 := Lib.hid (B2.out.trans (hb3.mono B2.out.size))
      clear hb3 m0 m1
      by_cases hm : (z, s) ∈ l.take j
      · have hd : decide ((z, s) ∈ l.take j) = true := by simp [hm]
        have hn : ¬ l.Nodup := by
          refine nodup_of_take (j := j + 1) ?_
          rw [nodup_take_succ (d := (0, 0)) (by rw [HR.out.1]; omega), HX.out]
          exact fun h => h.2 hm
        have HM := Lib.hid hn
        clear hm hn
        go_wp2_with fail
        go_ret
        exact ⟨ret_bool (by simp [HM.out]), HB3.out⟩
      · have hd : decide ((z, s) ∈ l.take j) = false := by simp [hm]
        have hn : (l.take (j + 1)).Nodup := by
          rw [nodup_take_succ (d := (0, 0)) (by rw [HR.out.1]; omega), HX.out]
          exact ⟨HN.out, hm⟩
        have HM := Lib.hid hn
        clear hm hn
        go_wp2_with fail
        go_roundg (len - (j + 1))
        case measure => omega
        case rel => exact ⟨j + 1, by omega, by go_num, HB3.out, HM.out⟩
    · clear hb
      obtain rfl : j = len := by omega
      go_wp2_with fail
      go_ret
      have : l.Nodup := by have := HN.out; rwa [List.take_of_length_le (by rw [HR.out.1]; omega)] at this
      exact ⟨ret_bool (by simp [this]), HB.out⟩

set_option maxHeartbeats 400000 in
theorem allWin (a : Option Addr) (len cap : Nat) (l : List (Int × Int)) (w : World) (hmax : len ≤ 2000000) (hrow : WRow w a len l) :
    Calls Try.prog 184 #[.slice a len cap, .func (.func 185) #[] #[]] w fun e w' => e = .returned (.bool (l.all fun x => winB x.1 x.2)) ∧ Below w.heap.size w w' := by
  have HR := Lib.hid hrow
  clear hrow
  go_enter Try.func184, Try.ntmps184
  go_wp2_with fail
  go_loopg [9] len (fun k i wr => ∃ j : Nat, j + k = len ∧ i = .int .i64 j ∧ Below w.heap.size w wr ∧ (l.take j).all (fun x => winB x.1 x.2) = true)
  case atStart => exact ⟨0, by omega, rfl, Below.refl _ _, by simp⟩
  case round =>
    obtain ⟨j, hj, rfl, hb, hno⟩ := hrel
    have HB := Lib.hid hb
    have HN := Lib.hid hno
    clear hno
    by_cases hlt : j < len
    · obtain ⟨b, off, rfl, hbl, hc⟩ := HR.out.2 (by omega)
      obtain ⟨x, hx⟩ : ∃ x, l.getD j (0, 0) = x := ⟨_, rfl⟩
      obtain ⟨z, s⟩ := x
      have hc0 := hc j hlt
      rw [hx] at hc0
      have hcell : wr.cell? ⟨b, off + j * 2, none⟩ = some (.int .i64 z) := (hb.cell (p := ⟨b, off + j * 2, none⟩) hbl).trans hc0.1
      have hcell1 : wr.cell? ⟨b, off + j * 2 + 1, none⟩ = some (.int .i64 s) := (hb.cell (p := ⟨b, off + j * 2 + 1, none⟩) hbl).trans hc0.2
      have hlt2 : (j : Int) < (len : Int) := by omega
      have h02 : (0 : Int) ≤ (j : Int) := by omega
      have HX := Lib.hid hx
      clear hb hx hc hc0
      go_wp2_with fail
      refine (impl_WinOk _ _ _).mono ?_
      rintro e w3 ⟨rfl, rfl⟩
      have HB3 := Lib.hid (show Below w.heap.size w _ from (HB.out.alloc HB.out.size (.cells #[.int .i64 z, .int .i64 s] 158)).alloc (by simp; have := HB.out.size; omega) (.cells #[.int .i64 z, .int .i64 s] 158))
      cases hp : winB z s with
      | false =>
        have HP := Lib.hid (all_no (p := fun x => winB x.1 x.2) (d := (0, 0)) (show j < l.length by rw [HR.out.1]; omega) (by rw [HX.out]; exact hp))
        clear hp
        go_wp2_with fail
        go_ret
        exact ⟨ret_bool HP.out.symm, HB3.out⟩
      | true =>
        have HP := Lib.hid (all_take_succ (p := fun x => winB x.1 x.2) (d := (0, 0)) (show j < l.length by rw [HR.out.1]; omega) HN.out (by rw [HX.out]; exact hp))
        clear hp
        go_wp2_with fail
        go_roundg (len - (j + 1))
        case measure => omega
        case rel => exact ⟨j + 1, by omega, by go_num, HB3.out, HP.out⟩
    · clear hb
      obtain rfl : j = len := by omega
      go_wp2_with fail
      go_ret
      have := HN.out
      rw [List.take_of_length_le (by rw [HR.out.1]; omega)] at this
      exact ⟨ret_bool this.symm, HB.out⟩

def dimB (n : Int) : Bool := upB n 99
theorem dimOk' (n : Int) (w : World) : Calls Try.prog 193 #[.int .i64 n] w fun e w' => e = .returned (.bool (dimB n)) ∧ Below w.heap.size w w' :=
  (dimOk n w).mono fun _ _ ⟨h, e⟩ => ⟨h, e ▸ Below.refl _ _⟩

set_option maxHeartbeats 400000 in
theorem allDims (a : Option Addr) (len cap : Nat) (l : List Int) (w : World) (hmax : len ≤ 2000000) (hrow : Row w a len l) :
    Calls Try.prog 187 #[.slice a len cap, .func (.func 193) #[] #[]] w fun e w' => e = .returned (.bool (l.all dimB)) ∧ Below w.heap.size w w' := by
  have HR := Lib.hid hrow
  clear hrow
  go_enter Try.func187, Try.ntmps187
  go_wp2_with fail
  go_loopg [9] len (fun k i wr => ∃ j : Nat, j + k = len ∧ i = .int .i64 j ∧ Below w.heap.size w wr ∧ (l.take j).all dimB = true)
  case atStart => exact ⟨0, by omega, rfl, Below.refl _ _, by simp⟩
  case round =>
    obtain ⟨j, hj, rfl, hb, hno⟩ := hrel
    have HB := Lib.hid hb
    have HN := Lib.hid hno
    clear hno
    by_cases hlt : j < len
    · obtain ⟨b, off, rfl, hbl, hc⟩ := HR.out.2 (by omega)
      obtain ⟨x, hx⟩ : ∃ x, l.getD j 0 = x := ⟨_, rfl⟩
      have hcell : wr.cell? ⟨b, off + j, none⟩ = some (.int .i64 x) := by
        rw [hb.cell (p := ⟨b, off + j, none⟩) hbl, ← hx]
        exact hc j hlt
      have hlt2 : (j : Int) < (len : Int) := by omega
      have h02 : (0 : Int) ≤ (j : Int) := by omega
      have HX := Lib.hid hx
      clear hb hx hc
      go_wp2_with fail
      refine (dimOk' _ _).mono ?_
      rintro e w3 ⟨rfl, hb3⟩
      have HB3 := Lib.hid (show Below w.heap.size w w3 from HB.out.trans (hb3.mono HB.out.size))
      clear hb3
      cases hp : dimB x with
      | false =>
        have HP := Lib.hid (all_no (p := dimB) (d := 0) (show j < l.length by rw [HR.out.1]; omega) (by rw [HX.out]; exact hp))
        clear hp
        go_wp2_with fail
        go_ret
        exact ⟨ret_bool HP.out.symm, HB3.out⟩
      | true =>
        have HP := Lib.hid (all_take_succ (p := dimB) (d := 0) (show j < l.length by rw [HR.out.1]; omega) HN.out (by rw [HX.out]; exact hp))
        clear hp
        go_wp2_with fail
        go_roundg (len - (j + 1))
        case measure => omega
        case rel => exact ⟨j + 1, by omega, by go_num, HB3.out, HP.out⟩
    · clear hb
      obtain rfl : j = len := by omega
      go_wp2_with fail
      go_ret
      have := HN.out
      rw [List.take_of_length_le (by rw [HR.out.1]; omega)] at this
      exact ⟨ret_bool this.symm, HB.out⟩
end Go.Proofs.Ytoglclmaacjdaaa.win
