/-
  THE DRAWS: the contracts of once, size, value and raw: each answers within its range, and writes nothing but the cursor and new memory.
  Condition: the cursor is one, and has been asked fewer than 2^39 times.
-/
import Derived.Test.YtoglclmaacjdaaaCur
namespace Go.Proofs.Ytoglclmaacjdaaa.cur
open Go.RowKit

/-- What once answers, and what it leaves. -/
def Onced (g : Nat) (a : Option Addr) (len cap m : Nat) (w : World) (e : Ending) (w' : World) : Prop :=
  ∃ t : Bool, e = .returned (.bool t) ∧ Curs g a len cap m w' ∧ Only g w w'

/-- What a draw of a number answers (it meets p), and what it leaves. -/
def Num (p : Int → Prop) (g : Nat) (a : Option Addr) (len cap m : Nat) (w : World) (e : Ending) (w' : World) : Prop :=
  ∃ r : Int, e = .returned (.int .i64 r) ∧ p r ∧ Curs g a len cap m w' ∧ Only g w w'

set_option maxRecDepth 100000 in
set_option maxHeartbeats 400000 in
theorem once_any (g : Nat) (a : Option Addr) (len cap m : Nat) (n : Int) (w : World) (hm : m ≤ 549755813888) (hc : Curs g a len cap m w) :
    Calls Try.prog 94 #[.pointer (some ⟨g, 0, none⟩), .int .i64 n] w (Onced g a len cap (m + 1) w) := by
  have H := Lib.hid hc
  clear hc
  go_enter Try.func94, Try.ntmps94
  go_wp2_with fail
  refine (pick_any g a len cap m _ _ (by omega) H.out).mono ?_
  rintro e w1 ⟨r, rfl, r0, r1, hc1, ho1⟩
  have H1 := Lib.hid hc1
  clear hc1
  go_wp2_with fail
  go_ret
  exact ⟨_, rfl, H1.out, ho1⟩



set_option maxRecDepth 100000 in
set_option maxHeartbeats 400000 in
theorem size_any (g : Nat) (a : Option Addr) (len cap m : Nat) (n : Int) (w : World) (hm : m ≤ 549755813888) (hn : 1 ≤ n) (hn' : n ≤ 2000000) (hc : Curs g a len cap m w) :
    Calls Try.prog 132 #[.pointer (some ⟨g, 0, none⟩), .int .i64 n] w (Num (fun r => 0 ≤ r ∧ r ≤ n) g a len cap (m + 1) w) := by
  have H := Lib.hid hc
  obtain ⟨pos, seed, h1, h2, h3, h4, h5, h6, c0, -, -, -, -⟩ := hc
  by_cases hk : n < 1 + (len : Int) / 8
  · go_enter Try.func132, Try.ntmps132
    go_wp2_with fail
    refine (pick_any g a len cap m _ _ (by omega) H.out).mono ?_
    rintro e w1 ⟨r, rfl, r0, r1, hc1, ho1⟩
    have H1 := Lib.hid hc1
    clear hc1
    go_wp2_with fail
    go_ret
    exact ⟨r, rfl, ⟨r0, by omega⟩, H1.out, ho1⟩
  · go_enter Try.func132, Try.ntmps132
    go_wp2_with fail
    refine (pick_any g a len cap m _ _ (by omega) H.out).mono ?_
    rintro e w1 ⟨r, rfl, r0, r1, hc1, ho1⟩
    have H1 := Lib.hid hc1
    clear hc1
    go_wp2_with fail
    go_ret
    exact ⟨r, rfl, ⟨r0, by omega⟩, H1.out, ho1⟩

theorem lt8 {r : Int} (h0 : 0 ≤ r) (h1 : r < 8 ∨ r = 0) : r = 0 ∨ r = 1 ∨ r = 2 ∨ r = 3 ∨ r = 4 ∨ r = 5 ∨ r = 6 ∨ r = 7 := by omega

set_option maxRecDepth 100000 in
set_option maxHeartbeats 1000000 in
theorem value_any (g : Nat) (a : Option Addr) (len cap m : Nat) (w : World) (hm : m ≤ 549755813888) (hc : Curs g a len cap m w) :
    Calls Try.prog 133 #[.pointer (some ⟨g, 0, none⟩)] w (Num (fun r => -1000000 ≤ r ∧ r ≤ 1000000) g a len cap (m + 1) w) := by
  have H := Lib.hid hc
  have hg : g < w.heap.size := by obtain ⟨pos, seed, h1, h2, h3, h4, h5, -⟩ := hc; exact h5
  clear hc
  go_enter Try.func133, Try.ntmps133
  go_wp2_with fail
  have H0 := Lib.hid (H.out.below ((Below.refl _ _).alloc (Nat.le_refl _) (.cells #[.int .i64 0, .int .i64 1, .int .i64 2, .int .i64 5, .int .i64 (-3), .int .i64 10, .int .i64 1000000, .int .i64 (-1000000)] 3)))
  refine (pick_any g a len cap m _ _ (by omega) H0.out).mono ?_
  rintro e w1 ⟨r, rfl, r0, r1, hc1, ho1⟩
  have H1 := Lib.hid hc1
  have HO := Lib.hid (((Only.refl g w).alloc _).trans ho1)
  have hcell : ∃ v : Int, -1000000 ≤ v ∧ v ≤ 1000000 ∧ w1.cell? ⟨w.heap.size, r.toNat, none⟩ = some (.int .i64 v) := by
    rw [ho1.cell (by simp) (by omega)]
    rcases lt8 r0 r1 with rfl | rfl | rfl | rfl | rfl | rfl | rfl | rfl
    · exact ⟨0, by decide, by decide, by simp [go_sem]⟩
    · exact ⟨1, by decide, by decide, by simp [go_sem]⟩
    · exact ⟨2, by decide, by decide, by simp [go_sem]⟩
    · exact ⟨5, by decide, by decide, by simp [go_sem]⟩
    · exact ⟨(-3), by decide, by decide, by simp [go_sem]⟩
    · exact ⟨10, by decide, by decide, by simp [go_sem]⟩
    · exact ⟨1000000, by decide, by decide, by simp [go_sem]⟩
    · exact ⟨(-1000000), by decide, by decide, by simp [go_sem]⟩
  obtain ⟨v, v0, v1, hv⟩ := hcell
  have r8 : r < 8 := by omega
  clear hc1 ho1 H0 r1
  go_wp2_with fail
  go_ret
  exact ⟨v, rfl, ⟨v0, v1⟩, H1.out, HO.out⟩

set_option maxRecDepth 100000 in
set_option maxHeartbeats 1000000 in
theorem raw_any (g : Nat) (a : Option Addr) (len cap m : Nat) (w : World) (hm : m ≤ 549755813888) (hc : Curs g a len cap m w) :
    Calls Try.prog 50 #[.pointer (some ⟨g, 0, none⟩)] w (Num (fun r => (Lit.int .i64 r).wf = true) g a len cap (m + 2) w) := by
  have H := Lib.hid hc
  have hg : g < w.heap.size := by obtain ⟨pos, seed, h1, h2, h3, h4, h5, -⟩ := hc; exact h5
  clear hc
  go_enter Try.func50, Try.ntmps50
  go_wp2_with fail
  refine (pick_any g a len cap m _ _ (by omega) H.out).mono ?_
  rintro e w1 ⟨k, rfl, k0, k1, hc1, ho1⟩
  have H1 := Lib.hid hc1
  have HO := Lib.hid ho1
  have hg1 : g < w1.heap.size := Nat.lt_of_lt_of_le hg ho1.size
  clear hc1 ho1
  by_cases e0 : k = 0
  · subst e0
    go_wp2_with fail
    refine (pick_any g a len cap (m + 1) _ _ (by omega) H1.out).mono ?_
    rintro e w2 ⟨r, rfl, r0, r1, hc2, ho2⟩
    have H2 := Lib.hid hc2
    have HO2 := Lib.hid ho2
    clear hc2 ho2
    have r2 : r ≤ 255 := by omega
    go_wp2_with fail
    go_ret
    exact ⟨r - 128, rfl, by simp [Lit.wf, IntKind.min, IntKind.max, IntKind.signed, IntKind.bits]; omega, H2.out, HO.out.trans HO2.out⟩
  · have b0 : (k == 0) = false := by simp [e0]
    by_cases e1 : k = 1
    · subst e1
      go_wp2_with fail
      have H0 := Lib.hid (H1.out.below ((Below.refl _ _).alloc (Nat.le_refl _) (.cells #[.int .i64 9223372036854775807, .int .i64 (-9223372036854775808), .int .i64 4611686018427387904, .int .i64 1000, .int .i64 1001, .int .i64 (-1000), .int .i64 100000, .int .i64 100001] 3)))
      refine (pick_any g a len cap (m + 1) _ _ (by omega) H0.out).mono ?_
      rintro e w2 ⟨r, rfl, r0, r1, hc2, ho2⟩
      have H2 := Lib.hid hc2
      have HO2 := Lib.hid (((Only.refl g w1).alloc _).trans ho2)
      have hcell : ∃ v : Int, (Lit.int .i64 v).wf = true ∧ w2.cell? ⟨w1.heap.size, r.toNat, none⟩ = some (.int .i64 v) := by
        rw [ho2.cell (by simp) (by omega)]
        rcases lt8 r0 r1 with rfl | rfl | rfl | rfl | rfl | rfl | rfl | rfl
        · exact ⟨9223372036854775807, by decide, by simp [go_sem]⟩
        · exact ⟨(-9223372036854775808), by decide, by simp [go_sem]⟩
        · exact ⟨4611686018427387904, by decide, by simp [go_sem]⟩
        · exact ⟨1000, by decide, by simp [go_sem]⟩
        · exact ⟨1001, by decide, by simp [go_sem]⟩
        · exact ⟨(-1000), by decide, by simp [go_sem]⟩
        · exact ⟨100000, by decide, by simp [go_sem]⟩
        · exact ⟨100001, by decide, by simp [go_sem]⟩
      obtain ⟨v, v0, hv⟩ := hcell
      have HV := Lib.hid v0
      have r8 : r < 8 := by omega
      clear hc2 ho2 H0 r1 v0
      go_wp2_with fail
      go_ret
      exact ⟨v, rfl, HV.out, H2.out, HO.out.trans HO2.out⟩
    · have b1 : (k == 1) = false := by simp [e1]
      go_wp2_with fail
      refine (pick_any g a len cap (m + 1) _ _ (by omega) H1.out).mono ?_
      rintro e w2 ⟨r, rfl, r0, r1, hc2, ho2⟩
      have H2 := Lib.hid hc2
      have HO2 := Lib.hid ho2
      clear hc2 ho2
      have r2 : r ≤ 13 := by omega
      go_wp2_with fail
      go_ret
      exact ⟨r - 3, rfl, by simp [Lit.wf, IntKind.min, IntKind.max, IntKind.signed, IntKind.bits]; omega, H2.out, HO.out.trans HO2.out⟩
end Go.Proofs.Ytoglclmaacjdaaa.cur
