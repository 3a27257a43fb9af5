/-
  THE CONTRACTS OF THE SMALL TESTS: isUpTo, dimOk, isValue, l01Value, MaskIn (of the program and of the model): what each call answers; nothing is written.
  No condition on the arguments.
-/
import Derived.Test.YtoglclmaacjdaaaWinOk
namespace Go.Proofs.Ytoglclmaacjdaaa.win
open Go.RowKit

def upB (n m : Int) : Bool := decide (0 ≤ n ∧ n ≤ m)
def valB (v : Int) : Bool := decide (-1000000 ≤ v ∧ v ≤ 1000000)

set_option maxHeartbeats 400000 in
theorem isUpTo (n m : Int) (w : World) : Calls Try.prog 79 #[.int .i64 n, .int .i64 m] w fun e w' => e = .returned (.bool (upB n m)) ∧ w = w' := by
  obtain ⟨r, hr⟩ : ∃ r, upB n m = r := ⟨_, rfl⟩
  rw [hr]
  have HR := Lib.hid hr
  clear hr
  by_cases h1 : 0 ≤ n
  · by_cases h2 : n ≤ m
    · go_enter Try.func79, Try.ntmps79
      go_wp2
      go_ret
      exact ⟨ret_bool (by rw [← HR.out]; symm; unfold upB; rw [decide_eq_true_iff]; omega), rfl⟩
    · have hd : decide (n ≤ m) = false := by simp; omega
      go_enter Try.func79, Try.ntmps79
      go_wp2
      go_ret
      exact ⟨ret_bool (by rw [← HR.out]; symm; unfold upB; rw [decide_eq_false_iff_not]; omega), rfl⟩
  · go_enter Try.func79, Try.ntmps79
    go_wp2
    go_ret
    exact ⟨ret_bool (by rw [← HR.out]; symm; unfold upB; rw [decide_eq_false_iff_not]; omega), rfl⟩

set_option maxHeartbeats 400000 in
theorem dimOk (n : Int) (w : World) : Calls Try.prog 193 #[.int .i64 n] w fun e w' => e = .returned (.bool (upB n 99)) ∧ w = w' := by
  go_enter Try.func193, Try.ntmps193
  go_wp2_with (go_at_call 79; refine (isUpTo _ _ _).mono ?_; rintro e w' ⟨rfl, rfl⟩)
  go_ret
  exact ⟨rfl, rfl⟩

set_option maxHeartbeats 400000 in
theorem isValue (v : Int) (w : World) : Calls Try.prog 212 #[.int .i64 v] w fun e w' => e = .returned (.bool (valB v)) ∧ w = w' := by
  obtain ⟨r, hr⟩ : ∃ r, valB v = r := ⟨_, rfl⟩
  rw [hr]
  have HR := Lib.hid hr
  clear hr
  by_cases h1 : -1000000 ≤ v
  · by_cases h2 : v ≤ 1000000
    · go_enter Try.func212, Try.ntmps212
      go_wp2
      go_ret
      exact ⟨ret_bool (by rw [← HR.out]; symm; unfold valB; rw [decide_eq_true_iff]; omega), rfl⟩
    · have hd : decide (v ≤ 1000000) = false := by simp; omega
      go_enter Try.func212, Try.ntmps212
      go_wp2
      go_ret
      exact ⟨ret_bool (by rw [← HR.out]; symm; unfold valB; rw [decide_eq_false_iff_not]; omega), rfl⟩
  · go_enter Try.func212, Try.ntmps212
    go_wp2
    go_ret
    exact ⟨ret_bool (by rw [← HR.out]; symm; unfold valB; rw [decide_eq_false_iff_not]; omega), rfl⟩

set_option maxHeartbeats 400000 in
theorem l01Value (v : Int) (w : World) : Calls Try.prog 161 #[.int .i64 v] w fun e w' => e = .returned (.bool (valB v)) ∧ w = w' := by
  go_enter Try.func161, Try.ntmps161
  go_wp2_with (go_at_call 56; refine (between _ _ _ _).mono ?_; rintro e w' ⟨rfl, rfl⟩)
  go_ret
  exact ⟨ret_bool (by simp [valB]), rfl⟩

/-- Each bit that is set in a is set in b. -/
def maskB (a b : Int) : Bool := decide (0 ≤ a ∧ 0 ≤ b ∧ bits .and .i64 a b = a)

theorem wrap_bv (x : BitVec 64) : IntKind.i64.wrap (x.toNat : Int) = x.toInt := by
  have h := x.isLt
  rw [BitVec.toInt_eq_toNat_cond]
  simp only [IntKind.wrap, IntKind.bits, IntKind.signed, Bool.true_and]
  split <;> split <;> simp_all <;> omega

theorem bv_mask (x y : BitVec 64) : x &&& ~~~y = 0#64 ↔ x &&& y = x := by
  constructor
  · intro h
    apply BitVec.eq_of_getLsbD_eq
    intro i hi
    have := congrArg (fun z => z.getLsbD i) h
    simp [hi] at this ⊢
    exact this
  · intro h
    apply BitVec.eq_of_getLsbD_eq
    intro i hi
    have := congrArg (fun z => z.getLsbD i) h
    simp [hi] at this ⊢
    exact this

theorem mask_eq (a b : Int) (h1 : 0 ≤ a) (h2 : a < 9223372036854775808) : (bits .andNot .i64 a b == 0) = decide (bits .and .i64 a b = a) := by
  have e1 : bits .andNot .i64 a b = (BitVec.ofInt 64 a &&& ~~~ BitVec.ofInt 64 b).toInt := wrap_bv _
  have e2 : bits .and .i64 a b = (BitVec.ofInt 64 a &&& BitVec.ofInt 64 b).toInt := wrap_bv _
  have e3 : (BitVec.ofInt 64 a).toInt = a := by
    rw [BitVec.toInt_ofInt, Int.bmod_eq_of_le] <;> simp <;> omega
  rw [e1, e2, Bool.eq_iff_iff]
  simp only [beq_iff_eq, decide_eq_true_eq]
  rw [← BitVec.toInt_zero (w := 64), BitVec.toInt_inj, bv_mask]
  conv => rhs; rhs; rw [← e3]
  rw [BitVec.toInt_inj]

theorem wf_lt {a : Int} (h : (Lit.int .i64 a).wf = true) : a < 9223372036854775808 := by
  simp only [Lit.wf, IntKind.min, IntKind.max, IntKind.signed, IntKind.bits, Bool.and_eq_true, decide_eq_true_eq, if_true] at h
  omega

end Go.Proofs.Ytoglclmaacjdaaa.win
