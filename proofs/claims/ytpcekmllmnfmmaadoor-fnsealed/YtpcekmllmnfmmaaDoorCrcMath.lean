/-
  THE MATHEMATICS OF THE REMAINDER: eight shifts a byte; half a byte at a time by a table of sixteen.
  No condition.
-/
import Derived.KernelRfl
namespace Go.Proofs.YtpcekmllmnfmmaaDoor.crc
/-- One shift of the remainder. -/
def step1 (x : Nat) : Nat := if x % 2 = 1 then (x / 2) ^^^ 3988292384 else x / 2
def stepN : Nat → Nat → Nat
  | 0, x => x
  | k + 1, x => stepN k (step1 x)
/-- One byte more. -/
def byte1 (x : Nat) (b : UInt8) : Nat := stepN 8 (x ^^^ b.toNat)
def crcFrom (x : Nat) (l : List UInt8) : Nat := l.foldl byte1 x
def crcN (l : List UInt8) : Nat := crcFrom 4294967295 l ^^^ 4294967295

def tab : List Nat := [0x00000000, 0x1db71064, 0x3b6e20c8, 0x26d930ac, 0x76dc4190, 0x6b6b51f4, 0x4db26158, 0x5005713c, 0xedb88320, 0xf00f9344, 0xd6d6a3e8, 0xcb61b38c, 0x9b64c2b0, 0x86d3d2d4, 0xa00ae278, 0xbdbdf21c]

theorem xor_half (a b : Nat) : (a ^^^ b) / 2 = a / 2 ^^^ b / 2 := by
  have := Nat.shiftRight_xor_distrib (a := a) (b := b) (i := 1)
  simpa [Nat.shiftRight_eq_div_pow] using this
theorem xor_mod2 (a b : Nat) : (a ^^^ b) % 2 = (a % 2 + b % 2) % 2 := by
  have := Nat.testBit_xor (x := a) (y := b) (i := 0)
  simp only [Nat.testBit_zero] at this
  have ha := Nat.mod_two_eq_zero_or_one a
  have hb := Nat.mod_two_eq_zero_or_one b
  have hc := Nat.mod_two_eq_zero_or_one (a ^^^ b)
  rcases ha with ha | ha <;> rcases hb with hb | hb <;> rcases hc with hc | hc <;> simp_all
theorem step1_xor (a b : Nat) : step1 (a ^^^ b) = step1 a ^^^ step1 b := by
  unfold step1
  rw [xor_mod2, xor_half]
  have ha := Nat.mod_two_eq_zero_or_one a
  have hb := Nat.mod_two_eq_zero_or_one b
  rcases ha with ha | ha <;> rcases hb with hb | hb <;> simp [ha, hb]
  · rw [Nat.xor_assoc]
  · rw [Nat.xor_assoc, Nat.xor_assoc, Nat.xor_comm (b / 2)]
  · rw [Nat.xor_assoc, Nat.xor_comm (b / 2), ← Nat.xor_assoc 3988292384, Nat.xor_self, Nat.zero_xor]
theorem stepN_xor (k : Nat) : ∀ (a b : Nat), stepN k (a ^^^ b) = stepN k a ^^^ stepN k b := by
  induction k with
  | zero => intro a b; rfl
  | succ k ih => intro a b; show stepN k (step1 (a ^^^ b)) = _; rw [step1_xor, ih]; rfl
theorem stepN_shift (k : Nat) : ∀ (x : Nat), stepN k (2 ^ k * x) = x := by
  induction k with
  | zero => intro x; simp [stepN]
  | succ k ih =>
    intro x
    have h : 2 ^ (k + 1) * x = 2 * (2 ^ k * x) := by rw [Nat.pow_succ, Nat.mul_comm (2 ^ k) 2, Nat.mul_assoc]
    show stepN k (step1 (2 ^ (k + 1) * x)) = x
    have e : step1 (2 ^ (k + 1) * x) = 2 ^ k * x := by
      unfold step1
      rw [h, if_neg (by omega)]
      omega
    rw [e, ih]
theorem split4 (x : Nat) : x = (2 ^ 4 * (x / 16)) ^^^ (x % 16) := by
  have h : x % 16 < 2 ^ 4 := by omega
  have := Nat.two_pow_add_eq_or_of_lt h (x / 16)
  apply Nat.eq_of_testBit_eq
  intro i
  rw [Nat.testBit_xor, Nat.testBit_two_pow_mul, show (16 : Nat) = 2 ^ 4 from rfl, Nat.testBit_mod_two_pow, Nat.testBit_div_two_pow]
  by_cases hi : i < 4
  · simp [hi, show ¬ 4 ≤ i by omega]
  · simp [hi, show 4 ≤ i by omega, show i - 4 + 4 = i by omega]
theorem tab_step : ∀ r, r < 16 → tab[r]? = some (stepN 4 r) := by decide
/-- Half a byte at a time. -/
theorem nib (x : Nat) : stepN 4 x = (x / 16) ^^^ stepN 4 (x % 16) := by
  conv => lhs; rw [split4 x]
  rw [stepN_xor, stepN_shift]
theorem stepN_add (j k x : Nat) : stepN (j + k) x = stepN k (stepN j x) := by
  induction j generalizing x with
  | zero => simp [stepN]
  | succ j ih => rw [Nat.succ_add]; exact ih (step1 x)
theorem step1_lt {x : Nat} (h : x < 4294967296) : step1 x < 4294967296 := by
  unfold step1
  split
  · exact Nat.xor_lt_two_pow (n := 32) (by omega) (by omega)
  · omega
theorem stepN_lt (k : Nat) : ∀ {x : Nat}, x < 4294967296 → stepN k x < 4294967296 := by
  induction k with
  | zero => intro x h; exact h
  | succ k ih => intro x h; exact ih (step1_lt h)
theorem byte1_lt {x : Nat} (b : UInt8) (h : x < 4294967296) : byte1 x b < 4294967296 := by
  have := b.toNat_lt
  exact stepN_lt 8 (Nat.xor_lt_two_pow (n := 32) (by omega) (by omega))
theorem from_lt {x : Nat} (l : List UInt8) (h : x < 4294967296) : crcFrom x l < 4294967296 := by
  induction l generalizing x with
  | nil => exact h
  | cons b r ih => exact ih (byte1_lt b h)
theorem crcN_lt (l : List UInt8) : crcN l < 4294967296 := Nat.xor_lt_two_pow (n := 32) (from_lt l (by omega)) (by omega)
theorem from_take {x : Nat} {l : List UInt8} {i : Nat} {b : UInt8} (h : l[i]? = some b) : crcFrom x (l.take (i + 1)) = byte1 (crcFrom x (l.take i)) b := by
  rw [List.take_add_one, h]
  simp [crcFrom]
end Go.Proofs.YtpcekmllmnfmmaaDoor.crc
