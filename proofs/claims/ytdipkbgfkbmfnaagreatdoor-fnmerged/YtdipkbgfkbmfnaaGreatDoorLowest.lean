/-
  THE CONTRACTS OF Lowest of the program and of the model: the least of marks, NoMark of none; nothing that was there is written.
  Condition: at most 2,000,000 marks.
-/
import Derived.Test.YtdipkbgfkbmfnaaGreatDoorBridge
namespace Go.Proofs.YtdipkbgfkbmfnaaGreatDoor.dat
open Go.RowKit Go.Proofs.YtdipkbgfkbmfnaaGreatDoor.win

/-- The least of x and of these. -/
def lowTo (x : Int) (l : List Int) : Int := l.foldl min x
/-- Lowest. -/
def lowD : List Int → Int
  | [] => -200000
  | x :: r => lowTo x r
theorem lowTo_succ {x : Int} {l : List Int} {j : Nat} {y : Int} (hy : l[j]? = some y) : lowTo x (l.take (j + 1)) = min (lowTo x (l.take j)) y := by
  unfold lowTo
  rw [List.take_add_one, hy, List.foldl_append]
  rfl
theorem low_all {x : Int} {r : List Int} : lowTo x (x :: r) = lowTo x r := by simp [lowTo]
theorem low_one {x : Int} {r : List Int} : lowTo x ((x :: r).take 1) = x := by simp [lowTo]
theorem low_zero {x : Int} {r : List Int} : lowTo x ((x :: r).take 0) = x := by simp [lowTo]

set_option maxRecDepth 100000 in
set_option maxHeartbeats 1000000 in
theorem spec_low (a : Option Addr) (len cap : Nat) (x : Int) (r : List Int) (fp : List Nat) (w : World) (hrow : GRow 1 RInt w a len (x :: r) fp) (hz : (x :: r).length ≤ 2000000) :
    Calls Tryz.prog 47 #[.slice a len cap] w fun e w' => e = .returned (.int .i64 (lowD (x :: r))) ∧ Below w.heap.size w w' := by
  have hl := hrow.1
  have hmax : len ≤ 2000000 := by omega
  clear hz
  have HR := Lib.hid hrow
  clear hrow
  have h0 : 0 < len := by rw [← hl]; simp
  have HL := Lib.hid hl
  clear hl
  obtain ⟨b, off, x', f, cs, rfl, hbl, hx, hcl, hR, hc⟩ := HR.out.at h0
  obtain ⟨rfl, rfl⟩ := hR
  simp at hx
  subst hx
  have c0 : w.cell? ⟨b, off, none⟩ = some (.int .i64 x) := by have := hc 0 (by omega); simpa using this
  have q0 : ((len : Int) == 0) = false := by simp; omega
  have q1 : (0 : Int) < (len : Int) := by omega
  have q2 : ¬ (len : Int) < 1 := by omega
  clear hc hcl
  go_enter Tryz.func47, Tryz.ntmps47
  go_wp2_with fail
  go_loopg [3, 4] len (fun k m i wr => ∃ j : Nat, j + k = len ∧ 0 ≤ j ∧ i = .int .i64 j ∧ m = .int .i64 (lowTo x ((x :: r).take j)) ∧ Below w.heap.size w wr)
  case atStart => exact ⟨0, by omega, by omega, rfl, by rw [low_zero], by repeat (first | exact Below.refl _ _ | refine Below.setCell ?_ (by first | omega | (simp; done) | (simp; omega)) _ | refine Below.alloc ?_ (by first | omega | (simp; done) | (simp; omega)) _ | apply Below.drew)⟩
  case round =>
    obtain ⟨j, hj, hj1, rfl, rfl, hB⟩ := hrel
    have HB := Lib.hid hB
    by_cases hlt : j < len
    case neg =>
      obtain rfl : j = len := by omega
      clear hB
      go_wp2_with fail
      go_ret
      exact ⟨ret_int (by rw [List.take_of_length_le (by rw [HL.out]; exact Nat.le_refl _)]; exact low_all), HB.out⟩
    obtain ⟨b', off', y, f, cs, e', hbl', hy, hcl, hR, hc⟩ := HR.out.at hlt
    obtain ⟨rfl, rfl⟩ := hR
    cases e'
    have c1 : wr.cell? ⟨b, off + j, none⟩ = some (.int .i64 y) := by have := (hB.cell (p := ⟨b, off + j * 1 + 0, none⟩) hbl).trans (hc 0 (by omega)); simpa using this
    have hlt2 : (j : Int) < (len : Int) := by omega
    have h02 : (0 : Int) ≤ (j : Int) := by omega
    have hs := lowTo_succ (x := x) hy
    obtain ⟨q, hq⟩ : ∃ q, lowTo x ((x :: r).take j) = q := ⟨_, rfl⟩
    rw [hq] at hs ⊢
    clear hy hc hB hq
    rcases Int.lt_or_le y q with h | h
    · have HS := Lib.hid (show y = lowTo x ((x :: r).take (j + 1)) by rw [hs]; omega)
      clear hs
      go_wp2_with fail
      go_roundg (len - (j + 1))
      case measure => omega
      case rel => exact ⟨j + 1, by omega, by omega, by go_num, congrArg _ HS.out, HB.out⟩
    · have HS := Lib.hid (show q = lowTo x ((x :: r).take (j + 1)) by rw [hs]; omega)
      clear hs
      go_wp2_with fail
      go_roundg (len - (j + 1))
      case measure => omega
      case rel => exact ⟨j + 1, by omega, by omega, by go_num, congrArg _ HS.out, HB.out⟩

set_option maxRecDepth 100000 in
set_option maxHeartbeats 1000000 in
theorem min_any (a : Option Addr) (len cap : Nat) (x : Int) (r : List Int) (fp : List Nat) (w : World) (hrow : GRow 1 RInt w a len (x :: r) fp) (hz : (x :: r).length ≤ 2000000) :
    Calls Tryz.prog 70 #[.slice a len cap] w fun e w' => e = .returned (.int .i64 (lowD (x :: r))) ∧ Below w.heap.size w w' := by
  have hl := hrow.1
  have hmax : len ≤ 2000000 := by omega
  clear hz
  have HR := Lib.hid hrow
  clear hrow
  have h0 : 0 < len := by rw [← hl]; simp
  have HL := Lib.hid hl
  clear hl
  obtain ⟨b, off, x', f, cs, rfl, hbl, hx, hcl, hR, hc⟩ := HR.out.at h0
  obtain ⟨rfl, rfl⟩ := hR
  simp at hx
  subst hx
  have c0 : w.cell? ⟨b, off, none⟩ = some (.int .i64 x) := by have := hc 0 (by omega); simpa using this
  have q0 : ((len : Int) == 0) = false := by simp; omega
  have q1 : (0 : Int) < (len : Int) := by omega
  have q2 : ¬ (len : Int) < 1 := by omega
  clear hc hcl
  go_enter Tryz.func70, Tryz.ntmps70
  go_wp2_with fail
  go_loopg [3, 4] (len - 1) (fun k m i wr => ∃ j : Nat, j + k = len ∧ 1 ≤ j ∧ i = .int .i64 j ∧ m = .int .i64 (lowTo x ((x :: r).take j)) ∧ Below w.heap.size w wr)
  case atStart => exact ⟨1, by omega, by omega, rfl, by rw [low_one], by repeat (first | exact Below.refl _ _ | refine Below.setCell ?_ (by first | omega | (simp; done) | (simp; omega)) _ | refine Below.alloc ?_ (by first | omega | (simp; done) | (simp; omega)) _ | apply Below.drew)⟩
  case round =>
    obtain ⟨j, hj, hj1, rfl, rfl, hB⟩ := hrel
    have HB := Lib.hid hB
    by_cases hlt : j < len
    case neg =>
      obtain rfl : j = len := by omega
      clear hB
      go_wp2_with fail
      go_ret
      exact ⟨ret_int (by rw [List.take_of_length_le (by rw [HL.out]; exact Nat.le_refl _)]; exact low_all), HB.out⟩
    obtain ⟨b', off', y, f, cs, e', hbl', hy, hcl, hR, hc⟩ := HR.out.at hlt
    obtain ⟨rfl, rfl⟩ := hR
    cases e'
    have c1 : wr.cell? ⟨b, off + j, none⟩ = some (.int .i64 y) := by have := (hB.cell (p := ⟨b, off + j * 1 + 0, none⟩) hbl).trans (hc 0 (by omega)); simpa using this
    have hlt2 : (j : Int) < (len : Int) := by omega
    have h02 : (0 : Int) ≤ (j : Int) := by omega
    have hs := lowTo_succ (x := x) hy
    obtain ⟨q, hq⟩ : ∃ q, lowTo x ((x :: r).take j) = q := ⟨_, rfl⟩
    rw [hq] at hs ⊢
    clear hy hc hB hq
    rcases Int.lt_or_le y q with h | h
    · have HS := Lib.hid (show y = lowTo x ((x :: r).take (j + 1)) by rw [hs]; omega)
      clear hs
      go_wp2_with fail
      go_roundg (len - (j + 1))
      case measure => omega
      case rel => exact ⟨j + 1, by omega, by omega, by go_num, congrArg _ HS.out, HB.out⟩
    · have HS := Lib.hid (show q = lowTo x ((x :: r).take (j + 1)) by rw [hs]; omega)
      clear hs
      go_wp2_with fail
      go_roundg (len - (j + 1))
      case measure => omega
      case rel => exact ⟨j + 1, by omega, by omega, by go_num, congrArg _ HS.out, HB.out⟩

set_option maxRecDepth 100000 in
set_option maxHeartbeats 1000000 in
theorem spec_Lowest (a : Option Addr) (len cap : Nat) (l : List Int) (fp : List Nat) (w : World) (hrow : GRow 1 RInt w a len l fp) (_ : len ≤ cap) (_ : cap ≤ 9223372036854775807) (hz : l.length ≤ 2000000) :
    Calls Tryz.prog 47 #[.slice a len cap] w fun e w' => e = .returned (.int .i64 (lowD l)) ∧ Below w.heap.size w w' := by
  cases l with
  | nil =>
    have hl := hrow.1
    simp at hl
    subst hl
    clear hrow
    go_enter Tryz.func47, Tryz.ntmps47
    go_wp2_with fail
    go_ret
    exact ⟨rfl, by repeat (first | exact Below.refl _ _ | refine Below.setCell ?_ (by first | omega | (simp; done) | (simp; omega)) _ | refine Below.alloc ?_ (by first | omega | (simp; done) | (simp; omega)) _ | apply Below.drew)⟩
  | cons x r =>
    exact spec_low a len cap x r fp w hrow hz

set_option maxRecDepth 100000 in
set_option maxHeartbeats 1000000 in
theorem impl_Lowest (a : Option Addr) (len cap : Nat) (l : List Int) (fp : List Nat) (w : World) (hrow : GRow 1 RInt w a len l fp) (_ : len ≤ cap) (_ : cap ≤ 9223372036854775807) (hz : l.length ≤ 2000000) :
    Calls Tryz.prog 49 #[.slice a len cap] w fun e w' => e = .returned (.int .i64 (lowD l)) ∧ Below w.heap.size w w' := by
  cases l with
  | nil =>
    have hl := hrow.1
    simp at hl
    subst hl
    clear hrow
    go_enter Tryz.func49, Tryz.ntmps49
    go_wp2_with fail
    go_ret
    exact ⟨rfl, by repeat (first | exact Below.refl _ _ | refine Below.setCell ?_ (by first | omega | (simp; done) | (simp; omega)) _ | refine Below.alloc ?_ (by first | omega | (simp; done) | (simp; omega)) _ | apply Below.drew)⟩
  | cons x r =>
    have hl := hrow.1
    have HR := Lib.hid hrow
    have HZ := Lib.hid hz
    have q0 : ((len : Int) == 0) = false := by simp; rw [← hl]; simp
    clear hrow hz hl
    go_enter Tryz.func49, Tryz.ntmps49
    go_wp2_with fail
    refine (min_any a len cap x r fp w HR.out HZ.out).mono ?_
    rintro e w' ⟨rfl, b⟩
    go_wp2_with fail
    go_ret
    exact ⟨rfl, b⟩
end Go.Proofs.YtdipkbgfkbmfnaaGreatDoor.dat
