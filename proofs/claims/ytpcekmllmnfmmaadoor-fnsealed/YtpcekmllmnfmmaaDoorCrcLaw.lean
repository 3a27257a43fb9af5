/-
  THE CONTRACTS OF Crc of the model and of the program: the remainder of a text's bytes; nothing that was there is written.
  Condition: for the program's the table of sixteen holds what the program's text lays.
-/
import Derived.Test.YtpcekmllmnfmmaaDoorCrcMath
import Derived.Test.YtpcekmllmnfmmaaDoorStr
import Derived.Laws.BitsAllLaws
import Derived.Lib.LaidTab
import Derived.Deep.LoopGhost
import Derived.Stop.LaidErr
namespace Go.Proofs.YtpcekmllmnfmmaaDoor.crc
open Go.RowKit

theorem i64_xor (a b : Nat) (ha : a < 4294967296) (hb : b < 4294967296) : bits .xor .i64 (a : Int) (b : Int) = ((a ^^^ b : Nat) : Int) := by
  have hx : a ^^^ b < 2 ^ 32 := Nat.xor_lt_two_pow (by omega) (by omega)
  show IntKind.i64.wrap ((BitVec.ofInt 64 (a : Int) ^^^ BitVec.ofInt 64 (b : Int)).toNat : Int) = _
  rw [BitVec.toNat_xor, ofInt_u64 a (by omega), ofInt_u64 b (by omega), IntKind.wrap_i64]
  omega
theorem stepN_succ (q x : Nat) : stepN (q + 1) x = step1 (stepN q x) := stepN_add q 1 x
theorem byte_lt (b : UInt8) : b.toNat < 4294967296 := by have := b.toNat_lt; omega

set_option maxRecDepth 100000 in
set_option maxHeartbeats 1000000 in
theorem spec_Crc (s : ByteArray) (w : World) (hs : s.size ≤ 2000000) : Calls Tryd.prog 8 #[.string s] w fun e w' => e = .returned (.int .i64 (crcN s.data.toList : Nat)) ∧ w' = w := by
  have hll : s.data.toList.length = s.size := rfl
  go_enter Tryd.func8, Tryd.ntmps8
  go_wp2_with fail
  go_loopg [3, 4] s.size (fun k x i wr => ∃ j : Nat, j + k = s.size ∧ i = .int .i64 j ∧ x = .int .i64 (crcFrom 4294967295 (s.data.toList.take j) : Nat) ∧ wr = w)
  case atStart => exact ⟨0, by omega, rfl, rfl, rfl⟩
  case round =>
    obtain ⟨j, hj, rfl, rfl, rfl⟩ := hrel
    have hxl := from_lt (s.data.toList.take j) (x := 4294967295) (by omega)
    by_cases hlt : j < s.size
    · have hst := from_take (x := 4294967295) (show s.data.toList[j]? = some s[j] from List.getElem?_eq_getElem (by rw [hll]; exact hlt))
      generalize crcFrom 4294967295 (s.data.toList.take j) = x at *
      have HST := Lib.hid hst
      obtain ⟨z, hz⟩ : ∃ z, x ^^^ s[j].toNat = z := ⟨_, rfl⟩
      have hxx : bits .xor .i64 (x : Int) (s[j].toNat : Int) = (z : Int) := by rw [i64_xor x _ hxl (byte_lt _), hz]
      have hzl : z < 4294967296 := by rw [← hz]; exact Nat.xor_lt_two_pow (n := 32) (by omega) (by have := s[j].toNat_lt; omega)
      have HZ := Lib.hid hz
      clear hst hz hll
      have hwb : wrap64 (s[j].toNat : Int) = (s[j].toNat : Int) := IntWalk.wrap64_in _ (by have := s[j].toNat_lt; omega)
      have HWB := Lib.hid hwb
      have HXX := Lib.hid hxx
      clear hwb hxx
      go_wp2_with fail
      go_loopg [3, 5] 8 (fun k v i w' => ∃ q : Nat, q + k = 8 ∧ i = .int .i64 q ∧ v = .int .i64 (stepN q z : Nat) ∧ w' = wr)
      case atStart => exact ⟨0, by omega, rfl, by rw [HWB.out, HXX.out]; rfl, rfl⟩
      case round =>
        obtain ⟨q, hq, rfl, rfl, rfl⟩ := hrel
        have hyl := stepN_lt q hzl
        have hy1 := stepN_succ q z
        by_cases h8 : q < 8
        · generalize stepN q z = y at *
          have HY := Lib.hid hy1
          clear hy1
          by_cases hb : y % 2 = 1
          · have e3 := i64_xor (y / 2) 3988292384 (by omega) (by omega)
            rw [Int.natCast_ediv] at e3
            have E3 := Lib.hid e3
            have HBB := Lib.hid hb
            clear e3
            go_wp2_with fail
            go_roundg (8 - (q + 1))
            case measure => omega
            case rel => exact ⟨q + 1, by omega, by go_num, by rw [HY.out, step1, if_pos HBB.out]; exact congrArg (Value.int .i64) E3.out, rfl⟩
          · have HBB := Lib.hid hb
            go_wp2_with fail
            go_roundg (8 - (q + 1))
            case measure => omega
            case rel => exact ⟨q + 1, by omega, by go_num, by rw [HY.out, step1, if_neg HBB.out, Int.natCast_ediv]; rfl, rfl⟩
        · obtain rfl : q = 8 := by omega
          have HQ := Lib.hid (show stepN 8 z = crcFrom 4294967295 (s.data.toList.take (j + 1)) by rw [HST.out, byte1, HZ.out])
          clear hy1
          go_wp2_with fail
          go_roundg (s.size - (j + 1))
          case measure => omega
          case rel => exact ⟨j + 1, by omega, by go_num, by rw [HQ.out], rfl⟩
    · obtain rfl : j = s.size := by omega
      have e2 : s.data.toList.take s.size = s.data.toList := List.take_of_length_le (by rw [hll]; exact Nat.le_refl _)
      rw [e2] at hxl ⊢
      have e3 := i64_xor (crcFrom 4294967295 s.data.toList) 4294967295 hxl (by omega)
      have E3 := Lib.hid e3
      clear e3 e2
      go_wp2_with fail
      go_ret
      exact ⟨congrArg (fun v => Ending.returned (Value.int .i64 v)) E3.out, rfl⟩

theorem gSteps : Tryd.prog.globalNamed "loop.example/g00552/impl.crcSteps" = some 0 := by kernel_rfl
def tabI : List Int := [0, 498536548, 997073096, 651767980, 1994146192, 1802195444, 1303535960, 1342533948, 3988292384, 4027552580, 3604390888, 3412177804, 2607071920, 2262029012, 2685067896, 3183342108]
/-- The table of sixteen is as the program lays it. -/
def Steps (w : World) : Prop := Lib.TabIs Tryd.prog w "loop.example/g00552/impl.crcSteps" .u32 tabI ∧ 0 < w.heap.size
theorem Steps.below {w w' : World} (h : Steps w) (hb : Below w.heap.size w w') : Steps w' := ⟨var?_below hb gSteps h.2 h.1, Nat.lt_of_lt_of_le h.2 hb.size⟩
theorem tab_int : ∀ r, r < 16 → tabI.getD r 0 = ((stepN 4 r : Nat) : Int) := by decide
theorem Steps.cell {w : World} (h : Steps w) {r : Nat} (hr : r < 16) : w.cell? ⟨0, r, none⟩ = some (.int .u32 ((stepN 4 r : Nat) : Int)) := by
  rw [h.1.cell gSteps r (by simpa [tabI] using hr), tab_int r hr]

set_option maxRecDepth 100000 in
set_option maxHeartbeats 1000000 in
theorem impl_Crc (s : ByteArray) (w : World) (hs : s.size ≤ 2000000) (hE : Steps w) : Calls Tryd.prog 9 #[.string s] w fun e w' => e = .returned (.int .i64 (crcN s.data.toList : Nat)) ∧ w' = w := by
  have hll : s.data.toList.length = s.size := rfl
  have HE := Lib.hid hE
  clear hE
  go_enter Tryd.func9, Tryd.ntmps9
  go_wp2_with fail
  go_loopg [3, 7] s.size (fun k x i wr => ∃ j : Nat, j + k = s.size ∧ i = .int .i64 j ∧ x = .int .u32 (crcFrom 4294967295 (s.data.toList.take j) : Nat) ∧ wr = w)
  case atStart => exact ⟨0, by omega, rfl, rfl, rfl⟩
  case round =>
    obtain ⟨j, hj, rfl, rfl, rfl⟩ := hrel
    have hxl := from_lt (s.data.toList.take j) (x := 4294967295) (by omega)
    by_cases hlt : j < s.size
    · have hst := from_take (x := 4294967295) (show s.data.toList[j]? = some s[j] from List.getElem?_eq_getElem (by rw [hll]; exact hlt))
      generalize crcFrom 4294967295 (s.data.toList.take j) = x at *
      have HST := Lib.hid hst
      obtain ⟨z, hz⟩ : ∃ z, x ^^^ s[j].toNat = z := ⟨_, rfl⟩
      have hzl : z < 4294967296 := by rw [← hz]; exact Nat.xor_lt_two_pow (n := 32) (by omega) (by have := s[j].toNat_lt; omega)
      have hxx : bits .xor .u32 (x : Int) (s[j].toNat : Int) = (z : Int) := by rw [u32_xor_nat x _ hxl (byte_lt _), hz]
      have hbm : (s[j].toNat : Int) % 4294967296 = (s[j].toNat : Int) := by have := s[j].toNat_lt; omega
      obtain ⟨y, hy⟩ : ∃ y, stepN 4 z = y := ⟨_, rfl⟩
      have hyl : y < 4294967296 := by rw [← hy]; exact stepN_lt 4 hzl
      obtain ⟨u, hu⟩ : ∃ u, stepN 4 y = u := ⟨_, rfl⟩
      have hx2 : bits .xor .u32 ((z : Int) / 16) ((stepN 4 (z % 16) : Nat) : Int) = (y : Int) := by
        have := u32_xor_nat (z / 16) (stepN 4 (z % 16)) (by omega) (stepN_lt 4 (by omega))
        rw [← nib z, hy, Int.natCast_ediv] at this
        exact this
      have hx3 : bits .xor .u32 ((y : Int) / 16) ((stepN 4 (y % 16) : Nat) : Int) = (u : Int) := by
        have := u32_xor_nat (y / 16) (stepN 4 (y % 16)) (by omega) (stepN_lt 4 (by omega))
        rw [← nib y, hu, Int.natCast_ediv] at this
        exact this
      have c1 := HE.out.cell (r := z % 16) (by omega)
      have c2 := HE.out.cell (r := y % 16) (by omega)
      have n1 : ((z : Int) % 16).toNat = z % 16 := by omega
      have n2 : ((y : Int) % 16).toNat = y % 16 := by omega
      generalize stepN 4 (z % 16) = t1 at *
      generalize stepN 4 (y % 16) = t2 at *
      have h01 : (0 : Int) ≤ (z : Int) % 16 := by omega
      have h02 : (z : Int) % 16 < 16 := by omega
      have h03 : (0 : Int) ≤ (y : Int) % 16 := by omega
      have h04 : (y : Int) % 16 < 16 := by omega
      have HQ := Lib.hid (show u = crcFrom 4294967295 (s.data.toList.take (j + 1)) by rw [hst, byte1, hz, show (8 : Nat) = 4 + 4 from rfl, stepN_add, hy, hu])
      clear hst hz hll hy hu
      go_wp2_with fail
      go_roundg (s.size - (j + 1))
      case measure => omega
      case rel => exact ⟨j + 1, by omega, by go_num, by rw [← HQ.out], rfl⟩
    · obtain rfl : j = s.size := by omega
      have e2 : s.data.toList.take s.size = s.data.toList := List.take_of_length_le (by rw [hll]; exact Nat.le_refl _)
      rw [e2] at hxl ⊢
      have e3 := u32_xor_nat 4294967295 (crcFrom 4294967295 s.data.toList) (by omega) hxl
      have E3 := Lib.hid e3
      clear e3 e2
      go_wp2_with fail
      go_ret
      refine ⟨?_, rfl⟩
      have hv : bits BinOp.xor IntKind.u32 IntKind.u32.max ((crcFrom 4294967295 s.data.toList : Nat) : Int) = ((crcN s.data.toList : Nat) : Int) := by
        rw [show IntKind.u32.max = ((4294967295 : Nat) : Int) by decide, E3.out, crcN, Nat.xor_comm]
      rw [hv, IntWalk.wrap64_in _ (by have := crcN_lt s.data.toList; omega)]
      rfl
end Go.Proofs.YtpcekmllmnfmmaaDoor.crc
