/-
  THE CONTRACT OF THE PROGRAM's numRead: the number that a word is in its one form, and whether it is one.
  Conditions: the library's variables (the table of powers of ten, ErrSyntax, ErrRange) hold what its text lays; the word is no longer than 2^20 bytes.
-/
import Derived.Test.YtdipkbgfkbmfnaaDoorNumLaw
import Derived.Test.YtdipkbgfkbmfnaaDoorReadMath
import Derived.Lib.AtoiErrMem
namespace Go.Proofs.YtdipkbgfkbmfnaaDoor.num
open Go.RowKit

theorem gSyn : Tryd.prog.globalNamed "strconv.ErrSyntax" = some 0 := by kernel_rfl
theorem gRan : Tryd.prog.globalNamed "strconv.ErrRange" = some 1 := by kernel_rfl

/-- What a walk wants of the library's variables. -/
structure Env (w : World) : Prop where
  pow : Pow w
  syn : ∃ tp p, w.var? Tryd.prog "strconv.ErrSyntax" = some #[.iface tp p]
  ran : ∃ tp p, w.var? Tryd.prog "strconv.ErrRange" = some #[.iface tp p]
  top : 0 < w.heap.size ∧ 1 < w.heap.size

theorem Env.below {B : Nat} {w w' : World} (h : Env w) (hb : Below B w w') (hB : 0 < B ∧ 1 < B ∧ 2 < B) : Env w' := by
  obtain ⟨tp, p, h1⟩ := h.syn
  obtain ⟨tq, q, h2⟩ := h.ran
  exact ⟨h.pow.below hb hB.2.2, ⟨tp, p, var?_below hb gSyn hB.1 h1⟩, ⟨tq, q, var?_below hb gRan hB.2.1 h2⟩, Nat.lt_of_lt_of_le h.top.1 hb.size, Nat.lt_of_lt_of_le h.top.2 hb.size⟩
theorem Env.next {w w' : World} (h : Env w) (hb : Below w.heap.size w w') : Env w' := h.below hb ⟨h.top.1, h.top.2, h.pow.2⟩

/-- What Atoi leaves where it reads a number. -/
theorem below_bytes {w w' : World} {e : TypeId} (h : w' = w ∨ ∃ t, w' = Lib.bytesWorld w e t) : Below w.heap.size w w' := by
  rcases h with rfl | ⟨t, rfl⟩
  · exact Below.refl _ _
  · exact Lib.bytesWorld_below w e t

/-- What numRead answers, and what it leaves. -/
def NumD (s : ByteArray) (w : World) (e : Ending) (w' : World) : Prop :=
  e = .returned (.tuple #[.int .i64 ((numA s.data.toList).getD 0), .bool (numA s.data.toList).isSome]) ∧ Below w.heap.size w w'

theorem bounds_ok {l : List UInt8} {v : Int} (h : Lib.atoiAll l = .ok v) : -9223372036854775808 ≤ v ∧ v ≤ 9223372036854775807 := Lib.atoiAll_bounds h

set_option maxHeartbeats 400000 in
theorem numRead_same (s : ByteArray) (v : Int) (w : World) (hs : s.size ≤ 2000000) (hA : Lib.atoiAll s.data.toList = .ok v) (he : Lib.itoa v = s.data.toList) (hE : Env w) :
    Calls Tryd.prog 56 #[.string s] w (NumD s w) := by
  have hn : numA s.data.toList = some v := by unfold numA; rw [hA]; simp [he]
  have hstr : (⟨(Lib.itoa v).toArray⟩ : ByteArray) = s := by rw [he]
  have HE := Lib.hid hE
  have HA := Lib.hid hA
  have HN := Lib.hid hn
  have HS := Lib.hid hstr
  have hb := bounds_ok hA
  have H1 := Lib.hid hb.1
  have H2 := Lib.hid hb.2
  clear hE hA hn hstr hb he
  go_enter Tryd.func56, Tryd.ntmps56
  go_wp2_with fail
  refine (Any.strconv_Atoi_ok Tryd.laysC172 s (by omega) v HA.out _).mono ?_
  rintro e w1 ⟨rfl, hw1⟩
  have B1 := Lib.hid (below_bytes hw1)
  clear hw1
  go_wp2_with fail
  refine (NumText_impl v _ H1.out H2.out (HE.out.next B1.out).pow).mono ?_
  rintro e w2 ⟨rfl, hb2⟩
  rw [HS.out]
  have B2 := Lib.hid (B1.out.trans (hb2.mono B1.out.size))
  clear hb2
  go_wp2_with fail
  go_ret2
  refine ⟨?_, B2.out⟩
  rw [HN.out]; rfl

set_option maxHeartbeats 400000 in
theorem numRead_other (s : ByteArray) (v : Int) (w : World) (hs : s.size ≤ 2000000) (hA : Lib.atoiAll s.data.toList = .ok v) (he : ¬ Lib.itoa v = s.data.toList) (hE : Env w) :
    Calls Tryd.prog 56 #[.string s] w (NumD s w) := by
  have hn : numA s.data.toList = none := by unfold numA; rw [hA]; simp [he]
  have HE := Lib.hid hE
  have HA := Lib.hid hA
  have HN := Lib.hid hn
  have hq : (Lib.itoa v == s.toList) = false := by rw [ByteArray.toList_eq]; simp [he]
  have hb := bounds_ok hA
  have H1 := Lib.hid hb.1
  have H2 := Lib.hid hb.2
  clear hE hA hn hb he
  go_enter Tryd.func56, Tryd.ntmps56
  go_wp2_with fail
  refine (Any.strconv_Atoi_ok Tryd.laysC172 s (by omega) v HA.out _).mono ?_
  rintro e w1 ⟨rfl, hw1⟩
  have B1 := Lib.hid (below_bytes hw1)
  clear hw1
  go_wp2_with fail
  refine (NumText_impl v _ H1.out H2.out (HE.out.next B1.out).pow).mono ?_
  rintro e w2 ⟨rfl, hb2⟩
  have B2 := Lib.hid (B1.out.trans (hb2.mono B1.out.size))
  clear hb2
  go_wp2_with fail
  go_ret2
  refine ⟨?_, B2.out⟩
  rw [HN.out]; rfl

set_option maxHeartbeats 400000 in
theorem numRead_bad (s : ByteArray) (w : World) (hs : s.size ≤ 2000000) (hA : ∀ v, Lib.atoiAll s.data.toList ≠ .ok v) (hE : Env w) :
    Calls Tryd.prog 56 #[.string s] w (NumD s w) := by
  have hn : numA s.data.toList = none := by
    unfold numA
    split
    · rename_i v hv; exact absurd hv (hA v)
    · rfl
  have key : Calls Tryd.prog 60 #[.string s] w fun e w' => ∃ (x : Int) (N : Nat), e = .returned (.tuple #[.int .i64 x, .iface 96 (.pointer (some ⟨N, 0, none⟩))]) ∧ Below w.heap.size w w' := by
    obtain ⟨tp, p, h1⟩ := hE.syn
    obtain ⟨tq, q, h2⟩ := hE.ran
    cases hr : Lib.atoiAll s.data.toList with
    | ok v => exact absurd hr (hA v)
    | range => exact (Any.strconv_Atoi_range_var Tryd.laysC172 s (by omega) hr tq q w h2).mono fun e w' ⟨N, he, _, _, hb⟩ => ⟨_, N, he, hb⟩
    | _ => exact (Any.strconv_Atoi_syntax_var Tryd.laysC172 s (by omega) hr tp p w h1).mono fun e w' ⟨N, he, _, _, hb⟩ => ⟨0, N, he, hb⟩
  have HN := Lib.hid hn
  have HK := Lib.hid key
  clear hn key hA hE
  go_enter Tryd.func56, Tryd.ntmps56
  go_wp2_with fail
  refine HK.out.mono ?_
  rintro e w1 ⟨x, N, rfl, hb1⟩
  have B1 := Lib.hid hb1
  clear hb1
  go_wp2_with fail
  go_ret2
  refine ⟨?_, B1.out⟩
  rw [HN.out]; rfl

theorem numRead_any (s : ByteArray) (w : World) (hs : s.size ≤ 2000000) (hE : Env w) : Calls Tryd.prog 56 #[.string s] w (NumD s w) := by
  by_cases h : ∃ v, Lib.atoiAll s.data.toList = .ok v
  · obtain ⟨v, hv⟩ := h
    by_cases he : Lib.itoa v = s.data.toList
    · exact numRead_same s v w hs hv he hE
    · exact numRead_other s v w hs hv he hE
  · exact numRead_bad s w hs (fun v hv => h ⟨v, hv⟩) hE
end Go.Proofs.YtdipkbgfkbmfnaaDoor.num
