/-
  THE CONTRACTS OF numsText and lineText of the program: numerals with a blank between each two, a word ahead of them; nothing that was there is written.
  Conditions: the library's table of powers of ten holds what its text lays; ints of 64 bits, at most 2,000,000 of them.
-/
import Derived.Test.YtemefahhogdoaaaDoorNumLaw
import Derived.Test.YtemefahhogdoaaaDoorDataInts
import Derived.Test.YtemefahhogdoaaaDoorGrow2
import Derived.Lib.Join
namespace Go.Proofs.YtemefahhogdoaaaDoor.dat
open Go.RowKit Go.Proofs.YtemefahhogdoaaaDoor.win
open Go.Proofs.YtemefahhogdoaaaDoor.num (Pow Pow.below Texted NumText_spec NumText_impl)

def bstr (l : List UInt8) : ByteArray := ⟨l.toArray⟩
theorem bstr_size (l : List UInt8) : (bstr l).size = l.length := by simp [bstr, ByteArray.size]
/-- Ints of 64 bits. -/
def W64 (l : List Int) : Prop := ∀ x ∈ l, -9223372036854775808 ≤ x ∧ x ≤ 9223372036854775807
/-- Numerals with a blank between each two. -/
def numsT (l : List Int) : List UInt8 := Lib.join (l.map Lib.itoa) [32]
theorem info_strs : ∃ i, Tryd.prog.info? 9 = some i ∧ i.zero = some (.string ByteArray.empty) ∧ i.size = 1 ∧ i.bytes = 16 := by
  obtain ⟨i, hi, h⟩ := Option.map_eq_some_iff.1 (show (Tryd.prog.info? 9).map (fun i => (i.zero, i.size, i.bytes)) = some (some (.string ByteArray.empty), 1, 16) by kernel_rfl)
  simp only [Prod.mk.injEq] at h
  exact ⟨i, hi, h.1, h.2.1, h.2.2⟩
theorem joinTail_len {l : List (List UInt8)} {n : Nat} (h : ∀ x ∈ l, x.length ≤ n) : (Lib.joinTail [32] l).length ≤ l.length * (n + 1) := by
  induction l with
  | nil => simp [Lib.joinTail]
  | cons x r ih =>
    have h1 := h x (by simp)
    have h2 := ih (fun y hy => h y (by simp [hy]))
    have : Lib.joinTail [32] (x :: r) = (32 :: x) ++ Lib.joinTail [32] r := by simp [Lib.joinTail]
    rw [this, List.length_append, List.length_cons, List.length_cons, Nat.succ_mul]
    omega
theorem join_len {l : List (List UInt8)} {n : Nat} (h : ∀ x ∈ l, x.length ≤ n) : (Lib.join l [32]).length ≤ l.length * (n + 1) := by
  cases l with
  | nil => simp [Lib.join_nil]
  | cons x r =>
    rw [Lib.join_cons, List.length_append, List.length_cons, Nat.succ_mul]
    have h1 := h x (by simp)
    have h2 := joinTail_len (l := r) (n := n) (fun y hy => h y (by simp [hy]))
    omega
theorem numsT_len {l : List Int} (h : W64 l) : (numsT l).length ≤ l.length * 22 := by
  have := join_len (l := l.map Lib.itoa) (n := 21) (fun x hx => by
    obtain ⟨y, hy, rfl⟩ := List.mem_map.1 hx
    exact Lib.itoa_length_le _ (h y hy).1 (h y hy).2)
  simpa [numsT] using this
/-- make([]string, 0, m). -/
theorem run_makeS (m : Nat) (hm : m ≤ 9000000) (w : World) :
    (Instr.makeSlice 56 (.int .i64 0) (.int .i64 (m : Int))).run Tryd.prog w = .ok (.slice (some ⟨w.heap.size, 0, none⟩) 0 m) (w.alloc (.cells (madeCells #[.string ByteArray.empty] (m * 1)) 9)) := by
  obtain ⟨i, hi, hz, hs, hb⟩ := info_strs
  have hr := run_make (P := Tryd.prog) w 56 9 i _ Tryd.underlying56 hi hz .i64 .i64 0 m (Int.le_refl _) (by omega) (by rw [hb]; omega) (by omega)
  simp only [Int.toNat_zero, Int.toNat_natCast, hs] at hr
  exact hr
/-- strings.Join of a row. -/
theorem join_row (a : Option Addr) (n c : Nat) (xs : List ByteArray) (f : List Nat) (sep : ByteArray) (w : World) (hrow : GRow 1 RStr w a n xs f) (hnc : n ≤ c) (hN : n ≤ 140737488355328) (hlen : (Lib.join (xs.map (·.data.toList)) sep.data.toList).length ≤ 140737488355328) :
    Calls Tryd.prog 33 #[.slice a n c, .string sep] w fun e w' => e = .returned (.string ⟨(Lib.join (xs.map (·.data.toList)) sep.data.toList).toArray⟩) ∧ Below w.heap.size w w' := by
  have hl := hrow.1
  by_cases h0 : n = 0
  · subst h0
    obtain rfl : xs = [] := List.length_eq_zero_iff.1 hl
    exact (Any.strings_Join_none Tryd.lays156 Tryd.Builder_Extra_156 a c sep w).mono fun e w' ⟨he, hw⟩ => ⟨he, hw ▸ Below.refl _ _⟩
  · obtain ⟨b, off, F, rfl, hb⟩ : ∃ (b off : Nat) (F : List (List Nat)), a = some ⟨b, off, none⟩ ∧ b < w.heap.size := by
      obtain ⟨_, ⟨h1, _⟩ | ⟨b, off, F, ha, hb, _⟩⟩ := hrow
      · exact absurd h1 h0
      · exact ⟨b, off, F, ha, hb⟩
    subst hl
    refine Any.strings_Join Tryd.lays156 Tryd.Builder_Extra_156 b off c xs sep w ?_ hb hN hnc hlen
    intro j x hx
    obtain ⟨b', off', y, f', cs, ha, hbl, hy, hcl, hR, hc⟩ := hrow.at (List.getElem?_eq_some_iff.1 hx).1
    cases ha
    rw [hx] at hy
    cases hy
    obtain ⟨rfl, _, rfl⟩ := hR
    simpa using hc 0 (by omega)

set_option maxRecDepth 100000 in
set_option maxHeartbeats 1000000 in
theorem numsText (a : Option Addr) (len cap : Nat) (l : List Int) (fp : List Nat) (w : World) (hrow : GRow 1 RInt w a len l fp) (hl0 : len ≤ 2000000) (hw : W64 l) (hp : Pow w) :
    Calls Tryd.prog 28 #[.slice a len cap] w (Texted (numsT l) w) := by
  have HG := Lib.hid hrow
  have HL := Lib.hid hrow.1
  have HW := Lib.hid hw
  have HP := Lib.hid hp
  clear hrow hw hp
  obtain ⟨i0, hi, hz0, hz1, hz2⟩ := info_strs
  go_enter Tryd.func28, Tryd.ntmps28
  have hmk := run_makeS len (by omega)
  go_wp2_with fail
  clear hmk
  go_loopg [3, 11] len (fun k v i wr => ∃ j : Nat, j + k = len ∧ i = .int .i64 j ∧ Grows 1 RStr 9 w.heap.size wr v ((l.take j).map fun d => bstr (Lib.itoa d)) ∧ Below w.heap.size w wr)
  case atStart => exact ⟨0, by omega, rfl, Grows.made _ _ (Nat.le_refl _) (by unfold maxLen; omega) (by rw [size_madeCells]; simp), by repeat (first | exact Below.refl _ _ | refine Below.setCell ?_ (by first | omega | (simp; done) | (simp; omega)) _ | refine Below.alloc ?_ (by first | omega | (simp; done) | (simp; omega)) _ | apply Below.drew)⟩
  case round =>
    obtain ⟨j, hj, rfl, hG, hB⟩ := hrel
    have HGr := Lib.hid hG
    have HB := Lib.hid hB
    by_cases hlt : j < len
    case neg =>
      obtain rfl : j = len := by omega
      obtain ⟨a', c', f', rfl, hg, hc1, hc2, _⟩ := hG.done
      have hlen : ((l.take j).map fun d => bstr (Lib.itoa d)).length = j := by simp; have := HL.out; omega
      have hmap : (((l.take j).map fun d => bstr (Lib.itoa d)).map (·.data.toList)) = l.map Lib.itoa := by
        rw [List.take_of_length_le (by rw [HL.out]; exact Nat.le_refl _)]
        simp [bstr]
      have hnl := numsT_len HW.out
      have hJ := fun W hb => join_row a' j c' _ f' ⟨#[32]⟩ W (GRow.below local_str (hlen ▸ hg) hb) (hlen ▸ hc1) (by omega) (by rw [hmap]; show (numsT l).length ≤ _; have := HL.out; omega)
      rw [hmap] at hJ
      have HJ := Lib.hid hJ
      rw [hlen]
      clear hG hB hg hc1 hc2 hJ hmap hlen hnl
      go_wp2_with fail
      refine (HJ.out wr (Below.refl _ _)).mono ?_
      rintro e w3 ⟨rfl, hb3⟩
      have B3 := Lib.hid (HB.out.trans (hb3.mono HB.out.size))
      clear hb3
      go_wp2_with fail
      go_ret
      exact ⟨rfl, B3.out⟩
    obtain ⟨b, off, x, f, cs, rfl, hbl, hx, hcl, hRx, hcc⟩ := HG.out.at hlt
    obtain ⟨rfl, rfl⟩ := hRx
    have hcell : wr.cell? ⟨b, off + j, none⟩ = some (.int .i64 x) := by
      have := (hB.cell (p := ⟨b, off + j * 1 + 0, none⟩) hbl).trans (hcc 0 (by omega))
      simpa using this
    have hlt2 : (j : Int) < (len : Int) := by omega
    have h02 : (0 : Int) ≤ (j : Int) := by omega
    have hxb := HW.out x (List.mem_of_getElem? hx)
    have HXB := Lib.hid hxb
    have hwl : ((l.take j).map fun d => bstr (Lib.itoa d)).length ≤ j := by simp; omega
    have HWS := Lib.hid (show ((l.take (j + 1)).map fun d => bstr (Lib.itoa d)) = ((l.take j).map fun d => bstr (Lib.itoa d)) ++ [bstr (Lib.itoa x)] by simp [List.take_add_one, hx])
    have hitl := Lib.itoa_length_le x hxb.1 hxb.2
    clear hB hG hx hcc hxb
    go_wp2_with fail
    refine (NumText_impl x _ HXB.out.1 HXB.out.2 (HP.out.below HB.out HP.out.2)).mono ?_
    rintro e' w3 ⟨rfl, b3⟩
    have H33 := Lib.hid (HB.out.trans (b3.mono HB.out.size))
    have HG3 := Lib.hid (HGr.out.below local_str b3)
    clear b3 hcell
    go_wp2_with (at_builtin; refine push local_str rfl _ _ 56 rfl i0 (.string ByteArray.empty) 16 Tryd.underlying56 hi hz0 hz1 hz2 rfl (by decide) rfl HG3.out ((Below.refl _ _).alloc (Nat.le_refl _) _) w3.heap.size 1 rfl [.string (bstr (Lib.itoa x))] rfl (fun u hu => by simp at hu; subst hu; rfl) (fun j u hj => by have := cell_one_new w3 (.string (bstr (Lib.itoa x))) 9 j u hj; rwa [Go.WideShapes.add_plain, Nat.zero_add] at this) (bstr (Lib.itoa x)) [] ⟨rfl, by rw [bstr_size]; omega, rfl⟩ Own.nil (by omega) (by unfold maxLen; omega) H33.out.size ?_; intro v' w4 hG4 hb4)
    go_roundg (len - (j + 1))
    case measure => omega
    case rel => exact ⟨j + 1, by omega, by go_num, by rw [HWS.out]; exact hG4, (H33.out.alloc H33.out.size _).trans hb4⟩

/-- A text behind another one. -/
theorem cat_two (x y : List UInt8) (hx : x.length ≤ 1000000000) (hy : y.length ≤ 1000000000) (w : World) : (Op.stringOp .add ⟨x.toArray⟩ ⟨y.toArray⟩).run Tryd.prog w = .ok (.string ⟨(x ++ y).toArray⟩) w :=
  by rw [run_string_add_sum w _ _ (by simp [ByteArray.size]; omega), ByteArray.mk_append_mk]

/-- A line: a word, the numbers behind it. -/
def lineT (x : List UInt8) (l : List Int) : List UInt8 := (x ++ [32]) ++ numsT l
set_option maxHeartbeats 400000 in
theorem lineText (x : List UInt8) (a : Option Addr) (len cap : Nat) (l : List Int) (fp : List Nat) (w : World) (hx : x.length ≤ 1000) (hrow : GRow 1 RInt w a len l fp) (hl0 : len ≤ 2000000) (hw : W64 l) (hp : Pow w) :
    Calls Tryd.prog 17 #[.string ⟨x.toArray⟩, .slice a len cap] w (Texted (lineT x l) w) := by
  have hnl := numsT_len hw
  have hll := hrow.1
  have c1 := cat_two x [32] (by omega) (by simp)
  have c2 := cat_two (x ++ [32]) (numsT l) (by simp; omega) (by omega)
  have HN := Lib.hid (fun W hb => numsText a len cap l fp W (GRow.below local_int hrow hb) hl0 hw (hp.below hb hp.2))
  clear hrow hw hp hnl hll
  unfold lineT
  generalize numsT l = y at *
  generalize x ++ [32] = z at *
  go_enter Tryd.func17, Tryd.ntmps17
  go_wp2_with fail
  refine (HN.out _ (Below.refl _ _)).mono ?_
  rintro e w2 ⟨rfl, hb2⟩
  have B2 := Lib.hid hb2
  clear hb2
  go_wp2_with fail
  go_ret
  exact ⟨rfl, B2.out⟩
end Go.Proofs.YtemefahhogdoaaaDoor.dat
