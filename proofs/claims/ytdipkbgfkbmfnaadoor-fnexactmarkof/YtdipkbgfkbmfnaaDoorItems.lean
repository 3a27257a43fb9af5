/-
  THE CONTRACTS OF itemOf AND itemsOf of the program: the words of a text between its blanks, the first few of them, each a number or a text.
-/
import Derived.Test.YtdipkbgfkbmfnaaDoorNumRead
import Derived.Test.YtdipkbgfkbmfnaaDoorEvMath
import Derived.Test.YtdipkbgfkbmfnaaDoorSpecWords
import Derived.Test.YtdipkbgfkbmfnaaDoorRune
import Derived.Test.YtdipkbgfkbmfnaaDoorGrow
namespace Go.Proofs.YtdipkbgfkbmfnaaDoor.dat
open Go.RowKit Go.Proofs.YtdipkbgfkbmfnaaDoor.win
open Go.Proofs.YtdipkbgfkbmfnaaDoor.num (Env Env.next numA numRead_any words str extract_str what_blank what_other what_end)

/-- A word as an item. -/
def itemV (x : List UInt8) : Value := match numA x with
  | some n => .iface 3 (.int .i64 n)
  | none => .iface 9 (.string (str x))
def RItem : Rel (List UInt8) := fun _ cs x f => cs = [itemV x] ∧ f = []
theorem local_item : Local RItem := ⟨fun h _ => h, fun h b hb => by rw [h.2] at hb; simp at hb⟩
theorem str_list (s : ByteArray) : str s.data.toList = s := by simp [str]

set_option maxHeartbeats 1000000 in
theorem itemOf (s : ByteArray) (w : World) (hs : s.size ≤ 2000000) (hE : Env w) : Calls Tryd.prog 50 #[.string s] w fun e w' => e = .returned (itemV s.data.toList) ∧ Below w.heap.size w w' := by
  obtain ⟨r, hr⟩ : ∃ r, itemV s.data.toList = r := ⟨_, rfl⟩
  rw [hr]
  unfold itemV at hr
  rw [str_list] at hr
  have HR := Lib.hid hr
  have HE := Lib.hid hE
  clear hr hE
  go_enter Tryd.func50, Tryd.ntmps50
  go_wp2_with fail
  refine (numRead_any s _ hs HE.out).mono ?_
  rintro e w1 ⟨rfl, hb1⟩
  have B1 := Lib.hid hb1
  clear hb1
  cases hn : numA s.data.toList with
  | none =>
    have hR := HR.out
    rw [hn] at hR
    have HR2 := Lib.hid hR
    clear hR hn
    simp only [Option.getD_none, Option.isSome_none]
    go_wp2_with fail
    go_ret
    exact ⟨by rw [← HR2.out]; rfl, B1.out⟩
  | some n =>
    have hR := HR.out
    rw [hn] at hR
    have HR2 := Lib.hid hR
    clear hR hn
    simp only [Option.getD_some, Option.isSome_some]
    go_wp2_with fail
    go_ret
    exact ⟨by rw [← HR2.out]; rfl, B1.out⟩

theorem info_any : ∃ i, Tryd.prog.info? 20 = some i ∧ i.zero = some .nilIface ∧ i.size = 1 ∧ i.bytes = 16 := by
  obtain ⟨i, hi, h⟩ := Option.map_eq_some_iff.1 (show (Tryd.prog.info? 20).map (fun i => (i.zero, i.size, i.bytes)) = some (some .nilIface, 1, 16) by kernel_rfl)
  simp only [Prod.mk.injEq] at h
  exact ⟨i, hi, h.1, h.2.1, h.2.2⟩
theorem item_form (x : List UInt8) : ∃ tp v, itemV x = .iface tp v := by unfold itemV; split <;> exact ⟨_, _, rfl⟩
theorem item_one (x : List UInt8) : (itemV x).oneCell' = true := by unfold itemV; split <;> rfl

/-- Along the way: the words so far, where the next one begins, how far the text is read. -/
structure Cutting (s : ByteArray) (w : World) (D : List (List UInt8)) (f i : Nat) (v : Value) (wr : World) : Prop where
  iter : wr.heap[w.heap.size]? = some (.stringIter s i)
  row : Grows 1 RItem 20 (w.heap.size + 1) wr v D
  below : Below w.heap.size w wr
  fi : f ≤ i
  isz : i ≤ s.size
  what : words s.data.toList = D ++ words (s.data.toList.drop f)
  none : 32 ∉ (s.data.toList.drop f).take (i - f)
  few : D.length < 7
theorem get_list (s : ByteArray) (i : Nat) (h : i < s.size) : s.data.toList[i]'h = s.get! i := by
  rw [get_byte s i h]
  rfl
/-- Bytes that are no blanks do not end a word. -/
theorem skip_some {s : ByteArray} {f i : Nat} (hf : f ≤ i) (hn : 32 ∉ (s.data.toList.drop f).take (i - f)) : ∀ (k : Nat), i + k ≤ s.size → (∀ j, j < k → (s.get! (i + j)).toNat ≠ 32) → 32 ∉ (s.data.toList.drop f).take (i + k - f)
  | 0, _, _ => by simpa using hn
  | k + 1, hk, hb => by
    have ih := skip_some hf hn k (by omega) (fun j hj => hb j (by omega))
    have hi : i + k < s.data.toList.length := by show i + k < s.size; omega
    have := what_other (l := s.data.toList) (f := f) (i := i + k) hi (by omega) (fun e => ?_) ih
    · rw [show i + (k + 1) - f = i + k + 1 - f by omega]; exact this
    · rw [get_list s (i + k) (by omega)] at e
      exact hb k (by omega) (by rw [e]; rfl)

/-- What itemsOf answers: the first seven words, as items. -/
def Itemed (s : ByteArray) (w : World) (r : Ending) (w' : World) : Prop := ∃ (a : Option Addr) (c : Nat) (fp : List Nat), r = .returned (.slice a ((words s.data.toList).take 7).length c) ∧ GRow 1 RItem w' a ((words s.data.toList).take 7).length ((words s.data.toList).take 7) fp ∧ ((words s.data.toList).take 7).length ≤ c ∧ c ≤ 9223372036854775807 ∧ Below w.heap.size w w'
theorem itemed_of {s : ByteArray} {w wr : World} {v : Value} {D : List (List UInt8)} (h : Grows 1 RItem 20 (w.heap.size + 1) wr v D) (hD : (words s.data.toList).take 7 = D) (hb : Below w.heap.size w wr) : Itemed s w (.returned v) wr := by
  obtain ⟨a, cap, fp, rfl, hg, h1, h2, _⟩ := h.done
  unfold Itemed
  rw [hD]
  exact ⟨a, cap, fp, rfl, hg, h1, h2, hb⟩

set_option maxRecDepth 100000 in
set_option maxHeartbeats 4000000 in
theorem itemsOf (s : ByteArray) (w : World) (hs : s.size ≤ 2000000) (hE : Env w) : Calls Tryd.prog 42 #[.string s, .int .i64 7] w (Itemed s w) := by
  have HE := Lib.hid hE
  clear hE
  obtain ⟨i0, hi, hz0, hz1, hz2⟩ := info_any
  go_enter Tryd.func42, Tryd.ntmps42
  go_wp2_with fail
  go_loopg [5, 6] (s.size + 1) (fun k v fr wr => ∃ (D : List (List UInt8)) (f i : Nat), i + k = s.size + 1 ∧ fr = .int .i64 f ∧ Cutting s w D f i v wr)
  case atStart =>
    refine ⟨[], 0, 0, by omega, rfl, World.iter_heap w s 0, Grows.nil, (Below.refl _ _).alloc (Nat.le_refl _) _, Nat.le_refl _, Nat.zero_le _, by simp, by simp, by simp⟩
  case round =>
    obtain ⟨D, f, i, hik, rfl, hC⟩ := hrel
    have HC := Lib.hid hC
    have hfi := hC.fi
    have his := hC.isz
    by_cases hlt : i < s.size
    case neg =>
      have hnx := fun ty => Lib.run_next_end_at (P := Tryd.prog) wr w.heap.size s i ty hC.iter hlt
      have HX := Lib.hid (what_end (l := s.data.toList) (i := i) (by show i = s.size; omega) hC.what hC.none)
      obtain ⟨u, hu⟩ : ∃ u, s.extract f s.size = u := ⟨_, rfl⟩
      have hul : u.data.toList = (s.data.toList.drop f).take (i - f) := by
        rw [← hu, extract_str, show i = s.size by omega]
        simp [str]
      have hus : u.size ≤ 2000000 := by
        have h : u.data.toList.length = u.size := rfl
        rw [← h, hul, List.length_take, List.length_drop]
        have h2 : s.data.toList.length = s.size := rfl
        omega
      rw [← hul] at HX
      have hf2 : (f : Int) ≤ (s.size : Int) := by omega
      have hf2n : f ≤ s.size := by omega
      clear hC hul
      go_wp2_with fail
      refine (itemOf u _ hus (HE.out.next HC.out.below)).mono ?_
      rintro e w3 ⟨rfl, b3⟩
      obtain ⟨tp, vv, hiv⟩ := item_form u.data.toList
      have HIV := Lib.hid hiv
      rw [hiv]
      clear hiv
      have HG3 := Lib.hid (HC.out.row.below local_item b3)
      have HB3 := Lib.hid (HC.out.below.trans (b3.mono HC.out.below.size))
      have HZ3 := Lib.hid (show w.heap.size + 1 ≤ w3.heap.size from Nat.le_trans (Nat.succ_le_of_lt (Array.getElem?_eq_some_iff.1 HC.out.iter).1) b3.size)
      clear b3 hnx
      go_wp2_with (at_builtin; refine push local_item rfl _ _ 74 rfl i0 .nilIface 16 Tryd.underlying74 hi hz0 hz1 hz2 rfl (by decide) rfl HG3.out ((Below.refl _ _).alloc (Nat.le_refl _) _) w3.heap.size 1 rfl [.iface tp vv] rfl (fun x hx => by simp at hx; subst hx; rfl) (fun j x hj => by have := cell_one_new w3 (.iface tp vv) 20 j x hj; rwa [Go.WideShapes.add_plain, Nat.zero_add] at this) (u.data.toList) [] ⟨by rw [HIV.out], rfl⟩ Own.nil (by have := HC.out.few; omega) (by have := HC.out.few; unfold maxLen; omega) HZ3.out ?_; intro v' w4 hG4 hb4)
      go_ret
      refine itemed_of hG4 ?_ ((HB3.out.alloc HB3.out.size _).trans (hb4.mono (by omega)))
      rw [HX.out]
      exact List.take_of_length_le (by have := HC.out.few; simp; omega)
    have hsz : i < s.data.toList.length := hlt
    by_cases hbl : (s.get! i).toNat = 32
    case pos =>
      have hg : s[i]'hlt = s.get! i := (get_byte s i hlt).symm
      have hnx : ∀ ty, (Instr.next (.pointer (some ⟨w.heap.size, 0, none⟩)) true ty).run Tryd.prog wr = .ok (.tuple #[.bool true, .int .i64 i, .int .i32 32]) (wr.iterAt w.heap.size s (i + 1)) := fun ty => by
        have := Lib.run_next_ascii_at (P := Tryd.prog) wr w.heap.size s i ty hC.iter hlt (by rw [hg]; omega)
        rw [hg, hbl] at this
        exact this
      have h32 : s.data.toList[i] = 32 := by
        rw [get_list s i hlt]
        exact UInt8.toNat_inj.1 hbl
      have HX := Lib.hid (what_blank (l := s.data.toList) (i := i) hsz hC.fi h32 hC.what hC.none)
      obtain ⟨u, hu⟩ : ∃ u, s.extract f i = u := ⟨_, rfl⟩
      have hul : u.data.toList = (s.data.toList.drop f).take (i - f) := by
        rw [← hu, extract_str]
        simp [str]
      have hus : u.size ≤ 2000000 := by
        have h : u.data.toList.length = u.size := rfl
        rw [← h, hul, List.length_take, List.length_drop]
        have h2 : s.data.toList.length = s.size := rfl
        omega
      rw [← hul] at HX
      have hf2 : (f : Int) ≤ (i : Int) := by omega
      have hf3 : (i : Int) ≤ (s.size : Int) := by omega
      have hf2n : f ≤ i := by omega
      have hf3n : i ≤ s.size := by omega
      have HIT := Lib.hid (Lib.iterAt_heap wr w.heap.size s i (i + 1) hC.iter)
      have HGI := Lib.hid (hC.row.keep local_item (w' := wr.iterAt w.heap.size s (i + 1)) (fun b hb _ => Lib.iterAt_other wr w.heap.size b s (i + 1) (by omega)))
      have HBI := Lib.hid (Lib.below_iterAt hC.below (Nat.le_refl _) s (i + 1))
      clear hC hul hg h32 hbl hsz
      go_wp2_with fail
      clear hnx
      generalize wr.iterAt w.heap.size s (i + 1) = wi at *
      refine (itemOf u _ hus (HE.out.next HBI.out)).mono ?_
      rintro e w3 ⟨rfl, b3⟩
      obtain ⟨tp, vv, hiv⟩ := item_form u.data.toList
      have HIV := Lib.hid hiv
      rw [hiv]
      clear hiv
      have HG3 := Lib.hid (HGI.out.below local_item b3)
      have HB3 := Lib.hid (HBI.out.trans (b3.mono HBI.out.size))
      have hlt3 := (Array.getElem?_eq_some_iff.1 HIT.out).1
      have HI3 := Lib.hid ((b3.block w.heap.size hlt3).trans HIT.out)
      have HZ3 := Lib.hid (show w.heap.size + 1 ≤ w3.heap.size from Nat.le_trans (Nat.succ_le_of_lt hlt3) b3.size)
      clear b3 hlt3
      have hfew := HC.out.few
      by_cases h7 : D.length + 1 = 7
      · have h7i : ((D.length : Int) + 1 == 7) = true := by simp; omega
        go_wp2_with (at_builtin; refine push local_item rfl _ _ 74 rfl i0 .nilIface 16 Tryd.underlying74 hi hz0 hz1 hz2 rfl (by decide) rfl HG3.out ((Below.refl _ _).alloc (Nat.le_refl _) _) w3.heap.size 1 rfl [.iface tp vv] rfl (fun x hx => by simp at hx; subst hx; rfl) (fun j x hj => by have := cell_one_new w3 (.iface tp vv) 20 j x hj; rwa [Go.WideShapes.add_plain, Nat.zero_add] at this) (u.data.toList) [] ⟨by rw [HIV.out], rfl⟩ Own.nil (by have := HC.out.few; omega) (by have := HC.out.few; unfold maxLen; omega) HZ3.out ?_; intro v' w4 hG4 hb4; obtain ⟨a', cap', rfl⟩ := hG4.slice)
        go_ret
        refine itemed_of (D := D ++ [u.data.toList]) (by have h := hG4; rw [show (D ++ [u.data.toList]).length = 7 by simp; omega] at h; exact h) ?_ ((HB3.out.alloc HB3.out.size _).trans (hb4.mono (by omega)))
        rw [HX.out, List.take_append_of_le_length (by simp; omega), List.take_of_length_le (by simp; omega)]
      · have h7i : ((D.length : Int) + 1 == 7) = false := by simp; omega
        go_wp2_with (at_builtin; refine push local_item rfl _ _ 74 rfl i0 .nilIface 16 Tryd.underlying74 hi hz0 hz1 hz2 rfl (by decide) rfl HG3.out ((Below.refl _ _).alloc (Nat.le_refl _) _) w3.heap.size 1 rfl [.iface tp vv] rfl (fun x hx => by simp at hx; subst hx; rfl) (fun j x hj => by have := cell_one_new w3 (.iface tp vv) 20 j x hj; rwa [Go.WideShapes.add_plain, Nat.zero_add] at this) (u.data.toList) [] ⟨by rw [HIV.out], rfl⟩ Own.nil (by have := HC.out.few; omega) (by have := HC.out.few; unfold maxLen; omega) HZ3.out ?_; intro v' w4 hG4 hb4; obtain ⟨a', cap', rfl⟩ := hG4.slice)
        go_roundg (s.size + 1 - (i + 1))
        case measure => omega
        case rel =>
          refine ⟨D ++ [u.data.toList], i + 1, i + 1, by omega, by go_num, ?_, (by have h := hG4; rw [show (D ++ [u.data.toList]).length = D.length + 1 by simp] at h; exact h), (HB3.out.alloc HB3.out.size _).trans (hb4.mono (by omega)), Nat.le_refl _, by omega, HX.out, by simp, by simp; omega⟩
          rw [hb4.block w.heap.size (by omega), Below.heap_alloc w3 _ _ (by have := HZ3.out; omega)]
          exact HI3.out
    case neg =>
      obtain ⟨r, hr⟩ : ∃ r, (Utf8.decode s i).1 = r := ⟨_, rfl⟩
      obtain ⟨wd, hwd⟩ : ∃ wd, (Utf8.decode s i).2 = wd := ⟨_, rfl⟩
      have hg : s[i]'hlt = s.get! i := (get_byte s i hlt).symm
      have hfacts : r ≠ 32 ∧ 1 ≤ wd ∧ i + wd ≤ s.size ∧ ∀ k, k < wd → (s.get! (i + k)).toNat ≠ 32 := by
        by_cases ha : (s[i]'hlt).toNat < 128
        · have hd := decode_ascii s i hlt ha
          rw [hd] at hr hwd
          simp only at hr hwd
          subst hr hwd
          refine ⟨by rw [hg]; exact hbl, Nat.le_refl _, by omega, fun k hk => ?_⟩
          obtain rfl : k = 0 := by omega
          exact hbl
        · have h1 := rune_high s i hlt (by omega)
          have h2 := decode_high s i hlt (by omega)
          rw [hwd] at h1
          rw [hr] at h2
          exact ⟨by omega, h1.1, h1.2.1, h1.2.2⟩
      have hnx : ∀ ty, (Instr.next (.pointer (some ⟨w.heap.size, 0, none⟩)) true ty).run Tryd.prog wr = .ok (.tuple #[.bool true, .int .i64 i, .int .i32 r]) (wr.iterAt w.heap.size s (i + wd)) := fun ty => by
        have := Lib.run_next_any_at (P := Tryd.prog) wr w.heap.size s i ty hC.iter hlt
        rw [hr, hwd] at this
        exact this
      have hr32 : ((r : Int) == 32) = false := by simp; omega
      have hr32' : ((r : Int) != 32) = true := by simp [bne, hr32]
      have HNEW := Lib.hid (show Cutting s w D f (i + wd) _ (wr.iterAt w.heap.size s (i + wd)) from
        ⟨Lib.iterAt_heap wr w.heap.size s i (i + wd) hC.iter, hC.row.keep local_item (fun b hb _ => Lib.iterAt_other wr w.heap.size b s (i + wd) (by omega)), Lib.below_iterAt hC.below (Nat.le_refl _) s (i + wd), by omega, hfacts.2.2.1, hC.what, skip_some hC.fi hC.none wd hfacts.2.2.1 hfacts.2.2.2, hC.few⟩)
      have hw1 := hfacts.2.1
      have hw2 := hfacts.2.2.1
      clear hC hr hwd hg hfacts hbl hsz HC
      go_wp2_with fail
      go_roundg (s.size + 1 - (i + wd))
      case measure => omega
      case rel => exact ⟨D, f, i + wd, by omega, rfl, HNEW.out⟩
end Go.Proofs.YtdipkbgfkbmfnaaDoor.dat
