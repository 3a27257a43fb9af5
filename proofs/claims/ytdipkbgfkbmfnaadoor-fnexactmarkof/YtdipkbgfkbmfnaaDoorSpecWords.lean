/-
  THE CONTRACT OF THE MODEL's l01Words: the words of a text, in new memory.
  Condition: the text is no longer than 60 bytes.
-/
import Derived.Test.YtdipkbgfkbmfnaaDoorReadMath
import Derived.Test.YtdipkbgfkbmfnaaDoorStr
import Derived.Test.YtdipkbgfkbmfnaaDoorNumLaw
import Derived.Deep.LoopGhost
namespace Go.Proofs.YtdipkbgfkbmfnaaDoor.num
open Go.RowKit

theorem info_str : (Tryd.prog.info? 9).map (fun i => (i.zero, i.size, i.bytes)) = some (some (.string ByteArray.empty), 1, 16) := by kernel_rfl

def strs (l : List (List UInt8)) : List Value := l.map fun x => .string (str x)

theorem own_ge {base n size : Nat} {w : World} {e : TypeId} {v : Value} {xs : List Value} (h : w.ownsRow base e size v n xs) : ∀ k, v.ownBlock = some k → base ≤ k := by
  intro k hk
  rcases h.2 with ⟨rfl, _⟩ | ⟨g, cap, cur, rfl, hg, _⟩
  · simp [Value.ownBlock] at hk
  · simp [Value.ownBlock] at hk; omega

/-- Along the way: the words that end ahead of here are laid. -/
structure Wording (l : List UInt8) (w : World) (D : List (List UInt8)) (f i : Nat) (v : Value) (wr : World) : Prop where
  owns : wr.ownsRow w.heap.size 9 1 v D.length (strs D)
  nn : v ≠ .slice none 0 0
  below : Below w.heap.size w wr
  fi : f ≤ i
  few : D.length ≤ i
  what : (i ≤ l.length ∧ words l = D ++ words (l.drop f) ∧ 32 ∉ (l.drop f).take (i - f)) ∨ (i = l.length + 1 ∧ words l = D)

def Words (l : List UInt8) (w : World) (e : Ending) (w' : World) : Prop :=
  ∃ v, e = .returned v ∧ w'.ownsRow w.heap.size 9 1 v (words l).length (strs (words l)) ∧ v ≠ .slice none 0 0 ∧ Below w.heap.size w w'

theorem extract_str (s : ByteArray) (f i : Nat) : s.extract f i = str ((s.data.toList.drop f).take (i - f)) := by
  unfold str
  apply ByteArray.ext
  rw [ByteArray.data_extract]
  apply Array.toList_inj.1
  simp [Array.toList_extract, List.extract_eq_take_drop]

/-- A word ends at a blank. -/
theorem what_blank {l : List UInt8} {D : List (List UInt8)} {f i : Nat} (hi : i < l.length) (hf : f ≤ i) (hb : l[i] = 32) (h : words l = D ++ words (l.drop f)) (hn : 32 ∉ (l.drop f).take (i - f)) : words l = (D ++ [(l.drop f).take (i - f)]) ++ words (l.drop (i + 1)) := by
  have e : l.drop f = (l.drop f).take (i - f) ++ 32 :: l.drop (i + 1) := by
    conv => lhs; rw [← List.take_append_drop (i - f) (l.drop f)]
    rw [List.drop_drop, show f + (i - f) = i by omega, List.drop_eq_getElem_cons hi, hb]
  rw [h, List.append_assoc]
  conv => lhs; rw [e]
  rw [words_word hn]; rfl
theorem what_other {l : List UInt8} {f i : Nat} (hi : i < l.length) (hf : f ≤ i) (hb : ¬ l[i] = 32) (hn : 32 ∉ (l.drop f).take (i - f)) : 32 ∉ (l.drop f).take (i + 1 - f) := by
  have hlen : i - f < (l.drop f).length := by rw [List.length_drop]; omega
  rw [show i + 1 - f = (i - f) + 1 by omega, List.take_succ_eq_append_getElem hlen]
  have e : (l.drop f)[i - f] = l[i] := by
    rw [List.getElem_drop]; congr 1; omega
  intro hm
  rcases List.mem_append.1 hm with hm | hm
  · exact hn hm
  · rw [List.mem_singleton, e] at hm; exact hb hm.symm
theorem what_end {l : List UInt8} {D : List (List UInt8)} {f i : Nat} (hi : i = l.length) (h : words l = D ++ words (l.drop f)) (hn : 32 ∉ (l.drop f).take (i - f)) : words l = D ++ [(l.drop f).take (i - f)] := by
  have e : (l.drop f).take (i - f) = l.drop f := List.take_of_length_le (by rw [List.length_drop]; omega)
  rw [e] at hn ⊢
  rw [h, words_one hn]

/-- A word more. -/
theorem Wording.step {l : List UInt8} {w wr w3 : World} {D : List (List UInt8)} {f i : Nat} {v v' : Value} {o : Obj} {x : List UInt8} (h : Wording l w D f i v wr)
    (hown' : w3.ownsRow w.heap.size 9 1 v' (D.length + 1) (strs D ++ [.string (str x)])) (hg : (wr.alloc o).grownBy w3 v.ownBlock) (hnil : v' = .slice none 0 0 ↔ v = .slice none 0 0 ∧ 1 = 0)
    (hw : (i + 1 ≤ l.length ∧ words l = (D ++ [x]) ++ words (l.drop (i + 1))) ∨ (i = l.length ∧ words l = D ++ [x])) : Wording l w (D ++ [x]) (i + 1) (i + 1) v' w3 := by
  have hB : Below w.heap.size wr w3 := ((Below.refl _ _).alloc h.below.size _).grown hg (by have := h.below.size; simp; omega) (own_ge h.owns)
  refine ⟨?_, fun e => by have := (hnil.1 e).2; omega, h.below.trans hB, Nat.le_refl _, by have := h.few; simp; omega, ?_⟩
  · have e : strs (D ++ [x]) = strs D ++ [.string (str x)] := by simp [strs]
    rw [e, List.length_append]; exact hown'
  · rcases hw with ⟨h1, h2⟩ | ⟨h1, h2⟩
    · exact .inl ⟨h1, h2, by simp⟩
    · exact .inr ⟨by omega, h2⟩

set_option maxHeartbeats 1000000 in
set_option maxRecDepth 100000 in
theorem l01Words_any (s : ByteArray) (w : World) (hs : s.size ≤ 60) : Calls Tryd.prog 28 #[.string s] w (Words s.data.toList w) := by
  obtain ⟨i0, hi, hz0, hz1, hz2⟩ := info_parts info_str
  go_enter Tryd.func28, Tryd.ntmps28
  go_wp2_with fail
  go_loopg [3, 4, 5] (s.size + 1) (fun k v f i wr => ∃ (D : List (List UInt8)) (f' i' : Nat), i' + k = s.size + 1 ∧ f = .int .i64 f' ∧ i = .int .i64 i' ∧ Wording s.data.toList w D f' i' v wr)
  case atStart =>
    refine ⟨[], 0, 0, by omega, rfl, rfl, ?_, by simp, (Below.refl _ _).alloc (Nat.le_refl _) _, Nat.le_refl _, Nat.le_refl _, .inl ⟨Nat.zero_le _, by simp, by simp⟩⟩
    exact ⟨rfl, .inr ⟨w.heap.size, 0, #[], rfl, Nat.le_refl _, (MapKept.heap_alloc w _).1, Nat.le_refl _, by simp [maxLen], rfl, rfl⟩⟩
  case round =>
    obtain ⟨D, f, i, hk, rfl, rfl, hd⟩ := hrel
    have HD := Lib.hid hd
    have hfi := hd.fi
    have hfew := hd.few
    have hown := hd.owns
    clear hd
    have hll : s.data.toList.length = s.size := rfl
    by_cases hlt : i < s.size
    · have hne : ((i : Int) == (s.size : Int)) = false := by simp; omega
      have hW := HD.out.what
      have hW : words s.data.toList = D ++ words (s.data.toList.drop f) ∧ 32 ∉ (s.data.toList.drop f).take (i - f) := by
        rcases hW with h | h
        · exact h.2
        · omega
      have HW := Lib.hid hW
      clear hW
      have hget : s.data.toList[i]'(by rw [hll]; exact hlt) = s[i] := rfl
      by_cases hb : s[i] = 32
      · have hbb : ((s[i].toNat : Int) == 32) = true := by rw [hb]; rfl
        have HX := Lib.hid (what_blank (by rw [hll]; exact hlt) hfi (hget.trans hb) HW.out.1 HW.out.2)
        clear hb hget
        go_wp2_with (at_builtin; refine wpList_append_own _ rfl _ _ 26 rfl w.heap.size 9 i0 (.string ByteArray.empty) 1 16 Tryd.underlying26 hi hz0 hz1 hz2 rfl (by decide) _ _ _ rfl (hown.alloc _) ⟨wr.heap.size, 0, none⟩ 1 1 [.string (s.extract f i)] rfl rfl (cell_one_new _ _ _) (fun x hx => by simp at hx; subst hx; rfl) (by unfold maxLen; omega) (by omega) (by have := HD.out.below.size; simp; omega) ?_; intro v' w3 hown' hgrow3 hnil3)
        rw [extract_str] at hown'
        go_roundg (s.size - i)
        case measure => omega
        case rel => exact ⟨D ++ [(s.data.toList.drop f).take (i - f)], i + 1, i + 1, by omega, by go_num, by go_num, HD.out.step hown' hgrow3 hnil3 (.inl ⟨by rw [hll]; omega, HX.out⟩)⟩
      · have hbb : ((s[i].toNat : Int) == 32) = false := by
          rw [beq_eq_false_iff_ne]
          intro e
          exact hb (UInt8.toNat_inj.1 (by show s[i].toNat = 32; omega))
        have HX := Lib.hid (what_other (by rw [hll]; exact hlt) hfi (fun e => hb (hget.symm.trans e)) HW.out.2)
        clear hb hget
        go_wp2_with fail
        go_roundg (s.size - i)
        case measure => omega
        case rel => exact ⟨D, f, i + 1, by omega, rfl, by go_num, HD.out.owns, HD.out.nn, HD.out.below, by omega, by omega, .inl ⟨by rw [hll]; omega, HW.out.1, HX.out⟩⟩
    · by_cases hq : i = s.size
      · have hW := HD.out.what
        have hW : words s.data.toList = D ++ words (s.data.toList.drop f) ∧ 32 ∉ (s.data.toList.drop f).take (i - f) := by
          rcases hW with h | h
          · exact h.2
          · omega
        have HX := Lib.hid (what_end (hq.trans hll.symm) hW.1 hW.2)
        subst hq
        clear hW
        go_wp2_with (at_builtin; refine wpList_append_own _ rfl _ _ 26 rfl w.heap.size 9 i0 (.string ByteArray.empty) 1 16 Tryd.underlying26 hi hz0 hz1 hz2 rfl (by decide) _ _ _ rfl (hown.alloc _) ⟨wr.heap.size, 0, none⟩ 1 1 [.string (s.extract f s.size)] rfl rfl (cell_one_new _ _ _) (fun x hx => by simp at hx; subst hx; rfl) (by unfold maxLen; omega) (by omega) (by have := HD.out.below.size; simp; omega) ?_; intro v' w3 hown' hgrow3 hnil3)
        rw [extract_str] at hown'
        go_roundg (s.size - s.size)
        case measure => omega
        case rel => exact ⟨D ++ [(s.data.toList.drop f).take (s.size - f)], s.size + 1, s.size + 1, by omega, by go_num, by go_num, HD.out.step hown' hgrow3 hnil3 (.inr ⟨hll.symm, HX.out⟩)⟩
      · have hW : words s.data.toList = D := by
          rcases HD.out.what with h | h
          · omega
          · exact h.2
        have HX := Lib.hid hW
        clear hW
        go_wp2_with fail
        go_ret
        refine ⟨_, rfl, ?_, HD.out.nn, HD.out.below⟩
        rw [HX.out]; exact HD.out.owns
end Go.Proofs.YtdipkbgfkbmfnaaDoor.num
