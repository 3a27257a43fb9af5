/-
  THE CONTRACT OF THE MODEL's NumText: it answers the decimal numeral of n, and nothing that was there is written.
  Condition: n is an int of 64 bits.
-/
import Derived.Test.YtemefahhogdoaaaDoorRows
import Derived.WalkKit
import Derived.WalkSpells
import Derived.WalkLawsBesides
import Derived.Deep.LoopGhost
import Derived.Lib.Hide
import Derived.Lib.ItoaNum
import Derived.Lib.ItoaLen
import Derived.Lib.UnsafeStr
import Derived.Laws.IdiomStrings
import Derived.IntWalk
namespace Go.Proofs.YtemefahhogdoaaaDoor.num
open Go.RowKit

theorem info_u8 : (Tryd.prog.info? 5).map (fun i => (i.zero, i.size, i.bytes)) = some (some (.int .u8 0), 1, 1) := by kernel_rfl

/-- A slice's elements are these bytes. -/
def BRow (w : World) (b : Nat) (l : List UInt8) : Prop := b < w.heap.size ∧ ∀ (j : Nat) (x : UInt8), l[j]? = some x → w.cell? ⟨b, j, none⟩ = some (.int .u8 x.toNat)

theorem BRow.below {w w' : World} {b : Nat} {l : List UInt8} (h : BRow w b l) (hb : Below w.heap.size w w') : BRow w' b l :=
  ⟨Nat.lt_of_lt_of_le h.1 hb.size, fun j x hx => (hb.cell (p := ⟨b, j, none⟩) h.1).trans (h.2 j x hx)⟩

theorem brow_of_owns {base n : Nat} {w : World} {e : TypeId} {v : Value} {l : List UInt8} (h : w.ownsRow base e 1 v n (Lib.byteCells l)) (hn : v ≠ .slice none 0 0) : ∃ b cap, v = .slice (some ⟨b, 0, none⟩) n cap ∧ BRow w b l ∧ base ≤ b := by
  obtain ⟨h1, h2⟩ := h
  rcases h2 with ⟨h0, _⟩ | ⟨k, cap, cur, hv, hk, hh, hnc, hcm, hcs, ht⟩
  · exact absurd h0 hn
  · refine ⟨k, cap, hv, ⟨(Array.getElem?_eq_some_iff.1 hh).1, fun j x hx => ?_⟩, hk⟩
    have hj : j < l.length := (List.getElem?_eq_some_iff.1 hx).1
    have hl : l.length = n * 1 := by simpa [Lib.byteCells] using h1
    have e2 : (cur.toList.take (n * 1))[j]? = (Lib.byteCells l)[j]? := by rw [ht]
    rw [List.getElem?_take, if_pos (by omega), Array.getElem?_toList] at e2
    have e3 : (Lib.byteCells l)[j]? = some (.int .u8 x.toNat) := by simp [Lib.byteCells, hx]
    rw [e3] at e2
    simp [World.cell?, hh, e2]

theorem brow_news {w : World} {b : Nat} {l : List UInt8} (h : BRow w b l) : ∀ (j : Nat) (u : Value), (Lib.byteCells l)[j]? = some u → w.cell? ((⟨b, 0, none⟩ : Addr).add j) = some u := by
  intro j u hu
  have e2 : (⟨b, 0, none⟩ : Addr).add j = ⟨b, j, none⟩ := by
    by_cases h0 : j = 0
    · subst h0; rfl
    · simp [Addr.add, h0]
  simp only [Lib.byteCells, List.getElem?_map, Option.map_eq_some_iff] at hu
  obtain ⟨x, hx, rfl⟩ := hu
  rw [e2]; exact h.2 j x hx

theorem brow_conv {w : World} {b : Nat} {l : List UInt8} (h : BRow w b l) (j : Nat) (hj : j < l.length) : w.cell? ((⟨b, 0, none⟩ : Addr).add j) = some (.int .u8 (l[j].toNat : Int)) :=
  brow_news h j _ (by rw [Lib.byteCells, List.getElem?_map, List.getElem?_eq_getElem hj]; rfl)

theorem bytes_one (l : List UInt8) : ∀ u ∈ Lib.byteCells l, u.oneCell' = true := by
  intro u hu
  simp only [Lib.byteCells, List.mem_map] at hu
  obtain ⟨v, _, rfl⟩ := hu
  rfl

theorem owns_new (w : World) (e : TypeId) (x : Value) : (w.alloc (.cells #[x] e)).ownsRow w.heap.size e 1 (.slice (some ⟨w.heap.size, 0, none⟩) 1 1) 1 [x] :=
  ⟨rfl, .inr ⟨w.heap.size, 1, #[x], rfl, Nat.le_refl _, (MapKept.heap_alloc w _).1, Nat.le_refl _, by simp [maxLen], rfl, rfl⟩⟩

/-- The digit that stands last. -/
def dig (k : Nat) : UInt8 := UInt8.ofNat (48 + k % 10)
theorem dig_val (k : Nat) : ((dig k).toNat : Int) = 48 + (k : Int) % 10 := by
  unfold dig
  rw [UInt8.toNat_ofNat_of_lt' (by simp [UInt8.size]; omega)]
  omega

/-- What is left to write, and what is written, are the number. -/
def Left (u k : Nat) (l : List UInt8) : Prop := if k = 0 then l = Lib.decDigits u else Lib.decDigits k ++ l = Lib.decDigits u

theorem Left.start (u : Nat) (h : u ≠ 0) : Left u u [] := by unfold Left; rw [if_neg h]; simp
theorem Left.step {u k : Nat} {l : List UInt8} (h : Left u k l) (hk : k ≠ 0) : Left u (k / 10) (dig k :: l) := by
  unfold Left at h ⊢
  rw [if_neg hk] at h
  by_cases h10 : k < 10
  · rw [if_pos (by omega), ← h, Lib.decDigits_one h10]
    have : k % 10 = k := by omega
    simp [dig, this]
  · rw [if_neg (by omega), ← h]
    rw [show Lib.decDigits k = Lib.decDigits (k / 10) ++ [UInt8.ofNat (48 + k % 10)] by rw [Lib.decDigits, dif_neg h10]]
    simp [dig]
theorem Left.len {u k : Nat} {l : List UInt8} (h : Left u k l) : l.length ≤ (Lib.decDigits u).length := by
  unfold Left at h
  split at h
  · rw [h]; exact Nat.le_refl _
  · rw [← h]; simp
theorem dec_len {u : Nat} (h : (u : Int) ≤ 9223372036854775808) : (Lib.decDigits u).length ≤ 22 := by
  by_cases h' : (u : Int) ≤ 9223372036854775807
  · have := Lib.itoa_length_le u (by omega) h'
    rw [show Lib.itoa (u : Int) = Lib.decDigits u by unfold Lib.itoa; rw [if_neg (by omega)]; simp] at this
    omega
  · have e : u = 9223372036854775808 := by omega
    have := Lib.itoa_length_le (-(u : Int)) (by omega) (by omega)
    rw [show Lib.itoa (-(u : Int)) = 45 :: Lib.decDigits u by unfold Lib.itoa; rw [if_pos (by omega)]; simp] at this
    simp at this; omega
theorem Left.done {u : Nat} {l : List UInt8} (h : Left u 0 l) : l = Lib.decDigits u := by simpa [Left] using h

/-- What NumText answers, and what it leaves. -/
def Texted (s : List UInt8) (w : World) (e : Ending) (w' : World) : Prop := e = .returned (.string ⟨s.toArray⟩) ∧ Below w.heap.size w w'

set_option maxHeartbeats 400000 in
theorem NumText_zero (w : World) : Calls Tryd.prog 13 #[.int .i64 0] w (Texted (Lib.itoa 0) w) := by
  go_enter Tryd.func13, Tryd.ntmps13
  go_wp2
  go_ret
  have e : Lib.itoa 0 = [48] := by
    have : Lib.itoa 0 = Lib.decDigits 0 := rfl
    rw [this, Lib.decDigits_one (by omega)]; rfl
  rw [e]
  exact ⟨rfl, Below.refl _ _⟩

theorem tmod_abs (m : Int) : (m.tmod 10).natAbs = m.natAbs % 10 := by rw [Int.natAbs_tmod]; rfl
theorem tdiv_abs (m : Int) : (m.tdiv 10).natAbs = m.natAbs / 10 := by rw [Int.natAbs_tdiv]; rfl

theorem cells_cons {x : Int} {c : UInt8} (h : (c.toNat : Int) = x) (l : List UInt8) : [Value.int .u8 x] ++ Lib.byteCells l = Lib.byteCells (c :: l) := by
  simp [Lib.byteCells, h]

/-- A byte ahead of bytes: what the append leaves. -/
theorem brow_cons {w w3 : World} {x : Int} {c : UInt8} {e : TypeId} {v' : Value} {l : List UInt8} {o : Obj} (hc : (c.toNat : Int) = x) (hown : w3.ownsRow w.heap.size e 1 v' (1 + l.length) ([Value.int .u8 x] ++ Lib.byteCells l))
    (hg : (w.alloc o).grownBy w3 (some w.heap.size)) (hn : v' = .slice none 0 0 ↔ (Value.slice (some ⟨w.heap.size, 0, none⟩) 1 1) = .slice none 0 0 ∧ l.length = 0) :
    ∃ b cap, v' = .slice (some ⟨b, 0, none⟩) (c :: l).length cap ∧ BRow w3 b (c :: l) ∧ Below w.heap.size w w3 := by
  rw [cells_cons hc] at hown
  obtain ⟨b, cap, hv, hr, -⟩ := brow_of_owns hown (fun e => by have := (hn.1 e).1; cases this)
  refine ⟨b, cap, ?_, hr, ((Below.refl _ _).alloc (Nat.le_refl _) _).grown hg (by simp) (fun k hk => by simp at hk; omega)⟩
  rw [hv, List.length_cons, Nat.add_comm]

theorem itoa_split (n : Int) : Lib.itoa n = if n < 0 then 45 :: Lib.decDigits n.natAbs else Lib.decDigits n.natAbs := by
  unfold Lib.itoa
  split
  · rfl
  · have : n.toNat = n.natAbs := by omega
    rw [this]

set_option maxHeartbeats 1000000 in
set_option maxRecDepth 100000 in
theorem NumText_any (n : Int) (w : World) (hn0 : ¬ n = 0) (h1 : -9223372036854775808 ≤ n) (h2 : n ≤ 9223372036854775807) : Calls Tryd.prog 13 #[.int .i64 n] w (Texted (Lib.itoa n) w) := by
  obtain ⟨i0, hi, hz0, hz1, hz2⟩ := info_parts info_u8
  have hne : (n == 0) = false := by simp [hn0]
  have HU := Lib.hid (dec_len (u := n.natAbs) (by omega))
  have HN := Lib.hid hn0
  have H1 := Lib.hid h1
  have H2 := Lib.hid h2
  clear hn0 h1 h2
  go_enter Tryd.func13, Tryd.ntmps13
  go_wp2_with fail
  go_loopg [3, 4] n.natAbs (fun gk s3 s4 wr => ∃ (b cp : Nat) (m : Int) (l : List UInt8), m.natAbs ≤ gk ∧ m.natAbs ≤ n.natAbs ∧ s4 = .int .i64 m ∧ s3 = .slice (some ⟨b, 0, none⟩) l.length cp ∧ Left n.natAbs m.natAbs l ∧ BRow wr b l ∧ Below w.heap.size w wr)
  case atStart =>
    exact ⟨w.heap.size, 0, n, [], Nat.le_refl _, Nat.le_refl _, rfl, rfl, Left.start _ (by have := HN.out; omega), ⟨by simp, fun j x hx => by simp at hx⟩, (Below.refl _ _).alloc (Nat.le_refl _) _⟩
  case round =>
    obtain ⟨b, cp, m, l, hk, hk1, rfl, rfl, hL, hR, hB⟩ := hrel
    have hl22 : l.length ≤ 22 := Nat.le_trans hL.len HU.out
    have HL := Lib.hid hL
    have HR := Lib.hid hR
    have HB := Lib.hid hB
    have HK := Lib.hid hk
    have HK1 := Lib.hid hk1
    clear hL hR hB hk hk1
    by_cases hk0 : m = 0
    · subst hk0
      have hdone := HL.out.done
      by_cases hn : n < 0
      · have HDN := Lib.hid hdone
        clear hdone
        go_wp2_with (first
          | (at_builtin; refine wpList_append_own _ rfl _ _ 52 rfl wr.heap.size 5 i0 (.int .u8 0) 1 1 Tryd.underlying52 hi hz0 hz1 hz2 rfl (by decide) _ 1 _ rfl (owns_new wr 5 _) ⟨b, 0, none⟩ l.length cp (Lib.byteCells l) rfl (by simp [Lib.byteCells]) (brow_news (HR.out.below ((Below.refl _ _).alloc (Nat.le_refl _) _))) (bytes_one l) (by unfold maxLen; omega) (by omega) (by simp) ?_; intro v' w3 hown' hgrow3 hnil3; obtain ⟨b', cp', hv', hr', hb'⟩ := brow_cons (c := 45) rfl hown' hgrow3 hnil3; have hcv := run_convert_bytes_back (P := Tryd.prog) w3 52 9 5 ⟨b', 0, none⟩ cp' (45 :: l) Tryd.underlying52 Tryd.underlying5 Tryd.underlying9 (brow_conv hr'); rw [List.length_cons] at hcv hv'; rw [hv']; have HR' := Lib.hid hr'; have HV' := Lib.hid hv'; clear hr' hv'))
        go_ret
        rw [itoa_split, if_pos hn, ← HDN.out]
        exact ⟨rfl, HB.out.trans (hb'.mono HB.out.size)⟩
      · have hcv := run_convert_bytes_back (P := Tryd.prog) wr 52 9 5 ⟨b, 0, none⟩ cp l Tryd.underlying52 Tryd.underlying5 Tryd.underlying9 (brow_conv HR.out)
        have HDN := Lib.hid hdone
        clear hdone
        go_wp2_with fail
        go_ret
        rw [itoa_split, if_neg (by omega), ← HDN.out]
        exact ⟨rfl, HB.out⟩
    · have hmne : (m == 0) = false := by simp [hk0]
      obtain ⟨d, hd⟩ : ∃ d, m.tmod 10 = d := ⟨_, rfl⟩
      obtain ⟨q, hq⟩ : ∃ q, m.tdiv 10 = q := ⟨_, rfl⟩
      have hda : d.natAbs = m.natAbs % 10 := by rw [← hd]; exact tmod_abs m
      have hqa : q.natAbs = m.natAbs / 10 := by rw [← hq]; exact tdiv_abs m
      have hqw : IntKind.i64.wrap q = q := IntWalk.i64_in _ (by have := HK1.out; have := H1.out; have := H2.out; omega)
      have d0 : -9 ≤ d := by omega
      have d1 : d ≤ 9 := by omega
      have HDA := Lib.hid hda
      have HQA := Lib.hid hqa
      have HM := Lib.hid hk0
      clear hda hqa hk0
      by_cases hneg : d < 0
      · go_wp2_with (at_builtin; refine wpList_append_own _ rfl _ _ 52 rfl wr.heap.size 5 i0 (.int .u8 0) 1 1 Tryd.underlying52 hi hz0 hz1 hz2 rfl (by decide) _ 1 _ rfl (owns_new wr 5 _) ⟨b, 0, none⟩ l.length cp (Lib.byteCells l) rfl (by simp [Lib.byteCells]) (brow_news (HR.out.below ((Below.refl _ _).alloc (Nat.le_refl _) _))) (bytes_one l) (by unfold maxLen; omega) (by omega) (by simp) ?_; intro v' w3 hown' hgrow3 hnil3)
        obtain ⟨b', cp', hv', hr', hb'⟩ := brow_cons (c := dig m.natAbs) (by have := HDA.out; rw [dig_val]; omega) hown' hgrow3 hnil3
        go_roundg (m.natAbs / 10)
        case measure => have := HK.out; have := HM.out; omega
        case rel => exact ⟨b', cp', q, dig m.natAbs :: l, by rw [HQA.out]; omega, by have := HQA.out; have := HK1.out; omega, rfl, hv', by rw [HQA.out]; exact HL.out.step (by have := HM.out; omega), hr', HB.out.trans (hb'.mono HB.out.size)⟩
      · go_wp2_with (at_builtin; refine wpList_append_own _ rfl _ _ 52 rfl wr.heap.size 5 i0 (.int .u8 0) 1 1 Tryd.underlying52 hi hz0 hz1 hz2 rfl (by decide) _ 1 _ rfl (owns_new wr 5 _) ⟨b, 0, none⟩ l.length cp (Lib.byteCells l) rfl (by simp [Lib.byteCells]) (brow_news (HR.out.below ((Below.refl _ _).alloc (Nat.le_refl _) _))) (bytes_one l) (by unfold maxLen; omega) (by omega) (by simp) ?_; intro v' w3 hown' hgrow3 hnil3)
        obtain ⟨b', cp', hv', hr', hb'⟩ := brow_cons (c := dig m.natAbs) (by have := HDA.out; rw [dig_val]; omega) hown' hgrow3 hnil3
        go_roundg (m.natAbs / 10)
        case measure => have := HK.out; have := HM.out; omega
        case rel => exact ⟨b', cp', q, dig m.natAbs :: l, by rw [HQA.out]; omega, by have := HQA.out; have := HK1.out; omega, rfl, hv', by rw [HQA.out]; exact HL.out.step (by have := HM.out; omega), hr', HB.out.trans (hb'.mono HB.out.size)⟩
end Go.Proofs.YtemefahhogdoaaaDoor.num
