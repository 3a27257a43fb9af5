/-
  THE CONTRACT OF THE MODEL's AggRead: it answers what the program's does.
  Condition: the text is no longer than 2,000,000 bytes.
-/
import Derived.Test.YthldfaapckhcpaaDoorSpecNums
import Derived.Test.YthldfaapckhcpaaDoorAggReadImpl
import Derived.Deep.RegionHeld3
namespace Go.Proofs.YthldfaapckhcpaaDoor.num
open Go.RowKit
open Go.Proofs.YthldfaapckhcpaaDoor.agg (okB okB_iff okB_not OkP ok_bds spec_AggOk)

theorem digits_le : ∀ (k u : Nat), u < 10 ^ (k + 1) → (Lib.decDigits u).length ≤ k + 1
  | 0, u, h => by
    rw [Lib.decDigits, dif_pos (by omega)]; simp
  | k + 1, u, h => by
    rw [Lib.decDigits]
    by_cases h10 : u < 10
    · rw [dif_pos h10]; simp
    · rw [dif_neg h10]
      have := digits_le k (u / 10) (by rw [Nat.pow_succ] at h; omega)
      rw [List.length_append]
      simp only [List.length_cons, List.length_nil]
      omega

/-- A numeral that an aggregate may have is short. -/
theorem itoa_short {n : Int} (h1 : -2000000000 ≤ n) (h2 : n ≤ 2000000000) : (Lib.itoa n).length ≤ 11 := by
  have := digits_le 9 n.natAbs (by show n.natAbs < 10000000000; omega)
  rcases itoa_cases n with ⟨_, h⟩ | ⟨_, h⟩
  · rw [h, List.length_cons]; omega
  · rw [h]; omega

theorem words_sum (l : List UInt8) : ((words l).map (fun x => x.length + 1)).sum = l.length + 1 := by
  induction l with
  | nil => simp [words]
  | cons c r ih =>
    by_cases hc : c = 32
    · subst hc; rw [words_blank, List.map_cons, List.sum_cons, ih]; simp; omega
    · cases h : words r with
      | nil => exact absurd h (words_ne r)
      | cons x xs => rw [words_cons hc h]; rw [h] at ih; simp only [List.map_cons, List.sum_cons, List.length_cons] at ih ⊢; omega

/-- What is accepted: four numerals, all short. -/
theorem acc_yes {W : List (List UInt8)} (h : acc W = true) : ∃ a b c d : Int, W = [Lib.itoa a, Lib.itoa b, Lib.itoa c, Lib.itoa d] ∧ okB a b c d = true := by
  simp only [acc, Bool.and_eq_true, decide_eq_true_eq] at h
  obtain ⟨⟨⟨⟨⟨hl, h0⟩, h1⟩, h2⟩, h3⟩, ho⟩ := h
  obtain ⟨x0, x1, x2, x3, rfl⟩ : ∃ x0 x1 x2 x3, W = [x0, x1, x2, x3] := by
    match W, hl with
    | [x0, x1, x2, x3], _ => exact ⟨x0, x1, x2, x3, rfl⟩
  obtain ⟨a, ha⟩ := Option.isSome_iff_exists.1 h0
  obtain ⟨b, hb⟩ := Option.isSome_iff_exists.1 h1
  obtain ⟨c, hc⟩ := Option.isSome_iff_exists.1 h2
  obtain ⟨d, hd⟩ := Option.isSome_iff_exists.1 h3
  have ea : Lib.itoa a = x0 := numA_some ha
  have eb : Lib.itoa b = x1 := numA_some hb
  have ec : Lib.itoa c = x2 := numA_some hc
  have ed : Lib.itoa d = x3 := numA_some hd
  refine ⟨a, b, c, d, by rw [ea, eb, ec, ed], ?_⟩
  simpa [valAt, ha, hb, hc, hd] using ho
theorem acc_no {W : List (List UInt8)} (h : ∀ a b c d : Int, W = [Lib.itoa a, Lib.itoa b, Lib.itoa c, Lib.itoa d] → okB a b c d = false) : acc W = false := by
  cases hc : acc W with
  | false => rfl
  | true =>
    obtain ⟨a, b, c, d, h1, h2⟩ := acc_yes hc
    rw [h a b c d h1] at h2
    cases h2
theorem four_short {a b c d : Int} (h : okB a b c d = true) : (Lib.itoa a).length ≤ 11 ∧ (Lib.itoa b).length ≤ 11 ∧ (Lib.itoa c).length ≤ 11 ∧ (Lib.itoa d).length ≤ 11 := by
  have := ok_bds ((okB_iff _ _ _ _).1 h)
  exact ⟨itoa_short (by omega) (by omega), itoa_short (by omega) (by omega), itoa_short (by omega) (by omega), itoa_short (by omega) (by omega)⟩
theorem acc_four {a b c d : Int} (h : okB a b c d = true) : acc [Lib.itoa a, Lib.itoa b, Lib.itoa c, Lib.itoa d] = true ∧ valAt [Lib.itoa a, Lib.itoa b, Lib.itoa c, Lib.itoa d] 0 = a ∧ valAt [Lib.itoa a, Lib.itoa b, Lib.itoa c, Lib.itoa d] 1 = b ∧ valAt [Lib.itoa a, Lib.itoa b, Lib.itoa c, Lib.itoa d] 2 = c ∧ valAt [Lib.itoa a, Lib.itoa b, Lib.itoa c, Lib.itoa d] 3 = d := by
  obtain ⟨h0, h1, h2, h3⟩ := four_short h
  have e0 : numAt [Lib.itoa a, Lib.itoa b, Lib.itoa c, Lib.itoa d] 0 = some a := numA_itoa (n := a) (by omega)
  have e1 : numAt [Lib.itoa a, Lib.itoa b, Lib.itoa c, Lib.itoa d] 1 = some b := numA_itoa (n := b) (by omega)
  have e2 : numAt [Lib.itoa a, Lib.itoa b, Lib.itoa c, Lib.itoa d] 2 = some c := numA_itoa (n := c) (by omega)
  have e3 : numAt [Lib.itoa a, Lib.itoa b, Lib.itoa c, Lib.itoa d] 3 = some d := numA_itoa (n := d) (by omega)
  have v0 : valAt [Lib.itoa a, Lib.itoa b, Lib.itoa c, Lib.itoa d] 0 = a := by simp [valAt, e0]
  have v1 : valAt [Lib.itoa a, Lib.itoa b, Lib.itoa c, Lib.itoa d] 1 = b := by simp [valAt, e1]
  have v2 : valAt [Lib.itoa a, Lib.itoa b, Lib.itoa c, Lib.itoa d] 2 = c := by simp [valAt, e2]
  have v3 : valAt [Lib.itoa a, Lib.itoa b, Lib.itoa c, Lib.itoa d] 3 = d := by simp [valAt, e3]
  exact ⟨by simp [acc, e0, e1, e2, e3, v0, v1, v2, v3, h], v0, v1, v2, v3⟩

/-- A long text is none. -/
theorem acc_long {l : List UInt8} (h : 60 < l.length) : acc (words l) = false := by
  refine acc_no fun a b c d hw => ?_
  cases ho : okB a b c d with
  | false => rfl
  | true =>
    obtain ⟨h0, h1, h2, h3⟩ := four_short ho
    have := words_sum l
    rw [hw] at this
    simp at this
    omega
theorem acc_words {W : List (List UInt8)} (h : acc W = true) : ∀ x ∈ W, x.length ≤ 11 ∧ ∃ y, Lib.itoa y = x := by
  obtain ⟨a, b, c, d, rfl, ho⟩ := acc_yes h
  obtain ⟨h0, h1, h2, h3⟩ := four_short ho
  intro x hx
  simp at hx
  rcases hx with rfl | rfl | rfl | rfl
  · exact ⟨h0, a, rfl⟩
  · exact ⟨h1, b, rfl⟩
  · exact ⟨h2, c, rfl⟩
  · exact ⟨h3, d, rfl⟩
/-- The numbers of four words that are no aggregate's. -/
theorem acc_bad {a b c d : Int} (h : okB a b c d = false) : acc [Lib.itoa a, Lib.itoa b, Lib.itoa c, Lib.itoa d] = false := by
  refine acc_no fun a' b' c' d' hw => ?_
  simp only [List.cons.injEq, and_true] at hw
  rw [← itoa_inj hw.1, ← itoa_inj hw.2.1, ← itoa_inj hw.2.2.1, ← itoa_inj hw.2.2.2]
  exact h

set_option maxHeartbeats 400000 in
theorem AggRead_long (s : ByteArray) (w : World) (hs : 60 < s.size) : Calls Tryd.prog 13 #[.string s] w (ReadD (words s.data.toList) w) := by
  have HA := Lib.hid (acc_long (l := s.data.toList) hs)
  go_enter Tryd.func13, Tryd.ntmps13
  go_wp2_with fail
  exact bodyPost_ret (v := .tuple #[.agg #[.int .i64 0, .int .i64 0, .int .i64 0, .int .i64 0], .bool false]) (by simp [results, Tryd.results13, go_sem]) rfl (readD_no HA.out ((Below.refl _ _).alloc (Nat.le_refl _) _))

set_option maxHeartbeats 1000000 in
set_option maxRecDepth 100000 in
theorem AggRead_model (s : ByteArray) (w : World) (hs : s.size ≤ 60) : Calls Tryd.prog 13 #[.string s] w (ReadD (words s.data.toList) w) := by
  go_enter Tryd.func13, Tryd.ntmps13
  go_wp2_with fail
  refine (l01Words_any s _ hs).mono ?_
  rintro e w1 ⟨v1, rfl, hown1, hnn1, hb1⟩
  obtain ⟨b1, c1, rfl, ⟨hlt1, hcells1⟩, -⟩ := cells_of_owns hown1 hnn1
  have hZ1 := (zero4_alloc w 25).below hb1 (by simp)
  have hB1 : Below w.heap.size w w1 := ((Below.refl _ _).alloc (Nat.le_refl _) _).trans (hb1.mono (by simp))
  have HZ1 := Lib.hid hZ1
  have HB1 := Lib.hid hB1
  have HC1 := Lib.hid hcells1
  have hsz1 : w.heap.size < w1.heap.size := Nat.lt_of_lt_of_le (by simp) hb1.size
  have HW := Lib.hid (words_le s.data.toList)
  have HWL := Lib.hid (words_length s.data.toList)
  clear hown1 hnn1 hcells1 hb1 hZ1 hB1
  generalize words s.data.toList = W at *
  go_wp2_with fail
  refine (l01Nums_any b1 c1 W _ hlt1 HC1.out ?hw1 ?hw2).mono ?_
  case hw1 => have := HWL.out; have : s.data.toList.length = s.size := rfl; omega
  case hw2 => intro x hx; have := HW.out x hx; have : s.data.toList.length = s.size := rfl; omega
  rintro e w2 ⟨b2, c2, xs, t, rfl, ⟨hlt2, hcells2⟩, ht1, ht2, hb2⟩
  have hZ2 := HZ1.out.below hb2 hsz1
  have hB2 := HB1.out.trans (hb2.mono (by omega))
  have hsz2 : w.heap.size < w2.heap.size := Nat.lt_of_lt_of_le hsz1 hb2.size
  have HB2 := Lib.hid hB2
  have HT1 := Lib.hid ht1
  have HT2 := Lib.hid ht2
  obtain ⟨⟨z0, z1, z2, z3⟩, zf⟩ := hZ2
  clear hb2 hB2 ht1 ht2 HZ1 HC1 HB1
  cases t with
  | false =>
    have hA : acc W = false := by
      cases ha : acc W with
      | false => rfl
      | true => have := HT2.out (acc_words ha); cases this
    have HA := Lib.hid hA
    clear hA hcells2
    go_wp2_with fail
    exact bodyPost_ret (v := .tuple #[.agg #[.int .i64 0, .int .i64 0, .int .i64 0, .int .i64 0], .bool false]) (by simp [results, Tryd.results13, go_sem, z0, z1, z2, z3]) rfl (readD_no HA.out (HB2.out.trans (below_four _ _ _ _)))
  | true =>
    have hm := HT1.out (by simp)
    by_cases hl : xs.length = 4
    · obtain ⟨a, b, c, d, rfl⟩ : ∃ a b c d, xs = [a, b, c, d] := by
        match xs, hl with
        | [a, b, c, d], _ => exact ⟨a, b, c, d, rfl⟩
      have q0 := hcells2 0 (.int .i64 a) rfl
      have q1 := hcells2 1 (.int .i64 b) rfl
      have q2 := hcells2 2 (.int .i64 c) rfl
      have q3 := hcells2 3 (.int .i64 d) rfl
      simp only [List.map_cons, List.map_nil] at hm
      subst hm
      clear hcells2 hl
      rw [show [a, b, c, d].length = 4 from rfl]
      have hneq : w2.heap.size ≠ b2 := by omega
      go_wp2_with fail
      go_region_held3 (fun w' => w'.cell? ⟨b2, 0, none⟩ = some (.int .i64 a) ∧ w'.cell? ⟨b2, 1, none⟩ = some (.int .i64 b) ∧ w'.cell? ⟨b2, 2, none⟩ = some (.int .i64 c) ∧ w'.cell? ⟨b2, 3, none⟩ = some (.int .i64 d)) (go_keep) (fail)
      go_wp2_with fail
      refine (spec_AggOk a b c d _).mono ?_
      rintro e w3 ⟨rfl, hb3⟩
      have hbA : Below (w2.heap.size + 1) (w2.alloc (.cells #[.int .i64 a, .int .i64 b, .int .i64 c, .int .i64 d] 25)) w3 := by
        refine (Below.drew (Below.refl _ _)).trans (hb3.mono ?_)
        show w2.heap.size + 1 ≤ (w2.alloc (.cells #[.int .i64 a, .int .i64 b, .int .i64 c, .int .i64 d] 25)).heap.size
        simp
      have hI := (ints4_alloc w2 a b c d 25).below hbA (by omega)
      have hbB : Below w2.heap.size w2 w3 := ((Below.refl _ _).alloc (Nat.le_refl _) _).trans (hbA.mono (by omega))
      obtain ⟨-, i0, i1, i2, i3⟩ := hI
      have k0 := (hbB.cell (p := ⟨w.heap.size, 0, none⟩) hsz2).trans z0
      have k1 := (hbB.cell (p := ⟨w.heap.size, 1, none⟩) hsz2).trans z1
      have k2 := (hbB.cell (p := ⟨w.heap.size, 2, none⟩) hsz2).trans z2
      have k3 := (hbB.cell (p := ⟨w.heap.size, 3, none⟩) hsz2).trans z3
      have kf := fun j => (hbB.frozen (p := ⟨w.heap.size, j, none⟩) hsz2).trans (zf j)
      have HB3 := Lib.hid (HB2.out.trans (hbB.mono (by omega)))
      have hne2 : w.heap.size ≠ w2.heap.size := by omega
      clear hb3 hbA hbB z0 z1 z2 z3 zf q0 q1 q2 q3
      cases ho : okB a b c d with
      | true =>
        have HA := Lib.hid (acc_four ho)
        clear ho
        go_wp2_with fail
        refine bodyPost_ret (v := .tuple #[.agg #[.int .i64 a, .int .i64 b, .int .i64 c, .int .i64 d], .bool true]) (by simp [results, Tryd.results13, go_sem, k0, k1, k2, k3]) rfl (readD_yes HA.out.1 HA.out.2.1 HA.out.2.2.1 HA.out.2.2.2.1 HA.out.2.2.2.2 (HB3.out.trans (below_four _ _ _ _)))
      | false =>
        have HA := Lib.hid (acc_bad ho)
        clear ho
        go_wp2_with fail
        refine bodyPost_ret (v := .tuple #[.agg #[.int .i64 0, .int .i64 0, .int .i64 0, .int .i64 0], .bool false]) (by simp [results, Tryd.results13, go_sem, k0, k1, k2, k3]) rfl (readD_no HA.out (HB3.out.trans (below_four _ _ _ _)))
    · have hA : acc W = false := acc_len (by rw [← hm, List.length_map]; exact hl)
      have HA := Lib.hid hA
      have hne : ((xs.length : Int) == 4) = false := by simp; omega
      clear hA hcells2 hm
      go_wp2_with fail
      exact bodyPost_ret (v := .tuple #[.agg #[.int .i64 0, .int .i64 0, .int .i64 0, .int .i64 0], .bool false]) (by simp [results, Tryd.results13, go_sem, z0, z1, z2, z3]) rfl (readD_no HA.out (HB2.out.trans (below_four _ _ _ _)))
theorem AggRead_spec (s : ByteArray) (w : World) : Calls Tryd.prog 13 #[.string s] w (ReadD (words s.data.toList) w) := by
  by_cases h : s.size ≤ 60
  · exact AggRead_model s w h
  · exact AggRead_long s w (by omega)
end Go.Proofs.YthldfaapckhcpaaDoor.num
