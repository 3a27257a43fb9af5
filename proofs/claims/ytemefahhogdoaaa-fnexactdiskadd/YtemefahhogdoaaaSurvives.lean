/-
  THE CONTRACTS OF modulo, strings.HasPrefix, Survives, on both sides: what a crash leaves of a file.
  Conditions: texts of at most 1,048,576 bytes; a cut of 64 bits.
-/
import Derived.Test.YtemefahhogdoaaaDiskMath
import Derived.Test.YtemefahhogdoaaaMixHeld
namespace Go.Proofs.Ytemefahhogdoaaa.dat
open Go.RowKit Go.Proofs.Ytemefahhogdoaaa.win

theorem tmod_lt (n m : Int) (hm : 0 < m) : -m < n.tmod m ∧ n.tmod m < m := by
  have h := Int.tmod_lt_of_pos (-n) hm
  rw [Int.neg_tmod] at h
  exact ⟨by omega, Int.tmod_lt_of_pos n hm⟩
theorem tmod_emod (n m : Int) : n.tmod m % m = n % m := by
  have h := Int.mul_tdiv_add_tmod n m
  conv => rhs; rw [← h]
  rw [Int.add_comm, Int.add_mul_emod_self_left]
theorem tmod_up (n m : Int) : (n.tmod m + m) % m = n % m := by
  rw [Int.add_emod_right, tmod_emod]
theorem tmod_neg {n m : Int} (hm : 0 < m) (h : n.tmod m < 0) : n.tmod m + m = n % m := by
  have h1 := tmod_lt n m hm
  rw [← tmod_up, Int.emod_eq_of_lt (by omega) (by omega)]
theorem tmod_pos {n m : Int} (hm : 0 < m) (h : 0 ≤ n.tmod m) : n.tmod m = n % m := by
  have h1 := tmod_lt n m hm
  rw [← tmod_emod, Int.emod_eq_of_lt h h1.2]
theorem ret_str {a b : ByteArray} (h : a = b) : Ending.returned (.string a) = .returned (.string b) := by rw [h]
theorem survD_pre {f : FileD} {cut : Int} (h : Lib.hasPrefix f.now.data.toList f.safe.data.toList = true) : survD f cut = f.now.extract 0 (f.safe.size + (cut % (f.now.size - f.safe.size + 1 : Int)).toNat) := by simp [survD, h]
theorem survD_odd {f : FileD} {cut : Int} (h : Lib.hasPrefix f.now.data.toList f.safe.data.toList = false) (k : cut % 2 = 1) : survD f cut = f.now := by simp [survD, h, k]
theorem survD_even {f : FileD} {cut : Int} (h : Lib.hasPrefix f.now.data.toList f.safe.data.toList = false) (k : ¬ cut % 2 = 1) : survD f cut = f.safe := by simp [survD, h, k]
theorem prefix_le {s p : ByteArray} (h : Lib.hasPrefix s.data.toList p.data.toList = true) : p.size ≤ s.size := by
  rw [← Lib.hasPrefix_raw] at h
  simp at h
  exact h.1
theorem prefix_eq {s p : ByteArray} (hle : p.size ≤ s.size) : ((s.extract 0 p.size).toList == p.toList) = Lib.hasPrefix s.data.toList p.data.toList := by
  rw [← Lib.hasPrefix_raw]
  simp [hle]

theorem liteHasPrefix (s p : ByteArray) (w : World) :
    Calls Try.prog 105 #[.string s, .string p] w fun e w' => e = .returned (.bool (Lib.hasPrefix s.data.toList p.data.toList)) ∧ w' = w := by
  by_cases hle : p.size ≤ s.size
  · rw [← prefix_eq hle]
    go_enter Try.func105, Try.ntmps105
    go_wp2_with fail
    go_ret
    exact ⟨rfl, rfl⟩
  · have h0 : Lib.hasPrefix s.data.toList p.data.toList = false := by
      cases h : Lib.hasPrefix s.data.toList p.data.toList
      · rfl
      · exact absurd (prefix_le h) hle
    rw [h0]
    go_enter Try.func105, Try.ntmps105
    go_wp2_with fail
    go_ret
    exact ⟨rfl, rfl⟩
theorem hasPrefix_ (s p : ByteArray) (w : World) :
    Calls Try.prog 71 #[.string s, .string p] w fun e w' => e = .returned (.bool (Lib.hasPrefix s.data.toList p.data.toList)) ∧ w' = w := by
  go_enter Try.func71, Try.ntmps71
  go_wp2_with fail
  refine (liteHasPrefix s p w).mono ?_
  rintro e w' ⟨rfl, rfl⟩
  go_wp2_with fail
  go_ret
  exact ⟨rfl, rfl⟩
theorem modulo_ (n m : Int) (w : World) (hm : 0 < m) (hm2 : m ≤ 1099511627776) :
    Calls Try.prog 72 #[.int .i64 n, .int .i64 m] w fun e w' => e = .returned (.int .i64 (n % m)) ∧ w' = w := by
  obtain ⟨h1, h2⟩ := tmod_lt n m hm
  have hq := tmod_up n m
  have h3 : (n.tmod m + m).tmod m = (n.tmod m + m) % m := Int.tmod_eq_emod_of_nonneg (by omega)
  have h4 := Int.emod_nonneg n (show m ≠ 0 by omega)
  have h5 := Int.emod_lt_of_pos n hm
  have HQ := Lib.hid hq
  clear hq
  go_enter Try.func72, Try.ntmps72
  go_wp2_with fail
  go_ret
  exact ⟨ret_int (by first | exact tmod_emod n m | exact HQ.out), rfl⟩
set_option maxRecDepth 100000 in
set_option maxHeartbeats 1000000 in
theorem impl_Survives (x : FileD) (cut : Int) (w : World) (hs : x.safe.size ≤ 1048576) (hn : x.now.size ≤ 1048576) :
    Calls Try.prog 36 #[.agg (File.list x).toArray, .int .i64 cut] w fun e w' => e = .returned (.string (survD x cut)) ∧ Below w.heap.size w w' := by
  obtain ⟨pre, hpre⟩ : ∃ p, Lib.hasPrefix x.now.data.toList x.safe.data.toList = p := ⟨_, rfl⟩
  have HP := Lib.hid hpre
  simp only [File.list]
  cases pre with
  | true =>
    have hle := prefix_le hpre
    clear hpre
    obtain ⟨q, hq⟩ : ∃ q : Int, cut % ((x.now.size : Int) - (x.safe.size : Int) + 1) = q := ⟨_, rfl⟩
    have hq0 : 0 ≤ q := by rw [← hq]; exact Int.emod_nonneg _ (by omega)
    have hq1 : q < (x.now.size : Int) - (x.safe.size : Int) + 1 := by rw [← hq]; exact Int.emod_lt_of_pos _ (by omega)
    obtain ⟨k, rfl⟩ : ∃ k : Nat, q = (k : Int) := ⟨q.toNat, by omega⟩
    have HQ := Lib.hid hq
    clear hq
    have hk : x.safe.size + k ≤ x.now.size := by omega
    go_enter Try.func36, Try.ntmps36
    go_wp2_with fail
    refine calls_gen (fun W => Below w.heap.size w W ∧ Blk W w.heap.size 50 [.string x.name, .string x.safe, .string x.now]) ⟨by repeat (first | exact Below.refl _ _ | refine Below.setCell ?_ (by first | omega | (simp; done) | (simp; omega)) _ | refine Below.alloc ?_ (by first | omega | (simp; done) | (simp; omega)) _ | apply Below.drew), by with_reducible (repeat (first | (refine blk_new_at _ _ _ _ ?_; first | rfl | (simp; done)) | refine Blk.alloc ?_ _ | apply Blk.drew | refine Blk.setOther ?_ (by first | (simp; done) | (simp; omega)) _))⟩ ?_
    rintro W ⟨b, k0⟩
    have BB := Lib.hid b
    have c0 := k0.cell 0
    have c1 := k0.cell 1
    have c2 := k0.cell 2
    simp at c0 c1 c2
    clear b k0
    refine (hasPrefix_ x.now x.safe W).mono ?_
    rintro e w1 ⟨rfl, rfl⟩
    rw [HP.out]
    have HMo := Lib.hid (fun W => modulo_ cut ((x.now.size : Int) - (x.safe.size : Int) + 1) W (by omega) (by omega))
    rw [HQ.out] at HMo
    go_wp2_with fail
    go_quiet (first | (go_at_call 72; exact Calls.quiet_of_same (HMo.out _)))
    go_wp2_with fail
    go_ret
    exact ⟨ret_str (by rw [survD_pre HP.out, HQ.out]; rfl), below_drewN BB.out _⟩
  | false =>
    clear hpre
    by_cases hodd : cut % 2 = 1
    all_goals
      have HO := Lib.hid hodd
      clear hodd
      go_enter Try.func36, Try.ntmps36
      go_wp2_with fail
      refine calls_gen (fun W => Below w.heap.size w W ∧ Blk W w.heap.size 50 [.string x.name, .string x.safe, .string x.now]) ⟨by repeat (first | exact Below.refl _ _ | refine Below.setCell ?_ (by first | omega | (simp; done) | (simp; omega)) _ | refine Below.alloc ?_ (by first | omega | (simp; done) | (simp; omega)) _ | apply Below.drew), by with_reducible (repeat (first | (refine blk_new_at _ _ _ _ ?_; first | rfl | (simp; done)) | refine Blk.alloc ?_ _ | apply Blk.drew | refine Blk.setOther ?_ (by first | (simp; done) | (simp; omega)) _))⟩ ?_
      rintro W ⟨b, k0⟩
      have BB := Lib.hid b
      have c0 := k0.cell 0
      have c1 := k0.cell 1
      have c2 := k0.cell 2
      simp at c0 c1 c2
      clear b k0
      refine (hasPrefix_ x.now x.safe W).mono ?_
      rintro e w1 ⟨rfl, rfl⟩
      rw [HP.out]
      go_wp2_with fail
      refine (modulo_ cut 2 _ (by omega) (by omega)).mono ?_
      rintro e w2 ⟨rfl, rfl⟩
      have ho := HO.out
      go_wp2_with fail
      go_ret
      first
        | exact ⟨ret_str (survD_odd HP.out HO.out).symm, BB.out⟩
        | exact ⟨ret_str (survD_even HP.out HO.out).symm, BB.out⟩
set_option maxRecDepth 100000 in
set_option maxHeartbeats 1000000 in
theorem spec_Survives (x : FileD) (cut : Int) (w : World) (hs : x.safe.size ≤ 1048576) (hn : x.now.size ≤ 1048576) :
    Calls Try.prog 34 #[.agg (File.list x).toArray, .int .i64 cut] w fun e w' => e = .returned (.string (survD x cut)) ∧ Below w.heap.size w w' := by
  have heq := fun hle => prefix_eq (s := x.now) (p := x.safe) hle
  have HEQ := Lib.hid heq
  clear heq
  simp only [File.list]
  cases hpre : Lib.hasPrefix x.now.data.toList x.safe.data.toList with
  | true =>
    have HP := Lib.hid hpre
    have hle := prefix_le hpre
    have he : ((x.now.extract 0 x.safe.size).toList == x.safe.toList) = true := (HEQ.out hle).trans hpre
    clear hpre
    obtain ⟨m, hm⟩ : ∃ m : Int, (x.now.size : Int) - (x.safe.size : Int) + 1 = m := ⟨_, rfl⟩
    have hm0 : 0 < m := by omega
    obtain ⟨h1, h2⟩ := tmod_lt cut m hm0
    have hm1 : m ≤ 1048577 := by omega
    by_cases hneg : cut.tmod m < 0
    all_goals
      have hk := Int.emod_nonneg cut (show m ≠ 0 by omega)
      have hk2 := Int.emod_lt_of_pos cut hm0
      first
        | have hv := tmod_neg hm0 hneg
        | have hv := tmod_pos hm0 (show 0 ≤ cut.tmod m by omega)
      have HV := Lib.hid hv
      have HM := Lib.hid hm
      subst hm
      clear hv
      go_enter Try.func34, Try.ntmps34
      go_wp2_with fail
      refine wp_gen (fun W => Below w.heap.size w W ∧ Blk W w.heap.size 50 [.string x.name, .string x.safe, .string x.now]) ⟨by repeat (first | exact Below.refl _ _ | refine Below.setCell ?_ (by first | omega | (simp; done) | (simp; omega)) _ | refine Below.alloc ?_ (by first | omega | (simp; done) | (simp; omega)) _ | apply Below.drew), by with_reducible (repeat (first | (refine blk_new_at _ _ _ _ ?_; first | rfl | (simp; done)) | refine Blk.alloc ?_ _ | apply Blk.drew | refine Blk.setOther ?_ (by first | (simp; done) | (simp; omega)) _))⟩ ?_
      rintro W ⟨b, k0⟩
      have BB := Lib.hid b
      have c1 := k0.cell 1
      have c2 := k0.cell 2
      simp at c1 c2
      clear b k0
      refine mix.wp_region_mixh (fun w' => w'.cell? ⟨w.heap.size, 1, none⟩ = some (.string x.safe) ∧ w'.cell? ⟨w.heap.size, 2, none⟩ = some (.string x.now)) [] (by kernel_rfl) (by kernel_rfl) (fun _ _ d _ _ h => by cases d <;> exact h) ⟨c1, c2⟩ ?_
      (repeat (first | (apply mix.held_take; (· rfl); (· rfl); (· (intro w' hSw; (try dsimp only at hSw); go_simp; try with_reducible rfl)); (try simp only [Act.put, List.setIfInBounds_toArray, List.set_cons_zero, List.set_cons_succ])) | ((refine mix.held_pass rfl (by rfl) ?_); (try simp only [Act.put, List.setIfInBounds_toArray, List.set_cons_zero, List.set_cons_succ]))))
      refine mix.held_end ?_
      go_wp2_with fail
      go_ret
      exact ⟨ret_str (by rw [survD_pre HP.out, ← HV.out]; first | rfl | (congr 1; omega)), by repeat (first | exact Below.refl _ _ | refine Below.setCell ?_ (by first | omega | (simp; done) | (simp; omega)) _ | refine Below.alloc ?_ (by first | omega | (simp; done) | (simp; omega)) _ | apply Below.drew | refine Below.trans ?_ (BB.out.mono (by first | omega | (simp; done) | (simp; omega))))⟩
  | false =>
    have HP := Lib.hid hpre
    clear hpre
    have hodd : (cut.tmod 2 = 0 ↔ ¬ cut % 2 = 1) := by
      have h1 := tmod_emod cut 2
      have h2 := tmod_lt cut 2 (by omega)
      generalize cut.tmod 2 = t at *
      omega
    by_cases hle : x.safe.size ≤ x.now.size
    all_goals
      try have he : ((x.now.extract 0 x.safe.size).toList == x.safe.toList) = false := (HEQ.out hle).trans HP.out
      by_cases h2 : cut.tmod 2 = 0
      all_goals
        have HO := Lib.hid hodd
        go_enter Try.func34, Try.ntmps34
        go_wp2_with fail
        refine wp_gen (fun W => Below w.heap.size w W ∧ Blk W w.heap.size 50 [.string x.name, .string x.safe, .string x.now]) ⟨by repeat (first | exact Below.refl _ _ | refine Below.setCell ?_ (by first | omega | (simp; done) | (simp; omega)) _ | refine Below.alloc ?_ (by first | omega | (simp; done) | (simp; omega)) _ | apply Below.drew), by with_reducible (repeat (first | (refine blk_new_at _ _ _ _ ?_; first | rfl | (simp; done)) | refine Blk.alloc ?_ _ | apply Blk.drew | refine Blk.setOther ?_ (by first | (simp; done) | (simp; omega)) _))⟩ ?_
        rintro W ⟨b, k0⟩
        have BB := Lib.hid b
        have c1 := k0.cell 1
        have c2 := k0.cell 2
        simp at c1 c2
        clear b k0
        refine mix.wp_region_mixh (fun w' => w'.cell? ⟨w.heap.size, 1, none⟩ = some (.string x.safe) ∧ w'.cell? ⟨w.heap.size, 2, none⟩ = some (.string x.now)) [] (by kernel_rfl) (by kernel_rfl) (fun _ _ d _ _ h => by cases d <;> exact h) ⟨c1, c2⟩ ?_
        (repeat (first | (apply mix.held_take; (· rfl); (· rfl); (· (intro w' hSw; (try dsimp only at hSw); go_simp; try with_reducible rfl)); (try simp only [Act.put, List.setIfInBounds_toArray, List.set_cons_zero, List.set_cons_succ])) | ((refine mix.held_pass rfl (by rfl) ?_); (try simp only [Act.put, List.setIfInBounds_toArray, List.set_cons_zero, List.set_cons_succ]))))
        refine mix.held_end ?_
        go_wp2_with fail
        go_ret
        first
          | exact ⟨ret_str (survD_even HP.out (HO.out.1 h2)).symm, by repeat (first | exact Below.refl _ _ | refine Below.setCell ?_ (by first | omega | (simp; done) | (simp; omega)) _ | refine Below.alloc ?_ (by first | omega | (simp; done) | (simp; omega)) _ | apply Below.drew | refine Below.trans ?_ (BB.out.mono (by first | omega | (simp; done) | (simp; omega))))⟩
          | exact ⟨ret_str (survD_odd HP.out (by have := HO.out; omega)).symm, by repeat (first | exact Below.refl _ _ | refine Below.setCell ?_ (by first | omega | (simp; done) | (simp; omega)) _ | refine Below.alloc ?_ (by first | omega | (simp; done) | (simp; omega)) _ | apply Below.drew | refine Below.trans ?_ (BB.out.mono (by first | omega | (simp; done) | (simp; omega))))⟩
end Go.Proofs.Ytemefahhogdoaaa.dat
