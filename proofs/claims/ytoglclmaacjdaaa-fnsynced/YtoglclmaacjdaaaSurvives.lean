/-
  THE CONTRACTS OF modulo, strings.HasPrefix, Survives, on both sides: what a crash leaves of a file.
  Conditions: texts of at most 1,048,576 bytes; a cut of 64 bits.
-/
import Derived.Test.YtoglclmaacjdaaaDiskMath
import Derived.Test.YtoglclmaacjdaaaMixHeld
namespace Go.Proofs.Ytoglclmaacjdaaa.dat
open Go.RowKit Go.Proofs.Ytoglclmaacjdaaa.win

theorem tmod_lt (n m : Int) (hm : 0 < m) : -m < n.tmod m ∧ n.tmod m < m := by
  have h := Int.tmod_lt_of_pos (-n) hm
  rw [Int.neg_tmod] at h
  exact ⟨by omega, Int.tmod_lt_of_pos n hm⟩
theorem tmod_emod (n m : Int) : n.tmod m % m = n % m := by
  have h := Int.mul_tdiv_add_tmod n m
  conv => rhs; rw [← h]
  rw [Int.add_comm, Int.add_mul_emod_self_left]
theorem tmod_up (n m : Int) : (n.tmod m + m) % m = n % m := by
  rw [Int.add_emod_right, tmod_emod]
theorem tmod_neg {n m : Int} (hm : 0 < m) (h : n.tmod m < 0) : n.tmod m + m = n % m := by
  have h1 := tmod_lt n m hm
  rw [← tmod_up, Int.emod_eq_of_lt (by omega) (by omega)]
theorem tmod_pos {n m : Int} (hm : 0 < m) (h : 0 ≤ n.tmod m) : n.tmod m = n % m := by
  have h1 := tmod_lt n m hm
  rw [← tmod_emod, Int.emod_eq_of_lt h h1.2]
theorem ret_str {a b : ByteArray} (h : a = b) : Ending.returned (.string a) = .returned (.string b) := by rw [h]
theorem survD_pre {f : FileD} {cut : Int} (h : Lib.hasPrefix f.now.data.toList f.safe.data.toList = true) : survD f cut = f.now.extract 0 (f.safe.size + (cut % (f.now.size - f.safe.size + 1 : Int)).toNat) := by simp [survD, h]
theorem survD_odd {f : FileD} {cut : Int} (h : Lib.hasPrefix f.now.data.toList f.safe.data.toList = false) (k : cut % 2 = 1) : survD f cut = f.now := by simp [survD, h, k]
theorem survD_even {f : FileD} {cut : Int} (h : Lib.hasPrefix f.now.data.toList f.safe.data.toList = false) (k : ¬ cut % 2 = 1) : survD f cut = f.safe := by simp [survD, h, k]
theorem prefix_le {s p : ByteArray} (h : Lib.hasPrefix s.data.toList p.data.toList = true) : p.size ≤ s.size := by
  rw [← Lib.hasPrefix_raw] at h
  simp at h
  exact h.1
theorem prefix_eq {s p : ByteArray} (hle : p.size ≤ s.size) : ((s.extract 0 p.size).toList == p.toList) = Lib.hasPrefix s.data.toList p.data.toList := by
  rw [← Lib.hasPrefix_raw]
  simp [hle]

theorem liteHasPrefix (s p : ByteArray) (w : World) :
    Calls Try.prog 155 #[.string s, .string p] w fun e w' => e = .returned (.bool (Lib.hasPrefix s.data.toList p.data.toList)) ∧ w' = w := by
  by_cases hle : p.size ≤ s.size
  · rw [← prefix_eq hle]
    go_enter Try.func155, Try.ntmps155
    go_wp2_with fail
    go_ret
    exact ⟨rfl, rfl⟩
  · have h0 : Lib.hasPrefix s.data.toList p.data.toList = false := by
      cases h : Lib.hasPrefix s.data.toList p.data.toList
      · rfl
      · exact absurd (prefix_le h) hle
    rw [h0]
    go_enter Try.func155, Try.ntmps155
    go_wp2_with fail
    go_ret
    exact ⟨rfl, rfl⟩
theorem hasPrefix_ (s p : ByteArray) (w : World) :
    Calls Try.prog 129 #[.string s, .string p] w fun e w' => e = .returned (.bool (Lib.hasPrefix s.data.toList p.data.toList)) ∧ w' = w := by
  go_enter Try.func129, Try.ntmps129
  go_wp2_with fail
  refine (liteHasPrefix s p w).mono ?_
  rintro e w' ⟨rfl, rfl⟩
  go_wp2_with fail
  go_ret
  exact ⟨rfl, rfl⟩
theorem modulo_ (n m : Int) (w : World) (hm : 0 < m) (hm2 : m ≤ 1099511627776) :
    Calls Try.prog 130 #[.int .i64 n, .int .i64 m] w fun e w' => e = .returned (.int .i64 (n % m)) ∧ w' = w := by
  obtain ⟨h1, h2⟩ := tmod_lt n m hm
  have hq := tmod_up n m
  have h3 : (n.tmod m + m).tmod m = (n.tmod m + m) % m := Int.tmod_eq_emod_of_nonneg (by omega)
  have h4 := Int.emod_nonneg n (show m ≠ 0 by omega)
  have h5 := Int.emod_lt_of_pos n hm
  have HQ := Lib.hid hq
  clear hq
  go_enter Try.func130, Try.ntmps130
  go_wp2_with fail
  go_ret
  exact ⟨ret_int (by first | exact tmod_emod n m | exact HQ.out), rfl⟩
set_option maxRecDepth 100000 in
set_option maxHeartbeats 1000000 in
theorem impl_Survives (x : FileD) (cut : Int) (w : World) (hs : x.safe.size ≤ 1048576) (hn : x.now.size ≤ 1048576) :
    Calls Try.prog 104 #[.agg (File.list x).toArray, .int .i64 cut] w fun e w' => e = .returned (.string (survD x cut)) ∧ Below w.heap.size w w' := by
  obtain ⟨pre, hpre⟩ : ∃ p, Lib.hasPrefix x.now.data.toList x.safe.data.toList = p := ⟨_, rfl⟩
  have HP := Lib.hid hpre
  simp only [File.list]
  cases pre with
  | true =>
    have hle := prefix_le hpre
    clear hpre
    obtain ⟨q, hq⟩ : ∃ q : Int, cut % ((x.now.size : Int) - (x.safe.size : Int) + 1) = q := ⟨_, rfl⟩
    have hq0 : 0 ≤ q := by rw [← hq]; exact Int.emod_nonneg _ (by omega)
    have hq1 : q < (x.now.size : Int) - (x.safe.size : Int) + 1 := by rw [← hq]; exact Int.emod_lt_of_pos _ (by omega)
    obtain ⟨k, rfl⟩ : ∃ k : Nat, q = (k : Int) := ⟨q.toNat, by omega⟩
    have HQ := Lib.hid hq
    clear hq
    have hk : x.safe.size + k ≤ x.now.size := by omega
    go_enter Try.func104, Try.ntmps104
    go_wp2_with fail
    refine calls_gen (fun W => Below w.heap.size w W ∧ Blk W w.heap.size 40 [.string x.name, .string x.safe, .string x.now]) ⟨by repeat (first | exact Below.refl _ _ | refine Below.setCell ?_ (by first | omega | (simp; done) | (simp; omega)) _ | refine Below.alloc ?_ (by first | omega | (simp; done) | (simp; omega)) _ | apply Below.drew), by with_reducible (repeat (first | (refine blk_new_at _ _ _ _ ?_; first | rfl | (simp; done)) | refine Blk.alloc ?_ _ | apply Blk.drew | refine Blk.setOther ?_ (by first | (simp; done) | (simp; omega)) _))⟩ ?_
    rintro W ⟨b, k0⟩
    have BB := Lib.hid b
    have c0 := k0.cell 0
    have c1 := k0.cell 1
    have c2 := k0.cell 2
    simp at c0 c1 c2
    clear b k0
    refine (hasPrefix_ x.now x.safe W).mono ?_
    rintro e w1 ⟨rfl, rfl⟩
    rw [HP.out]
    have HMo := Lib.hid (fun W => modulo_ cut ((x.now.size : Int) - (x.safe.size : Int) + 1) W (by omega) (by omega))
    rw [HQ.out] at HMo
    go_wp2_with fail
    go_quiet (first | (go_at_call 130; exact Calls.quiet_of_same (HMo.out _)))
    go_wp2_with fail
    go_ret
    exact ⟨ret_str (by rw [survD_pre HP.out, HQ.out]; rfl), below_drewN BB.out _⟩
  | false =>
    clear hpre
    by_cases hodd : cut % 2 = 1
    all_goals
      have HO := Lib.hid hodd
      clear hodd
      go_enter Try.func104, Try.ntmps104
      go_wp2_with fail
      refine calls_gen (fun W => Below w.heap.size w W ∧ Blk W w.heap.size 40 [.string x.name, .string x.safe, .string x.now]) ⟨by repeat (first | exact Below.refl _ _ | refine Below.setCell ?_ (by first | omega | (simp; done) | (simp; omega)) _ | refine Below.alloc ?_ (by first | omega | (simp; done) | (simp; omega)) _ | apply Below.drew), by with_reducible (repeat (first | (refine blk_new_at _ _ _ _ ?_; first | rfl | (simp; done)) | refine Blk.alloc ?_ _ | apply Blk.drew | refine Blk.setOther ?_ (by first | (simp; done) | (simp; omega)) _))⟩ ?_
      rintro W ⟨b, k0⟩
      have BB := Lib.hid b
      have c0 := k0.cell 0
      have c1 := k0.cell 1
      have c2 := k0.cell 2
      simp at c0 c1 c2
      clear b k0
      refine (hasPrefix_ x.now x.safe W).mono ?_
      rintro e w1 ⟨rfl, rfl⟩
      rw [HP.out]
      go_wp2_with fail
      refine (modulo_ cut 2 _ (by omega) (by omega)).mono ?_
      rintro e w2 ⟨rfl, rfl⟩
      have ho := HO.out
      go_wp2_with fail
      go_ret
      first
        | exact ⟨ret_str (survD_odd HP.out HO.out).symm, BB.out⟩
        | exact ⟨ret_str (survD_even HP.out HO.out).symm, BB.out⟩
end Go.Proofs.Ytoglclmaacjdaaa.dat
