/-
  WHAT DiskPut LEAVES IS SMALL.
-/
import Derived.Test.YtoglclmaacjdaaaSpecDiskPut
import Derived.Test.YtoglclmaacjdaaaDiskSizes
namespace Go.Proofs.Ytoglclmaacjdaaa.dat

theorem putF_sizes {name s : ByteArray} (hn : name.size ≤ 20) (hs : s.size ≤ 200000) : ∀ {l : List FileD}, (∀ x ∈ l, x.name.size ≤ 20 ∧ x.safe.size ≤ 200000 ∧ x.now.size ≤ 200000) → ∀ x ∈ putF name s l, x.name.size ≤ 20 ∧ x.safe.size ≤ 200000 ∧ x.now.size ≤ 200000
  | [], _, x, hx => by
    simp [putF] at hx
    subst hx
    exact ⟨hn, by simp, hs⟩
  | f :: r, h, x, hx => by
    have hf := h f (by simp)
    have hr := putF_sizes (l := r) hn hs (fun y hy => h y (List.mem_cons_of_mem _ hy))
    simp only [putF] at hx
    split at hx
    · rcases List.mem_cons.1 hx with rfl | hx
      · exact ⟨hf.1, hf.2.1, hs⟩
      · exact h x (by simp [hx])
    · split at hx
      · rcases List.mem_cons.1 hx with rfl | hx
        · exact ⟨hn, by simp, hs⟩
        · exact h x hx
      · rcases List.mem_cons.1 hx with rfl | hx
        · exact hf
        · exact hr x hx
theorem put_few (l : List FileD) (name s : ByteArray) : Few (putD l name s).1 := by
  unfold putD
  split
  · rename_i h
    split
    · rename_i h4
      simp only [Bool.and_eq_true, decide_eq_true_eq] at h
      exact ⟨h4, putF_sizes h.1.2.2 h.2 (diskP_sizes ((diskB_iff _).1 h.1.1))⟩
    · exact Few.nil
  · exact Few.nil
theorem put_small (l : List FileD) (name s : ByteArray) : Disk.sz ⟨(putD l name s).1⟩ ≤ 2000000 := (put_few l name s).small
theorem add_small (l : List FileD) (name s : ByteArray) : Disk.sz ⟨(addD l name s).1⟩ ≤ 2000000 := by
  unfold addD
  split
  · exact put_small _ _ _
  · exact Few.nil.small
end Go.Proofs.Ytoglclmaacjdaaa.dat
