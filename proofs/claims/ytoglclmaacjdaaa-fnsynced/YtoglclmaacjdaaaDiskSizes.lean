/-
  DISKS' SIZES: what is synced, left by a crash, put is small.
-/
import Derived.Test.YtoglclmaacjdaaaDiskSync
namespace Go.Proofs.Ytoglclmaacjdaaa.dat

theorem szL_files {l : List FileD} {n : Nat} (h : ∀ x ∈ l, File.sz x ≤ n) : szL File.sz l ≤ l.length * (n + 1) := by
  induction l with
  | nil => simp [szL]
  | cons x r ih =>
    have h1 := h x (by simp)
    have h2 := ih (fun y hy => h y (by simp [hy]))
    simp only [szL, List.map_cons, List.sum_cons, List.length_cons] at *
    rw [Nat.succ_mul]
    omega
/-- Few files, within the limits. -/
def Few (l : List FileD) : Prop := l.length ≤ 4 ∧ ∀ x ∈ l, x.name.size ≤ 20 ∧ x.safe.size ≤ 200000 ∧ x.now.size ≤ 200000
theorem Few.small {l : List FileD} (h : Few l) : Disk.sz ⟨l⟩ ≤ 2000000 := by
  have h1 := szL_files (l := l) (n := 400020) (fun x hx => by have := h.2 x hx; unfold File.sz; omega)
  have h2 : l.length * (400020 + 1) ≤ 4 * (400020 + 1) := Nat.mul_le_mul_right _ h.1
  show szL File.sz l ≤ 2000000
  omega
theorem Few.nil : Few [] := ⟨by simp, fun x hx => by simp at hx⟩
theorem few_of {l : List FileD} (h : DiskP l) : Few l := ⟨h.len, diskP_sizes h⟩
theorem few_sync {l : List FileD} (h : Few l) (name : ByteArray) : Few (l.map (syncF name)) := by
  refine ⟨by simpa using h.1, fun x hx => ?_⟩
  obtain ⟨y, hy, rfl⟩ := List.mem_map.1 hx
  have := h.2 y hy
  unfold syncF
  split
  · exact ⟨this.1, this.2.2, this.2.2⟩
  · exact this
theorem sync_few (l : List FileD) (name : ByteArray) : Few (syncD l name) := by
  unfold syncD
  split
  · rename_i hd
    exact few_sync (few_of ((diskB_iff _).1 hd)) name
  · exact Few.nil
theorem sync_small (l : List FileD) (name : ByteArray) : Disk.sz ⟨syncD l name⟩ ≤ 2000000 := (sync_few l name).small
theorem survD_size (x : FileD) (cut : Int) (h : x.safe.size ≤ 200000) (k : x.now.size ≤ 200000) : (survD x cut).size ≤ 200000 := by
  unfold survD
  split
  · rw [ByteArray.size_extract]; omega
  · split <;> assumption
theorem few_crash {l : List FileD} (h : Few l) (cuts : List Int) : Few (crashL l cuts) := by
  refine ⟨by rw [crashL_length]; exact h.1, fun x hx => ?_⟩
  obtain ⟨i, hi, rfl⟩ := List.getElem_of_mem hx
  have e := crashL_at l cuts i
  rw [List.getElem?_eq_getElem hi, List.getElem?_eq_getElem (by rw [← crashL_length l cuts]; exact hi)] at e
  simp only [Option.map_some, Option.some.injEq] at e
  rw [e]
  have hm := h.2 (l[i]'(by rw [← crashL_length l cuts]; exact hi)) (List.getElem_mem _)
  have hs := survD_size (l[i]'(by rw [← crashL_length l cuts]; exact hi)) (cuts.getD i 0) hm.2.1 hm.2.2
  exact ⟨hm.1, hs, hs⟩
theorem crash_few (l : List FileD) (cuts : List Int) : Few (crashD l cuts) := by
  unfold crashD
  split
  · rename_i hd
    exact few_crash (few_of ((diskB_iff _).1 hd)) cuts
  · exact Few.nil
theorem crash_small (l : List FileD) (cuts : List Int) : Disk.sz ⟨crashD l cuts⟩ ≤ 2000000 := (crash_few l cuts).small
end Go.Proofs.Ytoglclmaacjdaaa.dat
