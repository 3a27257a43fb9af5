/-
  THE CONTRACTS OF DiskRead on both sides: what a file of this name holds, or nothing.
  Condition: a disk's sizes together are at most 2,000,000.
-/
import Derived.Test.YtoglclmaacjdaaaMount3
import Derived.Test.YtoglclmaacjdaaaSurvives
namespace Go.Proofs.Ytoglclmaacjdaaa.dat
open Go.RowKit Go.Proofs.Ytoglclmaacjdaaa.win

theorem thereB_true {l : List FileD} {name : ByteArray} {i : Nat} (h : thereB l name i = true) : ∃ f, l[i]? = some f ∧ f.name = name := by
  unfold thereB at h
  cases e : l[i]? with
  | none => rw [e] at h; cases h
  | some f => rw [e] at h; exact ⟨f, rfl, by simpa using h⟩
theorem thereB_false {l : List FileD} {name : ByteArray} {i : Nat} (hp : PlaceAt l name i) (h : thereB l name i = false) : ∀ f, l[i]? = some f → ltB name f.name = true := by
  intro f hf
  unfold thereB at h
  rw [hf] at h
  rcases ltB_tri name f.name with k | k | k
  · exact k
  · simp [k.symm] at h
  · rw [hp.2.2 f hf] at k; cases k
theorem readD_there {l : List FileD} {name : ByteArray} {i : Nat} {f : FileD} (hd : diskB l = true) (ha : ∀ (j : Nat) g, j < i → l[j]? = some g → ¬ g.name = name) (hi : l[i]? = some f) (e : f.name = name) : readD l name = f.now := by
  unfold readD
  rw [if_pos hd, atF_there ha hi e]
  rfl
theorem readD_none {l : List FileD} {name : ByteArray} (ha : ∀ (j : Nat) g, l[j]? = some g → ¬ g.name = name) : readD l name = ByteArray.empty := by
  unfold readD
  rw [atF_none ha]
  split <;> rfl
theorem readD_bad {l : List FileD} {name : ByteArray} (hd : diskB l = false) : readD l name = ByteArray.empty := by
  unfold readD
  rw [hd]
  rfl
/-- What the model's search answers. -/
def AtI (l : List FileD) (name : ByteArray) (r : Int) : Prop := (r = -1 ∧ ∀ (i : Nat) f, l[i]? = some f → ¬ f.name = name) ∨ ∃ (n : Nat) (f : FileD), r = (n : Int) ∧ l[n]? = some f ∧ f.name = name ∧ ∀ (j : Nat) g, j < n → l[j]? = some g → ¬ g.name = name

set_option maxRecDepth 100000 in
set_option maxHeartbeats 1000000 in
theorem l08At_ (x : DiskD) (h : DiskH) (fp : List Nat) (name : ByteArray) (w : World) (hin : Disk.Is w x h fp) (hmax : Disk.sz x ≤ 2000000) :
    Calls Try.prog 55 #[.agg (Disk.list x h).toArray, .string name] w fun e w' => (∃ r : Int, e = .returned (.int .i64 r) ∧ AtI x.files name r) ∧ Below w.heap.size w w' := by
  have HX := Lib.hid (Disk.row hin).1
  have hlm : h.filesl ≤ 2000000 := by rw [← (Disk.row hin).1.1]; exact Disk.len_le hmax
  clear hin hmax
  obtain ⟨fa, fl, fc⟩ := h
  dsimp only at *
  have HX : Hid (GRow 3 RFile w fa fl x.files fp) := HX
  simp only [Disk.list]
  go_enter Try.func55, Try.ntmps55
  go_wp2_with fail
  go_loopg [5] fl (fun k i wr => ∃ j : Nat, j + k = fl ∧ i = .int .i64 j ∧ Below w.heap.size w wr ∧ Blk wr w.heap.size 26 [.slice fa fl fc] ∧ ∀ (i : Nat) f, i < j → x.files[i]? = some f → ¬ f.name = name)
  case atStart => exact ⟨0, by omega, rfl, by repeat (first | exact Below.refl _ _ | refine Below.setCell ?_ (by first | omega | (simp; done) | (simp; omega)) _ | refine Below.alloc ?_ (by first | omega | (simp; done) | (simp; omega)) _ | apply Below.drew), by with_reducible (repeat (first | (refine blk_new_at _ _ _ _ ?_; first | rfl | (simp; done)) | refine Blk.alloc ?_ _ | apply Blk.drew | refine Blk.setOther ?_ (by first | (simp; done) | (simp; omega)) _)), fun i f hi => by omega⟩
  case round =>
    obtain ⟨j, hj, rfl, hb, hk, hno⟩ := hrel
    have HB := Lib.hid hb
    have HK := Lib.hid hk
    have HN := Lib.hid hno
    have c0 := hk.cell 0
    simp at c0
    clear hno hk
    by_cases hlt : j < fl
    case neg =>
      obtain rfl : j = fl := by omega
      clear hb
      go_wp2_with fail
      go_ret
      exact ⟨⟨-1, rfl, .inl ⟨rfl, fun i f hf => HN.out i f (by rw [← HX.out.1]; exact (List.getElem?_eq_some_iff.1 hf).1) hf⟩⟩, HB.out⟩
    have hlt2 : (j : Int) < (fl : Int) := by omega
    have h02 : (0 : Int) ≤ (j : Int) := by omega
    obtain ⟨b, off, y, f, cs, rfl, hbl, hy, hcl, hR, hc⟩ := HX.out.at hlt
    obtain ⟨rfl, s0, s1, s2, rfl⟩ := hR
    have d0 := (hb.cell (p := ⟨b, off + j * 3 + 0, none⟩) hbl).trans (hc 0 (by omega))
    simp [File.list] at d0
    have HE := Lib.hid hy
    clear hb hc hy
    by_cases e : y.name = name
    · have et : (y.name.toList == name.toList) = true := by rw [e]; simp
      have HEE := Lib.hid e
      clear e
      go_wp2_with fail
      go_ret
      exact ⟨⟨j, rfl, .inr ⟨j, y, rfl, HE.out, HEE.out, HN.out⟩⟩, HB.out⟩
    · have et : (y.name.toList == name.toList) = false := by
        cases hh : (y.name.toList == name.toList)
        · rfl
        · exact absurd (toList_inj.1 (by simpa using hh)) e
      have HEE := Lib.hid e
      clear e
      go_wp2_with fail
      go_roundg (fl - (j + 1))
      case measure => omega
      case rel =>
        refine ⟨j + 1, by omega, by go_num, HB.out, HK.out, fun i g hi hg => ?_⟩
        by_cases e : i = j
        · subst e; rw [HE.out] at hg; cases hg; exact HEE.out
        · exact HN.out i g (by omega) hg

theorem mono_of {l : List FileD} (hd : diskB l = true) : ∀ (i j : Nat) f g, i < j → l[i]? = some f → l[j]? = some g → ltB f.name g.name = true := fun _ _ _ _ h1 h2 h3 => ((diskB_iff _).1 hd).lt h1 h2 h3
set_option maxRecDepth 100000 in
set_option maxHeartbeats 1000000 in
theorem impl_DiskRead (x : DiskD) (h : DiskH) (fp : List Nat) (name : ByteArray) (w : World) (hin : Disk.Is w x h fp) (_hs : name.size ≤ 9223372036854775807) (hmax : Disk.sz x ≤ 2000000) :
    Calls Try.prog 18 #[.agg (Disk.list x h).toArray, .string name] w fun e w' => e = .returned (.string (readD x.files name)) ∧ Below w.heap.size w w' := by
  have HI := Lib.hid hin
  have HM := Lib.hid hmax
  clear hin hmax
  obtain ⟨rd, hrd⟩ : ∃ r, readD x.files name = r := ⟨_, rfl⟩
  rw [hrd]
  have HRD := Lib.hid hrd
  clear hrd
  simp only [Disk.list]
  go_enter Try.func18, Try.ntmps18
  go_wp2_with fail
  refine calls_gen (fun W => Below w.heap.size w W) (by repeat (first | exact Below.refl _ _ | refine Below.setCell ?_ (by first | omega | (simp; done) | (simp; omega)) _ | refine Below.alloc ?_ (by first | omega | (simp; done) | (simp; omega)) _ | apply Below.drew)) ?_
  intro W b0
  refine (mountOf_ x h fp W (HI.out.below b0) HM.out).mono ?_
  rintro e w1 ⟨v, rfl, hG, b1⟩
  have B1 := Lib.hid (b0.trans (b1.mono b0.size))
  obtain ⟨a, cap, fq, rfl, hg, hc1, hc2, ho⟩ := hG.done
  have HG := Lib.hid hg
  clear b0 b1 hG hg ho
  obtain ⟨lx, hlx⟩ : ∃ lx, (if diskB x.files then x.files else []) = lx := ⟨_, rfl⟩
  rw [hlx] at HG hc1 ⊢
  have hmono : ∀ (i j : Nat) f g, i < j → lx[i]? = some f → lx[j]? = some g → ltB f.name g.name = true := by
    intro i j f g h1 h2 h3
    rw [← hlx] at h2 h3
    split at h2
    · rename_i hd
      rw [if_pos hd] at h3
      exact mono_of hd i j f g h1 h2 h3
    · simp at h2
  have hlen : lx.length ≤ 1000 := by
    rw [← hlx]
    split
    · rename_i hd
      have := ((diskB_iff _).1 hd).len
      omega
    · simp
  have HLX := Lib.hid hlx
  have HMO := Lib.hid hmono
  have HLE := Lib.hid hlen
  obtain ⟨n, hn⟩ : ∃ n, lx.length = n := ⟨_, rfl⟩
  rw [hn] at HG hc1 ⊢
  have HN := Lib.hid hn
  clear hlx hmono hlen hn
  go_wp2_with fail
  refine (find_ a n cap lx fq name w1 HG.out (by rw [← HN.out]; exact HLE.out) HMO.out).mono ?_
  rintro e w2 ⟨i, hp, rfl, rfl⟩
  have HP := Lib.hid hp
  clear hp
  cases ht : thereB lx name i with
  | false =>
    have E := Lib.hid (show rd = ByteArray.empty by
      rw [← HRD.out]
      cases hd : diskB x.files with
      | false => exact readD_bad hd
      | true =>
        have e1 := HLX.out
        rw [if_pos hd] at e1
        refine readD_none ?_
        rw [e1]
        exact DiskP.none_at (by rw [← e1]; exact (diskB_iff _).1 hd) HP.out.2.1 (thereB_false HP.out ht))
    clear ht
    go_wp2_with fail
    go_ret
    exact ⟨ret_str (by rw [E.out]; rfl), B1.out⟩
  | true =>
  obtain ⟨f, hf, he⟩ := thereB_true ht
  have hi : i < n := by rw [← HN.out]; exact (List.getElem?_eq_some_iff.1 hf).1
  have E := Lib.hid (show rd = f.now by
    rw [← HRD.out]
    cases hd : diskB x.files with
    | false =>
      have e1 := HLX.out
      rw [hd] at e1
      simp at e1
      rw [e1] at hf
      simp at hf
    | true =>
      have e1 := HLX.out
      rw [if_pos hd] at e1
      rw [e1]
      exact readD_there (by rw [← e1]; exact hd) HP.out.2.1.ne hf he)
  obtain ⟨b, off, y, g, rfl, hbl, hy, hg, hc⟩ := cell_named HG.out hi
  rw [hf] at hy
  cases hy
  have HGG := Lib.hid hg
  have hi2 : (i : Int) < (n : Int) := by omega
  have hi0 : (0 : Int) ≤ (i : Int) := by omega
  clear ht hf he hg
  go_wp2_with fail
  refine (file_ f g _ HGG.out).mono ?_
  rintro e w3 ⟨rfl, b3⟩
  have B3 := Lib.hid (B1.out.trans (b3.mono B1.out.size))
  clear b3 hc
  simp only [File.list]
  have hfd : ∀ w : World, (Instr.field 40 (.agg #[.string f.name, .string f.safe, .string f.now]) 2).run Try.prog w = .ok (.string f.now) w := fun _ => by kernel_rfl
  go_wp2_with fail
  go_ret
  exact ⟨ret_str E.out.symm, B3.out⟩
end Go.Proofs.Ytoglclmaacjdaaa.dat
