/-
  DISKS: what is put is read, other files stay; what was synced is left by a crash, with at most what was put behind it.
-/
import Derived.Test.YtoglclmaacjdaaaDiskPutC
import Derived.Test.YtoglclmaacjdaaaDiskAdd
namespace Go.Proofs.Ytoglclmaacjdaaa.dat

/-- Names rise, all of them. -/
def RiseP (l : List FileD) : Prop := l.Pairwise fun a b => ltB a.name b.name = true
theorem DiskP.riseP {l : List FileD} (h : DiskP l) : RiseP l := by
  unfold RiseP
  rw [List.pairwise_iff_getElem]
  intro i j hi hj hij
  exact h.lt hij (List.getElem?_eq_getElem hi) (List.getElem?_eq_getElem hj)
theorem diskP_of {l : List FileD} (h4 : l.length ≤ 4) (hf : ∀ f ∈ l, fileB f = true) (hr : RiseP l) : DiskP l := by
  refine ⟨h4, fun i f _ hf' => hf f (List.mem_of_getElem? hf'), fun i a b _ ha hb => ?_⟩
  unfold RiseP at hr
  rw [List.pairwise_iff_getElem] at hr
  obtain ⟨hi, rfl⟩ := List.getElem?_eq_some_iff.1 ha
  obtain ⟨hj, rfl⟩ := List.getElem?_eq_some_iff.1 hb
  exact hr i (i + 1) hi hj (by omega)
theorem DiskP.file {l : List FileD} (h : DiskP l) {f : FileD} (hf : f ∈ l) : fileB f = true := by
  obtain ⟨i, hi, rfl⟩ := List.getElem_of_mem hf
  exact h.files i _ hi (List.getElem?_eq_getElem hi)
theorem fileB_iff (f : FileD) : fileB f = true ↔ 1 ≤ f.name.size ∧ f.name.size ≤ 20 ∧ f.safe.size ≤ 200000 ∧ f.now.size ≤ 200000 := by
  unfold fileB
  simp [and_assoc]

/-! ### put -/
theorem putF_mem {name s : ByteArray} : ∀ {l : List FileD} {y : FileD}, y ∈ putF name s l → y ∈ l ∨ (y.name = name ∧ y.now = s ∧ (y.safe = ByteArray.empty ∨ ∃ f ∈ l, f.name = name ∧ y.safe = f.safe))
  | [], y, h => by
    simp [putF] at h
    subst h
    exact .inr ⟨rfl, rfl, .inl rfl⟩
  | f :: r, y, h => by
    simp only [putF] at h
    split at h
    · rename_i e
      rcases List.mem_cons.1 h with rfl | h
      · exact .inr ⟨e, rfl, .inr ⟨f, by simp, e, rfl⟩⟩
      · exact .inl (by simp [h])
    · split at h
      · rcases List.mem_cons.1 h with rfl | h
        · exact .inr ⟨rfl, rfl, .inl rfl⟩
        · exact .inl h
      · rcases List.mem_cons.1 h with rfl | h
        · exact .inl (by simp)
        · rcases putF_mem h with h | ⟨h1, h2, h3⟩
          · exact .inl (by simp [h])
          · refine .inr ⟨h1, h2, h3.imp id ?_⟩
            rintro ⟨g, hg, e⟩
            exact ⟨g, by simp [hg], e⟩
theorem putF_rise {name s : ByteArray} : ∀ {l : List FileD}, RiseP l → RiseP (putF name s l)
  | [], _ => by simp [putF, RiseP]
  | f :: r, h => by
    obtain ⟨h1, h2⟩ := List.pairwise_cons.1 h
    simp only [putF]
    split
    · exact List.pairwise_cons.2 ⟨h1, h2⟩
    · rename_i hne
      split
      · rename_i hlt
        refine List.pairwise_cons.2 ⟨fun y hy => ?_, h⟩
        rcases List.mem_cons.1 hy with rfl | hy
        · exact hlt
        · exact ltB_trans hlt (h1 y hy)
      · rename_i hlt
        refine List.pairwise_cons.2 ⟨fun y hy => ?_, putF_rise h2⟩
        rcases putF_mem hy with hy | ⟨e, _⟩
        · exact h1 y hy
        · rw [e]
          rcases ltB_tri f.name name with h | h | h
          · exact h
          · exact absurd h hne
          · exact absurd h hlt
theorem atF_cons (f : FileD) (r : List FileD) (n : ByteArray) : atF (f :: r) n = if f.name = n then some f else atF r n := by
  unfold atF
  rw [List.find?_cons]
  by_cases h : f.name = n <;> simp [h]
theorem atF_none_of {name : ByteArray} : ∀ {l : List FileD}, (∀ f ∈ l, ltB name f.name = true) → atF l name = none
  | [], _ => rfl
  | f :: r, h => by rw [atF_cons, if_neg (fun e => ltB_ne (h f (by simp)) e.symm), atF_none_of (fun g hg => h g (by simp [hg]))]
theorem atF_putF {name s : ByteArray} : ∀ {l : List FileD}, RiseP l → atF (putF name s l) name = some ⟨name, ((atF l name).map FileD.safe).getD ByteArray.empty, s⟩
  | [], _ => by simp [putF, atF]
  | f :: r, h => by
    obtain ⟨h1, h2⟩ := List.pairwise_cons.1 h
    simp only [putF]
    split
    · rename_i e
      rw [atF_cons, atF_cons, if_pos e, if_pos e]
      simp [e]
    · rename_i hne
      split
      · rename_i hlt
        rw [atF_none_of (l := f :: r) (fun g hg => by
          rcases List.mem_cons.1 hg with rfl | hg
          · exact hlt
          · exact ltB_trans hlt (h1 g hg)), atF_cons, if_pos rfl]
        rfl
      · rw [atF_cons, if_neg hne, atF_cons, if_neg hne]
        exact atF_putF h2
theorem atF_put_other {name s n : ByteArray} (hn : n ≠ name) : ∀ (l : List FileD), atF (putF name s l) n = atF l n
  | [] => by simp [putF, atF, Ne.symm hn]
  | f :: r => by
    simp only [putF]
    split
    · rename_i e
      rw [atF_cons, atF_cons]
      simp [e, Ne.symm hn]
    · split
      · rw [atF_cons, if_neg (Ne.symm hn)]
      · rw [atF_cons, atF_cons, atF_put_other hn r]
theorem DiskP.at_mem {l : List FileD} (h : DiskP l) {f : FileD} (hf : f ∈ l) : atF l f.name = some f := by
  obtain ⟨i, hi, rfl⟩ := List.getElem_of_mem hf
  exact atF_there (fun j g hj hg e => by have := h.uniq hg (List.getElem?_eq_getElem hi) e; omega) (List.getElem?_eq_getElem hi) rfl
theorem put_diskP {l : List FileD} {name s : ByteArray} (h : DiskP l) (hn : 1 ≤ name.size ∧ name.size ≤ 20) (hs : s.size ≤ 200000) (h4 : (putF name s l).length ≤ 4) : DiskP (putF name s l) := by
  refine diskP_of h4 (fun y hy => ?_) (putF_rise h.riseP)
  rcases putF_mem hy with hy | ⟨e, e2, e3⟩
  · exact h.file hy
  · rw [fileB_iff, e, e2]
    refine ⟨hn.1, hn.2, ?_, hs⟩
    rcases e3 with e3 | ⟨f, hf, _, e3⟩
    · rw [e3]; simp
    · rw [e3]; exact ((fileB_iff f).1 (h.file hf)).2.2.1
/-- What DiskPut's truth says. -/
theorem putD_true {l : List FileD} {name s : ByteArray} (h : (putD l name s).2 = true) : DiskP l ∧ (1 ≤ name.size ∧ name.size ≤ 20) ∧ s.size ≤ 200000 ∧ (putF name s l).length ≤ 4 ∧ (putD l name s).1 = putF name s l := by
  unfold putD at *
  split at h
  · rename_i hc
    split at h
    · rename_i h4
      simp only [Bool.and_eq_true, decide_eq_true_eq] at hc
      refine ⟨(diskB_iff _).1 hc.1.1, hc.1.2, hc.2, h4, ?_⟩
      rw [if_pos (by simp only [Bool.and_eq_true, decide_eq_true_eq]; exact hc), if_pos h4]
    · simp at h
  · simp at h
theorem putD_false {l : List FileD} {name s : ByteArray} (h : (putD l name s).2 = false) : (putD l name s).1 = [] := by
  unfold putD at *
  split at h
  · rename_i hc
    split at h
    · simp at h
    · rename_i h4
      rw [if_pos hc, if_neg h4]
  · rename_i hc
    rw [if_neg hc]
/-- What is put is read; no other file changes. -/
theorem put_kept {l : List FileD} {name s : ByteArray} (h : (putD l name s).2 = true) :
    diskB (putD l name s).1 = true ∧ readD (putD l name s).1 name = s ∧ ∀ f ∈ l, f.name ≠ name → readD (putD l name s).1 f.name = f.now := by
  obtain ⟨hd, hn, hs, h4, e⟩ := putD_true h
  have hp := put_diskP hd hn hs h4
  have hb := (diskB_iff _).2 hp
  rw [e]
  refine ⟨hb, ?_, fun f hf hne => ?_⟩
  · unfold readD
    rw [if_pos hb, atF_putF hd.riseP]
    rfl
  · unfold readD
    rw [if_pos hb, atF_put_other hne, hd.at_mem hf]
    rfl

/-! ### synced, added to, crashed -/
theorem atF_sync (l : List FileD) (name : ByteArray) : atF (l.map (syncF name)) name = (atF l name).map fun f => ⟨f.name, f.now, f.now⟩ := by
  induction l with
  | nil => rfl
  | cons f r ih =>
    rw [List.map_cons, atF_cons, atF_cons]
    by_cases h : f.name = name
    · have e : syncF name f = ⟨f.name, f.now, f.now⟩ := by unfold syncF; rw [if_pos h]
      rw [e]
      simp [h]
    · have e : syncF name f = f := by unfold syncF; rw [if_neg h]
      rw [e, if_neg h, if_neg h, ih]
theorem map_sync_rise {l : List FileD} (name : ByteArray) (h : RiseP l) : RiseP (l.map (syncF name)) := by
  unfold RiseP
  rw [List.pairwise_map]
  refine h.imp fun {a b} hab => ?_
  have hs : ∀ f, (syncF name f).name = f.name := fun f => by unfold syncF; split <;> rfl
  rw [hs, hs]
  exact hab
theorem sync_diskP {l : List FileD} (h : DiskP l) (name : ByteArray) : DiskP (l.map (syncF name)) := by
  refine diskP_of (by simpa using h.len) (fun y hy => ?_) (map_sync_rise name h.riseP)
  obtain ⟨f, hf, rfl⟩ := List.mem_map.1 hy
  have hb := (fileB_iff f).1 (h.file hf)
  unfold syncF
  split
  · exact (fileB_iff _).2 ⟨hb.1, hb.2.1, hb.2.2.2, hb.2.2.2⟩
  · exact h.file hf
theorem read_sync {l : List FileD} (h : DiskP l) (name : ByteArray) : readD (l.map (syncF name)) name = readD l name := by
  unfold readD
  rw [if_pos ((diskB_iff _).2 h), if_pos ((diskB_iff _).2 (sync_diskP h name)), atF_sync]
  cases atF l name <;> rfl
theorem crash_diskP {l : List FileD} (h : DiskP l) (cuts : List Int) : DiskP (crashL l cuts) := by
  have hat := crashL_at l cuts
  refine ⟨by rw [crashL_length]; exact h.len, fun i y hi hy => ?_, fun i a b hi ha hb => ?_⟩
  · rw [hat] at hy
    obtain ⟨f, hf, rfl⟩ := Option.map_eq_some_iff.1 hy
    have hb := (fileB_iff f).1 (h.file (List.mem_of_getElem? hf))
    have hs := survD_size f (cuts.getD i 0) hb.2.2.1 hb.2.2.2
    exact (fileB_iff _).2 ⟨hb.1, hb.2.1, hs, hs⟩
  · rw [hat] at ha hb
    obtain ⟨f, hf, rfl⟩ := Option.map_eq_some_iff.1 ha
    obtain ⟨g, hg, rfl⟩ := Option.map_eq_some_iff.1 hb
    exact h.rise i f g (by rw [crashL_length] at hi; exact hi) hf hg
theorem atF_crash {name : ByteArray} : ∀ (l : List FileD) (cuts : List Int), ∃ cut, atF (crashL l cuts) name = (atF l name).map fun f => crashF f cut
  | [], _ => ⟨0, rfl⟩
  | f :: r, cuts => by
    obtain ⟨c, hc⟩ : ∃ c ds, crashL (f :: r) cuts = crashF f c :: crashL r ds := by
      cases cuts with
      | nil => exact ⟨0, [], rfl⟩
      | cons c ds => exact ⟨c, ds, rfl⟩
    obtain ⟨ds, hc⟩ := hc
    rw [hc, atF_cons, atF_cons]
    by_cases h : f.name = name
    · exact ⟨c, by simp [crashF, h]⟩
    · obtain ⟨k, hk⟩ := atF_crash r ds
      refine ⟨k, ?_⟩
      rw [if_neg h, ← hk]
      exact if_neg h
theorem hasPrefix_append (a b : List UInt8) : Lib.hasPrefix (a ++ b) a = true := by
  induction a with
  | nil => cases b <;> rfl
  | cons x r _ => simp [Lib.hasPrefix]
/-- Behind a synced text with more: it, and some of that. -/
theorem surv_more (name was more : ByteArray) (cut : Int) : ∃ k, k ≤ more.size ∧ survD ⟨name, was, was ++ more⟩ cut = (was ++ more).extract 0 (was.size + k) := by
  refine ⟨(cut % ((was ++ more).size - was.size + 1 : Int)).toNat, ?_, ?_⟩
  · have h0 : ((was ++ more).size : Int) - was.size + 1 = (more.size : Int) + 1 := by rw [ByteArray.size_append]; omega
    rw [h0]
    have h1 := Int.emod_nonneg cut (show (more.size : Int) + 1 ≠ 0 by omega)
    have h2 := Int.emod_lt_of_pos cut (show (0 : Int) < (more.size : Int) + 1 by omega)
    omega
  · unfold survD
    have hp : Lib.hasPrefix (was ++ more).data.toList was.data.toList = true := by
      rw [show (was ++ more).data.toList = was.data.toList ++ more.data.toList by simp]
      exact hasPrefix_append _ _
    simp only
    rw [if_pos hp]
theorem surv_same (f : FileD) (h : f.safe = f.now) (cut : Int) : survD f cut = f.now := by
  obtain ⟨n, s, w⟩ := f
  simp only at h
  subst h
  unfold survD
  have hp : Lib.hasPrefix s.data.toList s.data.toList = true := by
    have := hasPrefix_append s.data.toList []
    simpa using this
  simp only
  rw [if_pos hp]
  have : (cut % ((s.size : Int) - s.size + 1)).toNat = 0 := by
    rw [Int.sub_self, Int.zero_add, Int.emod_one]
    rfl
  rw [this]
  simp
theorem crash_again {l : List FileD} (h : ∀ f ∈ l, f.safe = f.now) (cuts : List Int) : crashL l cuts = l := by
  apply List.ext_getElem?
  intro i
  rw [crashL_at]
  cases hi : l[i]? with
  | none => rfl
  | some f =>
    have hf := h f (List.mem_of_getElem? hi)
    obtain ⟨n, s, w⟩ := f
    simp only at hf
    subst hf
    simp only [Option.map_some, crashF, Option.some.injEq]
    rw [surv_same ⟨n, s, s⟩ rfl]
theorem crash_safe (l : List FileD) (cuts : List Int) : ∀ f ∈ crashL l cuts, f.safe = f.now := by
  intro f hf
  obtain ⟨i, hi, rfl⟩ := List.getElem_of_mem hf
  have e := crashL_at l cuts i
  rw [List.getElem?_eq_getElem hi] at e
  obtain ⟨g, _, hg⟩ := Option.map_eq_some_iff.1 e.symm
  rw [← hg]
  rfl
/-- What FnSynced asks. -/
structure SyncFacts (l : List FileD) (name more : ByteArray) (cuts : List Int) : Prop where
  ok : diskB (crashD (addD (syncD l name) name more).1 cuts) = true
  read : ∃ k, k ≤ more.size ∧ readD (crashD (addD (syncD l name) name more).1 cuts) name = (readD l name ++ more).extract 0 ((readD l name).size + k)
  safe : ∀ f ∈ crashD (addD (syncD l name) name more).1 cuts, f.safe = f.now
  again : crashD (crashD (addD (syncD l name) name more).1 cuts) cuts = crashD (addD (syncD l name) name more).1 cuts
theorem sync_facts {l : List FileD} {name more : ByteArray} (cuts : List Int) (hd : DiskP l) (h : (addD (syncD l name) name more).2 = true) : SyncFacts l name more cuts := by
  have hs : syncD l name = l.map (syncF name) := by unfold syncD; rw [if_pos ((diskB_iff _).2 hd)]
  have hm : more.size ≤ 200000 := by
    unfold addD at h
    split at h
    · assumption
    · simp at h
  have ha : addD (syncD l name) name more = putD (l.map (syncF name)) name (readD l name ++ more) := by
    unfold addD
    rw [if_pos hm, hs, read_sync hd]
  rw [ha] at h
  obtain ⟨hd1, hn, hsz, h4, e⟩ := putD_true h
  have hp := put_diskP hd1 hn hsz h4
  have hc : crashD (addD (syncD l name) name more).1 cuts = crashL (putF name (readD l name ++ more) (l.map (syncF name))) cuts := by
    rw [ha, e]
    unfold crashD
    rw [if_pos ((diskB_iff _).2 hp)]
  have hg := crash_diskP hp cuts
  have hgb := (diskB_iff _).2 hg
  have hsafe := crash_safe (putF name (readD l name ++ more) (l.map (syncF name))) cuts
  refine ⟨by rw [hc]; exact hgb, ?_, by rw [hc]; exact hsafe, ?_⟩
  · rw [hc]
    have hat : atF (putF name (readD l name ++ more) (l.map (syncF name))) name = some ⟨name, readD l name, readD l name ++ more⟩ := by
      have hsf : ((atF (l.map (syncF name)) name).map FileD.safe).getD ByteArray.empty = readD l name := by
        rw [atF_sync]
        unfold readD
        rw [if_pos ((diskB_iff _).2 hd)]
        cases atF l name <;> rfl
      rw [atF_putF hd1.riseP, hsf]
    obtain ⟨cut, hcut⟩ := atF_crash (name := name) (putF name (readD l name ++ more) (l.map (syncF name))) cuts
    obtain ⟨k, hk, hke⟩ := surv_more name (readD l name) more cut
    refine ⟨k, hk, ?_⟩
    rw [readD, if_pos hgb, hcut, hat]
    exact hke
  · rw [hc]
    rw [show crashD (crashL (putF name (readD l name ++ more) (l.map (syncF name))) cuts) cuts = crashL (crashL (putF name (readD l name ++ more) (l.map (syncF name))) cuts) cuts by rw [crashD, if_pos hgb]]
    exact crash_again hsafe cuts
/-- Where nothing may be added: no name, or no room. -/
theorem sync_full {l : List FileD} {name more : ByteArray} (hd : DiskP l) (hm : more.size ≤ 200000) (hsz : (readD l name ++ more).size ≤ 200000) (h : (addD (syncD l name) name more).2 = false) : name.size = 0 ∨ 20 < name.size ∨ l.length = 4 := by
  have hs : syncD l name = l.map (syncF name) := by unfold syncD; rw [if_pos ((diskB_iff _).2 hd)]
  have ha : addD (syncD l name) name more = putD (l.map (syncF name)) name (readD l name ++ more) := by
    unfold addD
    rw [if_pos hm, hs, read_sync hd]
  rw [ha] at h
  unfold putD at h
  by_cases h0 : name.size = 0
  · exact .inl h0
  by_cases h1 : 20 < name.size
  · exact .inr (.inl h1)
  refine .inr (.inr ?_)
  rw [if_pos (by rw [(diskB_iff _).2 (sync_diskP hd name)]; simp only [Bool.true_and, Bool.and_eq_true, decide_eq_true_eq]; omega)] at h
  split at h
  · simp at h
  · rename_i h4
    have := putF_len name (readD l name ++ more) (l.map (syncF name))
    have := hd.len
    simp at *
    omega
end Go.Proofs.Ytoglclmaacjdaaa.dat
