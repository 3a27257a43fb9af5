/-
  THE CONTRACTS OF DiskOk on both sides, and of what they call: names compared, a file's limits, names that rise.
  Condition: a disk's sizes together are at most 2,000,000.
-/
import Derived.Test.YtoglclmaacjdaaaDiskMath
import Derived.Test.YtoglclmaacjdaaaMixHeld
import Derived.Test.YtoglclmaacjdaaaMix
import Derived.Test.YtoglclmaacjdaaaWinOk
import Derived.Lib.Bytealg
namespace Go.Proofs.Ytoglclmaacjdaaa.dat
open Go.RowKit Go.Proofs.Ytoglclmaacjdaaa.win

open Classical in
noncomputable def risesB (l : List FileD) : Bool := decide (RiseTo l l.length)
theorem risesB_iff (l : List FileD) : risesB l = true ↔ RiseTo l l.length := by simp [risesB]
theorem filesB_iff (l : List FileD) : l.all fileB = true ↔ FilesTo l l.length := by
  rw [List.all_eq_true]
  constructor
  · intro h i f _ hx
    exact h f (List.mem_of_getElem? hx)
  · intro h f hf
    obtain ⟨i, hi, rfl⟩ := List.getElem_of_mem hf
    exact h i _ hi (List.getElem?_eq_getElem hi)
theorem diskB_eq (l : List FileD) : diskB l = (decide (l.length ≤ 4) && l.all fileB && risesB l) := by
  rw [Bool.eq_iff_iff, diskB_iff]
  simp only [Bool.and_eq_true, decide_eq_true_eq, filesB_iff, risesB_iff]
  exact ⟨fun h => ⟨⟨h.len, h.files⟩, h.rise⟩, fun h => ⟨h.1.1, h.1.2, h.2⟩⟩

set_option maxRecDepth 100000 in
set_option maxHeartbeats 1000000 in
theorem cmpString (a b : ByteArray) (w : World) :
    Calls Try.prog 124 #[.string a, .string b] w fun e w' => e = .returned (.int .i64 (cmpN a b)) ∧ w' = w := by
  go_enter Try.func124, Try.ntmps124
  go_wp2
  rw [run_callFunc_extern Try.func145 (by kernel_rfl) (by kernel_rfl) (by kernel_rfl) (e := Extern.BytealgCompare.compare) (by kernel_rfl), Lib.run_compareString]
  simp only [Result.andThen]
  rw [Oper.upon_value]
  go_wp2
  go_ret
  exact ⟨rfl, rfl⟩
theorem strCompare (a b : ByteArray) (w : World) :
    Calls Try.prog 97 #[.string a, .string b] w fun e w' => e = .returned (.int .i64 (cmpN a b)) ∧ w' = w := by
  go_enter Try.func97, Try.ntmps97
  go_wp2_with fail
  refine (cmpString a b w).mono ?_
  rintro e w' ⟨rfl, rfl⟩
  go_wp2_with fail
  go_ret
  exact ⟨rfl, rfl⟩
theorem nameOk_ (s : ByteArray) (r : Bool) (hr : (decide (1 ≤ s.size) && decide (s.size ≤ 20)) = r) (w : World) :
    Calls Try.prog 100 #[.string s] w fun e w' => e = .returned (.bool r) ∧ w' = w := by
  subst hr
  by_cases h1 : 1 ≤ s.size
  case neg =>
    go_enter Try.func100, Try.ntmps100
    go_wp2_with fail
    go_ret
    exact ⟨ret_bool (by simp <;> omega), rfl⟩
  by_cases h2 : s.size ≤ 20
  all_goals
    go_enter Try.func100, Try.ntmps100
    go_wp2_with fail
    go_ret
    exact ⟨ret_bool (by simp [h1, h2] <;> omega), rfl⟩
theorem textFits_ (s : ByteArray) (r : Bool) (hr : decide (s.size ≤ 200000) = r) (w : World) :
    Calls Try.prog 102 #[.string s] w fun e w' => e = .returned (.bool r) ∧ w' = w := by
  subst hr
  by_cases h2 : s.size ≤ 200000
  all_goals
    have e2 := h2
    go_enter Try.func102, Try.ntmps102
    go_wp2_with fail
    go_ret
    exact ⟨ret_bool (by simp [e2] <;> omega), rfl⟩
theorem fileB_parts (f : FileD) : fileB f = ((decide (1 ≤ f.name.size) && decide (f.name.size ≤ 20)) && decide (f.safe.size ≤ 200000) && decide (f.now.size ≤ 200000)) := rfl
set_option maxRecDepth 100000 in
set_option maxHeartbeats 1000000 in
theorem fileOk_ (x : FileD) (w : World) :
    Calls Try.prog 63 #[.agg (File.list x).toArray] w fun e w' => e = .returned (.bool (fileB x)) ∧ Below w.heap.size w w' := by
  rw [fileB_parts]
  simp only [File.list]
  obtain ⟨r1, h1⟩ : ∃ r, (decide (1 ≤ x.name.size) && decide (x.name.size ≤ 20)) = r := ⟨_, rfl⟩
  obtain ⟨r2, h2⟩ : ∃ r, decide (x.safe.size ≤ 200000) = r := ⟨_, rfl⟩
  obtain ⟨r3, h3⟩ : ∃ r, decide (x.now.size ≤ 200000) = r := ⟨_, rfl⟩
  rw [h1, h2, h3]
  have H1 := Lib.hid h1
  have H2 := Lib.hid h2
  have H3 := Lib.hid h3
  clear h1 h2 h3
  go_enter Try.func63, Try.ntmps63
  go_wp2_with fail
  refine calls_gen (fun W => Below w.heap.size w W ∧ Blk W w.heap.size 40 [.string x.name, .string x.safe, .string x.now]) ⟨by repeat (first | exact Below.refl _ _ | refine Below.setCell ?_ (by first | omega | (simp; done) | (simp; omega)) _ | refine Below.alloc ?_ (by first | omega | (simp; done) | (simp; omega)) _ | apply Below.drew), by with_reducible (repeat (first | (refine blk_new_at _ _ _ _ ?_; first | rfl | (simp; done)) | refine Blk.alloc ?_ _ | apply Blk.drew | refine Blk.setOther ?_ (by first | (simp; done) | (simp; omega)) _))⟩ ?_
  rintro W ⟨b, k0⟩
  have BB := Lib.hid b
  have c0 := k0.cell 0
  have c1 := k0.cell 1
  have c2 := k0.cell 2
  simp at c0 c1 c2
  clear b k0
  refine (nameOk_ x.name r1 H1.out W).mono ?_
  rintro e w1 ⟨rfl, rfl⟩
  cases r1 with
  | false =>
    go_wp2_with fail
    go_ret
    exact ⟨ret_bool (by simp), BB.out⟩
  | true =>
  go_wp2_with fail
  refine (textFits_ x.safe r2 H2.out w1).mono ?_
  rintro e w2 ⟨rfl, rfl⟩
  cases r2 with
  | false =>
    go_wp2_with fail
    go_ret
    exact ⟨ret_bool (by simp), BB.out⟩
  | true =>
  go_wp2_with fail
  refine (textFits_ x.now r3 H3.out w2).mono ?_
  rintro e w3 ⟨rfl, rfl⟩
  go_wp2_with fail
  go_ret
  exact ⟨ret_bool (by simp), BB.out⟩
set_option maxRecDepth 100000 in
set_option maxHeartbeats 1000000 in
theorem nameCmp_ (x y : FileD) (w : World) :
    Calls Try.prog 65 #[.agg (File.list x).toArray, .agg (File.list y).toArray] w fun e w' => e = .returned (.int .i64 (cmpN x.name y.name)) ∧ Below w.heap.size w w' := by
  simp only [File.list]
  go_enter Try.func65, Try.ntmps65
  go_wp2_with fail
  refine (strCompare x.name y.name _).mono ?_
  rintro e w1 ⟨rfl, rfl⟩
  go_wp2_with fail
  go_ret
  exact ⟨rfl, by repeat (first | exact Below.refl _ _ | refine Below.setCell ?_ (by first | omega | (simp; done) | (simp; omega)) _ | refine Below.alloc ?_ (by first | omega | (simp; done) | (simp; omega)) _ | apply Below.drew)⟩

set_option maxRecDepth 100000 in
set_option maxHeartbeats 1000000 in
theorem allFiles (a : Option Addr) (len cap : Nat) (l : List FileD) (fp : List Nat) (w : World) (hmax : len ≤ 2000000) (hrow : GRow 3 RFile w a len l fp) :
    Calls Try.prog 62 #[.slice a len cap, .func (.func 63) #[] #[]] w fun e w' => e = .returned (.bool (l.all fileB)) ∧ Below w.heap.size w w' := by
  obtain ⟨r, hr⟩ : ∃ r, l.all fileB = r := ⟨_, rfl⟩
  rw [hr]
  have HR := Lib.hid hr
  have HX := Lib.hid hrow
  clear hr hrow
  go_enter Try.func62, Try.ntmps62
  go_wp2_with fail
  go_loopg [9] len (fun k i wr => ∃ j : Nat, j + k = len ∧ i = .int .i64 j ∧ Below w.heap.size w wr ∧ ∀ i y, i < j → l[i]? = some y → fileB y = true)
  case atStart => exact ⟨0, by omega, rfl, Below.refl _ _, fun i _ hi => by omega⟩
  case round =>
    obtain ⟨j, hj, rfl, hb, hno⟩ := hrel
    have HB := Lib.hid hb
    have HN := Lib.hid hno
    clear hno
    by_cases hlt : j < len
    case neg =>
      clear hb
      obtain rfl : j = len := by omega
      have E : Hid (r = true) := by
        show r = true
        rw [← HR.out, List.all_eq_true]
        intro x hx
        obtain ⟨i, hi, rfl⟩ := List.getElem_of_mem hx
        exact HN.out i _ (by rw [← HX.out.1]; exact hi) (List.getElem?_eq_getElem hi)
      go_wp2_with fail
      go_ret
      exact ⟨ret_bool E.out.symm, HB.out⟩
    have hlt2 : (j : Int) < (len : Int) := by omega
    have h02 : (0 : Int) ≤ (j : Int) := by omega
    obtain ⟨b, off, x, f, cs, rfl, hbl, hx, hcl, hR, hc⟩ := HX.out.at hlt
    obtain ⟨rfl, -, -, -, rfl⟩ := hR
    have c0 := (hb.cell (p := ⟨b, off + j * 3 + 0, none⟩) hbl).trans (hc 0 (by omega))
    have c1 := (hb.cell (p := ⟨b, off + j * 3 + 1, none⟩) hbl).trans (hc 1 (by omega))
    have c2 := (hb.cell (p := ⟨b, off + j * 3 + 2, none⟩) hbl).trans (hc 2 (by omega))
    simp [File.list] at c0 c1 c2
    have HE := Lib.hid hx
    clear hb hc hx
    go_wp2_with fail
    refine calls_gen (fun W => Below wr.heap.size wr W) (by repeat (first | exact Below.refl _ _ | refine Below.setCell ?_ (by first | omega | (simp; done) | (simp; omega)) _ | refine Below.alloc ?_ (by first | omega | (simp; done) | (simp; omega)) _ | apply Below.drew)) ?_
    intro W b1
    have hBW : Below w.heap.size w W := HB.out.trans (b1.mono HB.out.size)
    refine (fileOk_ x W).mono ?_
    rintro e w3 ⟨rfl, hb3⟩
    have HB3 := Lib.hid (hBW.trans (hb3.mono hBW.size))
    clear hb3 hBW b1 c0 c1 c2
    cases hp : fileB x with
    | false =>
      have E : Hid (r = false) := by
        show r = false
        rw [← HR.out, List.all_eq_false]
        exact ⟨x, List.mem_of_getElem? HE.out, by rw [hp]; simp⟩
      clear hp
      go_wp2_with fail
      go_ret
      exact ⟨ret_bool E.out.symm, HB3.out⟩
    | true =>
      have HP := Lib.hid hp
      clear hp
      go_wp2_with fail
      go_roundg (len - (j + 1))
      case measure => omega
      case rel =>
        refine ⟨j + 1, by omega, by go_num, HB3.out, fun i y hi hy => ?_⟩
        by_cases e : i = j
        · subst e
          rw [HE.out] at hy
          cases hy
          exact HP.out
        · exact HN.out i y (by omega) hy

set_option maxRecDepth 100000 in
set_option maxHeartbeats 4000000 in
theorem risesFile (a : Option Addr) (len cap : Nat) (l : List FileD) (fp : List Nat) (w : World) (hmax : len ≤ 2000000) (hrow : GRow 3 RFile w a len l fp) :
    Calls Try.prog 64 #[.slice a len cap, .func (.func 65) #[] #[]] w fun e w' => e = .returned (.bool (risesB l)) ∧ Below w.heap.size w w' := by
  obtain ⟨r, hr⟩ : ∃ r, risesB l = r := ⟨_, rfl⟩
  rw [hr]
  have HR := Lib.hid hr
  have HX := Lib.hid hrow
  clear hr hrow
  go_enter Try.func64, Try.ntmps64
  go_wp2_with fail
  go_loopg [5] len (fun k i wr => ∃ j : Nat, (j + k = len ∨ len = 0) ∧ i = .int .i64 ((j : Int) + 1) ∧ Below w.heap.size w wr ∧ RiseTo l (j + 1))
  case atStart => exact ⟨0, by omega, rfl, Below.refl _ _, RiseTo.one l⟩
  case round =>
    obtain ⟨j, hj, rfl, hb, hno⟩ := hrel
    have HB := Lib.hid hb
    have HN := Lib.hid hno
    clear hno
    by_cases hlt : j + 1 < len
    case neg =>
      clear hb
      have hnl : ¬ (j : Int) + 1 < (len : Int) := by omega
      have E : Hid (r = true) := by
        show r = true
        rw [← HR.out, risesB_iff]
        intro i x y h1 hx hy
        rw [HX.out.1] at h1
        exact HN.out i x y (by omega) hx hy
      go_wp2_with fail
      go_ret
      exact ⟨ret_bool E.out.symm, HB.out⟩
    have hlt2 : (j : Int) + 1 < (len : Int) := by omega
    have hlt3 : (j : Int) < (len : Int) := by omega
    have h02 : (0 : Int) ≤ (j : Int) := by omega
    have h03 : (0 : Int) ≤ (j : Int) + 1 := by omega
    have hN : ((j : Int) + 1).toNat = j + 1 := by omega
    have hW : IntKind.i64.wrap (j : Int) = (j : Int) := IntWalk.i64_in _ (by omega)
    obtain ⟨b, off, x, f, cs, ha, hbl, hx, hcl, hR, hc⟩ := HX.out.at (j := j) (by omega)
    obtain ⟨rfl, -, -, -, rfl⟩ := hR
    obtain ⟨b', off', y, f', cs', ha', hbl', hy, hcl', hR', hc'⟩ := HX.out.at hlt
    obtain ⟨rfl, -, -, -, rfl⟩ := hR'
    subst ha
    cases ha'
    have c0 := (hb.cell (p := ⟨b, off + j * 3 + 0, none⟩) hbl).trans (hc 0 (by omega))
    have c1 := (hb.cell (p := ⟨b, off + j * 3 + 1, none⟩) hbl).trans (hc 1 (by omega))
    have c2 := (hb.cell (p := ⟨b, off + j * 3 + 2, none⟩) hbl).trans (hc 2 (by omega))
    have d0 := (hb.cell (p := ⟨b, off + (j + 1) * 3 + 0, none⟩) hbl).trans (hc' 0 (by omega))
    have d1 := (hb.cell (p := ⟨b, off + (j + 1) * 3 + 1, none⟩) hbl).trans (hc' 1 (by omega))
    have d2 := (hb.cell (p := ⟨b, off + (j + 1) * 3 + 2, none⟩) hbl).trans (hc' 2 (by omega))
    simp [File.list] at c0 c1 c2 d0 d1 d2
    have HE := Lib.hid (And.intro hx hy)
    clear hb hc hc' hx hy
    go_wp2_with fail
    refine mix.wp_region_mix [10] (by kernel_rfl) (by kernel_rfl) ?_
    refine mix.mix_seg 10 rfl ?_; simp only [List.take_succ_cons, List.take_zero, List.drop_succ_cons, List.drop_zero]; (repeat still_step)
    (try refine wpStill_nil ?_); refine mix.at_cons (fun K hK => ?_); go_simp
    refine (nameCmp_ x y wr.drew).mono ?_
    rintro e w3 ⟨rfl, hb3⟩
    have HB3 := Lib.hid (HB.out.drew.trans (hb3.mono HB.out.size))
    clear hb3 c0 c1 c2 d0 d1 d2
    have hlt0 := cmpN_lt x.name y.name
    obtain ⟨q, hq⟩ : ∃ q, cmpN x.name y.name = q := ⟨_, rfl⟩
    rw [hq] at hlt0
    rw [hq]
    have HQ := Lib.hid hlt0
    clear hq hlt0
    refine hK _ _ ?_; clear hK K
    by_cases hneg : q < 0
    · have hn2 : ¬ 0 ≤ q := by omega
      refine mix.mix_end ?_; (repeat still_step)
      refine wpStill_nil ?_
      go_wp2_with fail
      go_roundg (len - (j + 1))
      case measure => omega
      case rel => exact ⟨j + 1, by omega, by go_num, HB3.out, HN.out.succ HE.out.1 HE.out.2 (HQ.out.1 hneg)⟩
    · have hn2 : 0 ≤ q := by omega
      have E : Hid (r = false) := by
        show r = false
        rw [← HR.out, ← Bool.not_eq_true, risesB_iff]
        intro hall
        have hl : j + 1 < l.length := (List.getElem?_eq_some_iff.1 HE.out.2).1
        exact hneg (HQ.out.2 (hall j x y hl HE.out.1 HE.out.2))
      refine mix.mix_end ?_; (repeat still_step)
      refine wpStill_nil ?_
      go_wp2_with fail
      go_ret
      exact ⟨ret_bool E.out.symm, HB3.out⟩

theorem Disk.row {w : World} {x : DiskD} {h : DiskH} {fp : List Nat} (hin : Disk.Is w x h fp) : GRow 3 RFile w h.filesa h.filesl x.files fp ∧ h.filesl ≤ h.filesc ∧ h.filesc ≤ 9223372036854775807 := by
  obtain ⟨f0, rfl, r0, u0, v0⟩ := hin
  exact ⟨r0, u0, v0⟩
theorem Disk.len_le {x : DiskD} (h : Disk.sz x ≤ 2000000) : x.files.length ≤ 2000000 := by
  unfold Disk.sz szL at h
  omega
set_option maxRecDepth 100000 in
set_option maxHeartbeats 1000000 in
theorem impl_DiskOk (x : DiskD) (h : DiskH) (fp : List Nat) (w : World) (hin : Disk.Is w x h fp) (hmax : Disk.sz x ≤ 2000000) :
    Calls Try.prog 19 #[.agg (Disk.list x h).toArray] w fun e w' => e = .returned (.bool (diskB x.files)) ∧ Below w.heap.size w w' := by
  obtain ⟨r, hr⟩ : ∃ r, diskB x.files = r := ⟨_, rfl⟩
  rw [hr]
  rw [diskB_eq] at hr
  have hl := (Disk.row hin).1.1
  have hlm := Disk.len_le hmax
  rw [hl] at hr hlm
  have HR := Lib.hid hr
  have HX := Lib.hid (Disk.row hin).1
  clear hr hin hmax hl
  simp only [Disk.list]
  by_cases h4 : h.filesl ≤ 4
  case neg =>
    have E := Lib.hid (show r = false by rw [← HR.out]; simp [h4])
    go_enter Try.func19, Try.ntmps19
    go_wp2_with fail
    go_ret
    exact ⟨ret_bool E.out.symm, by repeat (first | exact Below.refl _ _ | refine Below.setCell ?_ (by first | omega | (simp; done) | (simp; omega)) _ | refine Below.alloc ?_ (by first | omega | (simp; done) | (simp; omega)) _ | apply Below.drew)⟩
  go_enter Try.func19, Try.ntmps19
  go_wp2_with fail
  refine calls_gen (fun W => Below w.heap.size w W ∧ Blk W w.heap.size 26 [.slice h.filesa h.filesl h.filesc]) ⟨by repeat (first | exact Below.refl _ _ | refine Below.setCell ?_ (by first | omega | (simp; done) | (simp; omega)) _ | refine Below.alloc ?_ (by first | omega | (simp; done) | (simp; omega)) _ | apply Below.drew), by with_reducible (repeat (first | (refine blk_new_at _ _ _ _ ?_; first | rfl | (simp; done)) | refine Blk.alloc ?_ _ | apply Blk.drew | refine Blk.setOther ?_ (by first | (simp; done) | (simp; omega)) _))⟩ ?_
  rintro W ⟨b, k0⟩
  have HL := Lib.hid (And.intro h4 hlm)
  clear h4 hlm
  refine (allFiles h.filesa h.filesl h.filesc x.files fp W HL.out.2 (HX.out.below local_File b)).mono ?_
  rintro e w1 ⟨rfl, b1⟩
  have B1 := Lib.hid (b.trans (b1.mono b.size))
  have K1 := k0.below b1 k0.lt
  have c0 := K1.cell 0
  simp at c0
  clear b k0 b1 K1
  cases p2 : x.files.all fileB with
  | false =>
    have E := Lib.hid (show r = false by rw [← HR.out, p2]; simp)
    clear p2
    go_wp2_with fail
    go_ret
    exact ⟨ret_bool E.out.symm, B1.out⟩
  | true =>
  have P2 := Lib.hid p2
  clear p2
  go_wp2_with fail
  refine (risesFile h.filesa h.filesl h.filesc x.files fp w1 HL.out.2 (HX.out.below local_File B1.out)).mono ?_
  rintro e w2 ⟨rfl, b2⟩
  have B2 := Lib.hid (B1.out.trans (b2.mono B1.out.size))
  have E := Lib.hid (show r = risesB x.files by rw [← HR.out, P2.out]; simp [HL.out.1])
  clear b2 c0
  go_wp2_with fail
  go_ret
  exact ⟨ret_bool E.out.symm, B2.out⟩

theorem between_at {n lo hi : Int} {r : Bool} (h : decide (lo ≤ n ∧ n ≤ hi) = r) (w : World) : Calls Try.prog 56 #[.int .i64 n, .int .i64 lo, .int .i64 hi] w fun e w' => e = .returned (.bool r) ∧ w' = w :=
  (between n lo hi w).mono fun _ _ ⟨a, b⟩ => ⟨by rw [a, h], b.symm⟩
set_option maxRecDepth 100000 in
set_option maxHeartbeats 4000000 in
theorem spec_DiskOk (x : DiskD) (h : DiskH) (fp : List Nat) (w : World) (hin : Disk.Is w x h fp) (hmax : Disk.sz x ≤ 2000000) :
    Calls Try.prog 15 #[.agg (Disk.list x h).toArray] w fun e w' => e = .returned (.bool (diskB x.files)) ∧ Below w.heap.size w w' := by
  obtain ⟨r, hr⟩ : ∃ r, diskB x.files = r := ⟨_, rfl⟩
  rw [hr]
  have hl := (Disk.row hin).1.1
  have hlm := Disk.len_le hmax
  rw [hl] at hlm
  have HR := Lib.hid hr
  have HX := Lib.hid (Disk.row hin).1
  clear hr hin hmax hl
  obtain ⟨fa, fl, fc⟩ := h
  dsimp only at *
  simp only [Disk.list]
  have HX : Hid (GRow 3 RFile w fa fl x.files fp) := HX
  by_cases h4 : fl ≤ 4
  case neg =>
    have E := Lib.hid (show r = false by
      rw [← HR.out, ← Bool.not_eq_true, diskB_iff]
      intro hd
      exact h4 (by rw [← HX.out.1]; exact hd.len))
    go_enter Try.func15, Try.ntmps15
    go_wp2_with fail
    go_ret
    exact ⟨ret_bool E.out.symm, by repeat (first | exact Below.refl _ _ | refine Below.setCell ?_ (by first | omega | (simp; done) | (simp; omega)) _ | refine Below.alloc ?_ (by first | omega | (simp; done) | (simp; omega)) _ | apply Below.drew)⟩
  go_enter Try.func15, Try.ntmps15
  go_wp2_with fail
  go_loopg [3] fl (fun k i wr => ∃ j : Nat, j + k = fl ∧ i = .int .i64 j ∧ Below w.heap.size w wr ∧ Blk wr w.heap.size 26 [.slice fa fl fc] ∧ FilesTo x.files j ∧ RiseTo x.files j)
  case atStart => exact ⟨0, by omega, rfl, by repeat (first | exact Below.refl _ _ | refine Below.setCell ?_ (by first | omega | (simp; done) | (simp; omega)) _ | refine Below.alloc ?_ (by first | omega | (simp; done) | (simp; omega)) _ | apply Below.drew), by with_reducible (repeat (first | (refine blk_new_at _ _ _ _ ?_; first | rfl | (simp; done)) | refine Blk.alloc ?_ _ | apply Blk.drew | refine Blk.setOther ?_ (by first | (simp; done) | (simp; omega)) _)), FilesTo.zero _, RiseTo.zero _⟩
  case round =>
    obtain ⟨j, hj, rfl, hb, hk, hf, hri⟩ := hrel
    have HB := Lib.hid hb
    have HK := Lib.hid hk
    have HF := Lib.hid (And.intro hf hri)
    have c0 := hk.cell 0
    simp at c0
    clear hf hri hk
    by_cases hlt : j < fl
    case neg =>
      clear hb
      obtain rfl : j = fl := by omega
      have E := Lib.hid (show r = true by
        rw [← HR.out, diskB_iff]
        exact ⟨by rw [HX.out.1]; exact h4, by rw [HX.out.1]; exact HF.out.1, by rw [HX.out.1]; exact HF.out.2⟩)
      go_wp2_with fail
      go_ret
      exact ⟨ret_bool E.out.symm, HB.out⟩
    have hlt2 : (j : Int) < (fl : Int) := by omega
    have h02 : (0 : Int) ≤ (j : Int) := by omega
    obtain ⟨b, off, y, f, cs, rfl, hbl, hy, hcl, hR, hc⟩ := HX.out.at hlt
    obtain ⟨rfl, s0, s1, s2, rfl⟩ := hR
    have d0 := (hb.cell (p := ⟨b, off + j * 3 + 0, none⟩) hbl).trans (hc 0 (by omega))
    have d1 := (hb.cell (p := ⟨b, off + j * 3 + 1, none⟩) hbl).trans (hc 1 (by omega))
    have d2 := (hb.cell (p := ⟨b, off + j * 3 + 2, none⟩) hbl).trans (hc 2 (by omega))
    simp [File.list] at d0 d1 d2
    have HE := Lib.hid hy
    -- the element ahead
    obtain ⟨z, hz⟩ : ∃ z : ByteArray, 0 < j → wr.cell? ⟨b, off + (j - 1) * 3, none⟩ = some (.string z) ∧ ∃ p, x.files[j - 1]? = some p ∧ p.name = z := by
      by_cases hj0 : 0 < j
      · obtain ⟨b', off', p, f', cs', ha', hbl', hp, hcl', hR', hc'⟩ := HX.out.at (j := j - 1) (by omega)
        obtain ⟨rfl, -, -, -, rfl⟩ := hR'
        cases ha'
        refine ⟨p.name, fun _ => ⟨?_, p, hp, rfl⟩⟩
        have := (hb.cell (p := ⟨b, off + (j - 1) * 3 + 0, none⟩) hbl).trans (hc' 0 (by omega))
        simpa [File.list] using this
      · exact ⟨ByteArray.empty, fun h => absurd h hj0⟩
    have HZ := Lib.hid hz
    clear hb hc hy hz
    obtain ⟨pb, hpb⟩ : ∃ p, decide ((1 : Int) ≤ (y.name.size : Int) ∧ (y.name.size : Int) ≤ 20) = p := ⟨_, rfl⟩
    have HPB := Lib.hid hpb
    clear hpb
    have no : ¬ fileB y = true → r = false := fun hn => by
      rw [← HR.out, ← Bool.not_eq_true, diskB_iff]
      intro hd
      exact hn (hd.files j y (by rw [HX.out.1]; exact hlt) HE.out)
    have NO := Lib.hid no
    clear no
    go_wp2_with fail
    have hsz := HB.out.size
    have hbb := HB.out
    refine wp_gen (fun W => Below w.heap.size w W ∧ Blk W w.heap.size 26 [.slice (some ⟨b, off, none⟩) fl fc] ∧ Blk W wr.heap.size 40 [.string y.name, .string y.safe, .string y.now] ∧ Below wr.heap.size wr W) ⟨by repeat (first | exact Below.refl _ _ | refine Below.setCell ?_ (by first | omega | (simp; done) | (simp; omega)) _ | refine Below.alloc ?_ (by first | omega | (simp; done) | (simp; omega)) _ | apply Below.drew | refine Below.trans ?_ (hbb.mono (by first | omega | (simp; done) | (simp; omega)))), ?_, by with_reducible (repeat (first | (refine blk_new_at _ _ _ _ ?_; first | rfl | (simp; done)) | refine Blk.alloc ?_ _ | apply Blk.drew | refine Blk.setOther ?_ (by first | (simp; done) | (simp; omega)) _)), by repeat (first | exact Below.refl _ _ | refine Below.setCell ?_ (by first | omega | (simp; done) | (simp; omega)) _ | refine Below.alloc ?_ (by first | omega | (simp; done) | (simp; omega)) _ | apply Below.drew)⟩ ?_
    · have hk := HK.out
      with_reducible (repeat (first | exact hk | (refine blk_new_at _ _ _ _ ?_; first | rfl | (simp; done)) | refine Blk.alloc ?_ _ | apply Blk.drew | refine Blk.setOther ?_ (by first | (simp; done) | (simp; omega)) _))
    rintro W ⟨bw, kw, ky, bz⟩
    have BW := Lib.hid bw
    have KW := Lib.hid kw
    have BZ := Lib.hid bz
    have g0 := kw.cell 0
    have e0 := ky.cell 0
    have e1 := ky.cell 1
    have e2 := ky.cell 2
    simp at g0 e0 e1 e2
    have HBL := Lib.hid (And.intro hbl hsz)
    clear bw kw ky bz hbl hbb d0 d1 d2 c0 hsz
    cases pb with
    | false =>
      have E := Lib.hid (NO.out (by have hh := HPB.out; intro hf; simp [fileB] at hf; simp at hh; omega))
      refine mix.wp_region_mixh (fun w' => w'.cell? ⟨w.heap.size, 0, none⟩ = some (.slice (some ⟨b, off, none⟩) fl fc) ∧ w'.cell? ⟨wr.heap.size, 0, none⟩ = some (.string y.name) ∧ w'.cell? ⟨wr.heap.size, 1, none⟩ = some (.string y.safe) ∧ w'.cell? ⟨wr.heap.size, 2, none⟩ = some (.string y.now)) [3] (by kernel_rfl) (by kernel_rfl) (fun _ _ d _ _ h => by cases d <;> exact h) ⟨g0, e0, e1, e2⟩ ?_
      (repeat (first | (apply mix.held_take; (· rfl); (· rfl); (· (intro w' hSw; (try dsimp only at hSw); go_simp; try with_reducible rfl)); (try simp only [Act.put, List.setIfInBounds_toArray, List.set_cons_zero, List.set_cons_succ])) | ((refine mix.held_pass rfl (by rfl) ?_); (try simp only [Act.put, List.setIfInBounds_toArray, List.set_cons_zero, List.set_cons_succ]))))
      refine mix.held_hard rfl (fun K hK => ?_); go_simp
      refine (between_at HPB.out _).mono ?_
      rintro e W2 ⟨rfl, rfl⟩
      refine hK.out _ _ (⟨g0, e0, e1, e2⟩) (fun hSw => ?_); clear hK K hSw; (try simp only [Act.put, List.setIfInBounds_toArray, List.set_cons_zero, List.set_cons_succ])
      (repeat (first | (apply mix.held_take; (· rfl); (· rfl); (· (intro w' hSw; (try dsimp only at hSw); go_simp; try with_reducible rfl)); (try simp only [Act.put, List.setIfInBounds_toArray, List.set_cons_zero, List.set_cons_succ])) | ((refine mix.held_pass rfl (by rfl) ?_); (try simp only [Act.put, List.setIfInBounds_toArray, List.set_cons_zero, List.set_cons_succ]))))
      refine mix.held_end ?_
      go_wp2_with fail
      go_ret
      exact ⟨ret_bool E.out.symm, BW.out.drew⟩
    | true =>
    have hname : 1 ≤ y.name.size ∧ y.name.size ≤ 20 := by have hh := HPB.out; simp at hh; omega
    have HNM := Lib.hid hname
    clear hname
    by_cases hsf : y.safe.size ≤ 200000
    case neg =>
      have hsi : (200000 : Int) < (y.safe.size : Int) := by omega
      have E := Lib.hid (NO.out (by intro hf; simp [fileB] at hf; omega))
      refine mix.wp_region_mixh (fun w' => w'.cell? ⟨w.heap.size, 0, none⟩ = some (.slice (some ⟨b, off, none⟩) fl fc) ∧ w'.cell? ⟨wr.heap.size, 0, none⟩ = some (.string y.name) ∧ w'.cell? ⟨wr.heap.size, 1, none⟩ = some (.string y.safe) ∧ w'.cell? ⟨wr.heap.size, 2, none⟩ = some (.string y.now)) [3] (by kernel_rfl) (by kernel_rfl) (fun _ _ d _ _ h => by cases d <;> exact h) ⟨g0, e0, e1, e2⟩ ?_
      (repeat (first | (apply mix.held_take; (· rfl); (· rfl); (· (intro w' hSw; (try dsimp only at hSw); go_simp; try with_reducible rfl)); (try simp only [Act.put, List.setIfInBounds_toArray, List.set_cons_zero, List.set_cons_succ])) | ((refine mix.held_pass rfl (by rfl) ?_); (try simp only [Act.put, List.setIfInBounds_toArray, List.set_cons_zero, List.set_cons_succ]))))
      refine mix.held_hard rfl (fun K hK => ?_); go_simp
      refine (between_at HPB.out _).mono ?_
      rintro e W2 ⟨rfl, rfl⟩
      refine hK.out _ _ (⟨g0, e0, e1, e2⟩) (fun hSw => ?_); clear hK K hSw; (try simp only [Act.put, List.setIfInBounds_toArray, List.set_cons_zero, List.set_cons_succ])
      (repeat (first | (apply mix.held_take; (· rfl); (· rfl); (· (intro w' hSw; (try dsimp only at hSw); go_simp; try with_reducible rfl)); (try simp only [Act.put, List.setIfInBounds_toArray, List.set_cons_zero, List.set_cons_succ])) | ((refine mix.held_pass rfl (by rfl) ?_); (try simp only [Act.put, List.setIfInBounds_toArray, List.set_cons_zero, List.set_cons_succ]))))
      refine mix.held_end ?_
      go_wp2_with fail
      go_ret
      exact ⟨ret_bool E.out.symm, BW.out.drew⟩
    have hsi : ¬ (200000 : Int) < (y.safe.size : Int) := by omega
    by_cases hnw : y.now.size ≤ 200000
    case neg =>
      have hni : (200000 : Int) < (y.now.size : Int) := by omega
      have E := Lib.hid (NO.out (by intro hf; simp [fileB] at hf; omega))
      refine mix.wp_region_mixh (fun w' => w'.cell? ⟨w.heap.size, 0, none⟩ = some (.slice (some ⟨b, off, none⟩) fl fc) ∧ w'.cell? ⟨wr.heap.size, 0, none⟩ = some (.string y.name) ∧ w'.cell? ⟨wr.heap.size, 1, none⟩ = some (.string y.safe) ∧ w'.cell? ⟨wr.heap.size, 2, none⟩ = some (.string y.now)) [3] (by kernel_rfl) (by kernel_rfl) (fun _ _ d _ _ h => by cases d <;> exact h) ⟨g0, e0, e1, e2⟩ ?_
      (repeat (first | (apply mix.held_take; (· rfl); (· rfl); (· (intro w' hSw; (try dsimp only at hSw); go_simp; try with_reducible rfl)); (try simp only [Act.put, List.setIfInBounds_toArray, List.set_cons_zero, List.set_cons_succ])) | ((refine mix.held_pass rfl (by rfl) ?_); (try simp only [Act.put, List.setIfInBounds_toArray, List.set_cons_zero, List.set_cons_succ]))))
      refine mix.held_hard rfl (fun K hK => ?_); go_simp
      refine (between_at HPB.out _).mono ?_
      rintro e W2 ⟨rfl, rfl⟩
      refine hK.out _ _ (⟨g0, e0, e1, e2⟩) (fun hSw => ?_); clear hK K hSw; (try simp only [Act.put, List.setIfInBounds_toArray, List.set_cons_zero, List.set_cons_succ])
      (repeat (first | (apply mix.held_take; (· rfl); (· rfl); (· (intro w' hSw; (try dsimp only at hSw); go_simp; try with_reducible rfl)); (try simp only [Act.put, List.setIfInBounds_toArray, List.set_cons_zero, List.set_cons_succ])) | ((refine mix.held_pass rfl (by rfl) ?_); (try simp only [Act.put, List.setIfInBounds_toArray, List.set_cons_zero, List.set_cons_succ]))))
      refine mix.held_end ?_
      go_wp2_with fail
      go_ret
      exact ⟨ret_bool E.out.symm, BW.out.drew⟩
    have hni : ¬ (200000 : Int) < (y.now.size : Int) := by omega
    have HFB := Lib.hid (show fileB y = true by have := HNM.out; simp [fileB]; omega)
    by_cases hj0 : 0 < j
    case neg =>
      obtain rfl : j = 0 := by omega
      refine mix.wp_region_mixh (fun w' => w'.cell? ⟨w.heap.size, 0, none⟩ = some (.slice (some ⟨b, off, none⟩) fl fc) ∧ w'.cell? ⟨wr.heap.size, 0, none⟩ = some (.string y.name) ∧ w'.cell? ⟨wr.heap.size, 1, none⟩ = some (.string y.safe) ∧ w'.cell? ⟨wr.heap.size, 2, none⟩ = some (.string y.now)) [3] (by kernel_rfl) (by kernel_rfl) (fun _ _ d _ _ h => by cases d <;> exact h) ⟨g0, e0, e1, e2⟩ ?_
      (repeat (first | (apply mix.held_take; (· rfl); (· rfl); (· (intro w' hSw; (try dsimp only at hSw); go_simp; try with_reducible rfl)); (try simp only [Act.put, List.setIfInBounds_toArray, List.set_cons_zero, List.set_cons_succ])) | ((refine mix.held_pass rfl (by rfl) ?_); (try simp only [Act.put, List.setIfInBounds_toArray, List.set_cons_zero, List.set_cons_succ]))))
      refine mix.held_hard rfl (fun K hK => ?_); go_simp
      refine (between_at HPB.out _).mono ?_
      rintro e W2 ⟨rfl, rfl⟩
      refine hK.out _ _ (⟨g0, e0, e1, e2⟩) (fun hSw => ?_); clear hK K hSw; (try simp only [Act.put, List.setIfInBounds_toArray, List.set_cons_zero, List.set_cons_succ])
      (repeat (first | (apply mix.held_take; (· rfl); (· rfl); (· (intro w' hSw; (try dsimp only at hSw); go_simp; try with_reducible rfl)); (try simp only [Act.put, List.setIfInBounds_toArray, List.set_cons_zero, List.set_cons_succ])) | ((refine mix.held_pass rfl (by rfl) ?_); (try simp only [Act.put, List.setIfInBounds_toArray, List.set_cons_zero, List.set_cons_succ]))))
      refine mix.held_end ?_
      go_wp2_with fail
      go_roundg (fl - (0 + 1))
      case measure => omega
      case rel => exact ⟨0 + 1, by omega, by go_num, BW.out.drew, KW.out.drew, HF.out.1.succ HE.out HFB.out, RiseTo.one _⟩
    obtain ⟨i, rfl⟩ : ∃ i, j = i + 1 := ⟨j - 1, by omega⟩
    obtain ⟨hq, p, hp, hpz⟩ := HZ.out hj0
    have q0 := (BZ.out.cell (p := ⟨b, off + (i + 1 - 1) * 3, none⟩) (Nat.lt_of_lt_of_le HBL.out.1 HBL.out.2)).trans hq
    rw [Nat.add_sub_cancel] at q0 hp
    have HPZ := Lib.hid (And.intro hp hpz)
    clear hq hp hpz
    have hi0 : (0 : Int) < (i : Int) + 1 := by omega
    have hi1 : (0 : Int) ≤ (i : Int) := by omega
    have hi2 : (i : Int) < (fl : Int) := by omega
    have hW : IntKind.i64.wrap (i : Int) = (i : Int) := IntWalk.i64_in _ (by omega)
    cases hlb : Op.bytesLess z.toList y.name.toList with
    | false =>
      have E := Lib.hid (show r = false by
        rw [← HR.out, ← Bool.not_eq_true, diskB_iff]
        intro hd
        have h1 := hd.rise i p y (by rw [HX.out.1]; exact hlt) HPZ.out.1 HE.out
        rw [HPZ.out.2] at h1
        have h2 : ltB z y.name = false := hlb
        rw [h1] at h2
        cases h2)
      refine mix.wp_region_mixh (fun w' => w'.cell? ⟨w.heap.size, 0, none⟩ = some (.slice (some ⟨b, off, none⟩) fl fc) ∧ w'.cell? ⟨wr.heap.size, 0, none⟩ = some (.string y.name) ∧ w'.cell? ⟨wr.heap.size, 1, none⟩ = some (.string y.safe) ∧ w'.cell? ⟨wr.heap.size, 2, none⟩ = some (.string y.now) ∧ w'.cell? ⟨b, off + i * 3, none⟩ = some (.string z)) [3] (by kernel_rfl) (by kernel_rfl) (fun _ _ d _ _ h => by cases d <;> exact h) ⟨g0, e0, e1, e2, q0⟩ ?_
      (repeat (first | (apply mix.held_take; (· rfl); (· rfl); (· (intro w' hSw; (try dsimp only at hSw); go_simp; try with_reducible rfl)); (try simp only [Act.put, List.setIfInBounds_toArray, List.set_cons_zero, List.set_cons_succ])) | ((refine mix.held_pass rfl (by rfl) ?_); (try simp only [Act.put, List.setIfInBounds_toArray, List.set_cons_zero, List.set_cons_succ]))))
      refine mix.held_hard rfl (fun K hK => ?_); go_simp
      refine (between_at HPB.out _).mono ?_
      rintro e W2 ⟨rfl, rfl⟩
      refine hK.out _ _ (⟨g0, e0, e1, e2, q0⟩) (fun hSw => ?_); clear hK K hSw; (try simp only [Act.put, List.setIfInBounds_toArray, List.set_cons_zero, List.set_cons_succ])
      (repeat (first | (apply mix.held_take; (· rfl); (· rfl); (· (intro w' hSw; (try dsimp only at hSw); go_simp; try with_reducible rfl)); (try simp only [Act.put, List.setIfInBounds_toArray, List.set_cons_zero, List.set_cons_succ])) | ((refine mix.held_pass rfl (by rfl) ?_); (try simp only [Act.put, List.setIfInBounds_toArray, List.set_cons_zero, List.set_cons_succ]))))
      refine mix.held_end ?_
      go_wp2_with fail
      go_ret
      exact ⟨ret_bool E.out.symm, BW.out.drew⟩
    | true =>
      have HLB := Lib.hid (show ltB p.name y.name = true by rw [HPZ.out.2]; exact hlb)
      refine mix.wp_region_mixh (fun w' => w'.cell? ⟨w.heap.size, 0, none⟩ = some (.slice (some ⟨b, off, none⟩) fl fc) ∧ w'.cell? ⟨wr.heap.size, 0, none⟩ = some (.string y.name) ∧ w'.cell? ⟨wr.heap.size, 1, none⟩ = some (.string y.safe) ∧ w'.cell? ⟨wr.heap.size, 2, none⟩ = some (.string y.now) ∧ w'.cell? ⟨b, off + i * 3, none⟩ = some (.string z)) [3] (by kernel_rfl) (by kernel_rfl) (fun _ _ d _ _ h => by cases d <;> exact h) ⟨g0, e0, e1, e2, q0⟩ ?_
      (repeat (first | (apply mix.held_take; (· rfl); (· rfl); (· (intro w' hSw; (try dsimp only at hSw); go_simp; try with_reducible rfl)); (try simp only [Act.put, List.setIfInBounds_toArray, List.set_cons_zero, List.set_cons_succ])) | ((refine mix.held_pass rfl (by rfl) ?_); (try simp only [Act.put, List.setIfInBounds_toArray, List.set_cons_zero, List.set_cons_succ]))))
      refine mix.held_hard rfl (fun K hK => ?_); go_simp
      refine (between_at HPB.out _).mono ?_
      rintro e W2 ⟨rfl, rfl⟩
      refine hK.out _ _ (⟨g0, e0, e1, e2, q0⟩) (fun hSw => ?_); clear hK K hSw; (try simp only [Act.put, List.setIfInBounds_toArray, List.set_cons_zero, List.set_cons_succ])
      (repeat (first | (apply mix.held_take; (· rfl); (· rfl); (· (intro w' hSw; (try dsimp only at hSw); go_simp; try with_reducible rfl)); (try simp only [Act.put, List.setIfInBounds_toArray, List.set_cons_zero, List.set_cons_succ])) | ((refine mix.held_pass rfl (by rfl) ?_); (try simp only [Act.put, List.setIfInBounds_toArray, List.set_cons_zero, List.set_cons_succ]))))
      refine mix.held_end ?_
      go_wp2_with fail
      go_roundg (fl - (i + 1 + 1))
      case measure => omega
      case rel => exact ⟨i + 1 + 1, by omega, by go_num, BW.out.drew, KW.out.drew, HF.out.1.succ HE.out HFB.out, HF.out.2.succ HPZ.out.1 HE.out HLB.out⟩
end Go.Proofs.Ytoglclmaacjdaaa.dat
