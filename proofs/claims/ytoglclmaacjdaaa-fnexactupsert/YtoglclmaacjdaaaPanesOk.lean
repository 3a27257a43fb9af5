/-
  THE CONTRACT OF PanesOk of the program: what it answers; nothing that was there is written.
  Condition: panes of at most 2,000,000 numbers.
-/
import Derived.Test.YtoglclmaacjdaaaPanesImpl
namespace Go.Proofs.Ytoglclmaacjdaaa.dat
open Go.RowKit Go.Proofs.Ytoglclmaacjdaaa.win

def startB (c : ConfD) (p : PaneD) : Bool := match c.ws[p.win.toNat]? with
  | some u => decide (p.start % u.2 = 0) && spanB p.start
  | none => false
def keyB (c : ConfD) (p : PaneD) : Bool := match c.ms[p.mask.toNat]? with
  | some m => ((p.key.length : Int) == ones m) && p.key.all dimB
  | none => false
/-- A pane may be one of c. -/
def paneB (c : ConfD) (p : PaneD) : Bool := placeB c.ws.length p.win && placeB c.ms.length p.mask && startB c p && keyB c p && agg.okB p.a.n p.a.sm p.a.mn p.a.mx && decide (0 < p.a.n)
/-- Each is ahead of the next one. -/
def riseB : List PaneD → Bool
  | x :: y :: r => decide (paneC x y < 0) && riseB (y :: r)
  | _ => true
theorem riseB_iff : ∀ {l : List PaneD}, riseB l = true ↔ ∀ (i : Nat) x y, l[i]? = some x → l[i + 1]? = some y → paneC x y < 0
  | [] => by simp [riseB]
  | [x] => by simp [riseB]
  | x :: y :: r => by
    simp only [riseB, Bool.and_eq_true, decide_eq_true_eq, riseB_iff (l := y :: r)]
    constructor
    · rintro ⟨h1, h2⟩ i a b ha hb
      cases i with
      | zero => simp at ha hb; subst ha hb; exact h1
      | succ i => exact h2 i a b (by simpa using ha) (by simpa using hb)
    · intro h
      exact ⟨h 0 x y rfl rfl, fun i a b ha hb => h (i + 1) a b (by simpa using ha) (by simpa using hb)⟩
/-- PanesOk. -/
def panesB (c : ConfD) (l : List PaneD) : Bool := confD c && l.all (paneB c) && riseB l

theorem conf_win {c : ConfD} (h : confD c = true) {i : Nat} {u : Int × Int} (hu : c.ws[i]? = some u) : 1 ≤ u.2 ∧ u.2 ≤ 20000 := by
  unfold confD winsB at h
  simp only [Bool.and_eq_true] at h
  have := List.all_eq_true.1 h.1.1.1.2.1.2 u (List.mem_of_getElem? hu)
  have := (winB_iff _ _).1 this
  obtain ⟨_, _, h1, h2, _⟩ := this
  exact ⟨h1, h2⟩
theorem conf_mask {c : ConfD} (h : confD c = true) {i : Nat} {m : Int} (hu : c.ms[i]? = some m) : 0 ≤ m ∧ m < 8 := by
  have hd := conf_dims h
  unfold confD masksB at h
  simp only [Bool.and_eq_true] at h
  have := List.all_eq_true.1 h.1.1.2.1.2 m (List.mem_of_getElem? hu)
  unfold inB at this
  have h2 := of_decide_eq_true this
  have h3 : pw c.d ≤ 8 := by unfold pw; repeat (first | omega | split)
  omega
theorem placeB_nat {n : Nat} {k : Int} (h : placeB n k = true) : ∃ i : Nat, k = (i : Int) ∧ i < n := by
  unfold placeB at h
  have := of_decide_eq_true h
  exact ⟨k.toNat, by omega, by omega⟩
theorem placeB_of {n i : Nat} (h : i < n) : placeB n (i : Int) = true := by unfold placeB; exact decide_eq_true ⟨by omega, by omega⟩

set_option maxRecDepth 100000 in
set_option maxHeartbeats 4000000 in
theorem paneOk (c : ConfD) (ch : ConfigH) (cf : List Nat) (x : PaneD) (h : PaneH) (f : List Nat) (w : World) (hc : Config.Is w c ch cf) (hp : Pane.Is w x h f) (hok : confD c = true) (hz : Pane.sz x ≤ 2000000) :
    Calls Try.prog 143 #[.agg (Config.list c ch).toArray, .agg (Pane.list x h).toArray] w fun e w' => e = .returned (.bool (paneB c x)) ∧ Below w.heap.size w w' := by
  obtain ⟨r, hr⟩ : ∃ r, paneB c x = r := ⟨_, rfl⟩
  rw [hr]
  obtain ⟨win, mask, start, key, A⟩ := x
  unfold paneB at hr
  have HR := Lib.hid hr
  have HC := Lib.hid hc
  have HP := Lib.hid hp
  have HO := Lib.hid hok
  have HZ := Lib.hid hz
  have hl1 : c.ws.length = ch.wsl := by obtain ⟨f0, f1, rfl, r0, _⟩ := hc; exact r0.1
  have hl2 : c.ms.length = ch.msl := by obtain ⟨f0, f1, rfl, _, _, _, r1, _⟩ := hc; exact r1.1
  have L1 := Lib.hid hl1
  have L2 := Lib.hid hl2
  clear hr hc hp hok hz hl1 hl2
  simp only [Config.list, Pane.list]
  cases p1 : placeB ch.wsl win with
  | false =>
    have P1 := Lib.hid p1
    go_enter Try.func143, Try.ntmps143
    go_wp2_with (go_at_call 167; refine (placeWin _ _ _ _ _).mono ?_; rintro e w' ⟨rfl, rfl⟩)
    go_ret
    exact ⟨ret_bool (by rw [← HR.out, L1.out, P1.out]; rfl), by repeat (first | exact Below.refl _ _ | refine Below.setCell ?_ (by first | omega | (simp; done) | (simp; omega)) _ | refine Below.alloc ?_ (by first | omega | (simp; done) | (simp; omega)) _ | apply Below.drew)⟩
  | true =>
  cases p2 : placeB ch.msl mask with
  | false =>
    have P2 := Lib.hid p2
    go_enter Try.func143, Try.ntmps143
    go_wp2_with (first | (go_at_call 167; refine (placeWin _ _ _ _ _).mono ?_; rintro e w' ⟨rfl, rfl⟩) | (go_at_call 59; refine (placeInt _ _ _ _ _).mono ?_; rintro e w' ⟨rfl, rfl⟩))
    go_ret
    exact ⟨ret_bool (by rw [← HR.out, L2.out, P2.out]; simp), by repeat (first | exact Below.refl _ _ | refine Below.setCell ?_ (by first | omega | (simp; done) | (simp; omega)) _ | refine Below.alloc ?_ (by first | omega | (simp; done) | (simp; omega)) _ | apply Below.drew)⟩
  | true =>
  have P1 := Lib.hid p1
  have P2 := Lib.hid p2
  obtain ⟨i, rfl, hi⟩ := placeB_nat p1
  obtain ⟨j, rfl, hj⟩ := placeB_nat p2
  obtain ⟨u, hu⟩ : ∃ u, c.ws[i]? = some u := ⟨_, List.getElem?_eq_getElem (by rw [L1.out]; exact hi)⟩
  obtain ⟨m, hm⟩ : ∃ m, c.ms[j]? = some m := ⟨_, List.getElem?_eq_getElem (by rw [L2.out]; exact hj)⟩
  have hu' := conf_win HO.out hu
  have hm' := conf_mask HO.out hm
  have SF := Lib.hid (fun w hc => startFits c ch cf i j start key A h w hc hi hu hu'.1 hu'.2)
  have KF := Lib.hid (fun w hc hp => keyFits c ch cf i j start key A h f w hc hp hj hm hm'.1 hm'.2 HZ.out)
  have hr2 := HR.out
  simp only [startB, keyB, Int.toNat_natCast, hu, hm, L1.out, L2.out, P1.out, P2.out, Bool.true_and] at hr2
  have HR2 := Lib.hid hr2
  clear hr2 hu' hm' hu hm hi hj
  obtain ⟨s1, hs1⟩ : ∃ s, (decide (start % u.2 = 0) && spanB start) = s := ⟨_, rfl⟩
  obtain ⟨s2, hs2⟩ : ∃ s, (((key.length : Int) == ones m) && key.all dimB) = s := ⟨_, rfl⟩
  rw [hs1] at SF
  rw [hs2] at KF
  rw [hs1, hs2] at HR2
  clear hs1 hs2
  go_enter Try.func143, Try.ntmps143
  go_wp2_with (first | (go_at_call 167; refine (placeWin _ _ _ _ _).mono ?_; rintro e w' ⟨rfl, rfl⟩) | (go_at_call 59; refine (placeInt _ _ _ _ _).mono ?_; rintro e w' ⟨rfl, rfl⟩))
  refine calls_gen (fun W => Below w.heap.size w W ∧ Blk W w.heap.size 63 (Config.list c ch) ∧ Blk W (w.heap.size + 1) 144 (Pane.list ⟨i, j, start, key, A⟩ h)) ⟨by repeat (first | exact Below.refl _ _ | refine Below.setCell ?_ (by first | omega | (simp; done) | (simp; omega)) _ | refine Below.alloc ?_ (by first | omega | (simp; done) | (simp; omega)) _ | apply Below.drew), by unfold Config.list; with_reducible (repeat (first | (refine blk_new_at _ _ _ _ ?_; first | rfl | (simp; done)) | refine Blk.alloc ?_ _ | apply Blk.drew | refine Blk.setOther ?_ (by first | (simp; done) | (simp; omega)) _)), by unfold Pane.list; with_reducible (repeat (first | (refine blk_new_at _ _ _ _ ?_; first | rfl | (simp; done)) | refine Blk.alloc ?_ _ | apply Blk.drew | refine Blk.setOther ?_ (by first | (simp; done) | (simp; omega)) _))⟩ ?_
  rintro W1 ⟨b1, k1, m1⟩
  refine (SF.out W1 (HC.out.below b1)).mono ?_
  rintro e W2 ⟨rfl, b2⟩
  have B2 := Lib.hid (b1.trans (b2.mono b1.size))
  have K2 := Lib.hid (k1.below b2 k1.lt)
  have M2 := Lib.hid (m1.below b2 m1.lt)
  clear b1 k1 m1 b2 p1 p2
  cases s1 with
  | false =>
    go_wp2_with fail
    go_ret
    exact ⟨ret_bool (by rw [← HR2.out]; simp), B2.out⟩
  | true =>
  have c0 := K2.out.cell 0
  have c1 := K2.out.cell 1
  have c2 := K2.out.cell 2
  have c3 := K2.out.cell 3
  have c4 := K2.out.cell 4
  have d0 := M2.out.cell 0
  have d1 := M2.out.cell 1
  have d2 := M2.out.cell 2
  have d3 := M2.out.cell 3
  have d4 := M2.out.cell 4
  have d5 := M2.out.cell 5
  have d6 := M2.out.cell 6
  have d7 := M2.out.cell 7
  simp [Config.list, Pane.list] at c0 c1 c2 c3 c4 d0 d1 d2 d3 d4 d5 d6 d7
  go_wp2_with fail
  refine (KF.out W2 (HC.out.below B2.out) (HP.out.below B2.out)).mono ?_
  rintro e W3 ⟨rfl, b3⟩
  have B3 := Lib.hid (B2.out.trans (b3.mono B2.out.size))
  have M3 := Lib.hid (M2.out.below b3 M2.out.lt)
  clear c0 c1 c2 c3 c4 d0 d1 d2 d3 d4 d5 d6 d7 b3
  cases s2 with
  | false =>
    go_wp2_with fail
    go_ret
    exact ⟨ret_bool (by rw [← HR2.out]; simp), B3.out⟩
  | true =>
  have d4 := M3.out.cell 4
  have d5 := M3.out.cell 5
  have d6 := M3.out.cell 6
  have d7 := M3.out.cell 7
  simp [Pane.list] at d4 d5 d6 d7
  go_wp2_with fail
  refine (agg.impl_AggOk _ _ _ _ W3).mono ?_
  rintro e W4 ⟨rfl, b4⟩
  have B4 := Lib.hid (B3.out.trans (b4.mono B3.out.size))
  have M4 := Lib.hid (M3.out.below b4 M3.out.lt)
  clear d4 d5 d6 d7 b4
  have d4 := M4.out.cell 4
  simp [Pane.list] at d4
  obtain ⟨s3, hs3⟩ : ∃ s, agg.okB A.n A.sm A.mn A.mx = s := ⟨_, rfl⟩
  rw [hs3] at HR2 ⊢
  clear hs3
  cases s3 with
  | false =>
    go_wp2_with fail
    go_ret
    exact ⟨ret_bool (by rw [← HR2.out]; simp), B4.out⟩
  | true =>
  go_wp2_with fail
  go_ret
  exact ⟨ret_bool (by rw [← HR2.out]; simp), B4.out⟩

set_option maxRecDepth 100000 in
set_option maxHeartbeats 4000000 in
theorem allPanes (c : ConfD) (ch : ConfigH) (cf : List Nat) (a : Option Addr) (len cap : Nat) (l : List PaneD) (fp : List Nat) (w : World) (hc : Config.Is w c ch cf) (hok : confD c = true) (hmax : szL Pane.sz l ≤ 2000000) (hrow : GRow 8 RPane w a len l fp) :
    Calls Try.prog 142 #[.slice a len cap, .func (.func 143) #[.agg (Config.list c ch).toArray] #[]] w fun e w' => e = .returned (.bool (l.all (paneB c))) ∧ Below w.heap.size w w' := by
  obtain ⟨r, hr⟩ : ∃ r, l.all (paneB c) = r := ⟨_, rfl⟩
  rw [hr]
  have hlm : len ≤ 2000000 := by rw [← hrow.1]; unfold szL at hmax; omega
  have HR := Lib.hid hr
  have HX := Lib.hid hrow
  have HM := Lib.hid hmax
  have HC := Lib.hid hc
  have HO := Lib.hid hok
  clear hr hrow hmax hc hok
  obtain ⟨cv, hcv⟩ : ∃ v, Value.agg (Config.list c ch).toArray = v := ⟨_, rfl⟩
  have HV := Lib.hid hcv
  rw [hcv]
  clear hcv
  go_enter Try.func142, Try.ntmps142
  go_wp2_with fail
  go_loopg [9] len (fun k i wr => ∃ j : Nat, j + k = len ∧ i = .int .i64 j ∧ Below w.heap.size w wr ∧ ∀ i y, i < j → l[i]? = some y → paneB c y = true)
  case atStart => exact ⟨0, by omega, rfl, Below.refl _ _, fun i _ hi => by omega⟩
  case round =>
    obtain ⟨j, hj, rfl, hb, hno⟩ := hrel
    have HB := Lib.hid hb
    have HN := Lib.hid hno
    clear hno
    by_cases hlt : j < len
    case neg =>
      clear hb
      obtain rfl : j = len := by omega
      have E : Hid (r = true) := by
        show r = true
        rw [← HR.out, List.all_eq_true]
        intro x hx
        obtain ⟨i, hi, rfl⟩ := List.getElem_of_mem hx
        exact HN.out i _ (by rw [← HX.out.1]; exact hi) (List.getElem?_eq_getElem hi)
      go_wp2_with fail
      go_ret
      exact ⟨ret_bool E.out.symm, HB.out⟩
    have hlt2 : (j : Int) < (len : Int) := by omega
    have h02 : (0 : Int) ≤ (j : Int) := by omega
    obtain ⟨b, off, x, f, cs, rfl, hbl, hx, hcl, hR, hc⟩ := HX.out.at hlt
    obtain ⟨h, rfl, hi⟩ := hR
    have c0 := (hb.cell (p := ⟨b, off + j * 8 + 0, none⟩) hbl).trans (hc 0 (by omega))
    have c1 := (hb.cell (p := ⟨b, off + j * 8 + 1, none⟩) hbl).trans (hc 1 (by omega))
    have c2 := (hb.cell (p := ⟨b, off + j * 8 + 2, none⟩) hbl).trans (hc 2 (by omega))
    have c3 := (hb.cell (p := ⟨b, off + j * 8 + 3, none⟩) hbl).trans (hc 3 (by omega))
    have c4 := (hb.cell (p := ⟨b, off + j * 8 + 4, none⟩) hbl).trans (hc 4 (by omega))
    have c5 := (hb.cell (p := ⟨b, off + j * 8 + 5, none⟩) hbl).trans (hc 5 (by omega))
    have c6 := (hb.cell (p := ⟨b, off + j * 8 + 6, none⟩) hbl).trans (hc 6 (by omega))
    have c7 := (hb.cell (p := ⟨b, off + j * 8 + 7, none⟩) hbl).trans (hc 7 (by omega))
    simp [Pane.list] at c0 c1 c2 c3 c4 c5 c6 c7
    have HI := Lib.hid (hi.below hb)
    have HE := Lib.hid hx
    clear hb hc hx hi
    go_wp2_with fail
    refine calls_gen (fun W => Below wr.heap.size wr W) (by repeat (first | exact Below.refl _ _ | refine Below.setCell ?_ (by first | omega | (simp; done) | (simp; omega)) _ | refine Below.alloc ?_ (by first | omega | (simp; done) | (simp; omega)) _ | apply Below.drew)) ?_
    intro W b1
    have hBW : Below w.heap.size w W := HB.out.trans (b1.mono HB.out.size)
    have hcall := paneOk c ch cf x h f W (HC.out.below hBW) (HI.out.below b1) HO.out (by have := sz_elem_le Pane.sz l HE.out; have := HM.out; unfold szL at this; omega)
    rw [HV.out] at hcall
    refine hcall.mono ?_
    clear hcall
    rintro e w3 ⟨rfl, hb3⟩
    have HB3 := Lib.hid (hBW.trans (hb3.mono hBW.size))
    clear hb3 hBW b1 c0 c1 c2 c3 c4 c5 c6 c7
    cases hp : paneB c x with
    | false =>
      have E : Hid (r = false) := by
        show r = false
        rw [← HR.out, List.all_eq_false]
        exact ⟨x, List.mem_of_getElem? HE.out, by rw [hp]; simp⟩
      clear hp
      go_wp2_with fail
      go_ret
      exact ⟨ret_bool E.out.symm, HB3.out⟩
    | true =>
      have HP := Lib.hid hp
      clear hp
      go_wp2_with fail
      go_roundg (len - (j + 1))
      case measure => omega
      case rel =>
        refine ⟨j + 1, by omega, by go_num, HB3.out, fun i y hi hy => ?_⟩
        by_cases e : i = j
        · subst e
          rw [HE.out] at hy
          cases hy
          exact HP.out
        · exact HN.out i y (by omega) hy

set_option maxRecDepth 100000 in
set_option maxHeartbeats 4000000 in
theorem panesRise (a : Option Addr) (len cap : Nat) (l : List PaneD) (fp : List Nat) (w : World) (hmax : szL Pane.sz l ≤ 2000000) (hrow : GRow 8 RPane w a len l fp) :
    Calls Try.prog 144 #[.slice a len cap, .func (.func 108) #[] #[]] w fun e w' => e = .returned (.bool (riseB l)) ∧ Below w.heap.size w w' := by
  obtain ⟨r, hr⟩ : ∃ r, riseB l = r := ⟨_, rfl⟩
  rw [hr]
  have hlm : len ≤ 2000000 := by rw [← hrow.1]; unfold szL at hmax; omega
  have HR := Lib.hid hr
  have HX := Lib.hid hrow
  have HM := Lib.hid hmax
  clear hr hrow hmax
  go_enter Try.func144, Try.ntmps144
  go_wp2_with fail
  go_loopg [5] len (fun k i wr => ∃ j : Nat, (j + k = len ∨ len = 0) ∧ i = .int .i64 ((j : Int) + 1) ∧ Below w.heap.size w wr ∧ ∀ i x y, i < j → l[i]? = some x → l[i + 1]? = some y → paneC x y < 0)
  case atStart => exact ⟨0, by omega, rfl, Below.refl _ _, fun i _ _ hi => by omega⟩
  case round =>
    obtain ⟨j, hj, rfl, hb, hno⟩ := hrel
    have HB := Lib.hid hb
    have HN := Lib.hid hno
    clear hno
    by_cases hlt : j + 1 < len
    case neg =>
      clear hb
      have hnl : ¬ (j : Int) + 1 < (len : Int) := by omega
      have E : Hid (r = true) := by
        show r = true
        rw [← HR.out, riseB_iff]
        intro i x y hx hy
        have h1 := (List.getElem?_eq_some_iff.1 hy).1
        rw [HX.out.1] at h1
        exact HN.out i x y (by omega) hx hy
      go_wp2_with fail
      go_ret
      exact ⟨ret_bool E.out.symm, HB.out⟩
    have hlt2 : (j : Int) + 1 < (len : Int) := by omega
    have hlt3 : (j : Int) < (len : Int) := by omega
    have h02 : (0 : Int) ≤ (j : Int) := by omega
    have h03 : (0 : Int) ≤ (j : Int) + 1 := by omega
    have hN : ((j : Int) + 1).toNat = j + 1 := by omega
    have hW : IntKind.i64.wrap (j : Int) = (j : Int) := IntWalk.i64_in _ (by omega)
    obtain ⟨b, off, x, f, cs, ha, hbl, hx, hcl, hR, hc⟩ := HX.out.at (j := j) (by omega)
    obtain ⟨h, rfl, hi⟩ := hR
    obtain ⟨b', off', y, f', cs', ha', hbl', hy, hcl', hR', hc'⟩ := HX.out.at hlt
    obtain ⟨h', rfl, hi'⟩ := hR'
    subst ha
    cases ha'
    have c0 := (hb.cell (p := ⟨b, off + j * 8 + 0, none⟩) hbl).trans (hc 0 (by omega))
    have c1 := (hb.cell (p := ⟨b, off + j * 8 + 1, none⟩) hbl).trans (hc 1 (by omega))
    have c2 := (hb.cell (p := ⟨b, off + j * 8 + 2, none⟩) hbl).trans (hc 2 (by omega))
    have c3 := (hb.cell (p := ⟨b, off + j * 8 + 3, none⟩) hbl).trans (hc 3 (by omega))
    have c4 := (hb.cell (p := ⟨b, off + j * 8 + 4, none⟩) hbl).trans (hc 4 (by omega))
    have c5 := (hb.cell (p := ⟨b, off + j * 8 + 5, none⟩) hbl).trans (hc 5 (by omega))
    have c6 := (hb.cell (p := ⟨b, off + j * 8 + 6, none⟩) hbl).trans (hc 6 (by omega))
    have c7 := (hb.cell (p := ⟨b, off + j * 8 + 7, none⟩) hbl).trans (hc 7 (by omega))
    have d0 := (hb.cell (p := ⟨b, off + (j + 1) * 8 + 0, none⟩) hbl).trans (hc' 0 (by omega))
    have d1 := (hb.cell (p := ⟨b, off + (j + 1) * 8 + 1, none⟩) hbl).trans (hc' 1 (by omega))
    have d2 := (hb.cell (p := ⟨b, off + (j + 1) * 8 + 2, none⟩) hbl).trans (hc' 2 (by omega))
    have d3 := (hb.cell (p := ⟨b, off + (j + 1) * 8 + 3, none⟩) hbl).trans (hc' 3 (by omega))
    have d4 := (hb.cell (p := ⟨b, off + (j + 1) * 8 + 4, none⟩) hbl).trans (hc' 4 (by omega))
    have d5 := (hb.cell (p := ⟨b, off + (j + 1) * 8 + 5, none⟩) hbl).trans (hc' 5 (by omega))
    have d6 := (hb.cell (p := ⟨b, off + (j + 1) * 8 + 6, none⟩) hbl).trans (hc' 6 (by omega))
    have d7 := (hb.cell (p := ⟨b, off + (j + 1) * 8 + 7, none⟩) hbl).trans (hc' 7 (by omega))
    simp [Pane.list] at c0 c1 c2 c3 c4 c5 c6 c7 d0 d1 d2 d3 d4 d5 d6 d7
    have HI := Lib.hid (And.intro (hi.below hb) (hi'.below hb))
    have HE := Lib.hid (And.intro hx hy)
    have hz : ∀ {i z}, l[i]? = some z → Pane.sz z ≤ 2000000 := fun he => by have := sz_elem_le Pane.sz l he; have := HM.out; unfold szL at this; omega
    have HZ := Lib.hid (And.intro (hz hx) (hz hy))
    clear hb hc hc' hx hy hi hi' hz
    go_wp2_with fail
    refine mix.wp_region_mix [10] (by kernel_rfl) (by kernel_rfl) ?_
    refine mix.mix_seg 10 rfl ?_; simp only [List.take_succ_cons, List.take_zero, List.drop_succ_cons, List.drop_zero]; (repeat still_step)
    (try refine wpStill_nil ?_); refine mix.at_cons (fun K hK => ?_); go_simp
    refine (impl_PaneCmp x h f y h' f' wr.drew (HI.out.1.keep (fun _ _ => rfl)) (HI.out.2.keep (fun _ _ => rfl)) HZ.out.1 HZ.out.2).mono ?_
    rintro e w3 ⟨rfl, hb3⟩
    have HB3 := Lib.hid (HB.out.drew.trans (hb3.mono HB.out.size))
    clear hb3 c0 c1 c2 c3 c4 c5 c6 c7 d0 d1 d2 d3 d4 d5 d6 d7
    obtain ⟨q, hq⟩ : ∃ q, paneC x y = q := ⟨_, rfl⟩
    have HQ := Lib.hid hq
    rw [hq]
    clear hq
    refine hK _ _ ?_; clear hK K
    by_cases hneg : q < 0
    · have hn2 : ¬ 0 ≤ q := by omega
      refine mix.mix_end ?_; (repeat still_step)
      refine wpStill_nil ?_
      go_wp2_with fail
      go_roundg (len - (j + 1))
      case measure => omega
      case rel =>
        refine ⟨j + 1, by omega, by go_num, HB3.out, fun i x' y' hi hx' hy' => ?_⟩
        by_cases e : i = j
        · subst e
          rw [HE.out.1] at hx'
          rw [HE.out.2] at hy'
          cases hx'
          cases hy'
          rw [HQ.out]; exact hneg
        · exact HN.out i x' y' (by omega) hx' hy'
    · have hn2 : 0 ≤ q := by omega
      have E : Hid (r = false) := by
        show r = false
        rw [← HR.out, ← Bool.not_eq_true, riseB_iff]
        intro hall
        have := hall j x y HE.out.1 HE.out.2
        rw [HQ.out] at this
        exact hneg this
      refine mix.mix_end ?_; (repeat still_step)
      refine wpStill_nil ?_
      go_wp2_with fail
      go_ret
      exact ⟨ret_bool E.out.symm, HB3.out⟩

set_option maxRecDepth 100000 in
set_option maxHeartbeats 4000000 in
theorem impl_PanesOk (c : ConfD) (ch : ConfigH) (cf : List Nat) (a : Option Addr) (len cap : Nat) (l : List PaneD) (fp : List Nat) (w : World) (hc : Config.Is w c ch cf) (hrow : GRow 8 RPane w a len l fp) (_ : len ≤ cap) (_ : cap ≤ 9223372036854775807) (_ : Config.sz c ≤ 2000000) (hmax : szL Pane.sz l ≤ 2000000) :
    Calls Try.prog 117 #[.agg (Config.list c ch).toArray, .slice a len cap] w fun e w' => e = .returned (.bool (panesB c l)) ∧ Below w.heap.size w w' := by
  obtain ⟨r, hr⟩ : ∃ r, panesB c l = r := ⟨_, rfl⟩
  rw [hr]
  unfold panesB at hr
  have HR := Lib.hid hr
  have HX := Lib.hid hrow
  have HM := Lib.hid hmax
  have HC := Lib.hid hc
  clear hr hrow hmax hc
  simp only [Config.list]
  go_enter Try.func117, Try.ntmps117
  go_wp2_with fail
  refine calls_gen (fun W => Below w.heap.size w W ∧ Blk W w.heap.size 63 (Config.list c ch)) ⟨by repeat (first | exact Below.refl _ _ | refine Below.setCell ?_ (by first | omega | (simp; done) | (simp; omega)) _ | refine Below.alloc ?_ (by first | omega | (simp; done) | (simp; omega)) _ | apply Below.drew), by unfold Config.list; with_reducible (repeat (first | (refine blk_new_at _ _ _ _ ?_; first | rfl | (simp; done)) | refine Blk.alloc ?_ _ | apply Blk.drew | refine Blk.setOther ?_ (by first | (simp; done) | (simp; omega)) _))⟩ ?_
  rintro W1 ⟨b1, k1⟩
  refine (impl_Conf c ch cf W1 (HC.out.below b1)).mono ?_
  rintro e W2 ⟨rfl, b2⟩
  have B2 := Lib.hid (b1.trans (b2.mono b1.size))
  have K2 := Lib.hid (k1.below b2 k1.lt)
  clear b1 k1 b2
  cases p1 : confD c with
  | false =>
    have P1 := Lib.hid p1
    clear p1
    go_wp2_with fail
    go_ret
    exact ⟨ret_bool (by rw [← HR.out, P1.out]; rfl), B2.out⟩
  | true =>
  have P1 := Lib.hid p1
  clear p1
  have c0 := K2.out.cell 0
  have c1 := K2.out.cell 1
  have c2 := K2.out.cell 2
  have c3 := K2.out.cell 3
  have c4 := K2.out.cell 4
  simp [Config.list] at c0 c1 c2 c3 c4
  go_wp2_with fail
  refine (allPanes c ch cf a len cap l fp W2 (HC.out.below B2.out) P1.out HM.out (HX.out.below local_Pane B2.out)).mono ?_
  rintro e W3 ⟨rfl, b3⟩
  have B3 := Lib.hid (B2.out.trans (b3.mono B2.out.size))
  clear b3 c0 c1 c2 c3 c4
  cases p2 : l.all (paneB c) with
  | false =>
    have P2 := Lib.hid p2
    clear p2
    go_wp2_with fail
    go_ret
    exact ⟨ret_bool (by rw [← HR.out, P2.out]; simp), B3.out⟩
  | true =>
  have P2 := Lib.hid p2
  clear p2
  go_wp2_with fail
  refine (panesRise a len cap l fp W3 HM.out (HX.out.below local_Pane B3.out)).mono ?_
  rintro e W4 ⟨rfl, b4⟩
  have B4 := Lib.hid (B3.out.trans (b4.mono B3.out.size))
  clear b4
  go_wp2_with fail
  go_ret
  exact ⟨ret_bool (by rw [← HR.out, P1.out, P2.out]; simp), B4.out⟩
end Go.Proofs.Ytoglclmaacjdaaa.dat
