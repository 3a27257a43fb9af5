/-
  DATA: []int, Win, []Win, Config, Event: the notions; THE CONTRACTS OF the laws' own functions (copies, sizes, equality) over them. Written by tools/gendata.py.
-/
import Derived.Test.YtdipkbgfkbmfnaaGreatDoorDataEvents
import Derived.Test.YtdipkbgfkbmfnaaGreatDoorDataMark
namespace Go.Proofs.YtdipkbgfkbmfnaaGreatDoor.dat
open Go.RowKit Go.Proofs.YtdipkbgfkbmfnaaGreatDoor.win
set_option linter.unusedVariables false

set_option maxRecDepth 100000 in
set_option maxHeartbeats 1000000 in
theorem mark_IntS (a : Option Addr) (len cap : Nat) (l : List Int) (fp : List Nat) (m : Int) (lo : Nat) (w : World) (hmax : len ≤ 2000000) (hm0 : 0 ≤ m) (hm1 : m + (cntL cnInt l : Nat) ≤ 1099511627776) (hrow : GRow 1 RInt w a len l fp) (hown : Own lo w fp) :
    Calls Tryz.prog 23 #[.slice a len cap, .int .i64 m] w (Marked 1 RInt mkInt cnInt lo w a len l fp m) := by
  have HL := Lib.hid hrow.1
  have HR := Lib.hid hrow
  have HO := Lib.hid hown
  have HM := Lib.hid hm1
  clear hrow hown hm1
  go_enter Tryz.func23, Tryz.ntmps23
  go_wp2_with fail
  go_loopg [1, 5] len (fun r sk i wr => ∃ j : Nat, j + r = len ∧ sk = .int .i64 (m + (cntL cnInt (l.take j) : Nat)) ∧ i = .int .i64 j ∧ GRow 1 RInt wr a len (markH mkInt cnInt m l j) fp ∧ Own lo wr fp ∧ Apart fp w wr)
  case atStart => exact ⟨0, by omega, by simp [cntL], rfl, by rw [markH_zero]; exact HR.out, HO.out, Apart.refl _ _⟩
  case round =>
    obtain ⟨j, hj, rfl, rfl, hG, hown, hap⟩ := hrel
    clear HR HO
    obtain ⟨q, hq⟩ : ∃ q : Int, m + (cntL cnInt (l.take j) : Nat) = q := ⟨_, rfl⟩
    have hq0 : 0 ≤ q := by omega
    have HQ := Lib.hid hq
    rw [hq]
    by_cases hlt : j < len
    · have hlt2 : (j : Int) < (len : Int) := by omega
      have h02 : (0 : Int) ≤ (j : Int) := by omega
      obtain ⟨b, off, f, x, rfl, hx, hb, hbf, hf, hfn, ⟨cs, hcl, hR, hc⟩, hup⟩ := hG.update local_int hown.1 hlt
      rw [markH_at _ _ _ _ (by rw [HL.out]; omega)] at hx
      obtain ⟨rfl, rfl⟩ := hR
      have c0 : wr.cell? ⟨b, off + j, none⟩ = some (.int .i64 x) := by have := hc 0 (by omega); simpa using this
      have g0 : wr.frozen? ⟨b, off + j, none⟩ = false := ((hown.2 b hbf).2).frozen _
      have hq1 : q + 1 ≤ 1099511627776 := by have h1 := cntL_take_succ cnInt l hx; have h2 := cntL_take_le cnInt l (j + 1); have h3 := HM.out; have h4 : cnInt x = 1 := rfl; omega
      have HX := Lib.hid hx
      have HU := Lib.hid hup
      have HO := Lib.hid hown
      have HA := Lib.hid hap
      have HB := Lib.hid hb
      have HF := Lib.hid hbf
      have C0 := Lib.hid c0
      clear hx hup hown hap hG hc hq hb hbf hf hfn hcl
      go_wp2_with fail
      go_roundg (len - (j + 1))
      case measure => omega
      case rel =>
        refine ⟨j + 1, by omega, ?_, by go_num, ?_, ?_, ?_⟩
        · rw [cntL_take_succ cnInt l HX.out, ← HQ.out, show cnInt x = 1 from rfl]
          apply congrArg (Value.int IntKind.i64)
          omega
        · rw [← markH_succ mkInt cnInt m l HX.out, HQ.out]
          refine HU.out _ _ ?_ ?_ ?_ ?_
          · intro c _ hcb _
            rw [Below.heap_setCell _ _ _ c (by simpa using hcb)]
          · intro o ho
            rw [cell_setCell_other _ _ _ _ _ (by omega)]
          · have := HB.out
            simpa using this
          · refine ⟨[.int .i64 q], rfl, ⟨rfl, rfl⟩, ?_⟩
            intro i hi
            have : i = 0 := by omega
            rcases this with rfl
            · simp [go_sem, C0.out]
        · with_reducible (repeat (first | exact HO.out | refine Own.set ?_ _ _ _))
        · repeat (first | (with_reducible exact HA.out) | refine Apart.setCell ?_ HF.out _ _)
    · obtain rfl : j = len := by omega
      rw [markH_all _ _ _ _ (by rw [HL.out]; omega)] at hG
      have HE := Lib.hid (And.intro hG (And.intro hown hap))
      clear hG hown hap hq
      go_wp2_with fail
      go_ret
      exact ⟨ret_int (by rw [← HQ.out, cntL_all _ _ (by rw [HL.out]; omega)]), HE.out.1, HE.out.2.1, HE.out.2.2⟩

set_option maxRecDepth 100000 in
set_option maxHeartbeats 1000000 in
theorem held_IntS (a : Option Addr) (len cap : Nat) (l : List Int) (fp : List Nat) (m : Int) (w : World) (hmax : len ≤ 2000000) (hm0 : 0 ≤ m) (hm1 : m + (cntL cnInt l : Nat) ≤ 1099511627776) (hrow : GRow 1 RInt w a len (markL mkInt cnInt m l) fp) :
    Calls Tryz.prog 24 #[.slice a len cap, .int .i64 m] w fun e w' => e = .returned (.int .i64 (m + (cntL cnInt l : Nat))) ∧ Below w.heap.size w w' := by
  have HL := Lib.hid (show l.length = len by have := hrow.1; rwa [markL_length] at this)
  have HR := Lib.hid hrow
  have HM := Lib.hid hm1
  clear hrow hm1
  go_enter Tryz.func24, Tryz.ntmps24
  go_wp2_with fail
  go_loopg [1, 5] len (fun r sk i wr => ∃ j : Nat, j + r = len ∧ sk = .int .i64 (m + (cntL cnInt (l.take j) : Nat)) ∧ i = .int .i64 j ∧ Below w.heap.size w wr)
  case atStart => exact ⟨0, by omega, by simp [cntL], rfl, Below.refl _ _⟩
  case round =>
    obtain ⟨j, hj, rfl, rfl, hb⟩ := hrel
    have HB := Lib.hid hb
    obtain ⟨q, hq⟩ : ∃ q : Int, m + (cntL cnInt (l.take j) : Nat) = q := ⟨_, rfl⟩
    have hq0 : 0 ≤ q := by omega
    have HQ := Lib.hid hq
    rw [hq]
    by_cases hlt : j < len
    · have hlt2 : (j : Int) < (len : Int) := by omega
      have h02 : (0 : Int) ≤ (j : Int) := by omega
      obtain ⟨b, off, x', f, cs, rfl, hbl, hx', hcl, hR, hc⟩ := HR.out.at hlt
      obtain ⟨x, hx⟩ : ∃ x, l[j]? = some x := ⟨_, List.getElem?_eq_getElem (by rw [HL.out]; exact hlt)⟩
      rw [markL_at mkInt cnInt l m hx, HQ.out] at hx'
      obtain rfl : mkInt q x = x' := Option.some.inj hx'
      obtain ⟨rfl, rfl⟩ := hR
      have c0 : wr.cell? ⟨b, off + j, none⟩ = some (.int .i64 q) := by have := (hb.cell (p := ⟨b, off + j * 1 + 0, none⟩) hbl).trans (hc 0 (by omega)); simpa [mkInt] using this
      have hq1 : q + 1 ≤ 1099511627776 := by have h1 := cntL_take_succ cnInt l hx; have h2 := cntL_take_le cnInt l (j + 1); have h3 := HM.out; have h4 : cnInt x = 1 := rfl; omega
      have HX := Lib.hid hx
      clear hx hx' hb hc hq hcl
      go_wp2_with fail
      go_roundg (len - (j + 1))
      case measure => omega
      case rel =>
        refine ⟨j + 1, by omega, ?_, by go_num, HB.out⟩
        rw [cntL_take_succ cnInt l HX.out, ← HQ.out, show cnInt x = 1 from rfl]
        apply congrArg (Value.int IntKind.i64)
        omega
    · obtain rfl : j = len := by omega
      clear hb hq
      go_wp2_with fail
      go_ret
      exact ⟨ret_int (by rw [← HQ.out, cntL_all _ _ (by rw [HL.out]; omega)]), HB.out⟩

def mkWin (k : Int) (_ : Int × Int) : Int × Int := (k, (k + 1))
def cnWin (_ : Int × Int) : Nat := 2
theorem cn_le_Win (x : Int × Int) : cnWin x ≤ 8 := by unfold cnWin; omega

set_option maxRecDepth 100000 in
set_option maxHeartbeats 1000000 in
theorem mark_WinS (a : Option Addr) (len cap : Nat) (l : List (Int × Int)) (fp : List Nat) (m : Int) (lo : Nat) (w : World) (hmax : len ≤ 2000000) (hm0 : 0 ≤ m) (hm1 : m + (cntL cnWin l : Nat) ≤ 1099511627776) (hrow : GRow 2 RWin w a len l fp) (hown : Own lo w fp) :
    Calls Tryz.prog 44 #[.slice a len cap, .int .i64 m] w (Marked 2 RWin mkWin cnWin lo w a len l fp m) := by
  have HL := Lib.hid hrow.1
  have HR := Lib.hid hrow
  have HO := Lib.hid hown
  have HM := Lib.hid hm1
  clear hrow hown hm1
  go_enter Tryz.func44, Tryz.ntmps44
  go_wp2_with fail
  go_loopg [1, 5] len (fun r sk i wr => ∃ j : Nat, j + r = len ∧ sk = .int .i64 (m + (cntL cnWin (l.take j) : Nat)) ∧ i = .int .i64 j ∧ GRow 2 RWin wr a len (markH mkWin cnWin m l j) fp ∧ Own lo wr fp ∧ Apart fp w wr)
  case atStart => exact ⟨0, by omega, by simp [cntL], rfl, by rw [markH_zero]; exact HR.out, HO.out, Apart.refl _ _⟩
  case round =>
    obtain ⟨j, hj, rfl, rfl, hG, hown, hap⟩ := hrel
    clear HR HO
    obtain ⟨q, hq⟩ : ∃ q : Int, m + (cntL cnWin (l.take j) : Nat) = q := ⟨_, rfl⟩
    have hq0 : 0 ≤ q := by omega
    have HQ := Lib.hid hq
    rw [hq]
    by_cases hlt : j < len
    · have hlt2 : (j : Int) < (len : Int) := by omega
      have h02 : (0 : Int) ≤ (j : Int) := by omega
      obtain ⟨b, off, f, x, rfl, hx, hb, hbf, hf, hfn, ⟨cs, hcl, hR, hc⟩, hup⟩ := hG.update local_Win hown.1 hlt
      rw [markH_at _ _ _ _ (by rw [HL.out]; omega)] at hx
      obtain ⟨rfl, rfl⟩ := hR
      have c0 : wr.cell? ⟨b, off + j * 2, none⟩ = some (.int .i64 x.1) := by have := hc 0 (by omega); simpa [Win.list] using this
      have g0 : wr.frozen? ⟨b, off + j * 2, none⟩ = false := ((hown.2 b hbf).2).frozen _
      have c1 : wr.cell? ⟨b, off + j * 2 + 1, none⟩ = some (.int .i64 x.2) := by have := hc 1 (by omega); simpa [Win.list] using this
      have g1 : wr.frozen? ⟨b, off + j * 2 + 1, none⟩ = false := ((hown.2 b hbf).2).frozen _
      have hq1 : q + 2 ≤ 1099511627776 := by have h1 := cntL_take_succ cnWin l hx; have h2 := cntL_take_le cnWin l (j + 1); have h3 := HM.out; have h4 : cnWin x = 2 := rfl; omega
      have HX := Lib.hid hx
      have HU := Lib.hid hup
      have HO := Lib.hid hown
      have HA := Lib.hid hap
      have HB := Lib.hid hb
      have HF := Lib.hid hbf
      have C0 := Lib.hid c0
      have C1 := Lib.hid c1
      clear hx hup hown hap hG hc hq hb hbf hf hfn hcl
      go_wp2_with fail
      go_roundg (len - (j + 1))
      case measure => omega
      case rel =>
        refine ⟨j + 1, by omega, ?_, by go_num, ?_, ?_, ?_⟩
        · rw [cntL_take_succ cnWin l HX.out, ← HQ.out, show cnWin x = 2 from rfl]
          apply congrArg (Value.int IntKind.i64)
          omega
        · rw [← markH_succ mkWin cnWin m l HX.out, HQ.out]
          refine HU.out _ _ ?_ ?_ ?_ ?_
          · intro c _ hcb _
            rw [Below.heap_setCell _ _ _ c (by simpa using hcb)]; rw [Below.heap_setCell _ _ _ c (by simpa using hcb)]
          · intro o ho
            rw [cell_setCell_other _ _ _ _ _ (by omega)]; rw [cell_setCell_other _ _ _ _ _ (by omega)]
          · have := HB.out
            simpa using this
          · refine ⟨[.int .i64 q, .int .i64 (q + 1)], rfl, ⟨rfl, rfl⟩, ?_⟩
            intro i hi
            have : i = 0 ∨ i = 1 := by omega
            rcases this with rfl | rfl
            · simp [go_sem, C0.out]
            · simp [go_sem, C1.out]
        · with_reducible (repeat (first | exact HO.out | refine Own.set ?_ _ _ _))
        · repeat (first | (with_reducible exact HA.out) | refine Apart.setCell ?_ HF.out _ _)
    · obtain rfl : j = len := by omega
      rw [markH_all _ _ _ _ (by rw [HL.out]; omega)] at hG
      have HE := Lib.hid (And.intro hG (And.intro hown hap))
      clear hG hown hap hq
      go_wp2_with fail
      go_ret
      exact ⟨ret_int (by rw [← HQ.out, cntL_all _ _ (by rw [HL.out]; omega)]), HE.out.1, HE.out.2.1, HE.out.2.2⟩

def Config.markV (k : Int) (x : ConfD) : ConfD := { x with ws := markL mkWin cnWin (k) x.ws, ms := markL mkInt cnInt (k + (cntL cnWin x.ws : Nat)) x.ms }
def Config.cntV (x : ConfD) : Nat := cntL cnWin x.ws + cntL cnInt x.ms
theorem Config.cntV_le (x : ConfD) : Config.cntV x ≤ 8 * Config.sz x := by
  have h0 := cntL_le' cn_le_Win x.ws
  have h1 := cntL_le' cn_le_int x.ms
  unfold Config.cntV Config.sz
  omega

def MarkedConfig (lo : Nat) (w : World) (x : ConfD) (h : ConfigH) (fp : List Nat) (m : Int) (e : Ending) (w' : World) : Prop := e = .returned (.int .i64 (m + (Config.cntV x : Nat))) ∧ Config.Is w' (Config.markV m x) h fp ∧ Own lo w' fp ∧ Apart fp w w'
set_option maxRecDepth 100000 in
set_option maxHeartbeats 2000000 in
theorem mark_Config (x : ConfD) (h : ConfigH) (fp : List Nat) (m : Int) (lo : Nat) (w : World) (hmax : Config.sz x ≤ 2000000) (hm0 : 0 ≤ m) (hm1 : m + (Config.cntV x : Nat) ≤ 1099511627776) (hin : Config.Is w x h fp) (hown : Own lo w fp) : Calls Tryz.prog 16 #[.agg (Config.list x h).toArray, .int .i64 m] w (MarkedConfig lo w x h fp m) := by
  obtain ⟨f0, f1, rfl, r0, u0, v0, r1, u1, v1⟩ := hin
  have R0 := Lib.hid r0
  have U0 := Lib.hid (And.intro u0 v0)
  have R1 := Lib.hid r1
  have U1 := Lib.hid (And.intro u1 v1)
  have HN := Lib.hid (show w.heap.size ∉ f0 ++ f1 from fun hm => by have := (hown.2 _ hm).2.lt; omega)
  have HO := Lib.hid hown
  have HM := Lib.hid hmax
  have HK := Lib.hid hm1
  unfold Config.sz at HM
  unfold Config.cntV at HK
  clear hown hmax hm1 r0 u0 v0 r1 u1 v1
  simp only [Config.list]
  go_enter Tryz.func16, Tryz.ntmps16
  go_wp2_with fail
  refine calls_gen (fun W => Apart (f0 ++ f1) w W ∧ Own lo W (f0 ++ f1) ∧ Blk W w.heap.size 33 [.int .i64 x.d, .slice h.wsa h.wsl h.wsc, .slice h.msa h.msl h.msc, .int .i64 x.dl, .int .i64 x.lt] ∧ GRow 2 RWin W h.wsa h.wsl x.ws f0 ∧ GRow 1 RInt W h.msa h.msl x.ms f1) ?_ ?_
  · exact ⟨(Apart.refl _ _).alloc _, HO.out.below ((Below.refl _ _).alloc (Nat.le_refl _) _), by with_reducible (repeat (first | (refine blk_new_at _ _ _ _ ?_; first | rfl | (simp; done)) | refine Blk.alloc ?_ _ | apply Blk.drew | refine Blk.setOther ?_ (by first | (simp; done) | (simp; omega)) _)), R0.out.below local_Win ((Below.refl _ _).alloc (Nat.le_refl _) _), R1.out.below local_int ((Below.refl _ _).alloc (Nat.le_refl _) _)⟩
  clear HO R0 R1
  rintro W0 ⟨ap, ow, kk, q0, q1⟩
  have hnd := ow.1
  refine (mark_WinS h.wsa h.wsl h.wsc x.ws _ _ lo W0 (by have h1 := q0.1; have h2 := HM.out; omega) (by omega) (by have := HK.out; omega) q0 ow.left).mono ?_
  rintro e V0 ⟨rfl, row, own, apt⟩
  have B0 := Lib.hid (ap.trans (apt.mono (fun b hb => by simp [hb])))
  have KK : Blk V0 w.heap.size 33 [.int .i64 x.d, .slice h.wsa h.wsl h.wsc, .slice h.msa h.msl h.msc, .int .i64 x.dl, .int .i64 x.lt] := (apt.block w.heap.size kk.lt (fun hm => HN.out (by simp [hm]))).trans kk
  have Q0 := Lib.hid row
  have Q1 := Lib.hid (q1.keep local_int (fun b hb => apt.block b (q1.lt local_int b hb) (fun hm => (List.nodup_append.1 hnd).2.2 b hm b (by simp [hb]) rfl)))
  have OW := Lib.hid (show Own lo V0 (f0 ++ f1) from ⟨hnd, fun b hb => ⟨(ow.2 b hb).1, by by_cases hm : b ∈ f0; exact (own.2 b hm).2; exact (ow.2 b hb).2.same (apt.block b (ow.2 b hb).2.lt hm)⟩⟩)
  have KH := Lib.hid KK
  have c0_0 := KK.cell 0
  have c0_1 := KK.cell 1
  have c0_2 := KK.cell 2
  have c0_3 := KK.cell 3
  have c0_4 := KK.cell 4
  simp at c0_0 c0_1 c0_2 c0_3 c0_4
  clear ap ow kk q0 q1 row own apt hnd KK
  go_wp2_with fail
  refine calls_gen (fun W => Apart (f0 ++ f1) w W ∧ Own lo W (f0 ++ f1) ∧ Blk W w.heap.size 33 [.int .i64 x.d, .slice h.wsa h.wsl h.wsc, .slice h.msa h.msl h.msc, .int .i64 x.dl, .int .i64 x.lt] ∧ GRow 2 RWin W h.wsa h.wsl (markL mkWin cnWin (m) x.ws) f0 ∧ GRow 1 RInt W h.msa h.msl x.ms f1) ⟨B0.out, OW.out, KH.out, Q0.out, Q1.out⟩ ?_
  clear OW KH Q0 Q1 B0 c0_0 c0_1 c0_2 c0_3 c0_4
  rintro W1 ⟨ap, ow, kk, q0, q1⟩
  have hnd := ow.1
  refine (mark_IntS h.msa h.msl h.msc x.ms _ _ lo W1 (by have h1 := q1.1; have h2 := HM.out; omega) (by omega) (by have := HK.out; omega) q1 ow.right).mono ?_
  rintro e V1 ⟨rfl, row, own, apt⟩
  have B1 := Lib.hid (ap.trans (apt.mono (fun b hb => by simp [hb])))
  have KK : Blk V1 w.heap.size 33 [.int .i64 x.d, .slice h.wsa h.wsl h.wsc, .slice h.msa h.msl h.msc, .int .i64 x.dl, .int .i64 x.lt] := (apt.block w.heap.size kk.lt (fun hm => HN.out (by simp [hm]))).trans kk
  have Q0 := Lib.hid (q0.keep local_Win (fun b hb => apt.block b (q0.lt local_Win b hb) (fun hm => (List.nodup_append.1 hnd).2.2 b hb b (by simp [hm]) rfl)))
  have Q1 := Lib.hid row
  have OW := Lib.hid (show Own lo V1 (f0 ++ f1) from ⟨hnd, fun b hb => ⟨(ow.2 b hb).1, by by_cases hm : b ∈ f1; exact (own.2 b hm).2; exact (ow.2 b hb).2.same (apt.block b (ow.2 b hb).2.lt hm)⟩⟩)
  have KH := Lib.hid KK
  have c1_0 := KK.cell 0
  have c1_1 := KK.cell 1
  have c1_2 := KK.cell 2
  have c1_3 := KK.cell 3
  have c1_4 := KK.cell 4
  simp at c1_0 c1_1 c1_2 c1_3 c1_4
  clear ap ow kk q0 q1 row own apt hnd KK
  go_wp2_with fail
  go_ret
  exact ⟨ret_int (by unfold Config.cntV; omega), ⟨f0, f1, rfl, Q0.out, U0.out.1, U0.out.2, Q1.out, U1.out.1, U1.out.2⟩, OW.out, B1.out⟩

def Event.markV (k : Int) (x : EventD) : EventD := { x with ds := markL mkInt cnInt (k) x.ds }
def Event.cntV (x : EventD) : Nat := cntL cnInt x.ds
theorem Event.cntV_le (x : EventD) : Event.cntV x ≤ 8 * Event.sz x := by
  have h0 := cntL_le' cn_le_int x.ds
  unfold Event.cntV Event.sz
  omega

def MarkedEvent (lo : Nat) (w : World) (x : EventD) (h : EventH) (fp : List Nat) (m : Int) (e : Ending) (w' : World) : Prop := e = .returned (.int .i64 (m + (Event.cntV x : Nat))) ∧ Event.Is w' (Event.markV m x) h fp ∧ Own lo w' fp ∧ Apart fp w w'
end Go.Proofs.YtdipkbgfkbmfnaaGreatDoor.dat
