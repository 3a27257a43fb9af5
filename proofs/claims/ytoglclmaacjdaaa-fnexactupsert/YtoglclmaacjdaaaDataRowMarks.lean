/-
  DATA: Row, []Row: the notions; THE CONTRACTS OF the laws' own functions (copies, sizes, equality) over them. Written by tools/gendata.py.
-/
import Derived.Test.YtoglclmaacjdaaaDataPaneMarks
import Derived.Test.YtoglclmaacjdaaaDataStates
namespace Go.Proofs.Ytoglclmaacjdaaa.dat
open Go.RowKit Go.Proofs.Ytoglclmaacjdaaa.win
set_option linter.unusedVariables false

def mkRow (k : Int) (x : RowD) : RowD := { win := k, mask := k + 1, start := k + 2, key := markL mkInt cnInt (k + 3) x.key, a := { n := k + 3 + (cntL cnInt x.key : Nat), sm := k + 3 + (cntL cnInt x.key : Nat) + 1, mn := k + 3 + (cntL cnInt x.key : Nat) + 2, mx := k + 3 + (cntL cnInt x.key : Nat) + 3 }, times := k + 3 + (cntL cnInt x.key : Nat) + 4 }
def cnRow (x : RowD) : Nat := 8 + cntL cnInt x.key
theorem cn_le_Row (x : RowD) : cnRow x ≤ 8 * (Row.sz x + 1) := by
  have h := cntL_le' cn_le_int x.key
  unfold cnRow Row.sz
  omega

def Row.markV (k : Int) (x : RowD) : RowD := { x with key := markL mkInt cnInt (k) x.key }
def Row.cntV (x : RowD) : Nat := cntL cnInt x.key
theorem Row.cntV_le (x : RowD) : Row.cntV x ≤ 8 * Row.sz x := by
  have h0 := cntL_le' cn_le_int x.key
  unfold Row.cntV Row.sz
  omega

def MarkedRow (lo : Nat) (w : World) (x : RowD) (h : RowH) (fp : List Nat) (m : Int) (e : Ending) (w' : World) : Prop := e = .returned (.int .i64 (m + (Row.cntV x : Nat))) ∧ Row.Is w' (Row.markV m x) h fp ∧ Own lo w' fp ∧ Apart fp w w'
set_option maxRecDepth 100000 in
set_option maxHeartbeats 4000000 in
theorem mark_RowS (a : Option Addr) (len cap : Nat) (l : List RowD) (fp : List Nat) (m : Int) (lo : Nat) (w : World) (hmax : szL Row.sz l ≤ 2000000) (hm0 : 0 ≤ m) (hm1 : m + (cntL cnRow l : Nat) ≤ 1099511627776) (hrow : GRow 9 RRow w a len l fp) (hown : Own lo w fp) :
    Calls Try.prog 40 #[.slice a len cap, .int .i64 m] w (Marked 9 RRow mkRow cnRow lo w a len l fp m) := by
  have hlm : len ≤ 2000000 := by rw [← hrow.1]; unfold szL at hmax; omega
  have HL := Lib.hid hrow.1
  have HR := Lib.hid hrow
  have HO := Lib.hid hown
  have HM := Lib.hid hm1
  have HZ := Lib.hid hmax
  clear hrow hown hm1 hmax
  go_enter Try.func40, Try.ntmps40
  go_wp2_with fail
  go_loopg [1, 5] len (fun r sk i wr => ∃ j : Nat, j + r = len ∧ sk = .int .i64 (m + (cntL cnRow (l.take j) : Nat)) ∧ i = .int .i64 j ∧ GRow 9 RRow wr a len (markH mkRow cnRow m l j) fp ∧ Own lo wr fp ∧ Apart fp w wr)
  case atStart => exact ⟨0, by omega, by simp [cntL], rfl, by rw [markH_zero]; exact HR.out, HO.out, Apart.refl _ _⟩
  case round =>
    obtain ⟨j, hj, rfl, rfl, hG, hown, hap⟩ := hrel
    clear HR HO
    obtain ⟨q, hq⟩ : ∃ q : Int, m + (cntL cnRow (l.take j) : Nat) = q := ⟨_, rfl⟩
    have hq0 : 0 ≤ q := by omega
    have HQ := Lib.hid hq
    rw [hq]
    by_cases hlt : j < len
    · have hlt2 : (j : Int) < (len : Int) := by omega
      have h02 : (0 : Int) ≤ (j : Int) := by omega
      obtain ⟨b, off, f, x, rfl, hx, hb, hbf, hf, hfn, ⟨cs, hcl, hR, hc⟩, hup⟩ := hG.update local_Row hown.1 hlt
      rw [markH_at _ _ _ _ (by rw [HL.out]; omega)] at hx
      obtain ⟨h, rfl, hi⟩ := hR
      obtain ⟨f0, rfl, r0, u0, v0⟩ := hi
      have c0 : wr.cell? ⟨b, off + j * 9, none⟩ = some (.int .i64 x.win) := by have := hc 0 (by omega); simpa [Row.list] using this
      have c1 : wr.cell? ⟨b, off + j * 9 + 1, none⟩ = some (.int .i64 x.mask) := by have := hc 1 (by omega); simpa [Row.list] using this
      have c2 : wr.cell? ⟨b, off + j * 9 + 2, none⟩ = some (.int .i64 x.start) := by have := hc 2 (by omega); simpa [Row.list] using this
      have c3 : wr.cell? ⟨b, off + j * 9 + 3, none⟩ = some (.slice h.keya h.keyl h.keyc) := by have := hc 3 (by omega); simpa [Row.list] using this
      have c4 : wr.cell? ⟨b, off + j * 9 + 4, none⟩ = some (.int .i64 x.a.n) := by have := hc 4 (by omega); simpa [Row.list] using this
      have c5 : wr.cell? ⟨b, off + j * 9 + 5, none⟩ = some (.int .i64 x.a.sm) := by have := hc 5 (by omega); simpa [Row.list] using this
      have c6 : wr.cell? ⟨b, off + j * 9 + 6, none⟩ = some (.int .i64 x.a.mn) := by have := hc 6 (by omega); simpa [Row.list] using this
      have c7 : wr.cell? ⟨b, off + j * 9 + 7, none⟩ = some (.int .i64 x.a.mx) := by have := hc 7 (by omega); simpa [Row.list] using this
      have c8 : wr.cell? ⟨b, off + j * 9 + 8, none⟩ = some (.int .i64 x.times) := by have := hc 8 (by omega); simpa [Row.list] using this
      have g0 : wr.frozen? ⟨b, off + j * 9, none⟩ = false := ((hown.2 b hbf).2).frozen _
      have g1 : wr.frozen? ⟨b, off + j * 9 + 1, none⟩ = false := ((hown.2 b hbf).2).frozen _
      have g2 : wr.frozen? ⟨b, off + j * 9 + 2, none⟩ = false := ((hown.2 b hbf).2).frozen _
      have hcnt : (cntL cnInt x.key : Nat) + 8 + q ≤ 1099511627776 := by have h1 := cntL_take_succ cnRow l hx; have h2 := cntL_take_le cnRow l (j + 1); have h3 := HM.out; have h4 : cnRow x = 8 + cntL cnInt x.key := rfl; omega
      have hq1 : q + 9 ≤ 2199023255552 := by omega
      have hkl : h.keyl ≤ 2000000 := by have h1 := sum_take_succ Row.sz l hx; have h2 := sum_take_le Row.sz l (j + 1); have h3 := HZ.out; have h5 := r0.1; unfold szL at h3; have h4 : Row.sz x = x.key.length := rfl; omega
      have HX := Lib.hid hx
      have HU := Lib.hid hup
      have HO := Lib.hid hown
      have HA := Lib.hid hap
      have HB := Lib.hid hb
      have HF := Lib.hid hbf
      have HFF := Lib.hid hf
      have HFN := Lib.hid hfn
      have R0 := Lib.hid r0
      have U0 := Lib.hid (And.intro u0 v0)
      have HCN := Lib.hid hcnt
      have HKL := Lib.hid hkl
      have C0 := Lib.hid c0
      have C1 := Lib.hid c1
      have C2 := Lib.hid c2
      have C3 := Lib.hid c3
      have C4 := Lib.hid c4
      have C5 := Lib.hid c5
      have C6 := Lib.hid c6
      have C7 := Lib.hid c7
      have C8 := Lib.hid c8
      clear hx hup hown hap hG hc hq hb hbf hf hfn hcl r0 u0 v0 hcnt hkl
      go_wp2_with fail
      refine calls_gen (fun W => Wrote b (off + j * 9) (off + j * 9 + 9) wr W ∧ W.cell? ⟨b, off + j * 9, none⟩ = some (.int .i64 q) ∧ W.cell? ⟨b, off + j * 9 + 1, none⟩ = some (.int .i64 (q + 1)) ∧ W.cell? ⟨b, off + j * 9 + 2, none⟩ = some (.int .i64 (q + 1 + 1)) ∧ W.cell? ⟨b, off + j * 9 + 3, none⟩ = some (.slice h.keya h.keyl h.keyc) ∧ W.cell? ⟨b, off + j * 9 + 4, none⟩ = some (.int .i64 x.a.n) ∧ W.cell? ⟨b, off + j * 9 + 5, none⟩ = some (.int .i64 x.a.sm) ∧ W.cell? ⟨b, off + j * 9 + 6, none⟩ = some (.int .i64 x.a.mn) ∧ W.cell? ⟨b, off + j * 9 + 7, none⟩ = some (.int .i64 x.a.mx) ∧ W.cell? ⟨b, off + j * 9 + 8, none⟩ = some (.int .i64 x.times)) ⟨(((Wrote.refl _ _ _ _).set _ (by omega) (by omega)).set _ (by omega) (by omega)).set _ (by omega) (by omega), (by simp [go_sem, C0.out] <;> omega), (by simp [go_sem, C1.out] <;> omega), (by simp [go_sem, C2.out] <;> omega), (by simp [go_sem, C3.out] <;> omega), (by simp [go_sem, C4.out] <;> omega), (by simp [go_sem, C5.out] <;> omega), (by simp [go_sem, C6.out] <;> omega), (by simp [go_sem, C7.out] <;> omega), (by simp [go_sem, C8.out] <;> omega)⟩ ?_
      clear c0 c1 c2 c3 c4 c5 c6 c7 c8 g0 g1 g2
      rintro W1 ⟨w1, d0, d1, d2, d3, d4, d5, d6, d7, d8⟩
      have row1 := R0.out.keep (w' := W1) local_int (fun c hc => w1.block (R0.out.lt local_int c hc) (HFF.out c hc).2)
      have O1 := w1.own lo fp HO.out
      obtain ⟨q3, hq3⟩ : ∃ q3 : Int, (q + 1 + 1 + 1) = q3 := ⟨_, rfl⟩
      rw [hq3]
      refine (mark_IntS h.keya h.keyl h.keyc x.key f q3 lo W1 HKL.out (by omega) (by have := HCN.out; omega) row1 ⟨HFN.out, fun c hc => O1.2 c (HFF.out c hc).1⟩).mono ?_
      rintro e W2 ⟨rfl, row2, own2, ap2⟩
      have hbl1 : b < W1.heap.size := (O1.2 b HF.out).2.lt
      have hbs : W2.heap[b]? = W1.heap[b]? := ap2.block b hbl1 (fun hm => (HFF.out b hm).2 rfl)
      have O2 : Own lo W2 fp := O1.over ap2 own2
      obtain ⟨q2, hq2⟩ : ∃ q2 : Int, q3 + (cntL cnInt x.key : Nat) = q2 := ⟨_, rfl⟩
      have hq20 : 0 ≤ q2 := by omega
      have hq21 : q2 + 6 ≤ 2199023255552 := by have := HCN.out; omega
      rw [hq2]
      have HQ2 := Lib.hid (show q + 3 + (cntL cnInt x.key : Nat) = q2 by omega)
      have e0 : W2.cell? ⟨b, off + j * 9, none⟩ = some (.int .i64 q) := (cell_same hbs _).trans d0
      have e1 : W2.cell? ⟨b, off + j * 9 + 1, none⟩ = some (.int .i64 (q + 1)) := (cell_same hbs _).trans d1
      have e2 : W2.cell? ⟨b, off + j * 9 + 2, none⟩ = some (.int .i64 (q + 1 + 1)) := (cell_same hbs _).trans d2
      have e3 : W2.cell? ⟨b, off + j * 9 + 3, none⟩ = some (.slice h.keya h.keyl h.keyc) := (cell_same hbs _).trans d3
      have e4 : W2.cell? ⟨b, off + j * 9 + 4, none⟩ = some (.int .i64 x.a.n) := (cell_same hbs _).trans d4
      have e5 : W2.cell? ⟨b, off + j * 9 + 5, none⟩ = some (.int .i64 x.a.sm) := (cell_same hbs _).trans d5
      have e6 : W2.cell? ⟨b, off + j * 9 + 6, none⟩ = some (.int .i64 x.a.mn) := (cell_same hbs _).trans d6
      have e7 : W2.cell? ⟨b, off + j * 9 + 7, none⟩ = some (.int .i64 x.a.mx) := (cell_same hbs _).trans d7
      have e8 : W2.cell? ⟨b, off + j * 9 + 8, none⟩ = some (.int .i64 x.times) := (cell_same hbs _).trans d8
      have g4 : W2.frozen? ⟨b, off + j * 9 + 4, none⟩ = false := ((O2.2 b HF.out).2).frozen _
      have g5 : W2.frozen? ⟨b, off + j * 9 + 5, none⟩ = false := ((O2.2 b HF.out).2).frozen _
      have g6 : W2.frozen? ⟨b, off + j * 9 + 6, none⟩ = false := ((O2.2 b HF.out).2).frozen _
      have g7 : W2.frozen? ⟨b, off + j * 9 + 7, none⟩ = false := ((O2.2 b HF.out).2).frozen _
      have g8 : W2.frozen? ⟨b, off + j * 9 + 8, none⟩ = false := ((O2.2 b HF.out).2).frozen _
      have E0 := Lib.hid e0
      have E1 := Lib.hid e1
      have E2 := Lib.hid e2
      have E3 := Lib.hid e3
      have E4 := Lib.hid e4
      have E5 := Lib.hid e5
      have E6 := Lib.hid e6
      have E7 := Lib.hid e7
      have E8 := Lib.hid e8
      have W1W := Lib.hid w1
      have AP2 := Lib.hid ap2
      have RW2 := Lib.hid (show GRow 1 RInt W2 h.keya h.keyl (markL mkInt cnInt (q + 3) x.key) f by rw [show q + 3 = q3 by omega]; exact row2)
      have OO2 := Lib.hid O2
      have HBS := Lib.hid hbs
      have HBL1 := Lib.hid hbl1
      clear w1 d0 d1 d2 d3 d4 d5 d6 d7 d8 row1 O1 row2 own2 ap2 hbl1 hbs O2 hq2 hq3
      go_wp2_with fail
      go_roundg (len - (j + 1))
      case measure => omega
      case rel =>
        have w2 := (((((Wrote.refl b (off + j * 9) (off + j * 9 + 9) W2).set (o := off + j * 9 + 4) (.int .i64 q2) (by omega) (by omega)).set (o := off + j * 9 + 5) (.int .i64 (q2 + 1)) (by omega) (by omega)).set (o := off + j * 9 + 6) (.int .i64 (q2 + 1 + 1)) (by omega) (by omega)).set (o := off + j * 9 + 7) (.int .i64 (q2 + 1 + 1 + 1)) (by omega) (by omega)).set (o := off + j * 9 + 8) (.int .i64 (q2 + 1 + 1 + 1 + 1)) (by omega) (by omega)
        refine ⟨j + 1, by omega, ?_, by go_num, ?_, ?_, ?_⟩
        · rw [cntL_take_succ cnRow l HX.out, ← HQ2.out, ← HQ.out, show cnRow x = 8 + cntL cnInt x.key from rfl]
          apply congrArg (Value.int IntKind.i64)
          omega
        · rw [← markH_succ mkRow cnRow m l HX.out, HQ.out]
          refine HU.out _ _ ?_ ?_ ?_ ?_
          · intro c hcf hcb hcn
            have hl := (HO.out.2 c hcf).2.lt
            have hl1 : c < W1.heap.size := Nat.lt_of_lt_of_le hl W1W.out.ap.size
            exact (w2.block (Nat.lt_of_lt_of_le hl1 AP2.out.size) hcb).trans ((AP2.out.block c hl1 hcn).trans (W1W.out.block hl hcb))
          · intro o ho
            exact (w2.cell o ho).trans ((cell_same HBS.out _).trans (W1W.out.cell o ho))
          · exact Nat.lt_of_lt_of_le (Nat.lt_of_lt_of_le HBL1.out AP2.out.size) w2.ap.size
          · refine ⟨Row.list (mkRow q x) h, rfl, ⟨h, rfl, f, rfl, ?_, U0.out.1, U0.out.2⟩, ?_⟩
            · exact RW2.out.keep local_int (fun c hc => w2.block (RW2.out.lt local_int c hc) (HFF.out c hc).2)
            · intro i hi
              have : i = 0 ∨ i = 1 ∨ i = 2 ∨ i = 3 ∨ i = 4 ∨ i = 5 ∨ i = 6 ∨ i = 7 ∨ i = 8 := by omega
              rcases this with rfl | rfl | rfl | rfl | rfl | rfl | rfl | rfl | rfl
              · simp [go_sem, E0.out, Row.list, mkRow] <;> (have := HQ2.out; omega)
              · simp [go_sem, E1.out, Row.list, mkRow] <;> (have := HQ2.out; omega)
              · simp [go_sem, E2.out, Row.list, mkRow] <;> (have := HQ2.out; omega)
              · simp [go_sem, E3.out, Row.list, mkRow] <;> (have := HQ2.out; omega)
              · simp [go_sem, E4.out, Row.list, mkRow] <;> (have := HQ2.out; omega)
              · simp [go_sem, E5.out, Row.list, mkRow] <;> (have := HQ2.out; omega)
              · simp [go_sem, E6.out, Row.list, mkRow] <;> (have := HQ2.out; omega)
              · simp [go_sem, E7.out, Row.list, mkRow] <;> (have := HQ2.out; omega)
              · simp [go_sem, E8.out, Row.list, mkRow] <;> (have := HQ2.out; omega)
        · exact w2.own lo fp OO2.out
        · exact HA.out.trans (((W1W.out.ap.mono (fun c hc => by simp at hc; rw [hc]; exact HF.out)).trans (AP2.out.mono (fun c hc => (HFF.out c hc).1))).trans (w2.ap.mono (fun c hc => by simp at hc; rw [hc]; exact HF.out)))
    · obtain rfl : j = len := by omega
      rw [markH_all _ _ _ _ (by rw [HL.out]; omega)] at hG
      have HE := Lib.hid (And.intro hG (And.intro hown hap))
      clear hG hown hap hq
      go_wp2_with fail
      go_ret
      exact ⟨ret_int (by rw [← HQ.out, cntL_all _ _ (by rw [HL.out]; omega)]), HE.out.1, HE.out.2.1, HE.out.2.2⟩

set_option maxRecDepth 100000 in
set_option maxHeartbeats 4000000 in
theorem held_RowS (a : Option Addr) (len cap : Nat) (l : List RowD) (fp : List Nat) (m : Int) (w : World) (hmax : szL Row.sz l ≤ 2000000) (hm0 : 0 ≤ m) (hm1 : m + (cntL cnRow l : Nat) ≤ 1099511627776) (hrow : GRow 9 RRow w a len (markL mkRow cnRow m l) fp) :
    Calls Try.prog 41 #[.slice a len cap, .int .i64 m] w fun e w' => e = .returned (.int .i64 (m + (cntL cnRow l : Nat))) ∧ Below w.heap.size w w' := by
  have hl0 : l.length = len := by have := hrow.1; rwa [markL_length] at this
  have hlm : len ≤ 2000000 := by rw [← hl0]; unfold szL at hmax; omega
  have HL := Lib.hid hl0
  have HR := Lib.hid hrow
  have HM := Lib.hid hm1
  have HZ := Lib.hid hmax
  clear hrow hm1 hmax hl0
  go_enter Try.func41, Try.ntmps41
  go_wp2_with fail
  go_loopg [1, 5] len (fun r sk i wr => ∃ j : Nat, j + r = len ∧ sk = .int .i64 (m + (cntL cnRow (l.take j) : Nat)) ∧ i = .int .i64 j ∧ Below w.heap.size w wr)
  case atStart => exact ⟨0, by omega, by simp [cntL], rfl, Below.refl _ _⟩
  case round =>
    obtain ⟨j, hj, rfl, rfl, hb⟩ := hrel
    have HB := Lib.hid hb
    obtain ⟨q, hq⟩ : ∃ q : Int, m + (cntL cnRow (l.take j) : Nat) = q := ⟨_, rfl⟩
    have hq0 : 0 ≤ q := by omega
    have HQ := Lib.hid hq
    rw [hq]
    by_cases hlt : j < len
    · have hlt2 : (j : Int) < (len : Int) := by omega
      have h02 : (0 : Int) ≤ (j : Int) := by omega
      obtain ⟨b, off, x', f, cs, rfl, hbl, hx', hcl, hR, hc⟩ := HR.out.at hlt
      obtain ⟨x, hx⟩ : ∃ x, l[j]? = some x := ⟨_, List.getElem?_eq_getElem (by rw [HL.out]; exact hlt)⟩
      rw [markL_at mkRow cnRow l m hx, HQ.out] at hx'
      obtain rfl : mkRow q x = x' := Option.some.inj hx'
      obtain ⟨h, rfl, hi⟩ := hR
      obtain ⟨f0, rfl, r0, u0, v0⟩ := hi
      obtain ⟨q2, hq2⟩ : ∃ q2 : Int, q + 3 + (cntL cnInt x.key : Nat) = q2 := ⟨_, rfl⟩
      have c0 : wr.cell? ⟨b, off + j * 9, none⟩ = some (.int .i64 q) := by refine (show wr.cell? ⟨b, off + j * 9, none⟩ = _ from (hb.cell (p := ⟨b, off + j * 9 + 0, none⟩) hbl).trans (hc 0 (by omega))).trans ?_; simp [Row.list, mkRow, hq2] <;> omega
      have c1 : wr.cell? ⟨b, off + j * 9 + 1, none⟩ = some (.int .i64 (q + 1)) := by refine (show wr.cell? ⟨b, off + j * 9 + 1, none⟩ = _ from (hb.cell (p := ⟨b, off + j * 9 + 1, none⟩) hbl).trans (hc 1 (by omega))).trans ?_; simp [Row.list, mkRow, hq2] <;> omega
      have c2 : wr.cell? ⟨b, off + j * 9 + 2, none⟩ = some (.int .i64 (q + 1 + 1)) := by refine (show wr.cell? ⟨b, off + j * 9 + 2, none⟩ = _ from (hb.cell (p := ⟨b, off + j * 9 + 2, none⟩) hbl).trans (hc 2 (by omega))).trans ?_; simp [Row.list, mkRow, hq2] <;> omega
      have c3 : wr.cell? ⟨b, off + j * 9 + 3, none⟩ = some (.slice h.keya h.keyl h.keyc) := by refine (show wr.cell? ⟨b, off + j * 9 + 3, none⟩ = _ from (hb.cell (p := ⟨b, off + j * 9 + 3, none⟩) hbl).trans (hc 3 (by omega))).trans ?_; simp [Row.list, mkRow, hq2] <;> omega
      have c4 : wr.cell? ⟨b, off + j * 9 + 4, none⟩ = some (.int .i64 q2) := by refine (show wr.cell? ⟨b, off + j * 9 + 4, none⟩ = _ from (hb.cell (p := ⟨b, off + j * 9 + 4, none⟩) hbl).trans (hc 4 (by omega))).trans ?_; simp [Row.list, mkRow, hq2] <;> omega
      have c5 : wr.cell? ⟨b, off + j * 9 + 5, none⟩ = some (.int .i64 (q2 + 1)) := by refine (show wr.cell? ⟨b, off + j * 9 + 5, none⟩ = _ from (hb.cell (p := ⟨b, off + j * 9 + 5, none⟩) hbl).trans (hc 5 (by omega))).trans ?_; simp [Row.list, mkRow, hq2] <;> omega
      have c6 : wr.cell? ⟨b, off + j * 9 + 6, none⟩ = some (.int .i64 (q2 + 1 + 1)) := by refine (show wr.cell? ⟨b, off + j * 9 + 6, none⟩ = _ from (hb.cell (p := ⟨b, off + j * 9 + 6, none⟩) hbl).trans (hc 6 (by omega))).trans ?_; simp [Row.list, mkRow, hq2] <;> omega
      have c7 : wr.cell? ⟨b, off + j * 9 + 7, none⟩ = some (.int .i64 (q2 + 1 + 1 + 1)) := by refine (show wr.cell? ⟨b, off + j * 9 + 7, none⟩ = _ from (hb.cell (p := ⟨b, off + j * 9 + 7, none⟩) hbl).trans (hc 7 (by omega))).trans ?_; simp [Row.list, mkRow, hq2] <;> omega
      have c8 : wr.cell? ⟨b, off + j * 9 + 8, none⟩ = some (.int .i64 (q2 + 1 + 1 + 1 + 1)) := by refine (show wr.cell? ⟨b, off + j * 9 + 8, none⟩ = _ from (hb.cell (p := ⟨b, off + j * 9 + 8, none⟩) hbl).trans (hc 8 (by omega))).trans ?_; simp [Row.list, mkRow, hq2] <;> omega
      have hcnt : (cntL cnInt x.key : Nat) + 8 + q ≤ 1099511627776 := by have h1 := cntL_take_succ cnRow l hx; have h2 := cntL_take_le cnRow l (j + 1); have h3 := HM.out; have h4 : cnRow x = 8 + cntL cnInt x.key := rfl; omega
      have hq1 : q + 9 ≤ 2199023255552 := by omega
      have hq20 : 0 ≤ q2 := by omega
      have hq21 : q2 + 6 ≤ 2199023255552 := by omega
      have hkl : h.keyl ≤ 2000000 := by have h1 := sum_take_succ Row.sz l hx; have h2 := sum_take_le Row.sz l (j + 1); have h3 := HZ.out; have h5 : x.key.length = h.keyl := (by have := r0.1; rw [show (mkRow q x).key = markL mkInt cnInt (q + 3) x.key from rfl, markL_length] at this; exact this); unfold szL at h3; have h4 : Row.sz x = x.key.length := rfl; omega
      have HX := Lib.hid hx
      have R0 := Lib.hid (show GRow 1 RInt w h.keya h.keyl (markL mkInt cnInt (q + 3) x.key) f from r0)
      have HCN := Lib.hid hcnt
      have HKL := Lib.hid hkl
      have HQ2 := Lib.hid hq2
      have HBL := Lib.hid hbl
      have C0 := Lib.hid c0
      have C1 := Lib.hid c1
      have C2 := Lib.hid c2
      have C3 := Lib.hid c3
      have C4 := Lib.hid c4
      have C5 := Lib.hid c5
      have C6 := Lib.hid c6
      have C7 := Lib.hid c7
      have C8 := Lib.hid c8
      clear hx hx' hb hc hq hcl r0 u0 v0 hcnt hkl hq2 hbl
      go_wp2_with fail
      clear c0 c1 c2 c3 c4 c5 c6 c7 c8
      obtain ⟨q3, hq3⟩ : ∃ q3 : Int, (q + 1 + 1 + 1) = q3 := ⟨_, rfl⟩
      rw [hq3]
      have R3 := Lib.hid (show GRow 1 RInt w h.keya h.keyl (markL mkInt cnInt q3 x.key) f by have := R0.out; rwa [show q + 3 = q3 by omega] at this)
      refine (held_IntS h.keya h.keyl h.keyc x.key f q3 wr HKL.out (by omega) (by have := HCN.out; omega) (R3.out.below local_int HB.out)).mono ?_
      rintro e w3 ⟨rfl, b3⟩
      rw [show q3 + ((cntL cnInt x.key : Nat) : Int) = q2 by have := HQ2.out; omega]
      have hlr : b < wr.heap.size := Nat.lt_of_lt_of_le HBL.out HB.out.size
      have e4 := (b3.cell (p := ⟨b, off + j * 9 + 4, none⟩) hlr).trans C4.out
      have e5 := (b3.cell (p := ⟨b, off + j * 9 + 5, none⟩) hlr).trans C5.out
      have e6 := (b3.cell (p := ⟨b, off + j * 9 + 6, none⟩) hlr).trans C6.out
      have e7 := (b3.cell (p := ⟨b, off + j * 9 + 7, none⟩) hlr).trans C7.out
      have e8 := (b3.cell (p := ⟨b, off + j * 9 + 8, none⟩) hlr).trans C8.out
      have B3 := Lib.hid (HB.out.trans (b3.mono HB.out.size))
      clear b3 hlr
      go_wp2_with fail
      go_roundg (len - (j + 1))
      case measure => omega
      case rel =>
        refine ⟨j + 1, by omega, ?_, by go_num, B3.out⟩
        rw [cntL_take_succ cnRow l HX.out, ← HQ2.out, ← HQ.out, show cnRow x = 8 + cntL cnInt x.key from rfl]
        apply congrArg (Value.int IntKind.i64)
        omega
    · obtain rfl : j = len := by omega
      clear hb hq
      go_wp2_with fail
      go_ret
      exact ⟨ret_int (by rw [← HQ.out, cntL_all _ _ (by rw [HL.out]; omega)]), HB.out⟩

end Go.Proofs.Ytoglclmaacjdaaa.dat
