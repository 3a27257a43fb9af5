/-
  MARKS ON FILES: markText, markFileS of the laws: which text a mark is; the files marked, nothing else written.
-/
import Derived.Test.YtemefahhogdoaaaDataDisks
import Derived.Test.YtemefahhogdoaaaDataMark
import Derived.Test.YtemefahhogdoaaaDataMark2
import Derived.Laws.IdiomStrings
import Derived.IntWalk
namespace Go.Proofs.Ytemefahhogdoaaa.dat
open Go.RowKit Go.Proofs.Ytemefahhogdoaaa.win

theorem ret_strs {a b : ByteArray} (h : a = b) : Ending.returned (.string a) = .returned (.string b) := by rw [h]
/-- A number's digits ahead of a text. -/
def markGo : Nat → Int → ByteArray → ByteArray
  | 0, _, s => s
  | r + 1, q, s => if 0 < q then markGo r (q / 10) (⟨#[UInt8.ofNat (48 + q % 10).toNat]⟩ ++ s) else s
theorem markGo_end (r : Nat) {q : Int} (s : ByteArray) (h : ¬ 0 < q) : markGo r q s = s := by
  cases r with
  | zero => rfl
  | succ r => simp [markGo, h]
/-- The text of mark k. -/
def markT (k : Int) : ByteArray := if 0 < k then ⟨#[109]⟩ ++ markGo 13 k ByteArray.empty else ⟨#[109, 48]⟩
theorem markGo_size : ∀ (r : Nat) (q : Int) (s : ByteArray), (markGo r q s).size ≤ r + s.size
  | 0, q, s => by simp [markGo]
  | r + 1, q, s => by
    unfold markGo
    split
    · have := markGo_size r (q / 10) (⟨#[UInt8.ofNat (48 + q % 10).toNat]⟩ ++ s)
      rw [ByteArray.size_append, show (ByteArray.mk #[UInt8.ofNat (48 + q % 10).toNat]).size = 1 from rfl] at this
      omega
    · omega
theorem markT_size (k : Int) : (markT k).size ≤ 60 := by
  unfold markT
  split
  · have := markGo_size 13 k ByteArray.empty
    rw [ByteArray.size_append, show (ByteArray.mk #[(109 : UInt8)]).size = 1 from rfl]
    have h0 : ByteArray.empty.size = 0 := rfl
    omega
  · decide

set_option maxRecDepth 100000 in
set_option maxHeartbeats 1000000 in
theorem markTextT (k : Int) (w : World) (h0 : 0 ≤ k) (h1 : k ≤ 1099511627776) :
    Calls Try.prog 104 #[.int .i64 k] w fun e w' => e = .returned (.string (markT k)) ∧ Below w.heap.size w w' := by
  by_cases hk : 0 < k
  case neg =>
    obtain rfl : k = 0 := by omega
    go_enter Try.func104, Try.ntmps104
    go_wp2_with fail
    go_ret
    exact ⟨rfl, Below.refl _ _⟩
  obtain ⟨T, hT⟩ : ∃ T, markGo 13 k ByteArray.empty = T := ⟨_, rfl⟩
  have HT := Lib.hid hT
  have HR := Lib.hid (show markT k = ⟨#[109]⟩ ++ T by unfold markT; rw [if_pos hk, hT])
  clear hT
  go_enter Try.func104, Try.ntmps104
  go_wp2_with fail
  go_loopg [0, 3] 13 (fun r kv sv wr => ∃ (q : Int) (s : ByteArray), kv = .int .i64 q ∧ sv = .string s ∧ s.size + r = 13 ∧ 0 ≤ q ∧ q ≤ 1099511627776 ∧ q < 10 ^ r ∧ markGo r q s = T ∧ Below w.heap.size w wr)
  case atStart => exact ⟨k, _, rfl, rfl, rfl, h0, h1, by omega, HT.out, Below.refl _ _⟩
  case round =>
    obtain ⟨q, s, rfl, rfl, hs, hq0, hqm, hq, hgo, hB⟩ := hrel
    have HB := Lib.hid hB
    have hss : s.size ≤ 13 := by omega
    by_cases hp : 0 < q
    case neg =>
      have HG := Lib.hid ((markGo_end gk s hp).symm.trans hgo)
      clear hB hgo
      go_wp2_with fail
      go_ret
      exact ⟨ret_strs (by rw [HR.out, ← HG.out]), HB.out⟩
    obtain ⟨r', rfl⟩ : ∃ r', gk = r' + 1 := by
      cases gk with
      | zero => simp at hq; omega
      | succ r' => exact ⟨r', rfl⟩
    have hqr : q / 10 < 10 ^ r' := by rw [Int.pow_succ] at hq; omega
    have HQR := Lib.hid hqr
    have hrm : 0 ≤ q % 10 ∧ q % 10 < 10 := by omega
    obtain ⟨u, hu, hu2⟩ : ∃ u : UInt8, (u.toNat : Int) = 48 + q % 10 ∧ UInt8.ofNat (48 + q % 10).toNat = u := ⟨UInt8.ofNat (48 + q % 10).toNat, by rw [UInt8.toNat_ofNat']; omega, rfl⟩
    have HG := Lib.hid (show markGo r' (q / 10) (⟨#[u]⟩ ++ s) = T by rw [markGo, if_pos hp, hu2] at hgo; exact hgo)
    have hcv : (convert 53 9 (.slice (some ⟨wr.heap.size, 0, none⟩) 1 1)).run Try.prog (wr.alloc (.cells #[.int .u8 (48 + q % 10)] 5)) = .ok (.string ⟨#[u]⟩) (wr.alloc (.cells #[.int .u8 (48 + q % 10)] 5)) := by
      have := run_convert_bytes_back (P := Try.prog) (wr.alloc (.cells #[.int .u8 (48 + q % 10)] 5)) 53 9 5 ⟨wr.heap.size, 0, none⟩ 1 [u] Try.underlying53 Try.underlying5 Try.underlying9 (fun j hj => by
        have hj0 : j = 0 := by simp at hj; omega
        subst hj0
        rw [Go.WideShapes.add_plain, Nat.zero_add]
        simp only [List.getElem_cons_zero, hu]
        exact (blk_new wr 5 [.int .u8 (48 + q % 10)]).cell 0)
      simpa using this
    have hdv := IntWalk.i64_quo q 10 ⟨hq0, by omega, by omega⟩
    clear hB hq hqr hu hu2 hgo
    go_wp2_with fail
    go_roundg r'
    case measure => omega
    case rel => exact ⟨q / 10, _, by go_num, rfl, by rw [ByteArray.size_append]; show 1 + s.size + r' = 13; omega, by omega, by omega, HQR.out, HG.out, HB.out.alloc HB.out.size _⟩

/-- Stores into one stretch of a block, new memory beside them. -/
structure Pen (b lo hi : Nat) (w W : World) : Prop where
  size : w.heap.size ≤ W.heap.size
  same : ∀ c, c < w.heap.size → c ≠ b → W.heap[c]? = w.heap[c]?
  cell : ∀ o, o < lo ∨ hi ≤ o → W.cell? ⟨b, o, none⟩ = w.cell? ⟨b, o, none⟩
  own : ∀ l fp, Own l w fp → Own l W fp
  ap : ∀ fp a, b ∈ fp → Apart fp a w → Apart fp a W
theorem Pen.refl (b lo hi : Nat) (w : World) : Pen b lo hi w w := ⟨Nat.le_refl _, fun _ _ _ => rfl, fun _ _ => rfl, fun _ _ h => h, fun _ _ _ h => h⟩
theorem Pen.set {b lo hi : Nat} {w W : World} (h : Pen b lo hi w W) {o : Nat} (v : Value) (h1 : lo ≤ o) (h2 : o < hi) : Pen b lo hi w (W.setCell ⟨b, o, none⟩ v) :=
  ⟨by simpa using h.size, fun c hc hne => (Below.heap_setCell W ⟨b, o, none⟩ v c hne).trans (h.same c hc hne), fun q hq => (cell_setCell_other _ _ _ _ _ (by omega)).trans (h.cell q hq),
    fun l fp ho => Own.set (h.own l fp ho) _ _ _, fun fp a hm ha => Apart.setCell (h.ap fp a hm ha) hm _ _⟩
theorem Pen.below {b lo hi : Nat} {w W W' : World} (h : Pen b lo hi w W) (hb : b < w.heap.size) (k : Below W.heap.size W W') : Pen b lo hi w W' :=
  ⟨Nat.le_trans h.size k.size, fun c hc hne => (k.block c (Nat.lt_of_lt_of_le hc h.size)).trans (h.same c hc hne), fun q hq => (k.cell (p := ⟨b, q, none⟩) (Nat.lt_of_lt_of_le hb h.size)).trans (h.cell q hq),
    fun l fp ho => (h.own l fp ho).below k, fun fp a hm ha => (h.ap fp a hm ha).trans (Apart.of_below k)⟩

def mkFile (k : Int) (_ : FileD) : FileD := ⟨markT k, markT (k + 1), markT (k + 2)⟩
def cnFile (_ : FileD) : Nat := 3
theorem cn_le_File (x : FileD) : cnFile x ≤ 8 := by unfold cnFile; omega

set_option maxRecDepth 100000 in
set_option maxHeartbeats 2000000 in
theorem mark_FileS (a : Option Addr) (len cap : Nat) (l : List FileD) (fp : List Nat) (m : Int) (lo : Nat) (w : World) (hmax : len ≤ 2000000) (hm0 : 0 ≤ m) (hm1 : m + (cntL cnFile l : Nat) ≤ 1099511627776) (hrow : GRow 3 RFile w a len l fp) (hown : Own lo w fp) :
    Calls Try.prog 65 #[.slice a len cap, .int .i64 m] w (Marked 3 RFile mkFile cnFile lo w a len l fp m) := by
  have HL := Lib.hid hrow.1
  have HR := Lib.hid hrow
  have HO := Lib.hid hown
  have HM := Lib.hid hm1
  clear hrow hown hm1
  go_enter Try.func65, Try.ntmps65
  go_wp2_with fail
  go_loopg [1, 5] len (fun r sk i wr => ∃ j : Nat, j + r = len ∧ sk = .int .i64 (m + (cntL cnFile (l.take j) : Nat)) ∧ i = .int .i64 j ∧ GRow 3 RFile wr a len (markH mkFile cnFile m l j) fp ∧ Own lo wr fp ∧ Apart fp w wr)
  case atStart => exact ⟨0, by omega, by simp [cntL], rfl, by rw [markH_zero]; exact HR.out, HO.out, Apart.refl _ _⟩
  case round =>
    obtain ⟨j, hj, rfl, rfl, hG, hown, hap⟩ := hrel
    clear HR HO
    obtain ⟨q, hq⟩ : ∃ q : Int, m + (cntL cnFile (l.take j) : Nat) = q := ⟨_, rfl⟩
    have hq0 : 0 ≤ q := by omega
    have HQ := Lib.hid hq
    rw [hq]
    by_cases hlt : j < len
    case neg =>
      obtain rfl : j = len := by omega
      rw [markH_all _ _ _ _ (by rw [HL.out]; omega)] at hG
      have HE := Lib.hid (And.intro hG (And.intro hown hap))
      clear hG hown hap hq
      go_wp2_with fail
      go_ret
      exact ⟨ret_int (by rw [← HQ.out, cntL_all _ _ (by rw [HL.out]; omega)]), HE.out.1, HE.out.2.1, HE.out.2.2⟩
    have hlt2 : (j : Int) < (len : Int) := by omega
    have h02 : (0 : Int) ≤ (j : Int) := by omega
    obtain ⟨b, off, f, x, rfl, hx, hb, hbf, hf, hfn, ⟨cs, hcl, hR, hc⟩, hup⟩ := hG.update local_File hown.1 hlt
    rw [markH_at _ _ _ _ (by rw [HL.out]; omega)] at hx
    obtain ⟨rfl, -, -, -, rfl⟩ := hR
    have c0 : wr.cell? ⟨b, off + j * 3, none⟩ = some (.string x.name) := by have := hc 0 (by omega); simpa [File.list] using this
    have c1 : wr.cell? ⟨b, off + j * 3 + 1, none⟩ = some (.string x.safe) := by have := hc 1 (by omega); simpa [File.list] using this
    have c2 : wr.cell? ⟨b, off + j * 3 + 2, none⟩ = some (.string x.now) := by have := hc 2 (by omega); simpa [File.list] using this
    have hq1 : q + 3 ≤ 1099511627776 := by have h1 := cntL_take_succ cnFile l hx; have h2 := cntL_take_le cnFile l (j + 1); have h3 := HM.out; have h4 : cnFile x = 3 := rfl; omega
    have HX := Lib.hid hx
    have HU := Lib.hid hup
    have HO := Lib.hid hown
    have HA := Lib.hid hap
    have HB := Lib.hid hb
    have HF := Lib.hid hbf
    have C0 := Lib.hid c0
    have C1 := Lib.hid c1
    have C2 := Lib.hid c2
    clear hx hup hown hap hG hc hq hb hbf hf hfn hcl c0 c1 c2
    go_wp2_with fail
    refine (markTextT q wr hq0 (by omega)).mono ?_
    rintro e w1 ⟨rfl, b1⟩
    have P1 := Lib.hid ((Pen.refl b (off + j * 3) (off + j * 3 + 3) wr).below HB.out b1)
    have c0 := (b1.cell (p := ⟨b, off + j * 3, none⟩) HB.out).trans C0.out
    have D1 := Lib.hid ((b1.cell (p := ⟨b, off + j * 3 + 1, none⟩) HB.out).trans C1.out)
    have D2 := Lib.hid ((b1.cell (p := ⟨b, off + j * 3 + 2, none⟩) HB.out).trans C2.out)
    have g0 : w1.frozen? ⟨b, off + j * 3, none⟩ = false := ((P1.out.own _ _ HO.out).2 b HF.out).2.frozen _
    have E0 := Lib.hid c0
    clear b1
    go_wp2_with fail
    refine calls_gen (fun W => Pen b (off + j * 3) (off + j * 3 + 3) wr W ∧ W.cell? ⟨b, off + j * 3, none⟩ = some (.string (markT q)) ∧ W.cell? ⟨b, off + j * 3 + 1, none⟩ = some (.string x.safe) ∧ W.cell? ⟨b, off + j * 3 + 2, none⟩ = some (.string x.now)) ?_ ?_
    · exact ⟨P1.out.set _ (by omega) (by omega), World.cell?_setCell_same _ _ _ E0.out, (cell_setCell_other _ _ _ _ _ (by omega)).trans D1.out, (cell_setCell_other _ _ _ _ _ (by omega)).trans D2.out⟩
    clear P1 D1 D2 E0 c0 g0
    rintro W1 ⟨p1, d0, d1, d2⟩
    refine (markTextT (q + 1) W1 (by omega) (by omega)).mono ?_
    rintro e w2 ⟨rfl, b2⟩
    have hbW := Nat.lt_of_lt_of_le HB.out p1.size
    have P2 := Lib.hid (p1.below HB.out b2)
    have D0 := Lib.hid ((b2.cell (p := ⟨b, off + j * 3, none⟩) hbW).trans d0)
    have c1 := (b2.cell (p := ⟨b, off + j * 3 + 1, none⟩) hbW).trans d1
    have D2 := Lib.hid ((b2.cell (p := ⟨b, off + j * 3 + 2, none⟩) hbW).trans d2)
    have g1 : w2.frozen? ⟨b, off + j * 3 + 1, none⟩ = false := ((P2.out.own _ _ HO.out).2 b HF.out).2.frozen _
    have E1 := Lib.hid c1
    clear b2 p1 d0 d1 d2 hbW
    go_wp2_with fail
    refine calls_gen (fun W => Pen b (off + j * 3) (off + j * 3 + 3) wr W ∧ W.cell? ⟨b, off + j * 3, none⟩ = some (.string (markT q)) ∧ W.cell? ⟨b, off + j * 3 + 1, none⟩ = some (.string (markT (q + 1))) ∧ W.cell? ⟨b, off + j * 3 + 2, none⟩ = some (.string x.now)) ?_ ?_
    · exact ⟨P2.out.set _ (by omega) (by omega), (cell_setCell_other _ _ _ _ _ (by omega)).trans D0.out, World.cell?_setCell_same _ _ _ E1.out, (cell_setCell_other _ _ _ _ _ (by omega)).trans D2.out⟩
    clear P2 D0 D2 E1 c1 g1
    rintro W2 ⟨p2, d0, d1, d2⟩
    refine (markTextT (q + 1 + 1) W2 (by omega) (by omega)).mono ?_
    rintro e w3 ⟨rfl, b3⟩
    have hbW := Nat.lt_of_lt_of_le HB.out p2.size
    have P3 := Lib.hid (p2.below HB.out b3)
    have D0 := Lib.hid ((b3.cell (p := ⟨b, off + j * 3, none⟩) hbW).trans d0)
    have D1 := Lib.hid ((b3.cell (p := ⟨b, off + j * 3 + 1, none⟩) hbW).trans d1)
    have c2 := (b3.cell (p := ⟨b, off + j * 3 + 2, none⟩) hbW).trans d2
    have g2 : w3.frozen? ⟨b, off + j * 3 + 2, none⟩ = false := ((P3.out.own _ _ HO.out).2 b HF.out).2.frozen _
    have E2 := Lib.hid c2
    clear b3 p2 d0 d1 d2 hbW
    go_wp2_with fail
    go_roundg (len - (j + 1))
    case measure => omega
    case rel =>
      have PW := P3.out.set (o := off + j * 3 + 2) (.string (markT (q + 1 + 1))) (by omega) (by omega)
      refine ⟨j + 1, by omega, ?_, by go_num, ?_, PW.own _ _ HO.out, PW.ap _ _ HF.out HA.out⟩
      · rw [cntL_take_succ cnFile l HX.out, ← HQ.out, show cnFile x = 3 from rfl]
        apply congrArg (Value.int IntKind.i64)
        omega
      · rw [← markH_succ mkFile cnFile m l HX.out, HQ.out]
        refine HU.out _ _ (fun c hc hcb _ => PW.same c ((HO.out.2 c hc).2.lt) hcb) (fun o ho => PW.cell o ho) (Nat.lt_of_lt_of_le HB.out PW.size) ?_
        refine ⟨File.list (mkFile q x), rfl, ⟨rfl, ?_, ?_, ?_, rfl⟩, ?_⟩
        · have := markT_size q; show (markT q).size ≤ _; omega
        · have := markT_size (q + 1); show (markT (q + 1)).size ≤ _; omega
        · have := markT_size (q + 2); show (markT (q + 2)).size ≤ _; omega
        intro i hi
        have : i = 0 ∨ i = 1 ∨ i = 2 := by omega
        rcases this with rfl | rfl | rfl
        · exact (cell_setCell_other _ _ _ _ _ (by omega)).trans D0.out
        · exact (cell_setCell_other _ _ _ _ _ (by omega)).trans D1.out
        · rw [World.cell?_setCell_same _ _ _ E2.out, show q + 1 + 1 = q + 2 by omega]
          rfl
end Go.Proofs.Ytemefahhogdoaaa.dat
