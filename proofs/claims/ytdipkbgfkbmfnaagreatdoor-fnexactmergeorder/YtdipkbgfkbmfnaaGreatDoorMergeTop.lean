/-
  JOINED BY tools/join.py: MergeC, MarkParts, EnvLaid.
-/
import Derived.Test.YtdipkbgfkbmfnaaGreatDoorMergeAll
import Derived.Test.YtdipkbgfkbmfnaaGreatDoorDataMarks
import Derived.Laws.IdiomStrings
import Derived.IntWalk
import Derived.Test.YtdipkbgfkbmfnaaGreatDoorNumRead
import Derived.Stop.LaidErr
import Derived.LaidLaws

/-
  THE CONTRACTS OF MergeOrder, in the shape that the law's walk takes.
-/
namespace Go.Proofs.YtdipkbgfkbmfnaaGreatDoor.dat
open Go.RowKit Go.Proofs.YtdipkbgfkbmfnaaGreatDoor.win
theorem spec_MergeOrder (c : ConfD) (ch : ConfigH) (cf : List Nat) (a : Option Addr) (len cap : Nat) (L : List PartD) (fp : List Nat) (w : World) (hc : Config.Is w c ch cf) (hrow : GRow 1 RPart w a len L fp) (u1 : len ≤ cap) (u2 : cap ≤ 9223372036854775807) (_ : Config.sz c ≤ 2000000) (zl : szL Part.sz L ≤ 2000000) :
    Calls Tryz.prog 9 #[.agg (Config.list c ch).toArray, .slice a len cap] w fun r w' => ∃ (a : Option Addr) (n' c' : Nat) (f : List Nat), r = .returned (.slice a n' c') ∧ GRow 2 RPos w' a n' (mergeD c L) f ∧ n' ≤ c' ∧ c' ≤ 9223372036854775807 ∧ Below w.heap.size w w' := by
  refine (spec_MergeOrder_any c ch cf a len cap L fp w hc hrow u1 u2 zl).mono ?_
  rintro r w' ⟨a, n', c', f, h1, h2, h3, h4, _, h6⟩
  exact ⟨a, n', c', f, h1, h2, h3, h4, h6⟩
theorem impl_MergeOrder (c : ConfD) (ch : ConfigH) (cf : List Nat) (a : Option Addr) (len cap : Nat) (L : List PartD) (fp : List Nat) (w : World) (hc : Config.Is w c ch cf) (hrow : GRow 1 RPart w a len L fp) (u1 : len ≤ cap) (u2 : cap ≤ 9223372036854775807) (_ : Config.sz c ≤ 2000000) (_ : szL Part.sz L ≤ 2000000) (hE : num.Env w) :
    Calls Tryz.prog 12 #[.agg (Config.list c ch).toArray, .slice a len cap] w fun r w' => ∃ (a : Option Addr) (n' c' : Nat) (f : List Nat), r = .returned (.slice a n' c') ∧ GRow 2 RPos w' a n' (mergeD c L) f ∧ n' ≤ c' ∧ c' ≤ 9223372036854775807 ∧ Own w.heap.size w' f ∧ Below w.heap.size w w' := impl_MergeOrder_any c ch cf a len cap L fp w hc hrow u1 u2 hE
theorem ordFrom_le (c : ConfD) (L : List PartD) : ∀ (f : Nat) (rd : List Nat), (ordFrom c L f rd).length ≤ f
  | 0, rd => by simp [ordFrom]
  | f + 1, rd => by
    rw [ordFrom]
    split
    · simp
    · have := ordFrom_le c L f (rdNext rd (scan c L rd L.length).toNat)
      simp only [List.length_cons]
      omega
theorem mergeD_len (c : ConfD) (L : List PartD) : (mergeD c L).length ≤ 2000000 := by
  unfold mergeD
  split
  · rename_i h
    have := logs_total h
    have := ordFrom_le c L (totalD L) (List.replicate L.length 0)
    unfold ordD
    omega
  · simp
end Go.Proofs.YtdipkbgfkbmfnaaGreatDoor.dat

/-
  MARKS ON PARTS: markText, markStringS, markPartS of the laws: so many marks; nothing but the parts' own rows is written.
-/
namespace Go.Proofs.YtdipkbgfkbmfnaaGreatDoor.dat
open Go.RowKit Go.Proofs.YtdipkbgfkbmfnaaGreatDoor.win

def cnPart (x : PartD) : Nat := x.recs.length
theorem cn_le_Part (x : PartD) : cnPart x ≤ 8 * (Part.sz x + 1) := by
  unfold cnPart Part.sz szL
  omega

set_option maxRecDepth 100000 in
set_option maxHeartbeats 1000000 in
theorem markText (k : Int) (w : World) (h0 : 0 ≤ k) (h1 : k ≤ 1099511627776) :
    Calls Tryz.prog 69 #[.int .i64 k] w fun e w' => (∃ s : ByteArray, e = .returned (.string s) ∧ s.size ≤ 60) ∧ Below w.heap.size w w' := by
  by_cases hk : 0 < k
  case neg =>
    obtain rfl : k = 0 := by omega
    go_enter Tryz.func69, Tryz.ntmps69
    go_wp2_with fail
    go_ret
    exact ⟨⟨_, rfl, by decide⟩, Below.refl _ _⟩
  go_enter Tryz.func69, Tryz.ntmps69
  go_wp2_with fail
  go_loopg [0, 3] 13 (fun r kv sv wr => ∃ (q : Int) (s : ByteArray), kv = .int .i64 q ∧ sv = .string s ∧ s.size + r = 13 ∧ 0 ≤ q ∧ q ≤ 1099511627776 ∧ q < 10 ^ r ∧ Below w.heap.size w wr)
  case atStart => exact ⟨k, _, rfl, rfl, rfl, h0, h1, by omega, Below.refl _ _⟩
  case round =>
    obtain ⟨q, s, rfl, rfl, hs, hq0, hqm, hq, hB⟩ := hrel
    have HB := Lib.hid hB
    have hss : s.size ≤ 13 := by omega
    by_cases hp : 0 < q
    case neg =>
      clear hB
      go_wp2_with fail
      go_ret
      exact ⟨⟨_, rfl, by rw [ByteArray.size_append]; show 1 + s.size ≤ 60; omega⟩, HB.out⟩
    obtain ⟨r', rfl⟩ : ∃ r', gk = r' + 1 := by
      cases gk with
      | zero => simp at hq; omega
      | succ r' => exact ⟨r', rfl⟩
    have hqr : q / 10 < 10 ^ r' := by rw [Int.pow_succ] at hq; omega
    have HQR := Lib.hid hqr
    have hrm : 0 ≤ q % 10 ∧ q % 10 < 10 := by omega
    obtain ⟨u, hu⟩ : ∃ u : UInt8, (u.toNat : Int) = 48 + q % 10 := ⟨UInt8.ofNat (48 + q % 10).toNat, by rw [UInt8.toNat_ofNat']; omega⟩
    have hcv : (convert 49 9 (.slice (some ⟨wr.heap.size, 0, none⟩) 1 1)).run Tryz.prog (wr.alloc (.cells #[.int .u8 (48 + q % 10)] 5)) = .ok (.string ⟨#[u]⟩) (wr.alloc (.cells #[.int .u8 (48 + q % 10)] 5)) := by
      have := run_convert_bytes_back (P := Tryz.prog) (wr.alloc (.cells #[.int .u8 (48 + q % 10)] 5)) 49 9 5 ⟨wr.heap.size, 0, none⟩ 1 [u] Tryz.underlying49 Tryz.underlying5 Tryz.underlying9 (fun j hj => by
        have hj0 : j = 0 := by simp at hj; omega
        subst hj0
        rw [Go.WideShapes.add_plain, Nat.zero_add]
        simp only [List.getElem_cons_zero, hu]
        exact (blk_new wr 5 [.int .u8 (48 + q % 10)]).cell 0)
      simpa using this
    have hdv := IntWalk.i64_quo q 10 ⟨hq0, by omega, by omega⟩
    clear hB hq hqr hu
    go_wp2_with fail
    go_roundg r'
    case measure => omega
    case rel => exact ⟨q / 10, _, by go_num, rfl, by rw [ByteArray.size_append]; show 1 + s.size + r' = 13; omega, by omega, by omega, HQR.out, HB.out.alloc HB.out.size _⟩

set_option maxRecDepth 100000 in
set_option maxHeartbeats 1000000 in
theorem mark_StringS (a : Option Addr) (len cap : Nat) (l : List ByteArray) (fp : List Nat) (m : Int) (lo : Nat) (w : World) (hm0 : 0 ≤ m) (hm1 : m + (len : Nat) ≤ 1099511627776) (hrow : GRow 1 RStr w a len l fp) (hown : Own lo w fp) :
    Calls Tryz.prog 45 #[.slice a len cap, .int .i64 m] w fun e w' => e = .returned (.int .i64 (m + (len : Nat))) ∧ (∃ l', GRow 1 RStr w' a len l' fp) ∧ Own lo w' fp ∧ Apart fp w w' := by
  have HR := Lib.hid hrow
  have HO := Lib.hid hown
  clear hrow hown
  go_enter Tryz.func45, Tryz.ntmps45
  go_wp2_with fail
  go_loopg [1, 5] len (fun r sk i wr => ∃ j : Nat, j + r = len ∧ sk = .int .i64 (m + (j : Nat)) ∧ i = .int .i64 j ∧ (∃ l', GRow 1 RStr wr a len l' fp) ∧ Own lo wr fp ∧ Apart fp w wr)
  case atStart => exact ⟨0, by omega, by simp, rfl, ⟨l, HR.out⟩, HO.out, Apart.refl _ _⟩
  case round =>
    obtain ⟨j, hj, rfl, rfl, ⟨l', hG⟩, hown, hap⟩ := hrel
    clear HR HO
    obtain ⟨q, hq⟩ : ∃ q : Int, m + (j : Nat) = q := ⟨_, rfl⟩
    have hq0 : 0 ≤ q := by omega
    have hq1 : q + 1 ≤ 1099511627777 := by omega
    have HQ := Lib.hid hq
    rw [hq]
    by_cases hlt : j < len
    case neg =>
      obtain rfl : j = len := by omega
      have HE := Lib.hid (And.intro hG (And.intro hown hap))
      clear hG hown hap hq
      go_wp2_with fail
      go_ret
      exact ⟨ret_int HQ.out.symm, ⟨l', HE.out.1⟩, HE.out.2.1, HE.out.2.2⟩
    have hlt2 : (j : Int) < (len : Int) := by omega
    have h02 : (0 : Int) ≤ (j : Int) := by omega
    have HG := Lib.hid hG
    have HO := Lib.hid hown
    have HA := Lib.hid hap
    have hql : q ≤ 1099511627776 := by omega
    clear hG hown hap hq
    go_wp2_with fail
    refine (markText q wr hq0 hql).mono ?_
    rintro e w3 ⟨⟨s, rfl, hs⟩, b3⟩
    have hG := HG.out.below local_str b3
    have hown := HO.out.below b3
    have HA3 := Lib.hid (HA.out.trans (Apart.of_below b3))
    obtain ⟨b, off, f, x, rfl, hx, hb, hbf, hf, hfn, ⟨cs, hcl, hR, hc⟩, hup⟩ := hG.update local_str hown.1 hlt
    obtain ⟨rfl, -, rfl⟩ := hR
    have c0 : w3.cell? ⟨b, off + j, none⟩ = some (.string x) := by have := hc 0 (by omega); simpa using this
    have g0 : w3.frozen? ⟨b, off + j, none⟩ = false := ((hown.2 b hbf).2).frozen _
    have HU := Lib.hid hup
    have HO3 := Lib.hid hown
    have HBb := Lib.hid hb
    have HF := Lib.hid hbf
    have HSZ := Lib.hid hs
    have C0 := Lib.hid c0
    clear hx hup hown hG hc hb hbf hf hfn hcl b3 HG HO HA hs
    go_wp2_with fail
    go_roundg (len - (j + 1))
    case measure => omega
    case rel =>
      refine ⟨j + 1, by omega, by rw [← HQ.out]; apply congrArg (Value.int IntKind.i64); omega, by go_num, ⟨_, HU.out _ s ?_ ?_ ?_ ?_⟩, HO3.out.set _ _ _, HA3.out.setCell HF.out _ _⟩
      · intro c _ hcb _
        rw [Below.heap_setCell _ _ _ c (by simpa using hcb)]
      · intro o ho
        rw [cell_setCell_other _ _ _ _ _ (by omega)]
      · have := HBb.out
        simpa using this
      · refine ⟨[.string s], rfl, ⟨rfl, by have := HSZ.out; omega, rfl⟩, ?_⟩
        intro i hi
        obtain rfl : i = 0 := by omega
        simp [go_sem, C0.out]

set_option maxRecDepth 100000 in
set_option maxHeartbeats 1000000 in
theorem mark_PartS (a : Option Addr) (len cap : Nat) (l : List PartD) (fp : List Nat) (m : Int) (lo : Nat) (w : World) (hmax : len ≤ 2000000) (hm0 : 0 ≤ m) (hm1 : m + (cntL cnPart l : Nat) ≤ 1099511627776) (hrow : GRow 1 RPart w a len l fp) (hown : Own lo w fp) :
    Calls Tryz.prog 17 #[.slice a len cap, .int .i64 m] w fun e w' => e = .returned (.int .i64 (m + (cntL cnPart l : Nat))) ∧ True ∧ Own lo w' fp ∧ Apart fp w w' := by
  have HR := Lib.hid hrow
  have HL := Lib.hid hrow.1
  have HO := Lib.hid hown
  have HM := Lib.hid hm1
  clear hrow hown hm1
  go_enter Tryz.func17, Tryz.ntmps17
  go_wp2_with fail
  go_loopg [1, 5] len (fun r sk i wr => ∃ j : Nat, j + r = len ∧ sk = .int .i64 (m + (cntL cnPart (l.take j) : Nat)) ∧ i = .int .i64 j ∧ (∃ l', GRow 1 RPart wr a len l' fp ∧ ∀ i, j ≤ i → l'[i]? = l[i]?) ∧ Own lo wr fp ∧ Apart fp w wr)
  case atStart => exact ⟨0, by omega, by simp [cntL], rfl, ⟨l, HR.out, fun _ _ => rfl⟩, HO.out, Apart.refl _ _⟩
  case round =>
    obtain ⟨j, hj, rfl, rfl, ⟨l', hG, hsame⟩, hown, hap⟩ := hrel
    clear HR HO
    obtain ⟨q, hq⟩ : ∃ q : Int, m + (cntL cnPart (l.take j) : Nat) = q := ⟨_, rfl⟩
    have hq0 : 0 ≤ q := by omega
    have HQ := Lib.hid hq
    rw [hq]
    by_cases hlt : j < len
    case neg =>
      obtain rfl : j = len := by omega
      have HE := Lib.hid (And.intro hown hap)
      clear hG hown hap hq hsame
      go_wp2_with fail
      go_ret
      exact ⟨ret_int (by rw [← HQ.out, cntL_all _ _ (by rw [HL.out]; omega)]), trivial, HE.out.1, HE.out.2⟩
    have hlt2 : (j : Int) < (len : Int) := by omega
    have h02 : (0 : Int) ≤ (j : Int) := by omega
    obtain ⟨b, off, f, x, rfl, hx, hb, hbf, hf, hfn, ⟨cs, hcl, ⟨h, rfl, hIs⟩, hc⟩, hup⟩ := hG.update local_Part hown.1 hlt
    obtain ⟨f0, rfl, r0, u0, v0⟩ := hIs
    have hxl : l[j]? = some x := (hsame j (Nat.le_refl _)).symm.trans hx
    have c0 : wr.cell? ⟨b, off + j, none⟩ = some (.slice h.recsa h.recsl h.recsc) := by have := hc 0 (by omega); simpa [Part.list] using this
    have hcs := cntL_take_succ cnPart l hxl
    have hcl2 := cntL_take_le cnPart l (j + 1)
    have hcx : cnPart x = h.recsl := r0.1
    have hqb : q + (h.recsl : Nat) ≤ 1099511627776 := by have := HM.out; omega
    have HN := Lib.hid (mark_StringS h.recsa h.recsl h.recsc x.recs f q lo wr hq0 hqb r0 ⟨hfn, fun b hb => hown.2 b (hf b hb).1⟩)
    have HCS := Lib.hid (show cntL cnPart (l.take (j + 1)) = cntL cnPart (l.take j) + h.recsl by rw [hcs, hcx])
    have HU := Lib.hid hup
    have HO := Lib.hid hown
    have HA := Lib.hid hap
    have HF := Lib.hid (And.intro hbf hf)
    have HS := Lib.hid hsame
    have HB := Lib.hid hb
    have C0 := Lib.hid c0
    have UV := Lib.hid (And.intro u0 v0)
    clear hx hup hown hap hG hc hb hbf hf hfn hcl hsame hxl hcs hcl2 hcx hq r0 u0 v0
    go_wp2_with fail
    refine HN.out.mono ?_
    rintro e w3 ⟨rfl, ⟨l2, r3⟩, o3, a3⟩
    have R3 := Lib.hid r3
    have O3 := Lib.hid o3
    have A3 := Lib.hid a3
    clear r3 o3 a3 HN c0
    go_wp2_with fail
    go_roundg (len - (j + 1))
    case measure => omega
    case rel =>
      refine ⟨j + 1, by omega, by rw [HCS.out, ← HQ.out]; apply congrArg (Value.int IntKind.i64); omega, by go_num, ⟨_, HU.out w3 ⟨l2⟩ ?_ ?_ (Nat.lt_of_lt_of_le HB.out A3.out.size) ?_, ?_⟩, ?_, HA.out.trans (A3.out.mono (fun b hb => (HF.out.2 b hb).1))⟩
      · intro c hc hcb hcf
        exact A3.out.block c (HO.out.2 c hc).2.lt hcf
      · intro o _
        exact cell_same (A3.out.block b HB.out (fun hm => (HF.out.2 b hm).2 rfl)) o
      · refine ⟨Part.list ⟨l2⟩ h, rfl, ⟨h, rfl, ⟨f, rfl, R3.out, UV.out.1, UV.out.2⟩⟩, ?_⟩
        intro i hi
        obtain rfl : i = 0 := by omega
        exact (cell_same (A3.out.block b HB.out (fun hm => (HF.out.2 b hm).2 rfl)) _).trans (by simpa [Part.list] using C0.out)
      · intro i hi
        rw [List.getElem?_set_ne (by omega)]
        exact HS.out i (by omega)
      · exact ⟨HO.out.1, fun b hb => ⟨(HO.out.2 b hb).1, by
          by_cases hm : b ∈ f
          · exact (O3.out.2 b hm).2
          · exact (HO.out.2 b hb).2.same (A3.out.block b (HO.out.2 b hb).2.lt hm)⟩⟩
end Go.Proofs.YtdipkbgfkbmfnaaGreatDoor.dat

/-
  WHAT THE WALKS ASK OF THE LIBRARY's VARIABLES, out of the row's list of what they hold.
-/
namespace Go.Proofs.YtdipkbgfkbmfnaaGreatDoor.num
open Go.RowKit

theorem star : "*" ++ "errors.errorString" = "*errors.errorString" := by decide
/-- The one type of that name. -/
theorem errRow (u : TypeId) (h : Tryz.prog.typeName? 3 u = some "*errors.errorString") : u = 164 :=
  typeName_ptr_named (nm := "errors.errorString") (by rw [star]; kernel_rfl) (by kernel_rfl) (by decide) u (by rw [star]; exact h)

theorem var_lt {w : World} {n : String} {g : Nat} {v : Value} (hg : Tryz.prog.globalNamed n = some g) (h : w.var? Tryz.prog n = some #[v]) : g < w.heap.size :=
  World.block_lt_of_cell? w ⟨g, 0, none⟩ (u := v) (by simpa using World.var?_cell hg h 0)

/-- The seven listed variables. -/
theorem env_of_laid {W : World} {x0 x1 x3 x6 : String × DataW Unit} {t4 t5 : List UInt8} (h : laidMet Tryz.prog [x0, x1, ("internal/strconv.uint64pow10", Lib.tabData .u64 Lib.pow10Tab), x3, ("strconv.ErrRange", .iface "*errors.errorString" (.ptr (.agg [.lit (.string t4)]))), ("strconv.ErrSyntax", .iface "*errors.errorString" (.ptr (.agg [.lit (.string t5)]))), x6] W) : Env W := by
  obtain ⟨a4, s4, hv4, -⟩ := laid_sentinel (g := 1) h.tail.tail.tail.tail (by kernel_rfl) (by kernel_rfl) Tryz.underlying143 errRow Tryz.underlying164 Tryz.underlying166 rfl rfl Tryz.underlying9 (by kernel_rfl) (by kernel_rfl)
  obtain ⟨a5, s5, hv5, -⟩ := laid_sentinel (g := 0) h.tail.tail.tail.tail.tail (by kernel_rfl) (by kernel_rfl) Tryz.underlying143 errRow Tryz.underlying164 Tryz.underlying166 rfl rfl Tryz.underlying9 (by kernel_rfl) (by kernel_rfl)
  exact ⟨pow_of_laid h, ⟨_, _, hv5⟩, ⟨_, _, hv4⟩, var_lt gSyn hv5, var_lt gRan hv4⟩
/-- Where five are listed. -/
theorem env_of_laid5 {W : World} {x0 x1 : String × DataW Unit} {t4 t5 : List UInt8} (h : laidMet Tryz.prog [x0, x1, ("internal/strconv.uint64pow10", Lib.tabData .u64 Lib.pow10Tab), ("strconv.ErrRange", .iface "*errors.errorString" (.ptr (.agg [.lit (.string t4)]))), ("strconv.ErrSyntax", .iface "*errors.errorString" (.ptr (.agg [.lit (.string t5)])))] W) : Env W := by
  obtain ⟨a4, s4, hv4, -⟩ := laid_sentinel (g := 1) h.tail.tail.tail (by kernel_rfl) (by kernel_rfl) Tryz.underlying143 errRow Tryz.underlying164 Tryz.underlying166 rfl rfl Tryz.underlying9 (by kernel_rfl) (by kernel_rfl)
  obtain ⟨a5, s5, hv5, -⟩ := laid_sentinel (g := 0) h.tail.tail.tail.tail (by kernel_rfl) (by kernel_rfl) Tryz.underlying143 errRow Tryz.underlying164 Tryz.underlying166 rfl rfl Tryz.underlying9 (by kernel_rfl) (by kernel_rfl)
  exact ⟨pow_of_laid h, ⟨_, _, hv5⟩, ⟨_, _, hv4⟩, var_lt gSyn hv5, var_lt gRan hv4⟩
end Go.Proofs.YtdipkbgfkbmfnaaGreatDoor.num
