/-
  THE CONTRACTS OF partsOk, rowsOk, StateOk of the program and of l06Panes, l06Rows, StateOk of the model: what each call answers; nothing that was there is written.
  Condition: panes and rows of at most 2,000,000 numbers.
-/
import Derived.Test.YtoglclmaacjdaaaStateParts
import Derived.Test.YtoglclmaacjdaaaMixOrd
namespace Go.Proofs.Ytoglclmaacjdaaa.dat
open Go.RowKit Go.Proofs.Ytoglclmaacjdaaa.win

theorem szPanes_rows (l : List RowD) : szL Pane.sz (l.map RowD.pane) = szL Row.sz l := by
  unfold szL
  rw [List.length_map, List.map_map]
  rfl
/-- make([]Pane, 0, m). -/
theorem run_makeP (m : Nat) (hm : m ≤ 9000000) (w : World) :
    (Instr.makeSlice 140 (.int .i64 0) (.int .i64 (m : Int))).run Try.prog w = .ok (.slice (some ⟨w.heap.size, 0, none⟩) 0 m) (w.alloc (.cells (madeCells #[.int .i64 0, .int .i64 0, .int .i64 0, .slice none 0 0, .int .i64 0, .int .i64 0, .int .i64 0, .int .i64 0] (m * 8)) 144)) := by
  obtain ⟨i, hi, hzz⟩ := Option.map_eq_some_iff.1 info_Pane
  simp only [Prod.mk.injEq] at hzz
  obtain ⟨hz, hs, hb⟩ := hzz
  have hr := run_make (P := Try.prog) w 140 144 i _ Try.underlying140 hi hz .i64 .i64 0 m (Int.le_refl _) (by omega) (by rw [hb]; omega) (by omega)
  simp only [Int.toNat_zero, Int.toNat_natCast, hs] at hr
  exact hr

set_option maxRecDepth 100000 in
set_option maxHeartbeats 4000000 in
theorem rowsOk (c : ConfD) (ch : ConfigH) (cf : List Nat) (a : Option Addr) (len cap : Nat) (l : List RowD) (fp : List Nat) (w : World) (hc : Config.Is w c ch cf) (hrow : GRow 9 RRow w a len l fp) (_ : len ≤ cap) (_ : cap ≤ 9223372036854775807) (hzc : Config.sz c ≤ 2000000) (hmax : szL Row.sz l ≤ 2000000) :
    Calls Try.prog 80 #[.agg (Config.list c ch).toArray, .slice a len cap] w fun e w' => e = .returned (.bool (rowsB c l)) ∧ Below w.heap.size w w' := by
  obtain ⟨r, hr⟩ : ∃ r, rowsB c l = r := ⟨_, rfl⟩
  rw [hr]
  unfold rowsB at hr
  have HR := Lib.hid hr
  have HC := Lib.hid hc
  have HG := Lib.hid hrow
  have HL := Lib.hid hrow.1
  have HZ := Lib.hid hzc
  have HM := Lib.hid hmax
  have hlen : len ≤ 2000000 := by rw [← hrow.1]; unfold szL at hmax; omega
  clear hr hc hrow hzc hmax
  obtain ⟨i0, hi, hz0, hz1, hz2⟩ := info_parts info_Pane
  have hmk := run_makeP len (by omega)
  simp only [Config.list]
  go_enter Try.func80, Try.ntmps80
  go_wp2_with fail
  go_loopg [5, 13] len (fun k v n wr => ∃ j : Nat, j + k = len ∧ n = .int .i64 j ∧ Below w.heap.size w wr ∧ Blk wr w.heap.size 63 (Config.list c ch) ∧ w.heap.size + 1 ≤ wr.heap.size ∧ Grows 8 (RLent w) 144 (w.heap.size + 1) wr v ((l.take j).map RowD.pane))
  case atStart =>
    refine ⟨0, by omega, rfl, by repeat (first | exact Below.refl _ _ | refine Below.setCell ?_ (by first | omega | (simp; done) | (simp; omega)) _ | refine Below.alloc ?_ (by first | omega | (simp; done) | (simp; omega)) _ | apply Below.drew), by unfold Config.list; with_reducible (repeat (first | (refine blk_new_at _ _ _ _ ?_; first | rfl | (simp; done)) | refine Blk.alloc ?_ _ | apply Blk.drew | refine Blk.setOther ?_ (by first | (simp; done) | (simp; omega)) _)), by simp, ?_⟩
    have := Grows.made (k := 8) (R := RLent w) (e := 144) (base := w.heap.size + 1) (w := w.alloc (.cells #[.int .i64 c.d, .slice ch.wsa ch.wsl ch.wsc, .slice ch.msa ch.msl ch.msc, .int .i64 c.dl, .int .i64 c.lt] 63)) (madeCells #[.int .i64 0, .int .i64 0, .int .i64 0, .slice none 0 0, .int .i64 0, .int .i64 0, .int .i64 0, .int .i64 0] (len * 8)) len (by simp) (by unfold maxLen; omega) (by rw [size_madeCells])
    simpa using this
  case round =>
    obtain ⟨j, hj, rfl, hB, hK, hs, hG⟩ := hrel
    clear hmk
    have HB := Lib.hid hB
    have KK := Lib.hid hK
    have GG := Lib.hid hG
    by_cases hlt : j < len
    case neg =>
      obtain rfl : j = len := by omega
      have hall : (l.take j).map RowD.pane = l.map RowD.pane := by rw [List.take_of_length_le (by rw [HL.out]; omega)]
      rw [hall] at hG
      obtain ⟨a2, cap2, fp2, rfl, hrow2, q1, q2, _⟩ := hG.done
      have hL2 : (l.map RowD.pane).length = j := by rw [List.length_map]; exact HL.out
      rw [hL2] at hrow2 q1 ⊢
      have HG2 := Lib.hid hrow2
      have Q2 := Lib.hid (And.intro q1 q2)
      clear hB hK hG hrow2 q1 q2 GG hall hL2
      go_wp2_with fail
      refine (allTimes _ _ _ l _ _ hlen (HG.out.below local_Row HB.out)).mono ?_
      rintro e W2 ⟨rfl, b2⟩
      have B2 := Lib.hid (HB.out.trans (b2.mono HB.out.size))
      have K2 := Lib.hid (KK.out.below b2 KK.out.lt)
      have G2 := Lib.hid (HG2.out.below (local_lent w) b2)
      clear b2
      cases p1 : l.all timesB with
      | false =>
        have P1 := Lib.hid p1
        clear p1
        go_wp2_with fail
        go_ret
        exact ⟨ret_bool (by rw [← HR.out, P1.out]; simp), B2.out⟩
      | true =>
      have P1 := Lib.hid p1
      clear p1
      have c0 := K2.out.cell 0
      have c1 := K2.out.cell 1
      have c2 := K2.out.cell 2
      have c3 := K2.out.cell 3
      have c4 := K2.out.cell 4
      simp [Config.list] at c0 c1 c2 c3 c4
      obtain ⟨fp3, hr3⟩ := lent_row G2.out B2.out
      have HR3 := Lib.hid hr3
      clear hr3
      go_wp2_with fail
      refine (impl_PanesOk c ch cf _ _ _ _ fp3 W2 (HC.out.below B2.out) HR3.out Q2.out.1 Q2.out.2 HZ.out (by rw [szPanes_rows]; exact HM.out)).mono ?_
      rintro e W3 ⟨rfl, b3⟩
      have B3 := Lib.hid (B2.out.trans (b3.mono B2.out.size))
      clear b3 c0 c1 c2 c3 c4
      go_wp2_with fail
      go_ret
      exact ⟨ret_bool (by rw [← HR.out, P1.out]; simp), B3.out⟩
    obtain ⟨b, off, x, f, cs, rfl, hbl, hx, hcl, hRx, hcs⟩ := HG.out.at hlt
    obtain ⟨h, rfl, hIs⟩ := hRx
    have hcell : ∀ i, i < 9 → wr.cell? ⟨b, off + j * 9 + i, none⟩ = (Row.list x h)[i]? := fun i hi => (hB.cell (p := ⟨b, off + j * 9 + i, none⟩) hbl).trans (hcs i hi)
    have q0 := hcell 0 (by omega)
    have q1 := hcell 1 (by omega)
    have q2 := hcell 2 (by omega)
    have q3 := hcell 3 (by omega)
    have q4 := hcell 4 (by omega)
    have q5 := hcell 5 (by omega)
    have q6 := hcell 6 (by omega)
    have q7 := hcell 7 (by omega)
    have q8 := hcell 8 (by omega)
    simp [Row.list] at q0 q1 q2 q3 q4 q5 q6 q7 q8
    have hlt2 : (j : Int) < (len : Int) := by omega
    have h02 : (0 : Int) ≤ (j : Int) := by omega
    have hXS : (l.take (j + 1)).map RowD.pane = (l.take j).map RowD.pane ++ [x.pane] := by rw [List.take_add_one, hx]; simp
    have XS := Lib.hid hXS
    have IS := Lib.hid hIs
    have hjl : ((l.take j).map RowD.pane).length = j := by rw [List.length_map, List.length_take, HL.out]; omega
    have JL := Lib.hid hjl
    have hP := fun w => rowPane x h w
    simp only [Row.list, Pane.list, RowD.pane] at hP
    have HP := Lib.hid hP
    clear hB hK hG hcs hcl hx hcell hXS hIs hjl hP
    go_wp2_with fail
    refine calls_gen (fun W => Below wr.heap.size wr W) (by repeat (first | exact Below.refl _ _ | refine Below.setCell ?_ (by first | omega | (simp; done) | (simp; omega)) _ | refine Below.alloc ?_ (by first | omega | (simp; done) | (simp; omega)) _ | apply Below.drew)) ?_
    intro W1 b1
    refine (HP.out W1).mono ?_
    rintro e W2 ⟨rfl, b2⟩
    have bq := b1.trans (b2.mono b1.size)
    have B2 := Lib.hid bq
    have hsz2 := bq.size
    clear b1 b2 bq
    go_wp2_with (at_builtin; refine push2 (wr := wr) (local_lent w) rfl _ _ 140 rfl i0 _ 80 Try.underlying140 hi hz0 hz1 hz2 rfl (by decide) rfl GG.out (B2.out.alloc B2.out.size _) W2.heap.size 1 rfl (Pane.list x.pane ⟨h.keya, h.keyl, h.keyc⟩) rfl (fun u hu => by simp [Pane.list] at hu; rcases hu with rfl | rfl | rfl | rfl | rfl | rfl | rfl | rfl <;> rfl) (fun i u hiu => ((blk_new W2 144 (Pane.list x.pane ⟨h.keya, h.keyl, h.keyc⟩)).cell i).trans hiu) x.pane [] ⟨_, _, rfl, IS.out.pane, rfl⟩ Own.nil (by rw [JL.out]; omega) (by rw [JL.out]; unfold maxLen; omega) (by omega) ?_; intro v3 W3 hG3 hb3 hk3 hw3)
    have b3 : Below (w.heap.size + 1) wr W3 := ((B2.out.mono (by omega)).alloc (by omega) _).trans hb3
    have HB3 := Lib.hid b3
    have HG3 := Lib.hid hG3
    clear hG3 hb3 hk3 hw3 b3
    go_wp2_with fail
    go_roundg (len - (j + 1))
    case measure => omega
    case rel => exact ⟨j + 1, by omega, by go_num, HB.out.trans (HB3.out.mono (by omega)), KK.out.below HB3.out (by omega), by have := HB3.out.size; omega, by rw [XS.out]; exact HG3.out⟩

set_option maxHeartbeats 400000 in
theorem l06Pane (x : RowD) (h : RowH) (w : World) : Calls Try.prog 88 #[.agg (Row.list x h).toArray] w fun e w' => e = .returned (.agg (Pane.list x.pane ⟨h.keya, h.keyl, h.keyc⟩).toArray) ∧ Below w.heap.size w w' := by
  simp only [Row.list, Pane.list, RowD.pane]
  go_enter Try.func88, Try.ntmps88
  go_wp2
  refine bodyPost_ret (v := .agg #[.int .i64 x.win, .int .i64 x.mask, .int .i64 x.start, .slice h.keya h.keyl h.keyc, .int .i64 x.a.n, .int .i64 x.a.sm, .int .i64 x.a.mn, .int .i64 x.a.mx]) (by simp [results, Try.results88, go_sem]) rfl ⟨rfl, ?_⟩
  repeat (first | exact Below.refl _ _ | refine Below.setCell ?_ (by first | omega | (simp; done) | (simp; omega)) _ | refine Below.alloc ?_ (by first | omega | (simp; done) | (simp; omega)) _ | apply Below.drew)

set_option maxRecDepth 100000 in
set_option maxHeartbeats 4000000 in
theorem l06Panes (a : Option Addr) (len cap : Nat) (l : List RowD) (fp : List Nat) (w : World) (hrow : GRow 9 RRow w a len l fp) (hlen : len ≤ 2000000) :
    Calls Try.prog 86 #[.slice a len cap] w fun e w' => ∃ (a2 : Option Addr) (n2 c2 : Nat) (fp2 : List Nat), e = .returned (.slice a2 n2 c2) ∧ GRow 8 RPane w' a2 n2 (l.map RowD.pane) fp2 ∧ n2 ≤ c2 ∧ c2 ≤ 9223372036854775807 ∧ Below w.heap.size w w' := by
  have HG := Lib.hid hrow
  have HL := Lib.hid hrow.1
  clear hrow
  obtain ⟨i0, hi, hz0, hz1, hz2⟩ := info_parts info_Pane
  go_enter Try.func86, Try.ntmps86
  go_wp2_with fail
  go_loopg [3, 4] len (fun k v n wr => ∃ j : Nat, j + k = len ∧ n = .int .i64 j ∧ Below w.heap.size w wr ∧ Grows 8 (RLent w) 144 w.heap.size wr v ((l.take j).map RowD.pane))
  case atStart =>
    refine ⟨0, by omega, rfl, by repeat (first | exact Below.refl _ _ | refine Below.setCell ?_ (by first | omega | (simp; done) | (simp; omega)) _ | refine Below.alloc ?_ (by first | omega | (simp; done) | (simp; omega)) _ | apply Below.drew), ?_⟩
    have := Grows.made (k := 8) (R := RLent w) (e := 144) (base := w.heap.size) (w := w) #[] 0 (Nat.le_refl _) (Nat.zero_le _) (by simp)
    simpa using this
  case round =>
    obtain ⟨j, hj, rfl, hB, hG⟩ := hrel
    have HB := Lib.hid hB
    have GG := Lib.hid hG
    by_cases hlt : j < len
    case neg =>
      obtain rfl : j = len := by omega
      have hall : (l.take j).map RowD.pane = l.map RowD.pane := by rw [List.take_of_length_le (by rw [HL.out]; omega)]
      rw [hall] at hG
      obtain ⟨a2, cap2, fp2, rfl, hrow2, q1, q2, _⟩ := hG.done
      obtain ⟨fp3, hr3⟩ := lent_row hrow2 hB
      have HR3 := Lib.hid (And.intro hr3 (And.intro q1 q2))
      clear hB hG hrow2 q1 q2 GG hall hr3
      go_wp2_with fail
      go_ret
      exact ⟨_, _, _, fp3, rfl, HR3.out.1, HR3.out.2.1, HR3.out.2.2, HB.out⟩
    obtain ⟨b, off, x, f, cs, rfl, hbl, hx, hcl, hRx, hcs⟩ := HG.out.at hlt
    obtain ⟨h, rfl, hIs⟩ := hRx
    have hcell : ∀ i, i < 9 → wr.cell? ⟨b, off + j * 9 + i, none⟩ = (Row.list x h)[i]? := fun i hi => (hB.cell (p := ⟨b, off + j * 9 + i, none⟩) hbl).trans (hcs i hi)
    have q0 := hcell 0 (by omega)
    have q1 := hcell 1 (by omega)
    have q2 := hcell 2 (by omega)
    have q3 := hcell 3 (by omega)
    have q4 := hcell 4 (by omega)
    have q5 := hcell 5 (by omega)
    have q6 := hcell 6 (by omega)
    have q7 := hcell 7 (by omega)
    have q8 := hcell 8 (by omega)
    simp [Row.list] at q0 q1 q2 q3 q4 q5 q6 q7 q8
    have hlt2 : (j : Int) < (len : Int) := by omega
    have h02 : (0 : Int) ≤ (j : Int) := by omega
    have hXS : (l.take (j + 1)).map RowD.pane = (l.take j).map RowD.pane ++ [x.pane] := by rw [List.take_add_one, hx]; simp
    have XS := Lib.hid hXS
    have IS := Lib.hid hIs
    have hjl : ((l.take j).map RowD.pane).length = j := by rw [List.length_map, List.length_take, HL.out]; omega
    have JL := Lib.hid hjl
    have hP := fun w => l06Pane x h w
    simp only [Row.list, Pane.list, RowD.pane] at hP
    have HP := Lib.hid hP
    clear hB hG hcs hcl hx hcell hXS hIs hjl hP
    go_wp2_with fail
    refine (HP.out wr).mono ?_
    rintro e W2 ⟨rfl, b2⟩
    have B2 := Lib.hid b2
    have hsz2 := b2.size
    have hszw := HB.out.size
    clear b2
    go_wp2_with (at_builtin; refine push2 (wr := wr) (local_lent w) rfl _ _ 140 rfl i0 _ 80 Try.underlying140 hi hz0 hz1 hz2 rfl (by decide) rfl GG.out (B2.out.alloc B2.out.size _) W2.heap.size 1 rfl (Pane.list x.pane ⟨h.keya, h.keyl, h.keyc⟩) rfl (fun u hu => by simp [Pane.list] at hu; rcases hu with rfl | rfl | rfl | rfl | rfl | rfl | rfl | rfl <;> rfl) (fun i u hiu => ((blk_new W2 144 (Pane.list x.pane ⟨h.keya, h.keyl, h.keyc⟩)).cell i).trans hiu) x.pane [] ⟨_, _, rfl, IS.out.pane, rfl⟩ Own.nil (by rw [JL.out]; omega) (by rw [JL.out]; unfold maxLen; omega) (by omega) ?_; intro v3 W3 hG3 hb3 hk3 hw3)
    have b3 : Below w.heap.size wr W3 := ((B2.out.mono (by omega)).alloc (by omega) _).trans hb3
    have HB3 := Lib.hid b3
    have HG3 := Lib.hid hG3
    clear hG3 hb3 hk3 hw3 b3
    go_wp2_with fail
    go_roundg (len - (j + 1))
    case measure => omega
    case rel => exact ⟨j + 1, by omega, by go_num, HB.out.trans (HB3.out.mono (by omega)), by rw [XS.out]; exact HG3.out⟩

/-- The cells that the region loads, behind whatever leaves them. -/
theorem conf_keep {W w' : World} {p : Nat} {t : TypeId} {v0 v1 v2 v3 v4 : Value} (hk : Blk W p t [v0, v1, v2, v3, v4]) (h : Below W.heap.size W w') :
    w'.cell? ⟨p, 0, none⟩ = some v0 ∧ w'.cell? ⟨p, 1, none⟩ = some v1 ∧ w'.cell? ⟨p, 2, none⟩ = some v2 ∧ w'.cell? ⟨p, 3, none⟩ = some v3 ∧ w'.cell? ⟨p, 4, none⟩ = some v4 := by
  have k := hk.below h hk.lt
  exact ⟨by simpa using k.cell 0, by simpa using k.cell 1, by simpa using k.cell 2, by simpa using k.cell 3, by simpa using k.cell 4⟩

set_option maxRecDepth 100000 in
set_option maxHeartbeats 4000000 in
theorem l06Rows (c : ConfD) (ch : ConfigH) (cf : List Nat) (a : Option Addr) (len cap : Nat) (l : List RowD) (fp : List Nat) (w : World) (hc : Config.Is w c ch cf) (hrow : GRow 9 RRow w a len l fp) (hzc : Config.sz c ≤ 2000000) (hmax : szL Row.sz l ≤ 2000000) :
    Calls Try.prog 76 #[.agg (Config.list c ch).toArray, .slice a len cap] w fun e w' => e = .returned (.bool (rowsB c l)) ∧ Below w.heap.size w w' := by
  obtain ⟨r, hr⟩ : ∃ r, rowsB c l = r := ⟨_, rfl⟩
  rw [hr]
  unfold rowsB at hr
  have HR := Lib.hid hr
  have HC := Lib.hid hc
  have HG := Lib.hid hrow
  have HL := Lib.hid hrow.1
  have HZ := Lib.hid hzc
  have HM := Lib.hid hmax
  have hlen : len ≤ 2000000 := by rw [← hrow.1]; unfold szL at hmax; omega
  clear hr hc hrow hzc hmax
  simp only [Config.list]
  go_enter Try.func76, Try.ntmps76
  go_wp2_with fail
  go_loopg [5] len (fun k n wr => ∃ j : Nat, j + k = len ∧ n = .int .i64 j ∧ Below w.heap.size w wr ∧ Blk wr w.heap.size 63 (Config.list c ch) ∧ (l.take j).all timesB = true)
  case atStart => exact ⟨0, by omega, rfl, by repeat (first | exact Below.refl _ _ | refine Below.setCell ?_ (by first | omega | (simp; done) | (simp; omega)) _ | refine Below.alloc ?_ (by first | omega | (simp; done) | (simp; omega)) _ | apply Below.drew), by unfold Config.list; with_reducible (repeat (first | (refine blk_new_at _ _ _ _ ?_; first | rfl | (simp; done)) | refine Blk.alloc ?_ _ | apply Blk.drew | refine Blk.setOther ?_ (by first | (simp; done) | (simp; omega)) _)), by simp⟩
  case round =>
    obtain ⟨j, hj, rfl, hB, hK, hno⟩ := hrel
    have HB := Lib.hid hB
    have KK := Lib.hid hK
    have HN := Lib.hid hno
    clear hno
    by_cases hlt : j < len
    case neg =>
      obtain rfl : j = len := by omega
      have HA := Lib.hid (all_take_all HN.out (by rw [HL.out]; omega))
      have hk5 : Blk wr w.heap.size 63 [.int .i64 c.d, .slice ch.wsa ch.wsl ch.wsc, .slice ch.msa ch.msl ch.msc, .int .i64 c.dl, .int .i64 c.lt] := hK
      have K5 := Lib.hid hk5
      obtain ⟨c0, c1, c2, c3, c4⟩ := conf_keep hk5 (Below.refl _ _)
      have hkl := hk5.lt
      clear hB hK hk5
      go_wp2_with fail
      refine mix.wp_region_ord (fun w' => w'.cell? ⟨w.heap.size, 0, none⟩ = some (.int .i64 c.d) ∧ w'.cell? ⟨w.heap.size, 1, none⟩ = some (.slice ch.wsa ch.wsl ch.wsc) ∧ w'.cell? ⟨w.heap.size, 2, none⟩ = some (.slice ch.msa ch.msl ch.msc) ∧ w'.cell? ⟨w.heap.size, 3, none⟩ = some (.int .i64 c.dl) ∧ w'.cell? ⟨w.heap.size, 4, none⟩ = some (.int .i64 c.lt)) [2,3] [0,1,2,3,4] (by kernel_rfl) (by kernel_rfl) (fun _ _ d _ _ h => by cases d <;> exact h) ⟨c0, c1, c2, c3, c4⟩ ?_
      clear c0 c1 c2 c3 c4
      simp only [List.filterMap_cons, List.filterMap_nil, List.getElem?_cons_zero, List.getElem?_cons_succ, Option.map_some]
      (repeat (first | (apply mix.ord_take; (· rfl); (· rfl); (· (intro w' hSw; (try dsimp only at hSw); go_simp; try with_reducible rfl)); (try simp only [Act.put, List.setIfInBounds_toArray, List.set_cons_zero, List.set_cons_succ])) | ((refine mix.ord_pass rfl (by rfl) ?_); (try simp only [Act.put, List.setIfInBounds_toArray, List.set_cons_zero, List.set_cons_succ]))))
      refine mix.ord_hard rfl (fun K hK => ?_); go_simp
      refine (l06Panes _ _ _ l _ _ (HG.out.below local_Row HB.out.drew) hlen).mono ?_
      rintro e W5 ⟨a2, n2, c2, fp2, rfl, hr5, hn5, hm5, b5⟩
      have bq5 := (Below.refl wr.heap.size wr).drew.trans b5
      have B5 := Lib.hid bq5
      have HR5 := Lib.hid (And.intro hr5 (And.intro hn5 hm5))
      have HS5 := Lib.hid (conf_keep K5.out bq5)
      clear b5 bq5 hr5 hn5 hm5
      refine hK.out _ _ (HS5.out) (fun hSw => ?_); clear hK K hSw; (try simp only [Act.put, List.setIfInBounds_toArray, List.set_cons_zero, List.set_cons_succ])
      clear HS5
      refine mix.ord_hard rfl (fun K hK => ?_); go_simp
      refine (spec_PanesOk c ch cf _ _ _ _ fp2 W5 (HC.out.below (HB.out.trans (B5.out.mono HB.out.size))) HR5.out.1 HR5.out.2.1 HR5.out.2.2 HZ.out (by rw [szPanes_rows]; exact HM.out)).mono ?_
      rintro e W6 ⟨rfl, b6⟩
      have bq6 := B5.out.trans (b6.mono B5.out.size)
      have HS6 := Lib.hid (conf_keep K5.out bq6)
      have B6 := Lib.hid (HB.out.trans (bq6.mono HB.out.size))
      clear b6 bq6
      refine hK.out _ _ (HS6.out) (fun hSw => ?_); clear hK K hSw; (try simp only [Act.put, List.setIfInBounds_toArray, List.set_cons_zero, List.set_cons_succ])
      clear HS6
      (repeat (first | (apply mix.ord_take; (· rfl); (· rfl); (· (intro w' hSw; (try dsimp only at hSw); go_simp; try with_reducible rfl)); (try simp only [Act.put, List.setIfInBounds_toArray, List.set_cons_zero, List.set_cons_succ])) | ((refine mix.ord_pass rfl (by rfl) ?_); (try simp only [Act.put, List.setIfInBounds_toArray, List.set_cons_zero, List.set_cons_succ]))))
      refine mix.ord_end ?_
      go_wp2_with fail
      go_ret
      exact ⟨ret_bool (by rw [← HR.out, HA.out]; simp), B6.out⟩
    obtain ⟨b, off, x, f, cs, rfl, hbl, hx, hcl, hRx, hcs⟩ := HG.out.at hlt
    obtain ⟨h, rfl, hIs⟩ := hRx
    have q8 : wr.cell? ⟨b, off + j * 9 + 8, none⟩ = some (.int .i64 x.times) := by have := (hB.cell (p := ⟨b, off + j * 9 + 8, none⟩) hbl).trans (hcs 8 (by omega)); simpa [Row.list] using this
    have hlt2 : (j : Int) < (len : Int) := by omega
    have h02 : (0 : Int) ≤ (j : Int) := by omega
    have HX := Lib.hid hx
    clear hB hK hcs hcl hx hIs
    cases hp : timesB x with
    | false =>
      have HP := Lib.hid (all_false_at HX.out hp)
      have hp' : decide (1 ≤ x.times ∧ x.times ≤ 1000) = false := hp
      go_wp2_with (go_at_call 56; refine (between_is hp' _).mono ?_; rintro e w' ⟨rfl, rfl⟩)
      go_ret
      exact ⟨ret_bool (by rw [← HR.out, HP.out]; simp), HB.out⟩
    | true =>
      have HP := Lib.hid (all_take_at HN.out HX.out hp)
      have hp' : decide (1 ≤ x.times ∧ x.times ≤ 1000) = true := hp
      go_wp2_with (go_at_call 56; refine (between_is hp' _).mono ?_; rintro e w' ⟨rfl, rfl⟩)
      go_roundg (len - (j + 1))
      case measure => omega
      case rel => exact ⟨j + 1, by omega, by go_num, HB.out, KK.out, HP.out⟩
end Go.Proofs.Ytoglclmaacjdaaa.dat
