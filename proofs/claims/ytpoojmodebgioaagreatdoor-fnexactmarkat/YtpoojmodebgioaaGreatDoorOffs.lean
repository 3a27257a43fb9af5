/-
  THE CONTRACTS OF Offsets of the program and of the model: how many records of each part are among the first n; nothing that was there is written.
-/
import Derived.Test.YtpoojmodebgioaaGreatDoorMergeSpec
namespace Go.Proofs.YtpoojmodebgioaaGreatDoor.dat
open Go.RowKit Go.Proofs.YtpoojmodebgioaaGreatDoor.win
open Go.Proofs.YtpoojmodebgioaaGreatDoor.num (Env Env.next)

/-- How many of each of m parts these are. -/
def offsTo (m : Nat) (out : List (Int × Int)) : List Nat := out.foldl (fun rd x => rdNext rd x.1.toNat) (List.replicate m 0)
def ofNats (rd : List Nat) : List Int := rd.map fun n : Nat => (n : Int)
/-- Offsets. -/
noncomputable def offsD (c : ConfD) (L : List PartD) (n : Int) : List Int := if logsB c L = true then ofNats (offsTo L.length ((ordD c L).take n.toNat)) else []
theorem offsTo_succ {m : Nat} {out : List (Int × Int)} {j : Nat} {x : Int × Int} (h : out[j]? = some x) : offsTo m (out.take (j + 1)) = rdNext (offsTo m (out.take j)) x.1.toNat := by
  unfold offsTo
  rw [List.take_add_one, h, List.foldl_append]
  rfl
theorem offsTo_len (m : Nat) (out : List (Int × Int)) : (offsTo m out).length = m := by
  unfold offsTo
  have : ∀ (out : List (Int × Int)) (rd : List Nat), (out.foldl (fun rd x => rdNext rd x.1.toNat) rd).length = rd.length := by
    intro out
    induction out with
    | nil => intro rd; rfl
    | cons x r ih => intro rd; rw [List.foldl_cons, ih, rdNext, List.length_set]
  rw [this]; simp
theorem getD_next_le (rd : List Nat) (b p : Nat) : (rdNext rd b).getD p 0 ≤ rd.getD p 0 + 1 := by
  by_cases hb : b < rd.length
  · rw [rdNext, getD_set hb]
    split
    · rename_i e; subst e; exact Nat.le_refl _
    · omega
  · rw [rdNext, List.set_eq_of_length_le (by omega)]; omega
theorem offsTo_le (m : Nat) (out : List (Int × Int)) (p : Nat) : (offsTo m out).getD p 0 ≤ out.length := by
  unfold offsTo
  have : ∀ (out : List (Int × Int)) (rd : List Nat), (out.foldl (fun rd x => rdNext rd x.1.toNat) rd).getD p 0 ≤ rd.getD p 0 + out.length := by
    intro out
    induction out with
    | nil => intro rd; exact Nat.le_refl _
    | cons x r ih =>
      intro rd
      rw [List.foldl_cons, List.length_cons]
      have h1 := ih (rdNext rd x.1.toNat)
      have h2 := getD_next_le rd x.1.toNat p
      omega
  have h := this out (List.replicate m 0)
  rw [getD_replicate] at h
  omega
theorem ordFrom_mem (c : ConfD) (L : List PartD) : ∀ (f : Nat) (rd : List Nat) x, x ∈ ordFrom c L f rd → 0 ≤ x.1 ∧ x.1 < (L.length : Int)
  | 0, rd, x, h => by simp [ordFrom] at h
  | f + 1, rd, x, h => by
    rw [ordFrom] at h
    split at h
    · simp at h
    · rename_i hs
      rcases List.mem_cons.1 h with rfl | h
      · rcases scan_spec c L rd L.length with ⟨h1, _⟩ | ⟨b, h1, h2⟩
        · omega
        · simp only [h1]
          have := h2.1
          omega
      · exact ordFrom_mem c L f _ x h
theorem ordFrom_len (c : ConfD) (L : List PartD) : ∀ (f : Nat) (rd : List Nat), (ordFrom c L f rd).length ≤ f
  | 0, rd => by simp [ordFrom]
  | f + 1, rd => by
    rw [ordFrom]
    split
    · simp
    · have := ordFrom_len c L f (rdNext rd (scan c L rd L.length).toNat)
      simp only [List.length_cons]
      omega
theorem row_nats {w : World} {gr : Nat} {rd : List Nat} (h : Blk w gr 3 (rdCells rd)) : GRow 1 RInt w (some ⟨gr, 0, none⟩) rd.length (ofNats rd) [gr] := by
  refine ⟨by simp [ofNats], .inr ⟨gr, 0, List.replicate rd.length [], rfl, h.lt, by simp, by simp, ?_⟩⟩
  intro i x f hx hf
  have hi : i < rd.length := by have := (List.getElem?_eq_some_iff.1 hx).1; simpa [ofNats] using this
  have hfn : f = [] := (List.mem_replicate.1 (List.mem_of_getElem? hf)).2
  subst hfn
  have hx' : x = ((rd.getD i 0 : Nat) : Int) := by
    unfold ofNats at hx
    rw [List.getElem?_map, List.getElem?_eq_getElem hi] at hx
    rw [List.getD_eq_getElem?_getD, List.getElem?_eq_getElem hi]
    simpa using hx.symm
  refine ⟨[.int .i64 x], rfl, ⟨rfl, rfl⟩, fun j hj => ?_⟩
  obtain rfl : j = 0 := by omega
  have := (h.cell i).trans (rdCells_at hi)
  rw [hx']
  simpa using this
/-- Numbers in new memory. -/
def GiveN (w : World) (l : List Int) (r : Ending) (w' : World) : Prop := ∃ (a : Option Addr) (n c' : Nat) (f : List Nat), r = .returned (.slice a n c') ∧ GRow 1 RInt w' a n l f ∧ n ≤ c' ∧ c' ≤ 9223372036854775807 ∧ Own w.heap.size w' f ∧ Below w.heap.size w w'
theorem give_nats {w wr : World} {gr len : Nat} {rd : List Nat} {l : List Int} (h : Blk wr gr 3 (rdCells rd)) (hl : rd.length = len) (hlm : len ≤ 9223372036854775807) (hg : w.heap.size ≤ gr) (hB : Below w.heap.size w wr) (e : l = ofNats rd) :
    GiveN w l (.returned (.slice (some ⟨gr, 0, none⟩) len len)) wr := by
  subst hl e
  exact ⟨_, _, _, [gr], rfl, row_nats h, Nat.le_refl _, hlm, ⟨by simp, fun b hb => by simp at hb; subst hb; exact ⟨hg, Blk.wr h⟩⟩, hB⟩

set_option maxRecDepth 100000 in
set_option maxHeartbeats 4000000 in
theorem impl_Offsets_any (c : ConfD) (ch : ConfigH) (cf : List Nat) (a : Option Addr) (len cap : Nat) (L : List PartD) (fp : List Nat) (n : Int) (w : World) (hc : Config.Is w c ch cf) (hrow : GRow 1 RPart w a len L fp) (u1 : len ≤ cap) (u2 : cap ≤ 9223372036854775807) (hE : Env w) :
    Calls Tryz.prog 14 #[.agg (Config.list c ch).toArray, .slice a len cap, .int .i64 n] w (GiveN w (offsD c L n)) := by
  have hl := hrow.1
  have HC := Lib.hid hc
  have HE := Lib.hid hE
  have HG := Lib.hid hrow
  have HO := Lib.hid (fun w h1 h2 => impl_LogsOk c ch cf a len cap L fp w h1 h2 u1 u2)
  have HMO := Lib.hid (fun w h1 h2 h3 => impl_MergeOrder_any c ch cf a len cap L fp w h1 h2 u1 u2 h3)
  clear hc hE hrow
  simp only [Config.list] at HO HMO ⊢
  go_enter Tryz.func14, Tryz.ntmps14
  go_wp2_with fail
  refine calls_gen (fun W => Below w.heap.size w W ∧ Blk W w.heap.size 27 (Config.list c ch)) ⟨by repeat (first | exact Below.refl _ _ | refine Below.setCell ?_ (by first | omega | (simp; done) | (simp; omega)) _ | refine Below.alloc ?_ (by first | omega | (simp; done) | (simp; omega)) _ | apply Below.drew), by unfold Config.list; with_reducible (repeat (first | (refine blk_new_at _ _ _ _ ?_; first | rfl | (simp; done)) | refine Blk.alloc ?_ _ | apply Blk.drew | refine Blk.setOther ?_ (by first | (simp; done) | (simp; omega)) _))⟩ ?_
  rintro W1 ⟨b1, k1⟩
  refine (HO.out _ (HC.out.below b1) (HG.out.below local_Part b1)).mono ?_
  rintro e' W2 ⟨rfl, b2⟩
  have B2 := Lib.hid (b1.trans (b2.mono b1.size))
  have K2 := Lib.hid (k1.below b2 k1.lt)
  clear b1 b2 k1
  cases hlg : logsB c L with
  | false =>
    have HM := Lib.hid (show offsD c L n = [] by unfold offsD; rw [hlg]; rfl)
    clear hlg
    go_wp2_with fail
    go_ret
    rw [HM.out]
    exact ⟨none, 0, 0, [], rfl, GRow.nil, Nat.le_refl _, Nat.zero_le _, Own.nil, B2.out⟩
  | true =>
  have hbd := logs_bounds hlg
  have htt := logs_total hlg
  have h3 : len ≤ 3 := by omega
  have h1 : 1 ≤ len := by omega
  have hmd : mergeD c L = ordD c L := by unfold mergeD; rw [hlg]; rfl
  rw [hmd] at HMO
  have HM := Lib.hid (show offsD c L n = ofNats (offsTo len ((ordD c L).take n.toNat)) by unfold offsD; rw [hlg, ← hl]; rfl)
  have hol : (ordD c L).length ≤ 72 := Nat.le_trans (ordFrom_len c L _ _) htt
  have HME := Lib.hid (fun x hx => ordFrom_mem c L (totalD L) (List.replicate L.length 0) x hx)
  clear hlg hbd hmd htt
  have hmake := fun w => run_make_n (P := Tryz.prog) 25 3 (.int .i64 0) 1 8 Tryz.underlying25 info_int .i64 .i64 len (by omega) (by omega) w
  have k0 := K2.out.cell 0
  have k1 := K2.out.cell 1
  have k2 := K2.out.cell 2
  have k3 := K2.out.cell 3
  have k4 := K2.out.cell 4
  have kl := K2.out.lt
  simp [Config.list] at k0 k1 k2 k3 k4
  go_wp2_with fail
  refine calls_gen (fun W => Below W2.heap.size W2 W ∧ Blk W W2.heap.size 3 (rdCells (List.replicate len 0))) ⟨by repeat (first | exact Below.refl _ _ | refine Below.setCell ?_ (by first | omega | (simp; done) | (simp; omega)) _ | refine Below.alloc ?_ (by first | omega | (simp; done) | (simp; omega)) _ | apply Below.drew), by rw [made_zero]; exact blk_new _ _ _⟩ ?_
  rintro W3 ⟨b3, z3⟩
  have B3 := Lib.hid (B2.out.trans (b3.mono B2.out.size))
  have Z3 := Lib.hid z3
  clear b3 z3 hmake k0 k1 k2 k3 k4
  refine (HMO.out _ (HC.out.below B3.out) (HG.out.below local_Part B3.out) (HE.out.next B3.out)).mono ?_
  rintro e' W4 ⟨ao, no, co, fo, rfl, rowo, leo, mxo, owno, b4⟩
  have B4 := Lib.hid (B3.out.trans (b4.mono B3.out.size))
  have Z4 := Lib.hid (Z3.out.below b4 Z3.out.lt)
  have RO := Lib.hid rowo
  have FO := Lib.hid (show ∀ b ∈ fo, b ≠ W2.heap.size from fun b hb => by have := (owno.2 b hb).1; have := Z3.out.lt; omega)
  have hno : (ordD c L).length = no := rowo.1
  obtain ⟨k, hk, hkl, htk⟩ := within_nat n no
  have HT := Lib.hid (htk (ordD c L) hno)
  have HW := Lib.hid (fun w => impl_within n no w)
  rw [hk] at HW
  have hk0 : (0 : Int) ≤ (k : Int) := by omega
  have hkc : (k : Int) ≤ (co : Int) := by omega
  clear rowo owno b4 hk htk Z3 B3
  go_wp2_with fail
  refine (HW.out _).mono ?_
  rintro e' W5 ⟨rfl, rfl⟩
  go_wp2_with fail
  go_loopg [28] k (fun r i wr => ∃ j : Nat, j + r = k ∧ i = .int .i64 j ∧ Blk wr W2.heap.size 3 (rdCells (offsTo len ((ordD c L).take j))) ∧ Apart [W2.heap.size] W5 wr)
  case atStart => exact ⟨0, by omega, rfl, by simp only [List.take_zero]; exact Z4.out, Apart.refl _ _⟩
  case round =>
    obtain ⟨j, hj, rfl, hZ, hA⟩ := hrel
    have HZ := Lib.hid hZ
    have HA := Lib.hid hA
    have BB := Lib.hid (B4.out.trans (hA.below (lo := w.heap.size) (by simp; omega) B4.out.size))
    by_cases hlt : j < k
    case neg =>
      obtain rfl : j = k := by omega
      clear hZ hA
      go_wp2_with fail
      go_ret
      exact give_nats (l := offsD c L n) HZ.out (offsTo_len _ _) (by omega) (by omega) BB.out (by rw [HM.out, HT.out])
    obtain ⟨b, off, x, f, cs, rfl, hbl, hx, hcl, hR, hcs⟩ := (RO.out.keep (w' := wr) local_Pos (fun b hb => hA.block b (RO.out.lt local_Pos b hb) (by simpa using FO.out b hb))).at (show j < no by omega)
    obtain ⟨rfl, rfl⟩ := hR
    have c0 : wr.cell? ⟨b, off + j * 2, none⟩ = some (.int .i64 x.1) := (hcs 0 (by omega)).trans (by simp [Pos.list])
    have c1 : wr.cell? ⟨b, off + j * 2 + 1, none⟩ = some (.int .i64 x.2) := (hcs 1 (by omega)).trans (by simp [Pos.list])
    have hmem := HME.out x (List.mem_of_getElem? hx)
    obtain ⟨P, hP⟩ : ∃ P : Nat, x.1 = (P : Int) := ⟨x.1.toNat, by omega⟩
    have HS := Lib.hid (offsTo_succ (m := len) hx)
    have hPl : P < len := by omega
    have hle := offsTo_le len ((ordD c L).take j) P
    have hle2 : ((ordD c L).take j).length ≤ 72 := by rw [List.length_take]; omega
    obtain ⟨kb, hkb⟩ : ∃ kb : Int, (((offsTo len ((ordD c L).take j)).getD P 0 : Nat) : Int) = kb := ⟨_, rfl⟩
    have hkb2 : 0 ≤ kb ∧ kb ≤ 72 := by omega
    have d0 : wr.cell? ⟨W2.heap.size, P, none⟩ = some (.int .i64 kb) := (hZ.cell P).trans (by rw [rdCells_at (by rw [offsTo_len]; exact hPl), hkb])
    have df := hZ.frozen
    have dl := hZ.lt
    have hlt2 : (j : Int) < (k : Int) := by omega
    have h02 : (0 : Int) ≤ (j : Int) := by omega
    have hP2 : (P : Int) < (len : Int) := by omega
    have hP0 : (0 : Int) ≤ (P : Int) := by omega
    have HKB := Lib.hid hkb
    have HPX := Lib.hid (show x.1.toNat = P by omega)
    rw [hP] at c0
    clear hx hcs hmem hle hle2 hkb hZ hA hcl hP
    go_wp2_with fail
    go_roundg (k - (j + 1))
    case measure => omega
    case rel =>
      refine ⟨j + 1, by omega, by go_num, ?_, ?_⟩
      · rw [HS.out, HPX.out]
        have := HZ.out.set P (.int .i64 ((((offsTo len ((ordD c L).take j)).getD P 0 : Nat) : Int) + 1))
        rw [rdCells_next, HKB.out] at this
        exact this.alloc _
      · exact (HA.out.setCell (by simp) _ _).alloc _

set_option maxRecDepth 100000 in
set_option maxHeartbeats 4000000 in
theorem spec_Offsets_any (c : ConfD) (ch : ConfigH) (cf : List Nat) (a : Option Addr) (len cap : Nat) (L : List PartD) (fp : List Nat) (n : Int) (w : World) (hc : Config.Is w c ch cf) (hrow : GRow 1 RPart w a len L fp) (u1 : len ≤ cap) (u2 : cap ≤ 9223372036854775807) (zl : szL Part.sz L ≤ 2000000) :
    Calls Tryz.prog 27 #[.agg (Config.list c ch).toArray, .slice a len cap, .int .i64 n] w (GiveN w (offsD c L n)) := by
  have hl := hrow.1
  have HC := Lib.hid hc
  have HG := Lib.hid hrow
  have HO := Lib.hid (fun w h1 h2 => spec_LogsOk c ch cf a len cap L fp w h1 h2 u1 u2)
  have HMO := Lib.hid (fun w h1 h2 => spec_MergeOrder_any c ch cf a len cap L fp w h1 h2 u1 u2 zl)
  clear hc hrow
  simp only [Config.list] at HO HMO ⊢
  go_enter Tryz.func27, Tryz.ntmps27
  go_wp2_with fail
  refine calls_gen (fun W => Below w.heap.size w W ∧ Blk W w.heap.size 27 (Config.list c ch)) ⟨by repeat (first | exact Below.refl _ _ | refine Below.setCell ?_ (by first | omega | (simp; done) | (simp; omega)) _ | refine Below.alloc ?_ (by first | omega | (simp; done) | (simp; omega)) _ | apply Below.drew), by unfold Config.list; with_reducible (repeat (first | (refine blk_new_at _ _ _ _ ?_; first | rfl | (simp; done)) | refine Blk.alloc ?_ _ | apply Blk.drew | refine Blk.setOther ?_ (by first | (simp; done) | (simp; omega)) _))⟩ ?_
  rintro W1 ⟨b1, k1⟩
  refine (HO.out _ (HC.out.below b1) (HG.out.below local_Part b1)).mono ?_
  rintro e' W2 ⟨rfl, b2⟩
  have B2 := Lib.hid (b1.trans (b2.mono b1.size))
  have K2 := Lib.hid (k1.below b2 k1.lt)
  clear b1 b2 k1
  cases hlg : logsB c L with
  | false =>
    have HM := Lib.hid (show offsD c L n = [] by unfold offsD; rw [hlg]; rfl)
    clear hlg
    go_wp2_with fail
    go_ret
    rw [HM.out]
    exact ⟨_, 0, 0, [], rfl, GRow.nil, Nat.le_refl _, Nat.zero_le _, Own.nil, B2.out.alloc B2.out.size _⟩
  | true =>
  have hbd := logs_bounds hlg
  have htt := logs_total hlg
  have h3 : len ≤ 3 := by omega
  have h1 : 1 ≤ len := by omega
  have hmd : mergeD c L = ordD c L := by unfold mergeD; rw [hlg]; rfl
  rw [hmd] at HMO
  have HM := Lib.hid (show offsD c L n = ofNats (offsTo len ((ordD c L).take n.toNat)) by unfold offsD; rw [hlg, ← hl]; rfl)
  have hol : (ordD c L).length ≤ 72 := Nat.le_trans (ordFrom_len c L _ _) htt
  have HME := Lib.hid (fun x hx => ordFrom_mem c L (totalD L) (List.replicate L.length 0) x hx)
  clear hlg hbd hmd htt
  have hmake := fun w => run_make_n (P := Tryz.prog) 25 3 (.int .i64 0) 1 8 Tryz.underlying25 info_int .i64 .i64 len (by omega) (by omega) w
  have k0 := K2.out.cell 0
  have k1 := K2.out.cell 1
  have k2 := K2.out.cell 2
  have k3 := K2.out.cell 3
  have k4 := K2.out.cell 4
  have kl := K2.out.lt
  simp [Config.list] at k0 k1 k2 k3 k4
  go_wp2_with fail
  refine calls_gen (fun W => Below W2.heap.size W2 W ∧ Blk W W2.heap.size 3 (rdCells (List.replicate len 0))) ⟨by repeat (first | exact Below.refl _ _ | refine Below.setCell ?_ (by first | omega | (simp; done) | (simp; omega)) _ | refine Below.alloc ?_ (by first | omega | (simp; done) | (simp; omega)) _ | apply Below.drew), by rw [made_zero]; exact blk_new _ _ _⟩ ?_
  rintro W3 ⟨b3, z3⟩
  have B3 := Lib.hid (B2.out.trans (b3.mono B2.out.size))
  have Z3 := Lib.hid z3
  clear b3 z3 hmake k0 k1 k2 k3 k4
  refine (HMO.out _ (HC.out.below B3.out) (HG.out.below local_Part B3.out)).mono ?_
  rintro e' W4 ⟨ao, no, co, fo, rfl, rowo, leo, mxo, owno, b4⟩
  have B4 := Lib.hid (B3.out.trans (b4.mono B3.out.size))
  have Z4 := Lib.hid (Z3.out.below b4 Z3.out.lt)
  have RO := Lib.hid rowo
  have FO := Lib.hid (show ∀ b ∈ fo, b ≠ W2.heap.size from fun b hb => by have := (owno.2 b hb).1; have := Z3.out.lt; omega)
  have hno : (ordD c L).length = no := rowo.1
  clear rowo owno b4 Z3 B3
  go_wp2_with fail
  go_loopg [9] no (fun r i wr => ∃ j : Nat, j + r = no ∧ (j : Int) ≤ max n 0 ∧ i = .int .i64 j ∧ Blk wr W2.heap.size 3 (rdCells (offsTo len ((ordD c L).take j))) ∧ Apart [W2.heap.size] W4 wr)
  case atStart => exact ⟨0, by omega, by omega, rfl, by simp only [List.take_zero]; exact Z4.out, Apart.refl _ _⟩
  case round =>
    obtain ⟨j, hj, hjn, rfl, hZ, hA⟩ := hrel
    have HZ := Lib.hid hZ
    have HA := Lib.hid hA
    have BB := Lib.hid (B4.out.trans (hA.below (lo := w.heap.size) (by simp; omega) B4.out.size))
    by_cases hln : (j : Int) < n
    case neg =>
      have HT := Lib.hid (show (ordD c L).take j = (ordD c L).take n.toNat by rw [show n.toNat = j by omega])
      clear hZ hA
      go_wp2_with fail
      go_ret
      exact give_nats (l := offsD c L n) HZ.out (offsTo_len _ _) (by omega) (by omega) BB.out (by rw [HM.out, HT.out])
    by_cases hlt : j < no
    case neg =>
      have HT := Lib.hid (show (ordD c L).take j = (ordD c L).take n.toNat by rw [List.take_of_length_le (by omega), List.take_of_length_le (by omega)])
      have hlt2 : ¬ (j : Int) < (no : Int) := by omega
      clear hZ hA
      go_wp2_with fail
      go_ret
      exact give_nats (l := offsD c L n) HZ.out (offsTo_len _ _) (by omega) (by omega) BB.out (by rw [HM.out, HT.out])
    obtain ⟨b, off, x, f, cs, rfl, hbl, hx, hcl, hR, hcs⟩ := (RO.out.keep (w' := wr) local_Pos (fun b hb => hA.block b (RO.out.lt local_Pos b hb) (by simpa using FO.out b hb))).at hlt
    obtain ⟨rfl, rfl⟩ := hR
    have c0 : wr.cell? ⟨b, off + j * 2, none⟩ = some (.int .i64 x.1) := (hcs 0 (by omega)).trans (by simp [Pos.list])
    have c1 : wr.cell? ⟨b, off + j * 2 + 1, none⟩ = some (.int .i64 x.2) := (hcs 1 (by omega)).trans (by simp [Pos.list])
    have hmem := HME.out x (List.mem_of_getElem? hx)
    obtain ⟨P, hP⟩ : ∃ P : Nat, x.1 = (P : Int) := ⟨x.1.toNat, by omega⟩
    have HS := Lib.hid (offsTo_succ (m := len) hx)
    have hPl : P < len := by omega
    have hle := offsTo_le len ((ordD c L).take j) P
    have hle2 : ((ordD c L).take j).length ≤ 72 := by rw [List.length_take]; omega
    obtain ⟨kb, hkb⟩ : ∃ kb : Int, (((offsTo len ((ordD c L).take j)).getD P 0 : Nat) : Int) = kb := ⟨_, rfl⟩
    have hkb2 : 0 ≤ kb ∧ kb ≤ 72 := by omega
    have d0 : wr.cell? ⟨W2.heap.size, P, none⟩ = some (.int .i64 kb) := (hZ.cell P).trans (by rw [rdCells_at (by rw [offsTo_len]; exact hPl), hkb])
    have df := hZ.frozen
    have dl := hZ.lt
    have hlt2 : (j : Int) < (no : Int) := by omega
    have h02 : (0 : Int) ≤ (j : Int) := by omega
    have hP2 : (P : Int) < (len : Int) := by omega
    have hP0 : (0 : Int) ≤ (P : Int) := by omega
    have HKB := Lib.hid hkb
    have HPX := Lib.hid (show x.1.toNat = P by omega)
    rw [hP] at c0
    clear hx hcs hmem hle hle2 hkb hZ hA hcl hP
    go_wp2_with fail
    go_roundg (no - (j + 1))
    case measure => omega
    case rel =>
      refine ⟨j + 1, by omega, by omega, by go_num, ?_, ?_⟩
      · rw [HS.out, HPX.out]
        have := HZ.out.set P (.int .i64 ((((offsTo len ((ordD c L).take j)).getD P 0 : Nat) : Int) + 1))
        rw [rdCells_next, HKB.out] at this
        exact this
      · exact HA.out.setCell (by simp) _ _
end Go.Proofs.YtpoojmodebgioaaGreatDoor.dat
