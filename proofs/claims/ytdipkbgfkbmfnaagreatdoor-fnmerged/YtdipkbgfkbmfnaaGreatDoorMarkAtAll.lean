/-
  JOINED BY tools/join.py: Offs, MarkAt.
-/
import Derived.Test.YtdipkbgfkbmfnaaGreatDoorMergeAll
import Derived.Test.YtdipkbgfkbmfnaaGreatDoorLowest

/-
  THE CONTRACTS OF Offsets of the program and of the model: how many records of each part are among the first n; nothing that was there is written.
-/
namespace Go.Proofs.YtdipkbgfkbmfnaaGreatDoor.dat
open Go.RowKit Go.Proofs.YtdipkbgfkbmfnaaGreatDoor.win
open Go.Proofs.YtdipkbgfkbmfnaaGreatDoor.num (Env Env.next)

/-- How many of each of m parts these are. -/
def offsTo (m : Nat) (out : List (Int × Int)) : List Nat := out.foldl (fun rd x => rdNext rd x.1.toNat) (List.replicate m 0)
def ofNats (rd : List Nat) : List Int := rd.map fun n : Nat => (n : Int)
/-- Offsets. -/
noncomputable def offsD (c : ConfD) (L : List PartD) (n : Int) : List Int := if logsB c L = true then ofNats (offsTo L.length ((ordD c L).take n.toNat)) else []
theorem offsTo_succ {m : Nat} {out : List (Int × Int)} {j : Nat} {x : Int × Int} (h : out[j]? = some x) : offsTo m (out.take (j + 1)) = rdNext (offsTo m (out.take j)) x.1.toNat := by
  unfold offsTo
  rw [List.take_add_one, h, List.foldl_append]
  rfl
theorem offsTo_len (m : Nat) (out : List (Int × Int)) : (offsTo m out).length = m := by
  unfold offsTo
  have : ∀ (out : List (Int × Int)) (rd : List Nat), (out.foldl (fun rd x => rdNext rd x.1.toNat) rd).length = rd.length := by
    intro out
    induction out with
    | nil => intro rd; rfl
    | cons x r ih => intro rd; rw [List.foldl_cons, ih, rdNext, List.length_set]
  rw [this]; simp
theorem getD_next_le (rd : List Nat) (b p : Nat) : (rdNext rd b).getD p 0 ≤ rd.getD p 0 + 1 := by
  by_cases hb : b < rd.length
  · rw [rdNext, getD_set hb]
    split
    · rename_i e; subst e; exact Nat.le_refl _
    · omega
  · rw [rdNext, List.set_eq_of_length_le (by omega)]; omega
theorem offsTo_le (m : Nat) (out : List (Int × Int)) (p : Nat) : (offsTo m out).getD p 0 ≤ out.length := by
  unfold offsTo
  have : ∀ (out : List (Int × Int)) (rd : List Nat), (out.foldl (fun rd x => rdNext rd x.1.toNat) rd).getD p 0 ≤ rd.getD p 0 + out.length := by
    intro out
    induction out with
    | nil => intro rd; exact Nat.le_refl _
    | cons x r ih =>
      intro rd
      rw [List.foldl_cons, List.length_cons]
      have h1 := ih (rdNext rd x.1.toNat)
      have h2 := getD_next_le rd x.1.toNat p
      omega
  have h := this out (List.replicate m 0)
  rw [getD_replicate] at h
  omega
theorem ordFrom_mem (c : ConfD) (L : List PartD) : ∀ (f : Nat) (rd : List Nat) x, x ∈ ordFrom c L f rd → 0 ≤ x.1 ∧ x.1 < (L.length : Int)
  | 0, rd, x, h => by simp [ordFrom] at h
  | f + 1, rd, x, h => by
    rw [ordFrom] at h
    split at h
    · simp at h
    · rename_i hs
      rcases List.mem_cons.1 h with rfl | h
      · rcases scan_spec c L rd L.length with ⟨h1, _⟩ | ⟨b, h1, h2⟩
        · omega
        · simp only [h1]
          have := h2.1
          omega
      · exact ordFrom_mem c L f _ x h
theorem ordFrom_len (c : ConfD) (L : List PartD) : ∀ (f : Nat) (rd : List Nat), (ordFrom c L f rd).length ≤ f
  | 0, rd => by simp [ordFrom]
  | f + 1, rd => by
    rw [ordFrom]
    split
    · simp
    · have := ordFrom_len c L f (rdNext rd (scan c L rd L.length).toNat)
      simp only [List.length_cons]
      omega
theorem row_nats {w : World} {gr : Nat} {rd : List Nat} (h : Blk w gr 3 (rdCells rd)) : GRow 1 RInt w (some ⟨gr, 0, none⟩) rd.length (ofNats rd) [gr] := by
  refine ⟨by simp [ofNats], .inr ⟨gr, 0, List.replicate rd.length [], rfl, h.lt, by simp, by simp, ?_⟩⟩
  intro i x f hx hf
  have hi : i < rd.length := by have := (List.getElem?_eq_some_iff.1 hx).1; simpa [ofNats] using this
  have hfn : f = [] := (List.mem_replicate.1 (List.mem_of_getElem? hf)).2
  subst hfn
  have hx' : x = ((rd.getD i 0 : Nat) : Int) := by
    unfold ofNats at hx
    rw [List.getElem?_map, List.getElem?_eq_getElem hi] at hx
    rw [List.getD_eq_getElem?_getD, List.getElem?_eq_getElem hi]
    simpa using hx.symm
  refine ⟨[.int .i64 x], rfl, ⟨rfl, rfl⟩, fun j hj => ?_⟩
  obtain rfl : j = 0 := by omega
  have := (h.cell i).trans (rdCells_at hi)
  rw [hx']
  simpa using this
/-- Numbers in new memory. -/
def GiveN (w : World) (l : List Int) (r : Ending) (w' : World) : Prop := ∃ (a : Option Addr) (n c' : Nat) (f : List Nat), r = .returned (.slice a n c') ∧ GRow 1 RInt w' a n l f ∧ n ≤ c' ∧ c' ≤ 9223372036854775807 ∧ Own w.heap.size w' f ∧ Below w.heap.size w w'
theorem give_nats {w wr : World} {gr len : Nat} {rd : List Nat} {l : List Int} (h : Blk wr gr 3 (rdCells rd)) (hl : rd.length = len) (hlm : len ≤ 9223372036854775807) (hg : w.heap.size ≤ gr) (hB : Below w.heap.size w wr) (e : l = ofNats rd) :
    GiveN w l (.returned (.slice (some ⟨gr, 0, none⟩) len len)) wr := by
  subst hl e
  exact ⟨_, _, _, [gr], rfl, row_nats h, Nat.le_refl _, hlm, ⟨by simp, fun b hb => by simp at hb; subst hb; exact ⟨hg, Blk.wr h⟩⟩, hB⟩

set_option maxRecDepth 100000 in
set_option maxHeartbeats 4000000 in
theorem impl_Offsets_any (c : ConfD) (ch : ConfigH) (cf : List Nat) (a : Option Addr) (len cap : Nat) (L : List PartD) (fp : List Nat) (n : Int) (w : World) (hc : Config.Is w c ch cf) (hrow : GRow 1 RPart w a len L fp) (u1 : len ≤ cap) (u2 : cap ≤ 9223372036854775807) (hE : Env w) :
    Calls Tryz.prog 21 #[.agg (Config.list c ch).toArray, .slice a len cap, .int .i64 n] w (GiveN w (offsD c L n)) := by
  have hl := hrow.1
  have HC := Lib.hid hc
  have HE := Lib.hid hE
  have HG := Lib.hid hrow
  have HO := Lib.hid (fun w h1 h2 => impl_LogsOk c ch cf a len cap L fp w h1 h2 u1 u2)
  have HMO := Lib.hid (fun w h1 h2 h3 => impl_MergeOrder_any c ch cf a len cap L fp w h1 h2 u1 u2 h3)
  clear hc hE hrow
  simp only [Config.list] at HO HMO ⊢
  go_enter Tryz.func21, Tryz.ntmps21
  go_wp2_with fail
  refine calls_gen (fun W => Below w.heap.size w W ∧ Blk W w.heap.size 33 (Config.list c ch)) ⟨by repeat (first | exact Below.refl _ _ | refine Below.setCell ?_ (by first | omega | (simp; done) | (simp; omega)) _ | refine Below.alloc ?_ (by first | omega | (simp; done) | (simp; omega)) _ | apply Below.drew), by unfold Config.list; with_reducible (repeat (first | (refine blk_new_at _ _ _ _ ?_; first | rfl | (simp; done)) | refine Blk.alloc ?_ _ | apply Blk.drew | refine Blk.setOther ?_ (by first | (simp; done) | (simp; omega)) _))⟩ ?_
  rintro W1 ⟨b1, k1⟩
  refine (HO.out _ (HC.out.below b1) (HG.out.below local_Part b1)).mono ?_
  rintro e' W2 ⟨rfl, b2⟩
  have B2 := Lib.hid (b1.trans (b2.mono b1.size))
  have K2 := Lib.hid (k1.below b2 k1.lt)
  clear b1 b2 k1
  cases hlg : logsB c L with
  | false =>
    have HM := Lib.hid (show offsD c L n = [] by unfold offsD; rw [hlg]; rfl)
    clear hlg
    go_wp2_with fail
    go_ret
    rw [HM.out]
    exact ⟨none, 0, 0, [], rfl, GRow.nil, Nat.le_refl _, Nat.zero_le _, Own.nil, B2.out⟩
  | true =>
  have hbd := logs_bounds hlg
  have htt := logs_total hlg
  have h3 : len ≤ 3 := by omega
  have h1 : 1 ≤ len := by omega
  have hmd : mergeD c L = ordD c L := by unfold mergeD; rw [hlg]; rfl
  rw [hmd] at HMO
  have HM := Lib.hid (show offsD c L n = ofNats (offsTo len ((ordD c L).take n.toNat)) by unfold offsD; rw [hlg, ← hl]; rfl)
  have hol : (ordD c L).length ≤ 72 := Nat.le_trans (ordFrom_len c L _ _) htt
  have HME := Lib.hid (fun x hx => ordFrom_mem c L (totalD L) (List.replicate L.length 0) x hx)
  clear hlg hbd hmd htt
  have hmake := fun w => run_make_n (P := Tryz.prog) 23 3 (.int .i64 0) 1 8 Tryz.underlying23 info_int .i64 .i64 len (by omega) (by omega) w
  have k0 := K2.out.cell 0
  have k1 := K2.out.cell 1
  have k2 := K2.out.cell 2
  have k3 := K2.out.cell 3
  have k4 := K2.out.cell 4
  have kl := K2.out.lt
  simp [Config.list] at k0 k1 k2 k3 k4
  go_wp2_with fail
  refine calls_gen (fun W => Below W2.heap.size W2 W ∧ Blk W W2.heap.size 3 (rdCells (List.replicate len 0))) ⟨by repeat (first | exact Below.refl _ _ | refine Below.setCell ?_ (by first | omega | (simp; done) | (simp; omega)) _ | refine Below.alloc ?_ (by first | omega | (simp; done) | (simp; omega)) _ | apply Below.drew), by rw [made_zero]; exact blk_new _ _ _⟩ ?_
  rintro W3 ⟨b3, z3⟩
  have B3 := Lib.hid (B2.out.trans (b3.mono B2.out.size))
  have Z3 := Lib.hid z3
  clear b3 z3 hmake k0 k1 k2 k3 k4
  refine (HMO.out _ (HC.out.below B3.out) (HG.out.below local_Part B3.out) (HE.out.next B3.out)).mono ?_
  rintro e' W4 ⟨ao, no, co, fo, rfl, rowo, leo, mxo, owno, b4⟩
  have B4 := Lib.hid (B3.out.trans (b4.mono B3.out.size))
  have Z4 := Lib.hid (Z3.out.below b4 Z3.out.lt)
  have RO := Lib.hid rowo
  have FO := Lib.hid (show ∀ b ∈ fo, b ≠ W2.heap.size from fun b hb => by have := (owno.2 b hb).1; have := Z3.out.lt; omega)
  have hno : (ordD c L).length = no := rowo.1
  obtain ⟨k, hk, hkl, htk⟩ := within_nat n no
  have HT := Lib.hid (htk (ordD c L) hno)
  have HW := Lib.hid (fun w => impl_within n no w)
  rw [hk] at HW
  have hk0 : (0 : Int) ≤ (k : Int) := by omega
  have hkc : (k : Int) ≤ (co : Int) := by omega
  clear rowo owno b4 hk htk Z3 B3
  go_wp2_with fail
  refine (HW.out _).mono ?_
  rintro e' W5 ⟨rfl, rfl⟩
  go_wp2_with fail
  go_loopg [28] k (fun r i wr => ∃ j : Nat, j + r = k ∧ i = .int .i64 j ∧ Blk wr W2.heap.size 3 (rdCells (offsTo len ((ordD c L).take j))) ∧ Apart [W2.heap.size] W5 wr)
  case atStart => exact ⟨0, by omega, rfl, by simp only [List.take_zero]; exact Z4.out, Apart.refl _ _⟩
  case round =>
    obtain ⟨j, hj, rfl, hZ, hA⟩ := hrel
    have HZ := Lib.hid hZ
    have HA := Lib.hid hA
    have BB := Lib.hid (B4.out.trans (hA.below (lo := w.heap.size) (by simp; omega) B4.out.size))
    by_cases hlt : j < k
    case neg =>
      obtain rfl : j = k := by omega
      clear hZ hA
      go_wp2_with fail
      go_ret
      exact give_nats (l := offsD c L n) HZ.out (offsTo_len _ _) (by omega) (by omega) BB.out (by rw [HM.out, HT.out])
    obtain ⟨b, off, x, f, cs, rfl, hbl, hx, hcl, hR, hcs⟩ := (RO.out.keep (w' := wr) local_Pos (fun b hb => hA.block b (RO.out.lt local_Pos b hb) (by simpa using FO.out b hb))).at (show j < no by omega)
    obtain ⟨rfl, rfl⟩ := hR
    have c0 : wr.cell? ⟨b, off + j * 2, none⟩ = some (.int .i64 x.1) := (hcs 0 (by omega)).trans (by simp [Pos.list])
    have c1 : wr.cell? ⟨b, off + j * 2 + 1, none⟩ = some (.int .i64 x.2) := (hcs 1 (by omega)).trans (by simp [Pos.list])
    have hmem := HME.out x (List.mem_of_getElem? hx)
    obtain ⟨P, hP⟩ : ∃ P : Nat, x.1 = (P : Int) := ⟨x.1.toNat, by omega⟩
    have HS := Lib.hid (offsTo_succ (m := len) hx)
    have hPl : P < len := by omega
    have hle := offsTo_le len ((ordD c L).take j) P
    have hle2 : ((ordD c L).take j).length ≤ 72 := by rw [List.length_take]; omega
    obtain ⟨kb, hkb⟩ : ∃ kb : Int, (((offsTo len ((ordD c L).take j)).getD P 0 : Nat) : Int) = kb := ⟨_, rfl⟩
    have hkb2 : 0 ≤ kb ∧ kb ≤ 72 := by omega
    have d0 : wr.cell? ⟨W2.heap.size, P, none⟩ = some (.int .i64 kb) := (hZ.cell P).trans (by rw [rdCells_at (by rw [offsTo_len]; exact hPl), hkb])
    have df := hZ.frozen
    have dl := hZ.lt
    have hlt2 : (j : Int) < (k : Int) := by omega
    have h02 : (0 : Int) ≤ (j : Int) := by omega
    have hP2 : (P : Int) < (len : Int) := by omega
    have hP0 : (0 : Int) ≤ (P : Int) := by omega
    have HKB := Lib.hid hkb
    have HPX := Lib.hid (show x.1.toNat = P by omega)
    rw [hP] at c0
    clear hx hcs hmem hle hle2 hkb hZ hA hcl hP
    go_wp2_with fail
    go_roundg (k - (j + 1))
    case measure => omega
    case rel =>
      refine ⟨j + 1, by omega, by go_num, ?_, ?_⟩
      · rw [HS.out, HPX.out]
        have := HZ.out.set P (.int .i64 ((((offsTo len ((ordD c L).take j)).getD P 0 : Nat) : Int) + 1))
        rw [rdCells_next, HKB.out] at this
        exact this.alloc _
      · exact (HA.out.setCell (by simp) _ _).alloc _

set_option maxRecDepth 100000 in
set_option maxHeartbeats 4000000 in
theorem spec_Offsets_any (c : ConfD) (ch : ConfigH) (cf : List Nat) (a : Option Addr) (len cap : Nat) (L : List PartD) (fp : List Nat) (n : Int) (w : World) (hc : Config.Is w c ch cf) (hrow : GRow 1 RPart w a len L fp) (u1 : len ≤ cap) (u2 : cap ≤ 9223372036854775807) (zl : szL Part.sz L ≤ 2000000) :
    Calls Tryz.prog 20 #[.agg (Config.list c ch).toArray, .slice a len cap, .int .i64 n] w (GiveN w (offsD c L n)) := by
  have hl := hrow.1
  have HC := Lib.hid hc
  have HG := Lib.hid hrow
  have HO := Lib.hid (fun w h1 h2 => spec_LogsOk c ch cf a len cap L fp w h1 h2 u1 u2)
  have HMO := Lib.hid (fun w h1 h2 => spec_MergeOrder_any c ch cf a len cap L fp w h1 h2 u1 u2 zl)
  clear hc hrow
  simp only [Config.list] at HO HMO ⊢
  go_enter Tryz.func20, Tryz.ntmps20
  go_wp2_with fail
  refine calls_gen (fun W => Below w.heap.size w W ∧ Blk W w.heap.size 33 (Config.list c ch)) ⟨by repeat (first | exact Below.refl _ _ | refine Below.setCell ?_ (by first | omega | (simp; done) | (simp; omega)) _ | refine Below.alloc ?_ (by first | omega | (simp; done) | (simp; omega)) _ | apply Below.drew), by unfold Config.list; with_reducible (repeat (first | (refine blk_new_at _ _ _ _ ?_; first | rfl | (simp; done)) | refine Blk.alloc ?_ _ | apply Blk.drew | refine Blk.setOther ?_ (by first | (simp; done) | (simp; omega)) _))⟩ ?_
  rintro W1 ⟨b1, k1⟩
  refine (HO.out _ (HC.out.below b1) (HG.out.below local_Part b1)).mono ?_
  rintro e' W2 ⟨rfl, b2⟩
  have B2 := Lib.hid (b1.trans (b2.mono b1.size))
  have K2 := Lib.hid (k1.below b2 k1.lt)
  clear b1 b2 k1
  cases hlg : logsB c L with
  | false =>
    have HM := Lib.hid (show offsD c L n = [] by unfold offsD; rw [hlg]; rfl)
    clear hlg
    go_wp2_with fail
    go_ret
    rw [HM.out]
    exact ⟨_, 0, 0, [], rfl, GRow.nil, Nat.le_refl _, Nat.zero_le _, Own.nil, B2.out.alloc B2.out.size _⟩
  | true =>
  have hbd := logs_bounds hlg
  have htt := logs_total hlg
  have h3 : len ≤ 3 := by omega
  have h1 : 1 ≤ len := by omega
  have hmd : mergeD c L = ordD c L := by unfold mergeD; rw [hlg]; rfl
  rw [hmd] at HMO
  have HM := Lib.hid (show offsD c L n = ofNats (offsTo len ((ordD c L).take n.toNat)) by unfold offsD; rw [hlg, ← hl]; rfl)
  have hol : (ordD c L).length ≤ 72 := Nat.le_trans (ordFrom_len c L _ _) htt
  have HME := Lib.hid (fun x hx => ordFrom_mem c L (totalD L) (List.replicate L.length 0) x hx)
  clear hlg hbd hmd htt
  have hmake := fun w => run_make_n (P := Tryz.prog) 23 3 (.int .i64 0) 1 8 Tryz.underlying23 info_int .i64 .i64 len (by omega) (by omega) w
  have k0 := K2.out.cell 0
  have k1 := K2.out.cell 1
  have k2 := K2.out.cell 2
  have k3 := K2.out.cell 3
  have k4 := K2.out.cell 4
  have kl := K2.out.lt
  simp [Config.list] at k0 k1 k2 k3 k4
  go_wp2_with fail
  refine calls_gen (fun W => Below W2.heap.size W2 W ∧ Blk W W2.heap.size 3 (rdCells (List.replicate len 0))) ⟨by repeat (first | exact Below.refl _ _ | refine Below.setCell ?_ (by first | omega | (simp; done) | (simp; omega)) _ | refine Below.alloc ?_ (by first | omega | (simp; done) | (simp; omega)) _ | apply Below.drew), by rw [made_zero]; exact blk_new _ _ _⟩ ?_
  rintro W3 ⟨b3, z3⟩
  have B3 := Lib.hid (B2.out.trans (b3.mono B2.out.size))
  have Z3 := Lib.hid z3
  clear b3 z3 hmake k0 k1 k2 k3 k4
  refine (HMO.out _ (HC.out.below B3.out) (HG.out.below local_Part B3.out)).mono ?_
  rintro e' W4 ⟨ao, no, co, fo, rfl, rowo, leo, mxo, owno, b4⟩
  have B4 := Lib.hid (B3.out.trans (b4.mono B3.out.size))
  have Z4 := Lib.hid (Z3.out.below b4 Z3.out.lt)
  have RO := Lib.hid rowo
  have FO := Lib.hid (show ∀ b ∈ fo, b ≠ W2.heap.size from fun b hb => by have := (owno.2 b hb).1; have := Z3.out.lt; omega)
  have hno : (ordD c L).length = no := rowo.1
  clear rowo owno b4 Z3 B3
  go_wp2_with fail
  go_loopg [9] no (fun r i wr => ∃ j : Nat, j + r = no ∧ (j : Int) ≤ max n 0 ∧ i = .int .i64 j ∧ Blk wr W2.heap.size 3 (rdCells (offsTo len ((ordD c L).take j))) ∧ Apart [W2.heap.size] W4 wr)
  case atStart => exact ⟨0, by omega, by omega, rfl, by simp only [List.take_zero]; exact Z4.out, Apart.refl _ _⟩
  case round =>
    obtain ⟨j, hj, hjn, rfl, hZ, hA⟩ := hrel
    have HZ := Lib.hid hZ
    have HA := Lib.hid hA
    have BB := Lib.hid (B4.out.trans (hA.below (lo := w.heap.size) (by simp; omega) B4.out.size))
    by_cases hln : (j : Int) < n
    case neg =>
      have HT := Lib.hid (show (ordD c L).take j = (ordD c L).take n.toNat by rw [show n.toNat = j by omega])
      clear hZ hA
      go_wp2_with fail
      go_ret
      exact give_nats (l := offsD c L n) HZ.out (offsTo_len _ _) (by omega) (by omega) BB.out (by rw [HM.out, HT.out])
    by_cases hlt : j < no
    case neg =>
      have HT := Lib.hid (show (ordD c L).take j = (ordD c L).take n.toNat by rw [List.take_of_length_le (by omega), List.take_of_length_le (by omega)])
      have hlt2 : ¬ (j : Int) < (no : Int) := by omega
      clear hZ hA
      go_wp2_with fail
      go_ret
      exact give_nats (l := offsD c L n) HZ.out (offsTo_len _ _) (by omega) (by omega) BB.out (by rw [HM.out, HT.out])
    obtain ⟨b, off, x, f, cs, rfl, hbl, hx, hcl, hR, hcs⟩ := (RO.out.keep (w' := wr) local_Pos (fun b hb => hA.block b (RO.out.lt local_Pos b hb) (by simpa using FO.out b hb))).at hlt
    obtain ⟨rfl, rfl⟩ := hR
    have c0 : wr.cell? ⟨b, off + j * 2, none⟩ = some (.int .i64 x.1) := (hcs 0 (by omega)).trans (by simp [Pos.list])
    have c1 : wr.cell? ⟨b, off + j * 2 + 1, none⟩ = some (.int .i64 x.2) := (hcs 1 (by omega)).trans (by simp [Pos.list])
    have hmem := HME.out x (List.mem_of_getElem? hx)
    obtain ⟨P, hP⟩ : ∃ P : Nat, x.1 = (P : Int) := ⟨x.1.toNat, by omega⟩
    have HS := Lib.hid (offsTo_succ (m := len) hx)
    have hPl : P < len := by omega
    have hle := offsTo_le len ((ordD c L).take j) P
    have hle2 : ((ordD c L).take j).length ≤ 72 := by rw [List.length_take]; omega
    obtain ⟨kb, hkb⟩ : ∃ kb : Int, (((offsTo len ((ordD c L).take j)).getD P 0 : Nat) : Int) = kb := ⟨_, rfl⟩
    have hkb2 : 0 ≤ kb ∧ kb ≤ 72 := by omega
    have d0 : wr.cell? ⟨W2.heap.size, P, none⟩ = some (.int .i64 kb) := (hZ.cell P).trans (by rw [rdCells_at (by rw [offsTo_len]; exact hPl), hkb])
    have df := hZ.frozen
    have dl := hZ.lt
    have hlt2 : (j : Int) < (no : Int) := by omega
    have h02 : (0 : Int) ≤ (j : Int) := by omega
    have hP2 : (P : Int) < (len : Int) := by omega
    have hP0 : (0 : Int) ≤ (P : Int) := by omega
    have HKB := Lib.hid hkb
    have HPX := Lib.hid (show x.1.toNat = P by omega)
    rw [hP] at c0
    clear hx hcs hmem hle hle2 hkb hZ hA hcl hP
    go_wp2_with fail
    go_roundg (no - (j + 1))
    case measure => omega
    case rel =>
      refine ⟨j + 1, by omega, by omega, by go_num, ?_, ?_⟩
      · rw [HS.out, HPX.out]
        have := HZ.out.set P (.int .i64 ((((offsTo len ((ordD c L).take j)).getD P 0 : Nat) : Int) + 1))
        rw [rdCells_next, HKB.out] at this
        exact this
      · exact HA.out.setCell (by simp) _ _
end Go.Proofs.YtdipkbgfkbmfnaaGreatDoor.dat

/-
  THE CONTRACTS OF MarkAt of the program and of the model: the lowest of the parts' marks behind the first n records; nothing that was there is written.
-/
namespace Go.Proofs.YtdipkbgfkbmfnaaGreatDoor.dat
open Go.RowKit Go.Proofs.YtdipkbgfkbmfnaaGreatDoor.win
open Go.Proofs.YtdipkbgfkbmfnaaGreatDoor.num (Env Env.next)

theorem own_mem {α : Type} {k : Nat} {R : Rel α} {w : World} {b off len : Nat} {l : List α} {fp : List Nat} (h : GRow k R w (some ⟨b, off, none⟩) len l fp) (h0 : 0 < len) : b ∈ fp := by
  rcases h.2 with ⟨h1, _⟩ | ⟨b', off', F, e, _, rfl, _⟩
  · omega
  · cases e; simp
/-- The marks of the first j parts, so many of their records read. -/
noncomputable def marksTo (c : ConfD) (L : List PartD) (o : List Int) (j : Nat) : List Int := (List.range j).map fun p => mk c L p (o.getD p 0).toNat
/-- MarkAt. -/
noncomputable def markAtD (c : ConfD) (L : List PartD) (n : Int) : Int := lowD (marksTo c L (offsD c L n) (offsD c L n).length)
theorem marksTo_succ (c : ConfD) (L : List PartD) (o : List Int) (j : Nat) : marksTo c L o (j + 1) = marksTo c L o j ++ [mk c L j (o.getD j 0).toNat] := by
  unfold marksTo
  rw [List.range_succ, List.map_append]
  rfl
theorem marksTo_len (c : ConfD) (L : List PartD) (o : List Int) (j : Nat) : (marksTo c L o j).length = j := by simp [marksTo]
theorem mk_off {c : ConfD} {L : List PartD} {p : Nat} {x : PartD} {z : Int} (hx : L[p]? = some x) : mk c L p z.toNat = markD c x z := by
  unfold mk markD
  rw [recsOf_at hx]
theorem offsD_len (c : ConfD) (L : List PartD) (n : Int) : (offsD c L n).length ≤ L.length := by
  unfold offsD
  split
  · simp [ofNats, offsTo_len]
  · simp
theorem offsD_small (c : ConfD) (L : List PartD) (n : Int) : (offsD c L n).length ≤ 3 := by
  cases h : logsB c L with
  | false => unfold offsD; rw [h]; simp
  | true => have := offsD_len c L n; have := (logs_bounds h).2.1; omega

set_option maxRecDepth 100000 in
set_option maxHeartbeats 1000000 in
theorem impl_MarkAt_any (c : ConfD) (ch : ConfigH) (cf : List Nat) (a : Option Addr) (len cap : Nat) (L : List PartD) (fp : List Nat) (n : Int) (w : World) (hc : Config.Is w c ch cf) (hrow : GRow 1 RPart w a len L fp) (u1 : len ≤ cap) (u2 : cap ≤ 9223372036854775807) (zl : szL Part.sz L ≤ 2000000) (hE : Env w) :
    Calls Tryz.prog 26 #[.agg (Config.list c ch).toArray, .slice a len cap, .int .i64 n] w fun e w' => e = .returned (.int .i64 (markAtD c L n)) ∧ Below w.heap.size w w' := by
  have hl := hrow.1
  obtain ⟨H, hlog⟩ := logs_of hrow
  have HL := Lib.hid hlog
  have HC := Lib.hid hc
  have HE := Lib.hid hE
  have HG := Lib.hid hrow
  have HZ := Lib.hid (fun x (hx : x ∈ L) => show Part.sz x ≤ 2000000 by
    obtain ⟨i, hi, rfl⟩ := List.getElem_of_mem hx
    have := sz_elem_le Part.sz L (List.getElem?_eq_getElem hi)
    unfold szL at zl
    omega)
  have HOF := Lib.hid (fun w h1 h2 h3 => impl_Offsets_any c ch cf a len cap L fp n w h1 h2 u1 u2 h3)
  have HMK := Lib.hid (fun x h f n w h1 h2 h3 h4 => impl_MarkOf_any c ch cf x h f n w h1 h2 h3 h4)
  have HMA := Lib.hid (show markAtD c L n = lowD (marksTo c L (offsD c L n) (offsD c L n).length) from rfl)
  have hol := offsD_len c L n
  have ho3 := offsD_small c L n
  obtain ⟨o, ho⟩ : ∃ o, offsD c L n = o := ⟨_, rfl⟩
  rw [ho] at HOF HMA hol ho3
  clear hc hrow hlog zl ho hE
  simp only [Config.list, Part.list] at HOF HMK ⊢
  go_enter Tryz.func26, Tryz.ntmps26
  go_wp2_with fail
  refine calls_gen (fun W => Below w.heap.size w W ∧ Blk W w.heap.size 33 (Config.list c ch)) ⟨by repeat (first | exact Below.refl _ _ | refine Below.setCell ?_ (by first | omega | (simp; done) | (simp; omega)) _ | refine Below.alloc ?_ (by first | omega | (simp; done) | (simp; omega)) _ | apply Below.drew), by unfold Config.list; with_reducible (repeat (first | (refine blk_new_at _ _ _ _ ?_; first | rfl | (simp; done)) | refine Blk.alloc ?_ _ | apply Blk.drew | refine Blk.setOther ?_ (by first | (simp; done) | (simp; omega)) _))⟩ ?_
  rintro W1 ⟨b1, k1⟩
  refine (HOF.out _ (HC.out.below b1) (HG.out.below local_Part b1) (HE.out.next b1)).mono ?_
  rintro e' W2 ⟨ao, no, co, fo, rfl, rowo, leo, mxo, owno, b2⟩
  have B2 := Lib.hid (b1.trans (b2.mono b1.size))
  have K2 := Lib.hid (k1.below b2 k1.lt)
  have RO := Lib.hid rowo
  have OO := Lib.hid owno
  have hno : o.length = no := rowo.1
  have hw1 : w.heap.size < W1.heap.size := k1.lt
  have hw2 : W1.heap.size ≤ W2.heap.size := b2.size
  clear b1 b2 k1 rowo owno HOF
  obtain ⟨i0, hi, hi2⟩ := Option.map_eq_some_iff.1 info_int
  simp only [Prod.mk.injEq] at hi2
  obtain ⟨hz0, hz1, hz2⟩ := hi2
  go_wp2_with fail
  go_loopg [7, 15] no (fun r v i wr => ∃ j : Nat, j + r = no ∧ i = .int .i64 j ∧ Grows 1 RInt 3 W2.heap.size wr v (marksTo c L o j) ∧ Below W2.heap.size W2 wr)
  case atStart => exact ⟨0, by omega, rfl, Grows.nil, Below.refl _ _⟩
  case round =>
    obtain ⟨j, hj, rfl, hGo, hBB⟩ := hrel
    have hB := B2.out.trans (hBB.mono B2.out.size)
    have hsz := hBB.size
    have hkp : ∀ b, b < W2.heap.size → wr.heap[b]? = W2.heap[b]? := fun b h => hBB.block b h
    have HBB := Lib.hid hBB
    obtain ⟨av, cv, ev⟩ := hGo.slice
    rw [marksTo_len] at ev
    subst ev
    have HGo := Lib.hid hGo
    have HB := Lib.hid hB
    have hrowi := RO.out.keep (w' := wr) local_int (fun b hb => hkp b (RO.out.lt local_int b hb))
    have hconf : Blk wr w.heap.size 33 (Config.list c ch) := (hkp _ K2.out.lt).trans K2.out
    by_cases hlt : j < no
    case neg =>
      obtain rfl : j = no := by omega
      obtain ⟨af, capf, ff, ef, rf, lf, mf, of'⟩ := hGo.done
      rw [marksTo_len] at ef rf lf
      cases ef
      have RF := Lib.hid rf
      have hle : (marksTo c L o j).length ≤ 2000000 := by rw [marksTo_len]; omega
      have HLE := Lib.hid hle
      have LF := Lib.hid (And.intro lf mf)
      clear hGo hB hsz hkp hrowi hconf rf lf mf of' hle hBB
      go_wp2_with fail
      refine (impl_Lowest av j cv (marksTo c L o j) ff wr RF.out LF.out.1 LF.out.2 HLE.out).mono ?_
      rintro e w3 ⟨rfl, b3⟩
      have B3 := Lib.hid (HB.out.trans (b3.mono HB.out.size))
      clear b3
      go_wp2_with fail
      go_ret
      exact ⟨ret_int (by rw [HMA.out, hno]), B3.out⟩
    obtain ⟨x, hx⟩ : ∃ x, L[j]? = some x := ⟨L[j]'(by omega), List.getElem?_eq_getElem (by omega)⟩
    obtain ⟨b, off, hh, ff, ea, hbl, -, hIs0, hcl0⟩ := HL.out.el j x hx
    subst ea
    obtain ⟨ra, rl, rc⟩ := hh
    simp only at hcl0
    have hIs := hIs0.below hB
    have hcl := (hB.cell (p := ⟨b, off + j, none⟩) hbl).trans hcl0
    clear hIs0 hcl0
    obtain ⟨b', off', z, f', cs', ea', hbl', hz, hcl', hR', hcs'⟩ := hrowi.at hlt
    subst ea'
    have hbf := own_mem RO.out (by omega)
    have hb1 := (OO.out.2 b' hbf).1
    have hb2 := RO.out.lt local_int b' hbf
    clear hbf
    obtain ⟨rfl, rfl⟩ := hR'
    have d0 : wr.cell? ⟨b', off' + j, none⟩ = some (.int .i64 z) := by have := hcs' 0 (by omega); simpa using this
    have hoz : o.getD j 0 = z := by rw [List.getD_eq_getElem?_getD, hz]; rfl
    have HM := Lib.hid (show marksTo c L o (j + 1) = marksTo c L o j ++ [markD c x z] by rw [marksTo_succ, hoz, mk_off hx])
    have zx := HZ.out x (List.mem_of_getElem? hx)
    have HIS := Lib.hid hIs
    have hlt2 : (j : Int) < (no : Int) := by omega
    have hlt3 : (j : Int) < (len : Int) := by omega
    have h02 : (0 : Int) ≤ (j : Int) := by omega
    have c0 := hconf.cell 0
    have c1 := hconf.cell 1
    have c2 := hconf.cell 2
    have c3 := hconf.cell 3
    have c4 := hconf.cell 4
    simp [Config.list] at c0 c1 c2 c3 c4
    obtain ⟨m, hm⟩ : ∃ m, markD c x z = m := ⟨_, rfl⟩
    have M1 := Lib.hid (fun w h1 h2 h4 => HMK.out x ⟨ra, rl, rc⟩ ff z w h1 h2 zx h4)
    rw [hm] at M1 HM
    have hkl : w.heap.size < wr.heap.size := hconf.lt
    clear hm hx hIs hz hoz hcs' hcl' hrowi hconf hGo hB hkp hBB zx
    go_wp2_with fail
    refine mix.wp_region_ord (fun w' => w'.cell? ⟨w.heap.size, 0, none⟩ = some (.int .i64 c.d) ∧ w'.cell? ⟨w.heap.size, 1, none⟩ = some (.slice ch.wsa ch.wsl ch.wsc) ∧ w'.cell? ⟨w.heap.size, 2, none⟩ = some (.slice ch.msa ch.msl ch.msc) ∧ w'.cell? ⟨w.heap.size, 3, none⟩ = some (.int .i64 c.dl) ∧ w'.cell? ⟨w.heap.size, 4, none⟩ = some (.int .i64 c.lt) ∧ w'.cell? ⟨b, off + j, none⟩ = some (.slice ra rl rc)) [7,8,9] [0,1,2,3,4,5,6,7,8,9,10] (by kernel_rfl) (by kernel_rfl) (fun _ _ d _ _ h => by cases d <;> exact h) ⟨c0, c1, c2, c3, c4, hcl⟩ ?_
    have HS0 : Hid ((fun w' => w'.cell? ⟨w.heap.size, 0, none⟩ = some (.int .i64 c.d) ∧ w'.cell? ⟨w.heap.size, 1, none⟩ = some (.slice ch.wsa ch.wsl ch.wsc) ∧ w'.cell? ⟨w.heap.size, 2, none⟩ = some (.slice ch.msa ch.msl ch.msc) ∧ w'.cell? ⟨w.heap.size, 3, none⟩ = some (.int .i64 c.dl) ∧ w'.cell? ⟨w.heap.size, 4, none⟩ = some (.int .i64 c.lt) ∧ w'.cell? ⟨b, off + j, none⟩ = some (.slice ra rl rc)) wr.drew) := ⟨c0, c1, c2, c3, c4, hcl⟩
    clear c0 c1 c2 c3 c4 hcl
    simp only [List.filterMap_cons, List.filterMap_nil, List.getElem?_cons_zero, List.getElem?_cons_succ, Option.map_some]
    (repeat (first | (apply mix.ord_take; (· rfl); (· rfl); (· (intro w' hSw; (try dsimp only at hSw); go_simp; try with_reducible rfl)); (try simp only [Act.put, List.setIfInBounds_toArray, List.set_cons_zero, List.set_cons_succ])) | ((refine mix.ord_pass rfl (by rfl) ?_); (try simp only [Act.put, List.setIfInBounds_toArray, List.set_cons_zero, List.set_cons_succ]))))
    refine mix.ord_hard rfl (fun K hK => ?_); go_simp
    refine (M1.out _ (HC.out.below HB.out.drew) (HIS.out.below (Below.refl _ _).drew) (HE.out.next HB.out.drew)).mono ?_
    rintro e W5 ⟨rfl, b5⟩
    have bq5 := (Below.refl wr.heap.size wr).drew.trans b5
    have HS1 : Hid ((fun w' => w'.cell? ⟨w.heap.size, 0, none⟩ = some (.int .i64 c.d) ∧ w'.cell? ⟨w.heap.size, 1, none⟩ = some (.slice ch.wsa ch.wsl ch.wsc) ∧ w'.cell? ⟨w.heap.size, 2, none⟩ = some (.slice ch.msa ch.msl ch.msc) ∧ w'.cell? ⟨w.heap.size, 3, none⟩ = some (.int .i64 c.dl) ∧ w'.cell? ⟨w.heap.size, 4, none⟩ = some (.int .i64 c.lt) ∧ w'.cell? ⟨b, off + j, none⟩ = some (.slice ra rl rc)) W5) := by
      obtain ⟨e0, e1, e2, e3, e4, e5⟩ := HS0.out
      exact ⟨(b5.cell (p := ⟨w.heap.size, 0, none⟩) (World.block_lt_of_cell? _ _ e0)).trans e0, (b5.cell (p := ⟨w.heap.size, 1, none⟩) (World.block_lt_of_cell? _ _ e1)).trans e1, (b5.cell (p := ⟨w.heap.size, 2, none⟩) (World.block_lt_of_cell? _ _ e2)).trans e2, (b5.cell (p := ⟨w.heap.size, 3, none⟩) (World.block_lt_of_cell? _ _ e3)).trans e3, (b5.cell (p := ⟨w.heap.size, 4, none⟩) (World.block_lt_of_cell? _ _ e4)).trans e4, (b5.cell (p := ⟨b, off + j, none⟩) (World.block_lt_of_cell? _ _ e5)).trans e5⟩
    have B5 := Lib.hid bq5
    have hsz5 := bq5.size
    clear b5 bq5 HS0
    refine hK.out _ _ (HS1.out) (fun hSw => ?_); clear hK K hSw; (try simp only [Act.put, List.setIfInBounds_toArray, List.set_cons_zero, List.set_cons_succ])
    refine mix.ord_hard rfl (fun K hK => ?_); go_simp
    have b6 : Below W5.heap.size W5 (W5.alloc (.cells #[.int .i64 m] 3)) := (Below.refl _ _).alloc (Nat.le_refl _) _
    have HS2 : Hid ((fun w' => w'.cell? ⟨w.heap.size, 0, none⟩ = some (.int .i64 c.d) ∧ w'.cell? ⟨w.heap.size, 1, none⟩ = some (.slice ch.wsa ch.wsl ch.wsc) ∧ w'.cell? ⟨w.heap.size, 2, none⟩ = some (.slice ch.msa ch.msl ch.msc) ∧ w'.cell? ⟨w.heap.size, 3, none⟩ = some (.int .i64 c.dl) ∧ w'.cell? ⟨w.heap.size, 4, none⟩ = some (.int .i64 c.lt) ∧ w'.cell? ⟨b, off + j, none⟩ = some (.slice ra rl rc)) (W5.alloc (.cells #[.int .i64 m] 3))) := by
      obtain ⟨e0, e1, e2, e3, e4, e5⟩ := HS1.out
      exact ⟨(b6.cell (p := ⟨w.heap.size, 0, none⟩) (World.block_lt_of_cell? _ _ e0)).trans e0, (b6.cell (p := ⟨w.heap.size, 1, none⟩) (World.block_lt_of_cell? _ _ e1)).trans e1, (b6.cell (p := ⟨w.heap.size, 2, none⟩) (World.block_lt_of_cell? _ _ e2)).trans e2, (b6.cell (p := ⟨w.heap.size, 3, none⟩) (World.block_lt_of_cell? _ _ e3)).trans e3, (b6.cell (p := ⟨w.heap.size, 4, none⟩) (World.block_lt_of_cell? _ _ e4)).trans e4, (b6.cell (p := ⟨b, off + j, none⟩) (World.block_lt_of_cell? _ _ e5)).trans e5⟩
    refine hK.out _ _ (HS2.out) (fun hSw => ?_); clear hK K hSw; (try simp only [Act.put, List.setIfInBounds_toArray, List.set_cons_zero, List.set_cons_succ])
    refine mix.ord_hard rfl (fun K hK => ?_); simp only [Region.wanted, if_true]
    refine push_wp (v := .slice av j cv) local_int _ _ 23 rfl i0 (.int .i64 0) 8 Tryz.underlying23 hi hz0 hz1 hz2 rfl (by decide) rfl (HGo.out.below local_int B5.out) b6 W5.heap.size 1 rfl [.int .i64 m] rfl (fun u hu => by simp at hu; subst hu; rfl) (fun j u hj => ((blk_new W5 3 [.int .i64 m]).cell j).trans hj) m [] ⟨rfl, rfl⟩ Own.nil (by rw [marksTo_len]; omega) (by rw [marksTo_len]; unfold maxLen; omega) (by omega) ?_
    intro v8 W8 hG8 hb8 hk8 hw8
    have b8 : Below W2.heap.size W5 W8 := ((Below.refl _ _).alloc (by omega) _).trans hb8
    have HS3 : Hid ((fun w' => w'.cell? ⟨w.heap.size, 0, none⟩ = some (.int .i64 c.d) ∧ w'.cell? ⟨w.heap.size, 1, none⟩ = some (.slice ch.wsa ch.wsl ch.wsc) ∧ w'.cell? ⟨w.heap.size, 2, none⟩ = some (.slice ch.msa ch.msl ch.msc) ∧ w'.cell? ⟨w.heap.size, 3, none⟩ = some (.int .i64 c.dl) ∧ w'.cell? ⟨w.heap.size, 4, none⟩ = some (.int .i64 c.lt) ∧ w'.cell? ⟨b, off + j, none⟩ = some (.slice ra rl rc)) W8) := by
      obtain ⟨e0, e1, e2, e3, e4, e5⟩ := HS1.out
      exact ⟨(b8.cell (p := ⟨w.heap.size, 0, none⟩) (by show w.heap.size < _; omega)).trans e0, (b8.cell (p := ⟨w.heap.size, 1, none⟩) (by show w.heap.size < _; omega)).trans e1, (b8.cell (p := ⟨w.heap.size, 2, none⟩) (by show w.heap.size < _; omega)).trans e2, (b8.cell (p := ⟨w.heap.size, 3, none⟩) (by show w.heap.size < _; omega)).trans e3, (b8.cell (p := ⟨w.heap.size, 4, none⟩) (by show w.heap.size < _; omega)).trans e4, (b8.cell (p := ⟨b, off + j, none⟩) (by show b < _; omega)).trans e5⟩
    have HB8 := Lib.hid (show Below W2.heap.size W2 W8 from (HBB.out.trans (B5.out.mono HBB.out.size)).trans b8)
    have G8 := Lib.hid hG8
    clear hG8 hb8 hk8 hw8 b6 HS2 HS1 b8
    refine hK.out _ _ (HS3.out) (fun hSw => ?_); clear hK K hSw; (try simp only [Act.put, List.setIfInBounds_toArray, List.set_cons_zero, List.set_cons_succ])
    clear HS3
    (repeat (first | (apply mix.ord_take; (· rfl); (· rfl); (· (intro w' hSw; (try dsimp only at hSw); go_simp; try with_reducible rfl)); (try simp only [Act.put, List.setIfInBounds_toArray, List.set_cons_zero, List.set_cons_succ])) | ((refine mix.ord_pass rfl (by rfl) ?_); (try simp only [Act.put, List.setIfInBounds_toArray, List.set_cons_zero, List.set_cons_succ]))))
    refine mix.ord_end ?_
    go_wp2_with fail
    go_roundg (no - (j + 1))
    case measure => omega
    case rel => exact ⟨j + 1, by omega, by go_num, by rw [HM.out]; exact G8.out, HB8.out⟩

set_option maxRecDepth 100000 in
set_option maxHeartbeats 1000000 in
theorem spec_MarkAt_any (c : ConfD) (ch : ConfigH) (cf : List Nat) (a : Option Addr) (len cap : Nat) (L : List PartD) (fp : List Nat) (n : Int) (w : World) (hc : Config.Is w c ch cf) (hrow : GRow 1 RPart w a len L fp) (u1 : len ≤ cap) (u2 : cap ≤ 9223372036854775807) (zl : szL Part.sz L ≤ 2000000) :
    Calls Tryz.prog 25 #[.agg (Config.list c ch).toArray, .slice a len cap, .int .i64 n] w fun e w' => e = .returned (.int .i64 (markAtD c L n)) ∧ Below w.heap.size w w' := by
  have hl := hrow.1
  obtain ⟨H, hlog⟩ := logs_of hrow
  have HL := Lib.hid hlog
  have HC := Lib.hid hc
  have HG := Lib.hid hrow
  have HZ := Lib.hid (fun x (hx : x ∈ L) => show Part.sz x ≤ 2000000 by
    obtain ⟨i, hi, rfl⟩ := List.getElem_of_mem hx
    have := sz_elem_le Part.sz L (List.getElem?_eq_getElem hi)
    unfold szL at zl
    omega)
  have HOF := Lib.hid (fun w h1 h2 => spec_Offsets_any c ch cf a len cap L fp n w h1 h2 u1 u2 zl)
  have HMK := Lib.hid (fun x h f n w h1 h2 h3 => spec_MarkOf_any c ch cf x h f n w h1 h2 h3)
  have HMA := Lib.hid (show markAtD c L n = lowD (marksTo c L (offsD c L n) (offsD c L n).length) from rfl)
  have hol := offsD_len c L n
  have ho3 := offsD_small c L n
  obtain ⟨o, ho⟩ : ∃ o, offsD c L n = o := ⟨_, rfl⟩
  rw [ho] at HOF HMA hol ho3
  clear hc hrow hlog zl ho
  simp only [Config.list, Part.list] at HOF HMK ⊢
  go_enter Tryz.func25, Tryz.ntmps25
  go_wp2_with fail
  refine calls_gen (fun W => Below w.heap.size w W ∧ Blk W w.heap.size 33 (Config.list c ch) ∧ Grows 1 RInt 3 (w.heap.size + 1) W (.slice (some ⟨w.heap.size + 1, 0, none⟩) 0 0) ([] : List Int)) ⟨by repeat (first | exact Below.refl _ _ | refine Below.setCell ?_ (by first | omega | (simp; done) | (simp; omega)) _ | refine Below.alloc ?_ (by first | omega | (simp; done) | (simp; omega)) _ | apply Below.drew), by unfold Config.list; with_reducible (repeat (first | (refine blk_new_at _ _ _ _ ?_; first | rfl | (simp; done)) | refine Blk.alloc ?_ _ | apply Blk.drew | refine Blk.setOther ?_ (by first | (simp; done) | (simp; omega)) _)), ?_⟩ ?_
  · have := Grows.made (k := 1) (R := RInt) (e := 3) (base := w.heap.size + 1) (w := w.alloc (.cells (Config.list c ch).toArray 33)) #[] 0 (by simp) (by simp [maxLen]) rfl
    simpa [Config.list] using this
  rintro W1 ⟨b1, k1, g1⟩
  have hg1 := g1.lt _ rfl
  refine (HOF.out _ (HC.out.below b1) (HG.out.below local_Part b1)).mono ?_
  rintro e' W2 ⟨ao, no, co, fo, rfl, rowo, leo, mxo, owno, b2⟩
  have B2 := Lib.hid (b1.trans (b2.mono b1.size))
  have K2 := Lib.hid (k1.below b2 k1.lt)
  have G2 := Lib.hid (g1.below local_int b2)
  have RO := Lib.hid rowo
  have OO := Lib.hid owno
  have hno : o.length = no := rowo.1
  have hw1 : w.heap.size < W1.heap.size := k1.lt
  have hw2 : W1.heap.size ≤ W2.heap.size := b2.size
  clear b1 b2 k1 rowo owno HOF g1
  obtain ⟨i0, hi, hi2⟩ := Option.map_eq_some_iff.1 info_int
  simp only [Prod.mk.injEq] at hi2
  obtain ⟨hz0, hz1, hz2⟩ := hi2
  go_wp2_with fail
  go_loopg [7, 9] no (fun r v i wr => ∃ j : Nat, j + r = no ∧ i = .int .i64 j ∧ Grows 1 RInt 3 (w.heap.size + 1) wr v (marksTo c L o j) ∧ (∀ b, v.ownBlock = some b → b = w.heap.size + 1 ∨ W2.heap.size ≤ b) ∧ (∀ b, b < W2.heap.size → b ≠ w.heap.size + 1 → wr.heap[b]? = W2.heap[b]?) ∧ Below w.heap.size w wr ∧ W2.heap.size ≤ wr.heap.size)
  case atStart => exact ⟨0, by omega, rfl, G2.out, fun b hb => .inl (by simpa [Value.ownBlock] using hb.symm), fun _ _ _ => rfl, B2.out, Nat.le_refl _⟩
  case round =>
    obtain ⟨j, hj, rfl, hGo, hob, hkp, hB, hsz⟩ := hrel
    obtain ⟨av, cv, ev⟩ := hGo.slice
    rw [marksTo_len] at ev
    subst ev
    have HGo := Lib.hid hGo
    have HB := Lib.hid hB
    have HOB := Lib.hid hob
    have HKP := Lib.hid hkp
    have hrowi := RO.out.keep (w' := wr) local_int (fun b hb => hkp b (RO.out.lt local_int b hb) (by have := (OO.out.2 b hb).1; omega))
    have hconf : Blk wr w.heap.size 33 (Config.list c ch) := (hkp _ K2.out.lt (by omega)).trans K2.out
    by_cases hlt : j < no
    case neg =>
      obtain rfl : j = no := by omega
      obtain ⟨af, capf, ff, ef, rf, lf, mf, of'⟩ := hGo.done
      rw [marksTo_len] at ef rf lf
      cases ef
      have RF := Lib.hid rf
      have hle : (marksTo c L o j).length ≤ 2000000 := by rw [marksTo_len]; omega
      have HLE := Lib.hid hle
      have LF := Lib.hid (And.intro lf mf)
      clear hGo hB hsz hkp hrowi hconf rf lf mf of' hle hob
      go_wp2_with fail
      refine (spec_Lowest av j cv (marksTo c L o j) ff wr RF.out LF.out.1 LF.out.2 HLE.out).mono ?_
      rintro e w3 ⟨rfl, b3⟩
      have B3 := Lib.hid (HB.out.trans (b3.mono HB.out.size))
      clear b3
      go_wp2_with fail
      go_ret
      exact ⟨ret_int (by rw [HMA.out, hno]), B3.out⟩
    obtain ⟨x, hx⟩ : ∃ x, L[j]? = some x := ⟨L[j]'(by omega), List.getElem?_eq_getElem (by omega)⟩
    obtain ⟨b, off, hh, ff, ea, hbl, -, hIs0, hcl0⟩ := HL.out.el j x hx
    subst ea
    obtain ⟨ra, rl, rc⟩ := hh
    simp only at hcl0
    have hIs := hIs0.below hB
    have hcl := (hB.cell (p := ⟨b, off + j, none⟩) hbl).trans hcl0
    clear hIs0 hcl0
    obtain ⟨b', off', z, f', cs', ea', hbl', hz, hcl', hR', hcs'⟩ := hrowi.at hlt
    subst ea'
    have hbf := own_mem RO.out (by omega)
    have hb1 := (OO.out.2 b' hbf).1
    have hb2 := RO.out.lt local_int b' hbf
    clear hbf
    obtain ⟨rfl, rfl⟩ := hR'
    have d0 : wr.cell? ⟨b', off' + j, none⟩ = some (.int .i64 z) := by have := hcs' 0 (by omega); simpa using this
    have hoz : o.getD j 0 = z := by rw [List.getD_eq_getElem?_getD, hz]; rfl
    have HM := Lib.hid (show marksTo c L o (j + 1) = marksTo c L o j ++ [markD c x z] by rw [marksTo_succ, hoz, mk_off hx])
    have zx := HZ.out x (List.mem_of_getElem? hx)
    have HIS := Lib.hid hIs
    have hlt2 : (j : Int) < (no : Int) := by omega
    have hlt3 : (j : Int) < (len : Int) := by omega
    have h02 : (0 : Int) ≤ (j : Int) := by omega
    have c0 := hconf.cell 0
    have c1 := hconf.cell 1
    have c2 := hconf.cell 2
    have c3 := hconf.cell 3
    have c4 := hconf.cell 4
    simp [Config.list] at c0 c1 c2 c3 c4
    obtain ⟨m, hm⟩ : ∃ m, markD c x z = m := ⟨_, rfl⟩
    have M1 := Lib.hid (fun w h1 h2 => HMK.out x ⟨ra, rl, rc⟩ ff z w h1 h2 zx)
    rw [hm] at M1 HM
    have hkl : w.heap.size < wr.heap.size := hconf.lt
    clear hm hx hIs hz hoz hcs' hcl' hrowi hconf hGo hB hkp hob zx
    go_wp2_with fail
    refine mix.wp_region_ord (fun w' => w'.cell? ⟨w.heap.size, 0, none⟩ = some (.int .i64 c.d) ∧ w'.cell? ⟨w.heap.size, 1, none⟩ = some (.slice ch.wsa ch.wsl ch.wsc) ∧ w'.cell? ⟨w.heap.size, 2, none⟩ = some (.slice ch.msa ch.msl ch.msc) ∧ w'.cell? ⟨w.heap.size, 3, none⟩ = some (.int .i64 c.dl) ∧ w'.cell? ⟨w.heap.size, 4, none⟩ = some (.int .i64 c.lt) ∧ w'.cell? ⟨b, off + j, none⟩ = some (.slice ra rl rc) ∧ w'.cell? ⟨b', off' + j, none⟩ = some (.int .i64 z)) [10,11,12] [0,1,2,3,4,5,6,7,8,9,10,11,12,13] (by kernel_rfl) (by kernel_rfl) (fun _ _ d _ _ h => by cases d <;> exact h) ⟨c0, c1, c2, c3, c4, hcl, d0⟩ ?_
    have HS0 : Hid ((fun w' => w'.cell? ⟨w.heap.size, 0, none⟩ = some (.int .i64 c.d) ∧ w'.cell? ⟨w.heap.size, 1, none⟩ = some (.slice ch.wsa ch.wsl ch.wsc) ∧ w'.cell? ⟨w.heap.size, 2, none⟩ = some (.slice ch.msa ch.msl ch.msc) ∧ w'.cell? ⟨w.heap.size, 3, none⟩ = some (.int .i64 c.dl) ∧ w'.cell? ⟨w.heap.size, 4, none⟩ = some (.int .i64 c.lt) ∧ w'.cell? ⟨b, off + j, none⟩ = some (.slice ra rl rc) ∧ w'.cell? ⟨b', off' + j, none⟩ = some (.int .i64 z)) wr.drew) := ⟨c0, c1, c2, c3, c4, hcl, d0⟩
    clear c0 c1 c2 c3 c4 hcl d0
    simp only [List.filterMap_cons, List.filterMap_nil, List.getElem?_cons_zero, List.getElem?_cons_succ, Option.map_some]
    (repeat (first | (apply mix.ord_take; (· rfl); (· rfl); (· (intro w' hSw; (try dsimp only at hSw); go_simp; try with_reducible rfl)); (try simp only [Act.put, List.setIfInBounds_toArray, List.set_cons_zero, List.set_cons_succ])) | ((refine mix.ord_pass rfl (by rfl) ?_); (try simp only [Act.put, List.setIfInBounds_toArray, List.set_cons_zero, List.set_cons_succ]))))
    refine mix.ord_hard rfl (fun K hK => ?_); go_simp
    refine (M1.out _ (HC.out.below HB.out.drew) (HIS.out.below (Below.refl _ _).drew)).mono ?_
    rintro e W5 ⟨rfl, b5⟩
    have bq5 := (Below.refl wr.heap.size wr).drew.trans b5
    have HS1 : Hid ((fun w' => w'.cell? ⟨w.heap.size, 0, none⟩ = some (.int .i64 c.d) ∧ w'.cell? ⟨w.heap.size, 1, none⟩ = some (.slice ch.wsa ch.wsl ch.wsc) ∧ w'.cell? ⟨w.heap.size, 2, none⟩ = some (.slice ch.msa ch.msl ch.msc) ∧ w'.cell? ⟨w.heap.size, 3, none⟩ = some (.int .i64 c.dl) ∧ w'.cell? ⟨w.heap.size, 4, none⟩ = some (.int .i64 c.lt) ∧ w'.cell? ⟨b, off + j, none⟩ = some (.slice ra rl rc) ∧ w'.cell? ⟨b', off' + j, none⟩ = some (.int .i64 z)) W5) := by
      obtain ⟨e0, e1, e2, e3, e4, e5, e6⟩ := HS0.out
      exact ⟨(b5.cell (p := ⟨w.heap.size, 0, none⟩) (World.block_lt_of_cell? _ _ e0)).trans e0, (b5.cell (p := ⟨w.heap.size, 1, none⟩) (World.block_lt_of_cell? _ _ e1)).trans e1, (b5.cell (p := ⟨w.heap.size, 2, none⟩) (World.block_lt_of_cell? _ _ e2)).trans e2, (b5.cell (p := ⟨w.heap.size, 3, none⟩) (World.block_lt_of_cell? _ _ e3)).trans e3, (b5.cell (p := ⟨w.heap.size, 4, none⟩) (World.block_lt_of_cell? _ _ e4)).trans e4, (b5.cell (p := ⟨b, off + j, none⟩) (World.block_lt_of_cell? _ _ e5)).trans e5, (b5.cell (p := ⟨b', off' + j, none⟩) (World.block_lt_of_cell? _ _ e6)).trans e6⟩
    have B5 := Lib.hid bq5
    have hsz5 := bq5.size
    clear b5 bq5 HS0
    refine hK.out _ _ (HS1.out) (fun hSw => ?_); clear hK K hSw; (try simp only [Act.put, List.setIfInBounds_toArray, List.set_cons_zero, List.set_cons_succ])
    refine mix.ord_hard rfl (fun K hK => ?_); go_simp
    have b6 : Below W5.heap.size W5 (W5.alloc (.cells #[.int .i64 m] 3)) := (Below.refl _ _).alloc (Nat.le_refl _) _
    have HS2 : Hid ((fun w' => w'.cell? ⟨w.heap.size, 0, none⟩ = some (.int .i64 c.d) ∧ w'.cell? ⟨w.heap.size, 1, none⟩ = some (.slice ch.wsa ch.wsl ch.wsc) ∧ w'.cell? ⟨w.heap.size, 2, none⟩ = some (.slice ch.msa ch.msl ch.msc) ∧ w'.cell? ⟨w.heap.size, 3, none⟩ = some (.int .i64 c.dl) ∧ w'.cell? ⟨w.heap.size, 4, none⟩ = some (.int .i64 c.lt) ∧ w'.cell? ⟨b, off + j, none⟩ = some (.slice ra rl rc) ∧ w'.cell? ⟨b', off' + j, none⟩ = some (.int .i64 z)) (W5.alloc (.cells #[.int .i64 m] 3))) := by
      obtain ⟨e0, e1, e2, e3, e4, e5, e6⟩ := HS1.out
      exact ⟨(b6.cell (p := ⟨w.heap.size, 0, none⟩) (World.block_lt_of_cell? _ _ e0)).trans e0, (b6.cell (p := ⟨w.heap.size, 1, none⟩) (World.block_lt_of_cell? _ _ e1)).trans e1, (b6.cell (p := ⟨w.heap.size, 2, none⟩) (World.block_lt_of_cell? _ _ e2)).trans e2, (b6.cell (p := ⟨w.heap.size, 3, none⟩) (World.block_lt_of_cell? _ _ e3)).trans e3, (b6.cell (p := ⟨w.heap.size, 4, none⟩) (World.block_lt_of_cell? _ _ e4)).trans e4, (b6.cell (p := ⟨b, off + j, none⟩) (World.block_lt_of_cell? _ _ e5)).trans e5, (b6.cell (p := ⟨b', off' + j, none⟩) (World.block_lt_of_cell? _ _ e6)).trans e6⟩
    refine hK.out _ _ (HS2.out) (fun hSw => ?_); clear hK K hSw; (try simp only [Act.put, List.setIfInBounds_toArray, List.set_cons_zero, List.set_cons_succ])
    refine mix.ord_hard rfl (fun K hK => ?_); simp only [Region.wanted, if_true]
    refine push_wp (v := .slice av j cv) local_int _ _ 23 rfl i0 (.int .i64 0) 8 Tryz.underlying23 hi hz0 hz1 hz2 rfl (by decide) rfl (HGo.out.below local_int B5.out) b6 W5.heap.size 1 rfl [.int .i64 m] rfl (fun u hu => by simp at hu; subst hu; rfl) (fun j u hj => ((blk_new W5 3 [.int .i64 m]).cell j).trans hj) m [] ⟨rfl, rfl⟩ Own.nil (by rw [marksTo_len]; omega) (by rw [marksTo_len]; unfold maxLen; omega) (by omega) ?_
    intro v8 W8 hG8 hb8 hk8 hw8
    have HOB8 := Lib.hid (show ∀ b, v8.ownBlock = some b → b = w.heap.size + 1 ∨ W2.heap.size ≤ b from fun b hb => by
      rcases hw8 with e | e
      · exact HOB.out b (by rw [← e]; exact hb)
      · rw [e] at hb; cases hb; right; simp; omega)
    have HKP8 := Lib.hid (show ∀ b, b < W2.heap.size → b ≠ w.heap.size + 1 → W8.heap[b]? = W2.heap[b]? from fun b h1 h2 => by
      rw [hk8 b (by simp; omega) (fun e => by rcases HOB.out b e with h | h <;> omega), Below.heap_alloc _ _ _ (by omega), B5.out.block b (by omega)]
      exact HKP.out b h1 h2)
    have HB8 := Lib.hid (show Below w.heap.size w W8 from ((HB.out.trans (B5.out.mono HB.out.size)).trans (b6.mono (by omega))).trans (hb8.mono (Nat.le_succ _)))
    have hsz8 : W2.heap.size ≤ W8.heap.size := by have := hb8.size; simp at this; omega
    have HS3 : Hid ((fun w' => w'.cell? ⟨w.heap.size, 0, none⟩ = some (.int .i64 c.d) ∧ w'.cell? ⟨w.heap.size, 1, none⟩ = some (.slice ch.wsa ch.wsl ch.wsc) ∧ w'.cell? ⟨w.heap.size, 2, none⟩ = some (.slice ch.msa ch.msl ch.msc) ∧ w'.cell? ⟨w.heap.size, 3, none⟩ = some (.int .i64 c.dl) ∧ w'.cell? ⟨w.heap.size, 4, none⟩ = some (.int .i64 c.lt) ∧ w'.cell? ⟨b, off + j, none⟩ = some (.slice ra rl rc) ∧ w'.cell? ⟨b', off' + j, none⟩ = some (.int .i64 z)) W8) := by
      obtain ⟨e0, e1, e2, e3, e4, e5, e6⟩ := HS2.out
      have hbw := hbl
      have q1 : ∀ bb oo, bb < (W5.alloc (.cells #[.int .i64 m] 3)).heap.size → (Value.slice av j cv).ownBlock ≠ some bb → W8.cell? ⟨bb, oo, none⟩ = (W5.alloc (.cells #[.int .i64 m] 3)).cell? ⟨bb, oo, none⟩ := fun bb oo h1 h2 => cell_same (hk8 bb h1 h2) oo
      have n1 : (Value.slice av j cv).ownBlock ≠ some w.heap.size := fun e => by rcases HOB.out _ e with h | h <;> omega
      have n2 : (Value.slice av j cv).ownBlock ≠ some b := fun e => by rcases HOB.out _ e with h | h <;> omega
      have n3 : (Value.slice av j cv).ownBlock ≠ some b' := fun e => by rcases HOB.out _ e with h | h <;> omega
      exact ⟨(q1 _ _ (World.block_lt_of_cell? _ _ e0) n1).trans e0, (q1 _ _ (World.block_lt_of_cell? _ _ e1) n1).trans e1, (q1 _ _ (World.block_lt_of_cell? _ _ e2) n1).trans e2, (q1 _ _ (World.block_lt_of_cell? _ _ e3) n1).trans e3, (q1 _ _ (World.block_lt_of_cell? _ _ e4) n1).trans e4, (q1 _ _ (World.block_lt_of_cell? _ _ e5) n2).trans e5, (q1 _ _ (World.block_lt_of_cell? _ _ e6) n3).trans e6⟩
    have G8 := Lib.hid hG8
    clear hG8 hb8 hk8 hw8 b6 HS2 HS1
    refine hK.out _ _ (HS3.out) (fun hSw => ?_); clear hK K hSw; (try simp only [Act.put, List.setIfInBounds_toArray, List.set_cons_zero, List.set_cons_succ])
    clear HS3
    (repeat (first | (apply mix.ord_take; (· rfl); (· rfl); (· (intro w' hSw; (try dsimp only at hSw); go_simp; try with_reducible rfl)); (try simp only [Act.put, List.setIfInBounds_toArray, List.set_cons_zero, List.set_cons_succ])) | ((refine mix.ord_pass rfl (by rfl) ?_); (try simp only [Act.put, List.setIfInBounds_toArray, List.set_cons_zero, List.set_cons_succ]))))
    refine mix.ord_end ?_
    go_wp2_with fail
    go_roundg (no - (j + 1))
    case measure => omega
    case rel => exact ⟨j + 1, by omega, by go_num, by rw [HM.out]; exact G8.out, HOB8.out, HKP8.out, HB8.out, hsz8⟩

end Go.Proofs.YtdipkbgfkbmfnaaGreatDoor.dat
