/-
  THE CONTRACT OF Upsert of the program: rows put into rows, one by one, in memory of the call's own; nothing that was there is written.
-/
import Derived.Test.YtoglclmaacjdaaaUpsertImpl
import Derived.WalkMore
import Derived.Deep.LoopGhost
namespace Go.Proofs.Ytoglclmaacjdaaa.dat
open Go.RowKit Go.Proofs.Ytoglclmaacjdaaa.win

theorem row_cell9 {w : World} {b o : Nat} {x : RowD} {h : RowH} (hc : ∀ i, i < 9 → w.cell? ⟨b, o + i, none⟩ = (Row.list x h)[i]?) :
    w.cell? ⟨b, o, none⟩ = some (.int .i64 x.win) ∧ w.cell? ⟨b, o + 1, none⟩ = some (.int .i64 x.mask) ∧ w.cell? ⟨b, o + 2, none⟩ = some (.int .i64 x.start) ∧ w.cell? ⟨b, o + 3, none⟩ = some (.slice h.keya h.keyl h.keyc) ∧ w.cell? ⟨b, o + 4, none⟩ = some (.int .i64 x.a.n) ∧ w.cell? ⟨b, o + 5, none⟩ = some (.int .i64 x.a.sm) ∧ w.cell? ⟨b, o + 6, none⟩ = some (.int .i64 x.a.mn) ∧ w.cell? ⟨b, o + 7, none⟩ = some (.int .i64 x.a.mx) ∧ w.cell? ⟨b, o + 8, none⟩ = some (.int .i64 x.times) :=
  ⟨hc 0 (by omega), hc 1 (by omega), hc 2 (by omega), hc 3 (by omega), hc 4 (by omega), hc 5 (by omega), hc 6 (by omega), hc 7 (by omega), hc 8 (by omega)⟩
theorem sz_elemR {l : List RowD} {j n : Nat} {x : RowD} (hx : l[j]? = some x) (h : szL Row.sz l ≤ n) : Row.sz x ≤ n := by
  have := sz_elem_le Row.sz l hx
  unfold szL at h
  omega
/-- A row of a list of the call's own, its cells written out. -/
theorem growRow_at {base : Nat} {wr w : World} {v : Value} {l : List RowD} {j : Nat} (hG : Grows 9 RRow 120 base wr v l) (hb : Below wr.heap.size wr w) (hj : j < l.length) :
    ∃ (b c : Nat) (x : RowD) (h : RowH) (f : List Nat), v = .slice (some ⟨b, 0, none⟩) l.length c ∧ b < wr.heap.size ∧ l[j]? = some x ∧ Row.Is w x h f ∧ ∀ i, i < 9 → w.cell? ⟨b, j * 9 + i, none⟩ = (Row.list x h)[i]? := by
  obtain ⟨css, F, e1, e2, e3, e4, e5, e6, hown⟩ := hG.ex
  rcases hown.2 with ⟨rfl, h0⟩ | ⟨g0, cap, cur, rfl, hbg, hh, hnc, hcm, hsz, htk⟩
  · omega
  have hg0 : g0 < wr.heap.size := (Array.getElem?_eq_some_iff.1 hh).1
  have hx : l[j]? = some l[j] := List.getElem?_eq_getElem hj
  have hc : css[j]? = some css[j] := List.getElem?_eq_getElem (by omega)
  have hf : F[j]? = some F[j] := List.getElem?_eq_getElem (by omega)
  obtain ⟨h, hcs, hIs⟩ := e4 j _ _ _ hx hc hf
  refine ⟨g0, cap, l[j], h, F[j], rfl, hg0, hx, hIs.keep (fun b hbm => hb.block b (e6 b (mem_flatten_of hf hbm)).2.1.lt), fun i hi => ?_⟩
  rw [hb.cell (p := ⟨g0, j * 9 + i, none⟩) hg0, Go.Joins.cell_of_block hh, ← hcs, ← flat_get e3 hc i hi, ← htk, List.getElem?_take, if_pos (by omega)]
  simp
/-- Rows of one's own. -/
def GiveRows (w : World) (L : List RowD) (e : Ending) (w' : World) : Prop := ∃ (a : Option Addr) (n c : Nat) (f : List Nat), e = .returned (.slice a n c) ∧ GRow 9 RRow w' a n L f ∧ n ≤ c ∧ c ≤ 9223372036854775807 ∧ Own w.heap.size w' f ∧ Below w.heap.size w w'

set_option maxRecDepth 100000 in
set_option maxHeartbeats 8000000 in
theorem impl_Upsert (a : Option Addr) (n c : Nat) (l : List RowD) (fp : List Nat) (a' : Option Addr) (n' c' : Nat) (l' : List RowD) (fp' : List Nat) (w : World) (hrow : GRow 9 RRow w a n l fp) (_u0 : n ≤ c) (_v0 : c ≤ 9223372036854775807) (hrow' : GRow 9 RRow w a' n' l' fp') (_u1 : n' ≤ c') (_v1 : c' ≤ 9223372036854775807) (hz0 : szL Row.sz l ≤ 2000000) (hz1 : szL Row.sz l' ≤ 2000000) (hz : szL Row.sz l + szL Row.sz l' ≤ 2000000) :
    Calls Try.prog 27 #[.slice a n c, .slice a' n' c'] w (GiveRows w (upsertD l l')) := by
  have hn : n ≤ 2000000 := by rw [← hrow.1]; unfold szL at hz0; omega
  have hn' : n' ≤ 2000000 := by rw [← hrow'.1]; unfold szL at hz1; omega
  have R0 := Lib.hid hrow
  have R1 := Lib.hid hrow'
  have L0 := Lib.hid hrow.1
  have L1 := Lib.hid hrow'.1
  have Z0 := Lib.hid hz0
  have Z1 := Lib.hid hz1
  have ZZ := Lib.hid (fun j => Nat.le_trans (sz_upsert_take l l' j) hz)
  clear hrow hrow' hz0 hz1 hz _u0 _v0 _u1 _v1
  obtain ⟨i0, hi, hz0, hz1, hz2⟩ := row_info
  have hmk := run_makeR n hn
  have HI := Lib.hid (And.intro hi (And.intro hz0 (And.intro hz1 hz2)))
  clear hi hz0 hz1 hz2
  go_enter Try.func27, Try.ntmps27
  go_wp2_with fail
  go_step3
  go_wp2_with fail
  clear hmk
  go_loopg [5, 19] n (fun k v i wr => ∃ j : Nat, j + k = n ∧ i = .int .i64 j ∧ Below w.heap.size w wr ∧ Grows 9 RRow 120 w.heap.size wr v (l.take j))
  case atStart =>
    exact ⟨0, by omega, rfl, by repeat (first | exact Below.refl _ _ | refine Below.setCell ?_ (by first | omega | (simp; done) | (simp; omega)) _ | refine Below.alloc ?_ (by first | omega | (simp; done) | (simp; omega)) _ | apply Below.drew), Grows.made (k := 9) (R := RRow) (e := 120) (base := w.heap.size) (w := w) _ n (Nat.le_refl _) (by unfold maxLen; omega) (by rw [size_madeCells])⟩
  case round =>
    obtain ⟨j, hj, rfl, hB, hG⟩ := hrel
    have HB := Lib.hid hB
    have HG := Lib.hid hG
    by_cases hlt : j < n
    · obtain ⟨b, off, x, f, cs, rfl, hbl, hx, hcl, hRx, hcs⟩ := R0.out.at hlt
      obtain ⟨h, rfl, hIs⟩ := hRx
      obtain ⟨q0, q1, q2, q3, q4, q5, q6, q7, q8⟩ := row_cell9 (fun i hi => (hB.cell (p := ⟨b, off + j * 9 + i, none⟩) hbl).trans (hcs i hi))
      have hlt2 : (j : Int) < (n : Int) := by omega
      have h02 : (0 : Int) ≤ (j : Int) := by omega
      have hXS : l.take (j + 1) = l.take j ++ [x] := by rw [List.take_add_one, hx]; rfl
      have XS := Lib.hid hXS
      have IS := Lib.hid hIs
      have SZ := Lib.hid (sz_elemR hx Z0.out)
      have hjl : (l.take j).length = j := by rw [List.length_take, L0.out]; omega
      have JL := Lib.hid hjl
      have hc := fun W hW => copied_ x h f W hW SZ.out
      simp only [Row.list] at hc
      have HC := Lib.hid hc
      clear hB hG hcs hcl hx hXS hIs hjl hc
      go_wp2_with fail
      refine calls_gen (fun W => Below wr.heap.size wr W ∧ wr.heap.size < W.heap.size) ⟨by repeat (first | exact Below.refl _ _ | refine Below.setCell ?_ (by first | omega | (simp; done) | (simp; omega)) _ | refine Below.alloc ?_ (by first | omega | (simp; done) | (simp; omega)) _ | apply Below.drew), by simp⟩ ?_
      rintro W1 ⟨b1, s1⟩
      refine (HC.out W1 (IS.out.below (HB.out.trans (b1.mono HB.out.size)))).mono ?_
      rintro e W2 ⟨h2, f2, rfl, i2, o2, b2⟩
      have B2 := Lib.hid (b1.trans (b2.mono b1.size))
      have I2 := Lib.hid i2
      have O2 := Lib.hid (o2.mono (Nat.le_of_lt s1))
      clear b1 s1 i2 o2 b2 q0 q1 q2 q3 q4 q5 q6 q7 q8
      simp only [Row.list]
      go_wp2_with (at_builtin; refine push2 (wr := wr) local_Row rfl _ _ 46 rfl i0 _ 88 Try.underlying46 HI.out.1 HI.out.2.1 HI.out.2.2.1 HI.out.2.2.2 rfl (by decide) rfl HG.out (B2.out.alloc B2.out.size _) W2.heap.size 1 rfl (Row.list x h2) rfl row_one (fun q u hq => ((blk_new W2 120 (Row.list x h2)).cell q).trans hq) x f2 ⟨h2, rfl, I2.out.below ((Below.refl _ _).alloc (Nat.le_refl _) _)⟩ (O2.out.below ((Below.refl _ _).alloc (Nat.le_refl _) _)) (by rw [JL.out]; omega) (by rw [JL.out]; unfold maxLen; omega) HB.out.size ?_; intro v' W3 hG3 hb3 _ _; have HG3 := Lib.hid hG3; have HB3 := Lib.hid (HB.out.trans (((B2.out.mono HB.out.size).alloc (Nat.le_trans HB.out.size B2.out.size) _).trans hb3)); clear hG3 hb3)
      go_roundg (n - (j + 1))
      case measure => omega
      case rel => exact ⟨j + 1, by omega, by go_num, HB3.out, by rw [XS.out]; exact HG3.out⟩
    · have hall : l.take j = l := List.take_of_length_le (by rw [L0.out]; omega)
      rw [hall] at hG
      have HG2 := Lib.hid hG
      clear hB hG HG hall
      go_wp2_with fail
      go_step3
      go_wp2_with fail
      go_loopg [5, 31] n' (fun k v i wo => ∃ j : Nat, j + k = n' ∧ i = .int .i64 j ∧ Below w.heap.size w wo ∧ Grows 9 RRow 120 w.heap.size wo v (upsertD l (l'.take j)))
      case atStart => exact ⟨0, by omega, rfl, HB.out, HG2.out⟩
      case round =>
        obtain ⟨j, hj, rfl, hB, hG⟩ := hrel
        rename_i v5 v31 w_old
        clear HB HG2
        have HB := Lib.hid hB
        have HG := Lib.hid hG
        by_cases hlt : j < n'
        case neg =>
          have hall : l'.take j = l' := List.take_of_length_le (by rw [L1.out]; omega)
          rw [hall] at hG
          obtain ⟨a2, c2, f2, hv2, hg2, h1, h2, ho⟩ := hG.done
          have HD := Lib.hid (And.intro hg2 (And.intro h1 (And.intro h2 ho)))
          subst hv2
          clear hB hG HG hall hg2 h1 h2 ho
          go_wp2_with fail
          try rw [Exit.noGoto_ret]
          go_ret
          exact ⟨a2, _, c2, f2, rfl, HD.out.1, HD.out.2.1, HD.out.2.2.1, HD.out.2.2.2, HB.out⟩
        obtain ⟨b, off, r, fr, cs, rfl, hbl, hr, hcl, hRr, hcs⟩ := R1.out.at hlt
        obtain ⟨hr', rfl, hIr⟩ := hRr
        obtain ⟨q0, q1, q2, q3, q4, q5, q6, q7, q8⟩ := row_cell9 (fun i hi => (hB.cell (p := ⟨b, off + j * 9 + i, none⟩) hbl).trans (hcs i hi))
        have hlt2 : (j : Int) < (n' : Int) := by omega
        have h02 : (0 : Int) ≤ (j : Int) := by omega
        have SZ := Lib.hid (sz_elemR hr Z1.out)
        have HNX := Lib.hid (upsert_take (rows := l) hr)
        have ZL := Lib.hid (ZZ.out j)
        obtain ⟨va, vc, hv⟩ := HG.out.slice
        obtain ⟨lst, hlst⟩ : ∃ lst, upsertD l (l'.take j) = lst := ⟨_, rfl⟩
        rw [hlst] at hv HG HNX ZL
        obtain ⟨m, hm⟩ : ∃ m, lst.length = m := ⟨_, rfl⟩
        rw [hm] at hv
        subst hv
        have HM := Lib.hid hm
        have hm2 : m ≤ 2000000 := by have := ZL.out; unfold szL at this; omega
        have IR := Lib.hid hIr
        have hcop := fun W hW => copied_ r hr' fr W hW SZ.out
        have hcmp := fun (x : RowD) (h : RowH) (f : List Nat) (W : World) (hx : Row.Is W x h f) (hW : Row.Is W r hr' fr) (zx : Row.sz x ≤ 2000000) => rowCmp_ x h f r hr' fr W hx hW zx SZ.out
        simp only [Row.list] at hcop
        have HC := Lib.hid hcop
        have HCMP := Lib.hid hcmp
        clear hB hG hcs hcl hr hIr hcop hcmp hlst hm
        go_wp2_with fail
        obtain ⟨wo, rfl⟩ : ∃ wo, wo = wr := ⟨_, rfl⟩
        have hwo := HB.out.size
        go_loopg [10, 39] m (fun k pv iv w2 => ∃ i p : Nat, i + k = m ∧ iv = .int .i64 (i : Int) ∧ pv = .int .i64 (p : Int) ∧ UpsTo lst r i p ∧ Below wo.heap.size wo w2 ∧ Blk w2 wo.heap.size 120 [.int .i64 r.win, .int .i64 r.mask, .int .i64 r.start, .slice hr'.keya hr'.keyl hr'.keyc, .int .i64 r.a.n, .int .i64 r.a.sm, .int .i64 r.a.mn, .int .i64 r.a.mx, .int .i64 r.times])
        case atStart => exact ⟨0, m, by omega, rfl, rfl, by have := UpsTo.start lst r; rw [HM.out] at this; exact this, by repeat (first | exact Below.refl _ _ | refine Below.setCell ?_ (by first | omega | (simp; done) | (simp; omega)) _ | refine Below.alloc ?_ (by first | omega | (simp; done) | (simp; omega)) _ | apply Below.drew), by with_reducible (repeat (first | (refine blk_new_at _ _ _ _ ?_; first | rfl | (simp; done)) | refine Blk.alloc ?_ _ | apply Blk.drew | refine Blk.setOther ?_ (by first | (simp; done) | (simp; omega)) _))⟩
        case round =>
          obtain ⟨i, p, hi, rfl, rfl, hU, hB2, hK2⟩ := hrel
          obtain ⟨w2, rfl⟩ : ∃ w2, w2 = wr := ⟨_, rfl⟩
          clear q0 q1 q2 q3 q4 q5 q6 q7 q8
          have HU := Lib.hid hU
          have HB2 := Lib.hid hB2
          have HK2 := Lib.hid hK2
          have hk2l := hK2.lt
          obtain ⟨k0, k1, k2, k3, k4, k5, k6, k7, k8⟩ := row_blk hK2
          have hw2 := hB2.size
          have hpm : p ≤ m := by have := hU.2.1; rw [HM.out] at this; exact this
          by_cases hlt3 : i < m
          case neg =>
            obtain rfl : i = m := by omega
            have hd := HU.out
            rw [← HM.out] at hd
            have HD := Lib.hid hd.done
            clear hU hB2 hK2 hd
            go_wp2_with fail
            refine (HC.out w2 (IR.out.below (HB.out.trans (HB2.out.mono hwo)))).mono ?_
            rintro e W4 ⟨h4, f4, rfl, i4, o4, b4⟩
            have I4 := Lib.hid i4
            have O4 := Lib.hid (o4.mono hw2)
            have B4 := Lib.hid (HB2.out.trans (b4.mono hw2))
            clear i4 o4 b4 k0 k1 k2 k3 k4 k5 k6 k7 k8
            simp only [Row.list]
            go_wp2_with fail
            refine calls_gen (fun W => Below W4.heap.size W4 W ∧ Blk W W4.heap.size 120 (Row.list r h4)) ⟨by repeat (first | exact Below.refl _ _ | refine Below.setCell ?_ (by first | omega | (simp; done) | (simp; omega)) _ | refine Below.alloc ?_ (by first | omega | (simp; done) | (simp; omega)) _ | apply Below.drew), by unfold Row.list; with_reducible (repeat (first | (refine blk_new_at _ _ _ _ ?_; first | rfl | (simp; done)) | refine Blk.alloc ?_ _ | apply Blk.drew | refine Blk.setOther ?_ (by first | (simp; done) | (simp; omega)) _))⟩ ?_
            rintro W5 ⟨b5, k5⟩
            refine (insertRow w.heap.size (.slice va i vc) lst p r h4 f4 W4.heap.size wo W5 HG.out (B4.out.trans (b5.mono B4.out.size)) (by rw [HM.out]; exact hpm) (by rw [HM.out]; omega) k5 (I4.out.below b5) (O4.out.below b5) B4.out.size hwo).mono ?_
            rintro e W6 ⟨v6, rfl, g6, b6, _⟩
            have HG6 := Lib.hid g6
            have HB6 := Lib.hid ((HB.out.trans ((B4.out.trans (b5.mono B4.out.size)).mono hwo)).trans b6)
            clear g6 b6 b5 k5
            go_wp2_with fail
            go_roundg (n' - (j + 1))
            case measure => omega
            case rel => exact ⟨j + 1, by omega, by go_num, HB6.out, by rw [HNX.out, HD.out]; exact HG6.out⟩
          obtain ⟨bl, cl, x, h, fx, hvx, hbx, hx, hIx, hcx⟩ := growRow_at HG.out hB2 (by rw [HM.out]; exact hlt3)
          rw [HM.out] at hvx
          simp only [Value.slice.injEq] at hvx
          obtain ⟨rfl, -, rfl⟩ := hvx
          obtain ⟨q0, q1, q2, q3, q4, q5, q6, q7, q8⟩ := row_cell9 hcx
          have hi2 : (i : Int) < (m : Int) := by omega
          have hi0 : (0 : Int) ≤ (i : Int) := by omega
          have HX := Lib.hid hx
          have IX := Lib.hid hIx
          have SX := Lib.hid (sz_elemR hx ZL.out)
          clear hU hB2 hK2 hx hIx hcx
          go_wp2_with fail
          refine calls_gen (fun W => Below w2.heap.size w2 W) (by repeat (first | exact Below.refl _ _ | refine Below.setCell ?_ (by first | omega | (simp; done) | (simp; omega)) _ | refine Below.alloc ?_ (by first | omega | (simp; done) | (simp; omega)) _ | apply Below.drew)) ?_
          intro W3 b3
          have hcm := HCMP.out x h fx W3 (IX.out.below b3) (IR.out.below ((HB.out.trans (HB2.out.mono hwo)).trans (b3.mono (Nat.le_trans hwo hw2)))) SX.out
          obtain ⟨cv, hcv⟩ : ∃ cv, paneC x.pane r.pane = cv := ⟨_, rfl⟩
          rw [hcv] at hcm
          have HCV := Lib.hid hcv
          refine hcm.mono ?_
          clear hcm hcv
          rintro e W4 ⟨rfl, b4⟩
          have c4 := b3.trans (b4.mono b3.size)
          have C4 := Lib.hid (HB2.out.trans (c4.mono hw2))
          have K4 := Lib.hid (HK2.out.below c4 hk2l)
          clear b3 b4 q0 q1 q2 q3 q4 q5 q6 q7 q8 k0 k1 k2 k3 k4 k5 k6 k7 k8
          obtain ⟨k0, k1, k2, k3, k4, k5, k6, k7, k8⟩ := row_blk K4.out
          have hw4 := C4.out.size
          by_cases hz : cv = 0
          · subst hz
            have HF := Lib.hid (HU.out.found HX.out (by unfold upsAt; simpa using HCV.out))
            clear c4
            go_wp2_with fail
            refine (HC.out W4 (IR.out.below (HB.out.trans (C4.out.mono hwo)))).mono ?_
            rintro e W5 ⟨h5, f5, rfl, i5, o5, b5⟩
            have C5 := Lib.hid (C4.out.trans (b5.mono hw4))
            obtain ⟨b0, c0, u0, u1, u2, u3, u4, u5, u6, u7, u8, hv0, hb0, hb1, hu, hfz, hgs, hbs⟩ := growRow_set (j := i) (y := r) (h := h5) (f := f5) HG.out C5.out (by rw [HM.out]; exact hlt3) i5 (o5.mono hw4)
            simp only [Value.slice.injEq, Option.some.injEq, Addr.mk.injEq] at hv0
            obtain ⟨⟨rfl, -, -⟩, -, -⟩ := hv0
            obtain ⟨z0, z1, z2, z3, z4, z5, z6, z7, z8⟩ := hu
            have HGS := Lib.hid hgs
            have HBS := Lib.hid ((HB.out.trans (C5.out.mono hwo)).trans hbs)
            clear i5 o5 b5 hgs hbs hb0 k0 k1 k2 k3 k4 k5 k6 k7 k8
            simp only [Row.list]
            simp only [Row.list, World.setCells] at HGS HBS
            go_wp2_with fail
            go_roundg (n' - (j + 1))
            case measure => omega
            case rel => exact ⟨j + 1, by omega, by go_num, HBS.out, by rw [HNX.out, HF.out]; exact HGS.out⟩
          · have hz' : (cv == 0) = false := by simpa using hz
            by_cases hg : 0 < cv
            · have HN := Lib.hid (HU.out.gt HX.out (by rw [HCV.out]; exact hg))
              have hmin : min (p : Int) (i : Int) = ((min p i : Nat) : Int) := by omega
              clear hz
              go_wp2_with fail
              go_roundg (m - (i + 1))
              case measure => omega
              case rel => exact ⟨i + 1, min p i, by omega, by go_num, by first | rfl | go_num | (congr 1), HN.out, C4.out, K4.out⟩
            · have HN := Lib.hid (HU.out.lt HX.out (by rw [HCV.out]; omega))
              clear hz
              go_wp2_with fail
              go_roundg (m - (i + 1))
              case measure => omega
              case rel => exact ⟨i + 1, p, by omega, by go_num, rfl, HN.out, C4.out, K4.out⟩
end Go.Proofs.Ytoglclmaacjdaaa.dat
