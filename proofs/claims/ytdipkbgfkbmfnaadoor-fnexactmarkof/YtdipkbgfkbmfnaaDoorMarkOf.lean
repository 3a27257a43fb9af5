/-
  THE CONTRACTS OF within, markBehind, MarkOf of the program and of MarkOf of the model: what each call answers; nothing that was there is written.
-/
import Derived.Test.YtdipkbgfkbmfnaaDoorMarkMath
namespace Go.Proofs.YtdipkbgfkbmfnaaDoor.dat
open Go.RowKit Go.Proofs.YtdipkbgfkbmfnaaDoor.win
open Go.Proofs.YtdipkbgfkbmfnaaDoor.num (Env Env.next)

theorem below_drewN {B : Nat} {w W : World} (h : Below B w W) (n : Nat) : Below B w (W.drewN n) := ⟨h.os, h.tape, h.output, h.size, h.block⟩
/-- within. -/
def withinD (n most : Int) : Int := min (max n 0) most
set_option maxHeartbeats 400000 in
theorem impl_within (n most : Int) (w : World) : Calls Tryd.prog 20 #[.int .i64 n, .int .i64 most] w fun e w' => e = .returned (.int .i64 (withinD n most)) ∧ w' = w := by
  go_enter Tryd.func20, Tryd.ntmps20
  go_wp2_with fail
  go_ret
  exact ⟨rfl, rfl⟩

set_option maxHeartbeats 400000 in
theorem impl_markWith (c : ConfD) (ch : ConfigH) (m : Int) (e : EventD) (eh : EventH) (q : Int) (w : World) (hq : IntKind.i64.wrap (e.t - c.dl) = q) :
    Calls Tryd.prog 32 #[.agg (Config.list c ch).toArray, .int .i64 m, .agg (Event.list e eh).toArray] w fun r w' => r = .returned (.int .i64 (max m q)) ∧ Below w.heap.size w w' := by
  simp only [Config.list, Event.list] at *
  go_enter Tryd.func32, Tryd.ntmps32
  go_wp2_with fail
  go_ret
  exact ⟨rfl, by repeat (first | exact Below.refl _ _ | refine Below.setCell ?_ (by first | omega | (simp; done) | (simp; omega)) _ | refine Below.alloc ?_ (by first | omega | (simp; done) | (simp; omega)) _ | apply Below.drew)⟩

set_option maxRecDepth 100000 in
set_option maxHeartbeats 2000000 in
theorem markBehind (c : ConfD) (ch : ConfigH) (cf : List Nat) (m : Int) (s : ByteArray) (w : World) (hc : Config.Is w c ch cf) (hs : s.size ≤ 2000000) (hE : Env w) :
    Calls Tryd.prog 21 #[.agg (Config.list c ch).toArray, .int .i64 m, .string s] w fun e w' => e = .returned (.int .i64 (markB c m s)) ∧ Below w.heap.size w w' := by
  have HC := Lib.hid hc
  have HE := Lib.hid hE
  have HR := Lib.hid (fun w h1 h3 => impl_EventRead_any c ch cf s w h1 hs h3)
  clear hc hE
  simp only [Config.list] at *
  go_enter Tryd.func21, Tryd.ntmps21
  go_wp2_with fail
  refine calls_gen (fun W => Below w.heap.size w W ∧ Blk W w.heap.size 34 (Config.list c ch)) ⟨by repeat (first | exact Below.refl _ _ | refine Below.setCell ?_ (by first | omega | (simp; done) | (simp; omega)) _ | refine Below.alloc ?_ (by first | omega | (simp; done) | (simp; omega)) _ | apply Below.drew), by unfold Config.list; with_reducible (repeat (first | (refine blk_new_at _ _ _ _ ?_; first | rfl | (simp; done)) | refine Blk.alloc ?_ _ | apply Blk.drew | refine Blk.setOther ?_ (by first | (simp; done) | (simp; omega)) _))⟩ ?_
  rintro W1 ⟨b1, k1⟩
  refine (HR.out _ (HC.out.below b1) (HE.out.next b1)).mono ?_
  rintro e' W2 ⟨eh, ef, rfl, hi, ho, b2⟩
  have B2 := Lib.hid (b1.trans (b2.mono b1.size))
  have K2 := Lib.hid (k1.below b2 k1.lt)
  have a0 := K2.out.cell 0
  have a1 := K2.out.cell 1
  have a2 := K2.out.cell 2
  have a3 := K2.out.cell 3
  have a4 := K2.out.cell 4
  have al := K2.out.lt
  simp [Config.list] at a0 a1 a2 a3 a4
  clear b1 b2 k1 hi ho
  cases he : evR c s.data.toList with
  | none =>
    have HM := Lib.hid (show m = markB c m s by unfold markB; rw [he])
    simp only [Option.isSome_none, Event.list]
    clear he
    go_wp2_with fail
    go_ret
    exact ⟨ret_int HM.out, by repeat (first | exact Below.refl _ _ | refine Below.setCell ?_ (by first | omega | (simp; done) | (simp; omega)) _ | refine Below.alloc ?_ (by first | omega | (simp; done) | (simp; omega)) _ | apply Below.drew | refine Below.trans ?_ (B2.out.mono (by first | omega | (simp; done) | (simp; omega))))⟩
  | some e =>
    have hb := ev_less he
    have hv : evRD c s.data.toList = e := by unfold evRD; rw [he]; rfl
    obtain ⟨q, hq⟩ : ∃ q, e.t - c.dl = q := ⟨_, rfl⟩
    have hw : IntKind.i64.wrap (e.t - c.dl) = q := by rw [← hq, IntKind.wrap_i64]; omega
    have hm : markB c m s = max m q := by unfold markB; rw [he]; simp only [hq]
    simp only [hv, Option.isSome_some, Event.list]
    clear he hv hq hb
    have HM := Lib.hid hm.symm
    have HW := Lib.hid (fun w => impl_markWith c ch m e eh q w hw)
    clear hm hw
    simp only [Config.list, Event.list] at HW
    go_wp2_with fail
    refine calls_gen (fun W => Below w.heap.size w W) (by repeat (first | exact Below.refl _ _ | refine Below.setCell ?_ (by first | omega | (simp; done) | (simp; omega)) _ | refine Below.alloc ?_ (by first | omega | (simp; done) | (simp; omega)) _ | apply Below.drew | refine Below.trans ?_ (B2.out.mono (by first | omega | (simp; done) | (simp; omega))))) ?_
    intro W4 b4
    refine (HW.out _).mono ?_
    rintro e' W5 ⟨rfl, b5⟩
    have B5 := Lib.hid (b4.trans (b5.mono b4.size))
    clear b4 b5
    go_wp2_with fail
    go_ret
    exact ⟨ret_int HM.out, B5.out⟩

theorem within_nat (n : Int) (len : Nat) : ∃ k : Nat, withinD n (len : Int) = (k : Int) ∧ k ≤ len ∧ ∀ {α : Type} (l : List α), l.length = len → l.take k = l.take n.toNat := by
  refine ⟨min n.toNat len, by unfold withinD; omega, Nat.min_le_right _ _, fun l hl => ?_⟩
  by_cases h : n.toNat ≤ len
  · rw [Nat.min_eq_left h]
  · rw [Nat.min_eq_right (by omega), List.take_of_length_le (by omega), List.take_of_length_le (by omega)]

set_option maxRecDepth 100000 in
set_option maxHeartbeats 2000000 in
theorem impl_MarkOf_any (c : ConfD) (ch : ConfigH) (cf : List Nat) (x : PartD) (h : PartH) (f : List Nat) (n : Int) (w : World) (hc : Config.Is w c ch cf) (hx : Part.Is w x h f) (zx : Part.sz x ≤ 2000000) (hE : Env w) :
    Calls Tryd.prog 9 #[.agg (Config.list c ch).toArray, .agg (Part.list x h).toArray, .int .i64 n] w fun e w' => e = .returned (.int .i64 (markD c x n)) ∧ Below w.heap.size w w' := by
  obtain ⟨f0, rfl, r0, u0, v0⟩ := hx
  obtain ⟨ra, rl, rc⟩ := h
  simp only at r0 u0 v0
  have HC := Lib.hid hc
  have HE := Lib.hid hE
  have HG := Lib.hid r0
  have HL := Lib.hid r0.1
  have HZ := Lib.hid zx
  have hlm : rl ≤ 2000000 := by rw [← r0.1]; unfold Part.sz szL at zx; omega
  obtain ⟨k, hk, hkl, htk⟩ := within_nat n rl
  have HT := Lib.hid (show tideL c (x.recs.take k) = markD c x n by unfold markD; rw [htk x.recs r0.1])
  have HW := Lib.hid (fun w => impl_within n rl w)
  rw [hk] at HW
  clear hc hE r0 zx hk htk
  simp only [Config.list, Part.list] at *
  go_enter Tryd.func9, Tryd.ntmps9
  go_wp2_with fail
  refine wp_gen (fun W => Below w.heap.size w W ∧ Blk W w.heap.size 34 (Config.list c ch) ∧ Blk W (w.heap.size + 1) 36 (Part.list x ⟨ra, rl, rc⟩)) ⟨by repeat (first | exact Below.refl _ _ | refine Below.setCell ?_ (by first | omega | (simp; done) | (simp; omega)) _ | refine Below.alloc ?_ (by first | omega | (simp; done) | (simp; omega)) _ | apply Below.drew), by unfold Config.list; with_reducible (repeat (first | (refine blk_new_at _ _ _ _ ?_; first | rfl | (simp; done)) | refine Blk.alloc ?_ _ | apply Blk.drew | refine Blk.setOther ?_ (by first | (simp; done) | (simp; omega)) _)), by unfold Part.list; with_reducible (repeat (first | (refine blk_new_at _ _ _ _ ?_; first | rfl | (simp; done)) | refine Blk.alloc ?_ _ | apply Blk.drew | refine Blk.setOther ?_ (by first | (simp; done) | (simp; omega)) _))⟩ ?_
  rintro W0 ⟨b0, k0, p0⟩
  have B0 := Lib.hid b0
  have K0 := Lib.hid k0
  have q0 := p0.cell 0
  have ql := p0.lt
  simp [Part.list] at q0
  clear b0 k0 p0
  have hk0 : (0 : Int) ≤ (k : Int) := by omega
  have hkc : (k : Int) ≤ (rc : Int) := by omega
  go_quiet (first | (go_at_call 20; exact Calls.quiet_of_same (HW.out _)))
  go_wp2_with fail
  clear q0 ql
  go_loopg [7, 19] k (fun r m i wr => ∃ j : Nat, j + r = k ∧ i = .int .i64 j ∧ m = .int .i64 (tideL c (x.recs.take j)) ∧ Below w.heap.size w wr ∧ Below W0.heap.size W0 wr)
  case atStart => exact ⟨0, by omega, rfl, by rw [tideL_nil], below_drewN B0.out _, below_drewN (Below.refl _ _) _⟩
  case round =>
    obtain ⟨j, hj, rfl, rfl, hB, hB0⟩ := hrel
    have HB := Lib.hid hB
    have HB0 := Lib.hid hB0
    by_cases hlt : j < k
    case neg =>
      obtain rfl : j = k := by omega
      clear hB hB0
      go_wp2_with fail
      go_ret
      exact ⟨ret_int HT.out, HB.out⟩
    have kk := K0.out.below hB0 K0.out.lt
    have c0 := kk.cell 0
    have c1 := kk.cell 1
    have c2 := kk.cell 2
    have c3 := kk.cell 3
    have c4 := kk.cell 4
    simp [Config.list] at c0 c1 c2 c3 c4
    obtain ⟨b, off, s, f, cs, rfl, hbl, hs, hcl, hR, hcs⟩ := HG.out.at (show j < rl by omega)
    obtain ⟨rfl, hss, rfl⟩ := hR
    have d0 : wr.cell? ⟨b, off + j, none⟩ = some (.string s) := by have := (hB.cell (p := ⟨b, off + j * 1 + 0, none⟩) hbl).trans (hcs 0 (by omega)); simpa using this
    have HS := Lib.hid (tideL_succ (c := c) hs)
    have hsz : s.size ≤ 2000000 := by have := sz_elem_le ByteArray.size x.recs hs; have := HZ.out; unfold Part.sz szL at this; omega
    have hlt2 : (j : Int) < (k : Int) := by omega
    have h02 : (0 : Int) ≤ (j : Int) := by omega
    obtain ⟨m, hm⟩ : ∃ m, tideL c (x.recs.take j) = m := ⟨_, rfl⟩
    rw [hm] at HS ⊢
    clear hs hcs hB hB0 hm kk
    go_wp2_with fail
    refine (markBehind c ch cf m s wr (HC.out.below HB.out) hsz (HE.out.next HB.out)).mono ?_
    rintro e w3 ⟨rfl, b3⟩
    have B3 := Lib.hid (HB.out.trans (b3.mono HB.out.size))
    have B4 := Lib.hid (HB0.out.trans (b3.mono HB0.out.size))
    clear b3 c0 c1 c2 c3 c4 d0
    go_wp2_with fail
    go_roundg (k - (j + 1))
    case measure => omega
    case rel => exact ⟨j + 1, by omega, by go_num, by rw [HS.out], B3.out, B4.out⟩

/-- The cells that the region loads, behind whatever leaves them. -/
theorem mark_keep {W w' : World} {p q b o : Nat} {t u : TypeId} {v0 v1 v2 v3 v4 v5 v6 : Value} (hk : Blk W p t [v0, v1, v2, v3, v4]) (hq : Blk W q u [v5]) (hd : W.cell? ⟨b, o, none⟩ = some v6) (h : Below W.heap.size W w') :
    w'.cell? ⟨p, 0, none⟩ = some v0 ∧ w'.cell? ⟨p, 1, none⟩ = some v1 ∧ w'.cell? ⟨p, 2, none⟩ = some v2 ∧ w'.cell? ⟨p, 3, none⟩ = some v3 ∧ w'.cell? ⟨p, 4, none⟩ = some v4 ∧ w'.cell? ⟨q, 0, none⟩ = some v5 ∧ w'.cell? ⟨b, o, none⟩ = some v6 := by
  have k := hk.below h hk.lt
  have l := hq.below h hq.lt
  exact ⟨by simpa using k.cell 0, by simpa using k.cell 1, by simpa using k.cell 2, by simpa using k.cell 3, by simpa using k.cell 4, by simpa using l.cell 0, (h.cell (p := ⟨b, o, none⟩) (World.block_lt_of_cell? _ _ hd)).trans hd⟩
/-- What the region leaves: the event in its box. -/
def Boxed (e : EventD) (h : EventH) (W : World) (v : Value) (wx : World) : Prop := ∃ bx : Nat, v = .pointer (some ⟨bx, 0, none⟩) ∧ W.heap.size ≤ bx ∧ Blk wx bx 46 (Event.list e h) ∧ Below W.heap.size W wx
theorem boxed_after {W wz : World} {e : EventD} {h : EventH} {vs : Array Value} (hv : vs = (Event.list e h).toArray) (hb : Below W.heap.size W wz) : Boxed e h W (.pointer (some ⟨wz.heap.size, 0, none⟩)) (wz.alloc (.cells vs 46)) := by
  subst hv
  exact ⟨wz.heap.size, rfl, hb.size, blk_new _ _ _, hb.alloc hb.size _⟩
theorem boxed_before {W wz : World} {e : EventD} {h : EventH} {t : TypeId} {z0 z1 z2 : Value} (hb : Below (W.alloc (.cells #[z0, z1, z2] t)).drew.heap.size (W.alloc (.cells #[z0, z1, z2] t)).drew wz) (ht : t = 46) :
    Boxed e h W (.pointer (some ⟨W.heap.size, 0, none⟩)) (((wz.setCell ⟨W.heap.size, 0, none⟩ (.int .i64 e.t)).setCell ⟨W.heap.size, 1, none⟩ (.slice h.dsa h.dsl h.dsc)).setCell ⟨W.heap.size, 2, none⟩ (.int .i64 e.v)) := by
  subst ht
  have hk : Blk wz W.heap.size 46 [z0, z1, z2] := (blk_new W 46 [z0, z1, z2]).drew.below hb (by simp)
  refine ⟨W.heap.size, rfl, Nat.le_refl _, (((hk.set 0 _).set 1 _).set 2 _).of_eq rfl, ?_⟩
  refine ((Below.setCell ?_ (by simp) _).setCell (by simp) _).setCell (by simp) _
  exact ((Below.refl W.heap.size W).alloc (Nat.le_refl _) _).drew.trans (hb.mono (by simp))

set_option maxRecDepth 100000 in
set_option maxHeartbeats 2000000 in
theorem spec_MarkOf_any (c : ConfD) (ch : ConfigH) (cf : List Nat) (x : PartD) (h : PartH) (f : List Nat) (n : Int) (w : World) (hc : Config.Is w c ch cf) (hx : Part.Is w x h f) (zx : Part.sz x ≤ 2000000) :
    Calls Tryd.prog 6 #[.agg (Config.list c ch).toArray, .agg (Part.list x h).toArray, .int .i64 n] w fun e w' => e = .returned (.int .i64 (markD c x n)) ∧ Below w.heap.size w w' := by
  obtain ⟨f0, rfl, r0, u0, v0⟩ := hx
  obtain ⟨ra, rl, rc⟩ := h
  simp only at r0 u0 v0
  have HC := Lib.hid hc
  have HG := Lib.hid r0
  have HL := Lib.hid r0.1
  have HZ := Lib.hid zx
  have hlm : rl ≤ 2000000 := by rw [← r0.1]; unfold Part.sz szL at zx; omega
  have HO := Lib.hid (fun w h => spec_Conf c ch cf w h)
  clear hc r0 zx
  simp only [Config.list, Part.list] at *
  go_enter Tryd.func6, Tryd.ntmps6
  go_wp2_with fail
  refine calls_gen (fun W => Below w.heap.size w W ∧ Blk W w.heap.size 34 (Config.list c ch) ∧ Blk W (w.heap.size + 1) 36 (Part.list x ⟨ra, rl, rc⟩)) ⟨by repeat (first | exact Below.refl _ _ | refine Below.setCell ?_ (by first | omega | (simp; done) | (simp; omega)) _ | refine Below.alloc ?_ (by first | omega | (simp; done) | (simp; omega)) _ | apply Below.drew), by unfold Config.list; with_reducible (repeat (first | (refine blk_new_at _ _ _ _ ?_; first | rfl | (simp; done)) | refine Blk.alloc ?_ _ | apply Blk.drew | refine Blk.setOther ?_ (by first | (simp; done) | (simp; omega)) _)), by unfold Part.list; with_reducible (repeat (first | (refine blk_new_at _ _ _ _ ?_; first | rfl | (simp; done)) | refine Blk.alloc ?_ _ | apply Blk.drew | refine Blk.setOther ?_ (by first | (simp; done) | (simp; omega)) _))⟩ ?_
  rintro W1 ⟨b1, k1, p1⟩
  refine (HO.out _ (HC.out.below b1)).mono ?_
  rintro e' W0 ⟨rfl, b2⟩
  have B0 := Lib.hid (b1.trans (b2.mono b1.size))
  have K0 := Lib.hid (k1.below b2 k1.lt)
  have P0 := Lib.hid (p1.below b2 p1.lt)
  clear b1 b2 k1 p1
  cases q1 : confD c with
  | false =>
    have HM := Lib.hid (show -200000 = markD c x n by unfold markD; rw [tideL_none q1])
    clear q1
    go_wp2_with fail
    go_ret
    exact ⟨ret_int HM.out, B0.out⟩
  | true =>
  have Q1 := Lib.hid q1
  clear q1
  go_wp2_with fail
  go_loopg [7, 8] (rl + 1) (fun r m i wr => ∃ j : Nat, j + r = rl + 1 ∧ j ≤ rl ∧ (j : Int) ≤ max n 0 ∧ i = .int .i64 j ∧ m = .int .i64 (tideL c (x.recs.take j)) ∧ Below w.heap.size w wr ∧ Below W0.heap.size W0 wr)
  case atStart => exact ⟨0, by omega, by omega, by omega, rfl, by rw [tideL_nil], B0.out, Below.refl _ _⟩
  case round =>
    obtain ⟨j, hj, hjl, hjn, rfl, rfl, hB, hB0⟩ := hrel
    have HB := Lib.hid hB
    have HB0 := Lib.hid hB0
    have KK := Lib.hid (K0.out.below hB0 K0.out.lt)
    have PP := Lib.hid (P0.out.below hB0 P0.out.lt)
    have p0 := PP.out.cell 0
    simp [Part.list] at p0
    have pl := PP.out.lt
    by_cases hln : (j : Int) < n
    case neg =>
      have HT := Lib.hid (show tideL c (x.recs.take j) = markD c x n by unfold markD; rw [show n.toNat = j by omega])
      clear hB hB0
      go_wp2_with fail
      go_ret
      exact ⟨ret_int HT.out, HB.out⟩
    by_cases hlt : j < rl
    case neg =>
      have HT := Lib.hid (show tideL c (x.recs.take j) = markD c x n by
        unfold markD
        rw [List.take_of_length_le (by rw [HL.out]; omega), List.take_of_length_le (by rw [HL.out]; omega)])
      have hlt2 : ¬ (j : Int) < (rl : Int) := by omega
      clear hB hB0
      go_wp2_with fail
      go_ret
      exact ⟨ret_int HT.out, HB.out⟩
    have c0 := KK.out.cell 0
    have c1 := KK.out.cell 1
    have c2 := KK.out.cell 2
    have c3 := KK.out.cell 3
    have c4 := KK.out.cell 4
    simp [Config.list] at c0 c1 c2 c3 c4
    obtain ⟨b, off, s, f, cs, rfl, hbl, hs, hcl, hR, hcs⟩ := HG.out.at hlt
    obtain ⟨rfl, hss, rfl⟩ := hR
    have d0 : wr.cell? ⟨b, off + j, none⟩ = some (.string s) := by have := (hB.cell (p := ⟨b, off + j * 1 + 0, none⟩) hbl).trans (hcs 0 (by omega)); simpa using this
    have HS := Lib.hid (tideL_succ (c := c) hs)
    have hlt2 : (j : Int) < (rl : Int) := by omega
    have h02 : (0 : Int) ≤ (j : Int) := by omega
    obtain ⟨m, hm⟩ : ∃ m, tideL c (x.recs.take j) = m := ⟨_, rfl⟩
    rw [hm] at HS ⊢
    clear hs hcs hB hB0 hm
    obtain ⟨ev, hev⟩ : ∃ ev, evRD c s.data.toList = ev := ⟨_, rfl⟩
    obtain ⟨ok, hok⟩ : ∃ ok, (evR c s.data.toList).isSome = ok := ⟨_, rfl⟩
    have HR := Lib.hid (fun w h => spec_EventRead_any c ch cf s w h hss)
    unfold EvRead at HR
    rw [hev, hok] at HR
    simp only [Event.list, Config.list] at HR
    have HOK := Lib.hid hok
    have HEV := Lib.hid hev
    clear hev hok
    go_wp2_with fail
    go_cut [9, 10] (fun v u wx => u = .bool ok ∧ ∃ eh : EventH, Boxed ev eh wr v wx)
    case first =>
      go_region_held3 (fun w' => w'.cell? ⟨w.heap.size, 0, none⟩ = some (.int .i64 c.d) ∧ w'.cell? ⟨w.heap.size, 1, none⟩ = some (.slice ch.wsa ch.wsl ch.wsc) ∧ w'.cell? ⟨w.heap.size, 2, none⟩ = some (.slice ch.msa ch.msl ch.msc) ∧ w'.cell? ⟨w.heap.size, 3, none⟩ = some (.int .i64 c.dl) ∧ w'.cell? ⟨w.heap.size, 4, none⟩ = some (.int .i64 c.lt) ∧ w'.cell? ⟨w.heap.size + 1, 0, none⟩ = some (.slice (some ⟨b, off, none⟩) rl rc) ∧ w'.cell? ⟨b, off + j, none⟩ = some (.string s))
        ((refine mark_keep (W := wr) KK.out PP.out d0 ?_; repeat (first | exact hbz | apply Below.drew | exact Below.refl _ _ | refine Below.setCell ?_ (by first | (simp; done) | (have := hZ.out.size; simp at this ⊢; omega)) _ | refine Below.alloc ?_ (by first | (simp; done) | (have := hZ.out.size; simp at this ⊢; omega)) _)))
        (first | (go_at_call 16; refine (HR.out _ (HC.out.below (by first | exact HB.out.drew | exact (HB.out.alloc (by first | omega | (simp; done) | (simp; omega)) _).drew))).mono ?_; rintro e wz ⟨eh, ef, rfl, hiz, hq⟩; have hQ := Lib.hid hq; have hbz : Below wr.heap.size wr wz := (by first | exact (Below.refl _ _).drew.trans hq | exact ((Below.refl _ _).alloc (Nat.le_refl _) _).drew.trans (hq.mono (by simp))); have hZ := Lib.hid hbz; obtain ⟨kz, fz⟩ := bcell_ hq; clear hiz hq))
      all_goals (go_wp2_with fail; go_meet)
      all_goals first
        | exact ⟨rfl, _, boxed_after rfl hZ.out⟩
        | exact ⟨rfl, eh, boxed_before hQ.out rfl⟩
    case rest =>
      obtain ⟨rfl, eh, bx, rfl, hbx, kb, hbw⟩ := hcut
      generalize wc = W4 at *
      have B4 := Lib.hid (HB.out.trans (hbw.mono HB.out.size))
      have B5 := Lib.hid (HB0.out.trans (hbw.mono HB0.out.size))
      have e0 := kb.cell 0
      have f3 := (KK.out.below hbw KK.out.lt).cell 3
      simp [Event.list, Config.list] at e0 f3
      clear hbw kb c0 c1 c2 c3 c4 p0 d0 pl KK PP HB HB0
      cases he : evR c s.data.toList with
      | none =>
        have hm : markB c m s = m := by unfold markB; rw [he]
        have HM := Lib.hid hm
        have hok := HOK.out
        rw [he] at hok
        simp at hok
        subst hok
        clear hm he
        go_wp2_with fail
        go_roundg (rl + 1 - (j + 1))
        case measure => omega
        case rel => exact ⟨j + 1, by omega, by omega, by omega, by go_num, by rw [HS.out, HM.out], B4.out, B5.out⟩
      | some e =>
        have hb := ev_less he
        have hv : ev = e := by rw [← HEV.out]; unfold evRD; rw [he]; rfl
        subst hv
        have hok := HOK.out
        rw [he] at hok
        simp at hok
        subst hok
        obtain ⟨q, hq⟩ : ∃ q, ev.t - c.dl = q := ⟨_, rfl⟩
        have hw : IntKind.i64.wrap (ev.t - c.dl) = q := by rw [← hq, IntKind.wrap_i64]; omega
        have hm : markB c m s = max m q := by unfold markB; rw [he]; simp only [hq]
        have HM := Lib.hid hm
        clear hm he hq hb
        go_wp2_with fail
        go_roundg (rl + 1 - (j + 1))
        case measure => omega
        case rel => exact ⟨j + 1, by omega, by omega, by omega, by go_num, by rw [HS.out, HM.out], B4.out, B5.out⟩
end Go.Proofs.YtdipkbgfkbmfnaaDoor.dat
