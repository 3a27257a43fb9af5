/-
  THE CONTRACT OF RollUp of the program: the panes of the map that joining makes, in new memory; nothing where it is not so, or a join is false.
-/
import Derived.Test.YtpcekmllmnfmmaaGreatRollImpl
import Derived.Test.YtpcekmllmnfmmaaGreatMixOrd
namespace Go.Proofs.YtpcekmllmnfmmaaGreat.dat
open Go.RowKit Go.Proofs.YtpcekmllmnfmmaaGreat.win

def cellR (c : ConfD) (fr tt : Int) (p : PaneD) : CellD := cellD (maskN c tt) p.win tt p.start (dimsD (maskN c fr) p.key c.d.toNat)
/-- What the map holds behind these panes; none where a join is false. -/
def rollGo (c : ConfD) (fr tt : Int) : List PaneD → (CellD → Option AggD) → Option (CellD → Option AggD)
  | [], F => some F
  | p :: r, F => if p.mask = fr then (if joinOk ((F (cellR c fr tt p)).getD zeroA) p.a = true then rollGo c fr tt r (upd F (cellR c fr tt p) (joinC (F (cellR c fr tt p)) p.a)) else none) else rollGo c fr tt r F
/-- RollUp of the program. -/
def Rolls (c : ConfD) (l : List PaneD) (fr tt : Int) (w : World) (r : Ending) (w' : World) : Prop :=
  match (if panesB c l && rollsB c fr tt then rollGo c fr tt l (fun _ => none) else none) with
  | some F => Panes c F w r w'
  | none => r = .returned (.slice none 0 0) ∧ Below w.heap.size w w'
theorem dimB_of {x : Int} (h : dimB x = true) : 0 ≤ x ∧ x ≤ 99 := by
  unfold dimB upB at h
  exact of_decide_eq_true h
theorem cellR_wf {c : ConfD} {fr tt : Int} {p : PaneD} {l : List PaneD} (hp : panesB c l = true) (hm : p ∈ l) (h0 : 0 ≤ tt) (h1 : tt ≤ 1000000) : Cell.Wf (cellR c fr tt p) := by
  unfold panesB at hp
  simp only [Bool.and_eq_true] at hp
  have hb := List.all_eq_true.1 hp.1.2 p hm
  unfold paneB at hb
  simp only [Bool.and_eq_true] at hb
  obtain ⟨⟨⟨⟨⟨hw, hmk⟩, hs⟩, hk⟩, _⟩, _⟩ := hb
  have hwin : 0 ≤ p.win ∧ p.win ≤ 1000000 := by
    obtain ⟨i, hi, hl⟩ := placeB_nat hw
    have hc := hp.1.1
    unfold confD winsB at hc
    simp only [Bool.and_eq_true] at hc
    have := hc.1.1.1.2.1.1
    simp at this
    omega
  have hst : -200000 ≤ p.start ∧ p.start ≤ 200000 := by
    unfold startB at hs
    split at hs
    · simp only [Bool.and_eq_true] at hs
      have := hs.2
      unfold spanB at this
      exact of_decide_eq_true this
    · cases hs
  have hkey : ∀ x ∈ p.key, 0 ≤ x ∧ x ≤ 99 := by
    unfold keyB at hk
    split at hk
    · simp only [Bool.and_eq_true] at hk
      exact fun x hx => dimB_of (List.all_eq_true.1 hk.2 x hx)
    · cases hk
  have hv : ∀ m i, 0 ≤ dimV m p.key i ∧ dimV m p.key i ≤ 99 := by
    intro m i
    unfold dimV
    split
    · cases e : p.key[rank m i]? with
      | none => simp
      | some x => simpa using hkey x (List.mem_of_getElem? e)
    · omega
  have hd : ∀ m m' n i, 0 ≤ dimAt m (dimsD m' p.key n) i ∧ dimAt m (dimsD m' p.key n) i ≤ 99 := by
    intro m m' n i
    unfold dimAt
    split
    · cases e : (dimsD m' p.key n)[i]? with
      | none => simp
      | some x =>
        have := List.mem_of_getElem? e
        unfold dimsD at this
        obtain ⟨j, _, rfl⟩ := List.mem_map.1 this
        simpa using hv m' j
    · omega
  refine ⟨WalkArith.wf_i64 ?_, WalkArith.wf_i64 ?_, WalkArith.wf_i64 ?_, WalkArith.wf_i64 ?_, WalkArith.wf_i64 ?_, WalkArith.wf_i64 ?_⟩
  · show _ ≤ p.win ∧ p.win ≤ _; omega
  · show _ ≤ tt ∧ tt ≤ _; omega
  · show _ ≤ p.start ∧ p.start ≤ _; omega
  all_goals (have := hd (maskN c tt) (maskN c fr) c.d.toNat; unfold cellR cellD; simp only)
  · have := this 0; omega
  · have := this 1; omega
  · have := this 2; omega

theorem MapAt.alloc_any {ε : Type} {M : MapK ε} {w : World} {b n : Nat} {F : CellD → Option ε} (h : MapAt M w b n F) (o : Obj) : MapAt M (w.alloc o) b n F := h.below ((Below.refl _ _).alloc (Nat.le_refl _) _)
theorem Panes.of {c : ConfD} {F : CellD → Option AggD} {w wr w' : World} {r : Ending} (h : Panes c F wr r w') (hb : Below w.heap.size w wr) : Panes c F w r w' := by
  obtain ⟨v, L, xs, h1, h2, h3, rest⟩ := h
  exact ⟨v, L, xs, h1, h2.mono hb.size, hb.trans (h3.mono hb.size), rest⟩
theorem pane_key {c : ConfD} {p : PaneD} {l : List PaneD} {i : Nat} (hp : panesB c l = true) (hm : p ∈ l) (hi : p.mask = (i : Int)) (hu : c.ms[i]? = some (maskN c i)) : (p.key.length : Int) = ones (maskN c i) := by
  unfold panesB at hp
  simp only [Bool.and_eq_true] at hp
  have hb := List.all_eq_true.1 hp.1.2 p hm
  unfold paneB at hb
  simp only [Bool.and_eq_true] at hb
  have hk := hb.1.1.2
  unfold keyB at hk
  rw [hi, Int.toNat_natCast, hu] at hk
  simp only [Bool.and_eq_true, beq_iff_eq] at hk
  exact hk.1
theorem keep13 {W w' : World} {p q : Nat} {t u : TypeId} {v0 v1 v2 v3 v4 u0 u1 u2 u3 u4 u5 u6 u7 : Value} (hk : Blk W p t [v0, v1, v2, v3, v4]) (hq : Blk W q u [u0, u1, u2, u3, u4, u5, u6, u7]) (e1 : w'.heap[p]? = W.heap[p]?) (e2 : w'.heap[q]? = W.heap[q]?) :
    w'.cell? ⟨p, 0, none⟩ = some v0 ∧ w'.cell? ⟨p, 1, none⟩ = some v1 ∧ w'.cell? ⟨p, 2, none⟩ = some v2 ∧ w'.cell? ⟨p, 3, none⟩ = some v3 ∧ w'.cell? ⟨p, 4, none⟩ = some v4 ∧ w'.cell? ⟨q, 0, none⟩ = some u0 ∧ w'.cell? ⟨q, 1, none⟩ = some u1 ∧ w'.cell? ⟨q, 2, none⟩ = some u2 ∧ w'.cell? ⟨q, 3, none⟩ = some u3 ∧ w'.cell? ⟨q, 4, none⟩ = some u4 ∧ w'.cell? ⟨q, 5, none⟩ = some u5 ∧ w'.cell? ⟨q, 6, none⟩ = some u6 ∧ w'.cell? ⟨q, 7, none⟩ = some u7 := by
  have k : Blk w' p t [v0, v1, v2, v3, v4] := e1.trans hk
  have l : Blk w' q u [u0, u1, u2, u3, u4, u5, u6, u7] := e2.trans hq
  exact ⟨by simpa using k.cell 0, by simpa using k.cell 1, by simpa using k.cell 2, by simpa using k.cell 3, by simpa using k.cell 4, by simpa using l.cell 0, by simpa using l.cell 1, by simpa using l.cell 2, by simpa using l.cell 3, by simpa using l.cell 4, by simpa using l.cell 5, by simpa using l.cell 6, by simpa using l.cell 7⟩

set_option maxRecDepth 100000 in
set_option maxHeartbeats 4000000 in
theorem impl_RollUp (c : ConfD) (ch : ConfigH) (cf : List Nat) (a : Option Addr) (len cap : Nat) (l : List PaneD) (fp : List Nat) (fr tt : Int) (w : World) (hc : Config.Is w c ch cf) (hrow : GRow 8 RPane w a len l fp) (hcap : len ≤ cap) (hcm : cap ≤ 9223372036854775807) (hzc : Config.sz c ≤ 2000000) (hmax : szL Pane.sz l ≤ 2000000) :
    Calls Tryz.prog 11 #[.agg (Config.list c ch).toArray, .slice a len cap, .int .i64 fr, .int .i64 tt] w fun r w' => Rolls c l fr tt w r w' := by
  have HC := Lib.hid hc
  have HG := Lib.hid hrow
  have HL := Lib.hid hrow.1
  have HU := Lib.hid (And.intro hcap hcm)
  have HZ := Lib.hid hzc
  have HM := Lib.hid hmax
  have hlen : len ≤ 2000000 := by rw [← hrow.1]; unfold szL at hmax; omega
  have HRU := Lib.hid (fun W h1 h2 => rollsUp c ch cf fr tt W h1 h2)
  clear hc hrow hcap hcm hzc hmax
  simp only [Config.list] at *
  go_enter Tryz.func11, Tryz.ntmps11
  go_wp2_with fail
  refine calls_gen (fun W => Below w.heap.size w W ∧ Blk W w.heap.size 33 [.int .i64 c.d, .slice ch.wsa ch.wsl ch.wsc, .slice ch.msa ch.msl ch.msc, .int .i64 c.dl, .int .i64 c.lt]) ⟨by repeat (first | exact Below.refl _ _ | refine Below.setCell ?_ (by first | omega | (simp; done) | (simp; omega)) _ | refine Below.alloc ?_ (by first | omega | (simp; done) | (simp; omega)) _ | apply Below.drew), by with_reducible (repeat (first | (refine blk_new_at _ _ _ _ ?_; first | rfl | (simp; done)) | refine Blk.alloc ?_ _ | apply Blk.drew | refine Blk.setOther ?_ (by first | (simp; done) | (simp; omega)) _))⟩ ?_
  rintro W1 ⟨b1, k1⟩
  refine (impl_PanesOk c ch cf a len cap l fp W1 (HC.out.below b1) (HG.out.below local_Pane b1) HU.out.1 HU.out.2 HZ.out HM.out).mono ?_
  rintro e W2 ⟨rfl, b2⟩
  have B2 := Lib.hid (b1.trans (b2.mono b1.size))
  have K2 := Lib.hid (k1.below b2 k1.lt)
  clear b1 k1 b2
  cases p1 : panesB c l with
  | false =>
    have P1 := Lib.hid p1
    clear p1
    go_wp2_with fail
    go_ret
    unfold Rolls
    rw [P1.out]
    exact ⟨rfl, B2.out⟩
  | true =>
  have P1 := Lib.hid p1
  have hok : confD c = true := by unfold panesB at p1; simp only [Bool.and_eq_true] at p1; exact p1.1.1
  have HOK := Lib.hid hok
  clear p1 hok
  have k2 := K2.out
  have c0 := k2.cell 0
  have c1 := k2.cell 1
  have c2 := k2.cell 2
  have c3 := k2.cell 3
  have c4 := k2.cell 4
  simp at c0 c1 c2 c3 c4
  clear k2
  go_wp2_with fail
  refine (HRU.out W2 (HC.out.below B2.out) HOK.out).mono ?_
  rintro e W3 ⟨rfl, b3⟩
  have B3 := Lib.hid (B2.out.trans (b3.mono B2.out.size))
  have K3 := Lib.hid (K2.out.below b3 K2.out.lt)
  clear b3 c0 c1 c2 c3 c4
  cases p2 : rollsB c fr tt with
  | false =>
    have P2 := Lib.hid p2
    clear p2
    go_wp2_with fail
    go_ret
    unfold Rolls
    rw [P1.out, P2.out]
    exact ⟨rfl, B3.out⟩
  | true =>
  have P2 := Lib.hid p2
  clear p2
  have hRR : ∀ r w', (match rollGo c fr tt l (fun _ => none) with
    | some F => Panes c F w r w'
    | none => r = .returned (.slice none 0 0) ∧ Below w.heap.size w w') → Rolls c l fr tt w r w' := by
    intro r w' h; unfold Rolls; rw [P1.out, P2.out]; exact h
  have HRR := Lib.hid hRR
  clear hRR
  have hp2 := P2.out
  unfold rollsB at hp2
  simp only [Bool.and_eq_true] at hp2
  have hml : c.ms.length = ch.msl := by obtain ⟨f0, f1, _, r0, u0, v0, r1, u1, v1⟩ := HC.out; exact r1.1
  rw [hml] at hp2
  obtain ⟨i, rfl, hi⟩ := placeB_nat hp2.1.1
  obtain ⟨j, rfl, hj⟩ := placeB_nat hp2.1.2
  have ui : c.ms[i]? = some (maskN c i) := by obtain ⟨_, _, _, _, _, h⟩ := cell_mask HC.out hi; exact h
  have uj : c.ms[j]? = some (maskN c j) := by obtain ⟨_, _, _, _, _, h⟩ := cell_mask HC.out hj; exact h
  have UI := Lib.hid (And.intro hi ui)
  have UJ := Lib.hid (And.intro hj uj)
  have hd := conf_dims HOK.out
  have HD3 := Lib.hid (show c.d.toNat ≤ 3 by omega)
  have hmj := conf_mask HOK.out uj
  have HMJ := Lib.hid hmj
  have hj3 : (j : Int) ≤ 1000000 := by
    have hc := HOK.out
    unfold confD masksB at hc
    simp only [Bool.and_eq_true] at hc
    have := hc.1.1.2.1.1
    simp at this
    omega
  have HJ3 := Lib.hid hj3
  clear hp2 hml hi hj ui uj hd hmj hj3
  have hmm := @run_makeMap Tryz.prog
  go_wp2_with fail
  clear hmm
  go_loopg [26] len (fun k v wr => ∃ (t : Nat) (F : CellD → Option AggD), t + k = len ∧ v = .int .i64 t ∧ MapAt cubeK wr W3.heap.size t F ∧ rollGo c i j l (fun _ => none) = rollGo c i j (l.drop t) F ∧ Below w.heap.size w wr ∧ Blk wr w.heap.size 33 [.int .i64 c.d, .slice ch.wsa ch.wsl ch.wsc, .slice ch.msa ch.msl ch.msc, .int .i64 c.dl, .int .i64 c.lt] ∧ (∀ x a, F x = some a → x.mask = (j : Int)))
  case atStart => exact ⟨0, _, by omega, rfl, MapAt.made cubeK W3, by simp, B3.out.alloc B3.out.size _, K3.out.alloc _, fun x a h => by cases h⟩
  case round =>
    obtain ⟨t, F, ht, rfl, hMa, hgo, hB, hK, hFm⟩ := hrel
    have MA := Lib.hid hMa
    have GO := Lib.hid hgo
    have BB := Lib.hid hB
    have KK := Lib.hid hK
    have FM := Lib.hid hFm
    have h3w : W3.heap.size < wr.heap.size := hMa.lt
    have hww3 : w.heap.size < W3.heap.size := K3.out.lt
    by_cases hlt : t < len
    case neg =>
      obtain rfl : t = len := by omega
      have GO2 := Lib.hid (show rollGo c i j l (fun _ => none) = some F by rw [GO.out, List.drop_of_length_le (by rw [HL.out]; omega)]; rfl)
      have c0 := hK.cell 0
      have c1 := hK.cell 1
      have c2 := hK.cell 2
      have c3 := hK.cell 3
      have c4 := hK.cell 4
      simp at c0 c1 c2 c3 c4
      clear hMa hgo hB hK hFm
      have hcp := cubePanes c ch cf W3.heap.size t F wr (HC.out.below BB.out) HOK.out MA.out (by omega) (fun x a hx => ⟨j, maskN c j, FM.out x a hx, UJ.out.1, UJ.out.2⟩)
      simp only [Config.list] at hcp
      have HCP := Lib.hid hcp
      clear hcp
      go_wp2_with fail
      refine HCP.out.mono ?_
      intro e w5 hP5
      have hP6 := hP5.of BB.out
      have P6 := Lib.hid hP6
      obtain ⟨v, L, xs, rfl, _⟩ := hP5
      clear hP6
      go_wp2_with fail
      go_ret
      refine HRR.out _ _ ?_
      rw [GO2.out]
      exact P6.out
    obtain ⟨b, off, x, f, cs, rfl, hbl, hx, hcl, hRx, hcs⟩ := HG.out.at hlt
    obtain ⟨h, rfl, hIs⟩ := hRx
    have hcell : ∀ q, q < 8 → wr.cell? ⟨b, off + t * 8 + q, none⟩ = (Pane.list x h)[q]? := fun q hq => (hB.cell (p := ⟨b, off + t * 8 + q, none⟩) hbl).trans (hcs q hq)
    have q0 : wr.cell? ⟨b, off + t * 8, none⟩ = some (.int .i64 x.win) := hcell 0 (by omega)
    have q1 : wr.cell? ⟨b, off + t * 8 + 1, none⟩ = some (.int .i64 x.mask) := hcell 1 (by omega)
    have q2 : wr.cell? ⟨b, off + t * 8 + 2, none⟩ = some (.int .i64 x.start) := hcell 2 (by omega)
    have q3 : wr.cell? ⟨b, off + t * 8 + 3, none⟩ = some (.slice h.keya h.keyl h.keyc) := hcell 3 (by omega)
    have q4 : wr.cell? ⟨b, off + t * 8 + 4, none⟩ = some (.int .i64 x.a.n) := hcell 4 (by omega)
    have q5 : wr.cell? ⟨b, off + t * 8 + 5, none⟩ = some (.int .i64 x.a.sm) := hcell 5 (by omega)
    have q6 : wr.cell? ⟨b, off + t * 8 + 6, none⟩ = some (.int .i64 x.a.mn) := hcell 6 (by omega)
    have q7 : wr.cell? ⟨b, off + t * 8 + 7, none⟩ = some (.int .i64 x.a.mx) := hcell 7 (by omega)
    have hlt2 : (t : Int) < (len : Int) := by omega
    have h02 : (0 : Int) ≤ (t : Int) := by omega
    have hdr : l.drop t = x :: l.drop (t + 1) := by
      have h1 : t < l.length := by rw [HL.out]; exact hlt
      rw [List.drop_eq_getElem_cons h1]
      obtain ⟨h2, rfl⟩ := List.getElem?_eq_some_iff.1 hx
      rfl
    have XM := Lib.hid (List.mem_of_getElem? hx)
    have IS := Lib.hid hIs
    rw [hdr] at hgo
    by_cases hmk : x.mask = (i : Int)
    case neg =>
      have hne : (x.mask != (i : Int)) = true := by simpa using hmk
      have GO2 := Lib.hid (show rollGo c i j l (fun _ => none) = rollGo c i j (l.drop (t + 1)) F by rw [hgo, rollGo, if_neg hmk])
      clear hMa hgo hB hK hFm hcs hcl hx hcell hdr hIs GO hmk
      go_wp2_with fail
      go_roundg (len - (t + 1))
      case measure => omega
      case rel => exact ⟨t + 1, F, by omega, by go_num, (MA.out.alloc_any _).mono (by omega), GO2.out, BB.out.alloc BB.out.size _, KK.out.alloc _, FM.out⟩
    have hne : (x.mask != (i : Int)) = false := by simpa using hmk
    have GO2 := Lib.hid (show rollGo c i j l (fun _ => none) = (if joinOk ((F (cellR c i j x)).getD zeroA) x.a = true then rollGo c i j (l.drop (t + 1)) (upd F (cellR c i j x) (joinC (F (cellR c i j x)) x.a)) else none) by rw [hgo, rollGo, if_pos hmk])
    have hDO := fun W hcW hpW => dimsOf c ch cf x h f i (maskN c i) W hcW hpW HOK.out hmk UI.out.1 UI.out.2 (pane_key P1.out XM.out hmk UI.out.2)
    have hCO : ∀ W aa nn cc ff, Config.Is W c ch cf → nn ≤ 3 → GRow 1 RInt W aa nn (dimsD (maskN c i) x.key c.d.toNat) ff → Calls Tryz.prog 39 #[.agg (Config.list c ch).toArray, .int .i64 x.win, .int .i64 j, .int .i64 x.start, .slice aa nn cc] W fun e w' => e = .returned (Cell.v (cellR c i j x)) ∧ Below W.heap.size W w' :=
      fun W aa nn cc ff h1 h2 h3 => cellOf c ch cf x.win j x.start aa nn cc _ ff (maskN c j) W h1 UJ.out.1 UJ.out.2 HMJ.out.1 HMJ.out.2 h2 h3
    have hCJ := fun W hmW => cubeJoin W3.heap.size t F (cellR c i j x) x.a W hmW (by omega) (cellR_wf P1.out XM.out (by omega) HJ3.out)
    simp only [Config.list, Pane.list] at hDO hCO
    simp only [aggV] at hCJ
    have DO := Lib.hid hDO
    have CO := Lib.hid hCO
    have CJ := Lib.hid hCJ
    have hkl := hK.lt
    clear hMa hgo hB hK hFm hcs hcl hx hcell hdr hIs GO hmk hDO hCO hCJ
    go_wp2_with fail
    refine wp_gen (fun W => Below wr.heap.size wr W ∧ Blk W wr.heap.size 62 [.int .i64 x.win, .int .i64 x.mask, .int .i64 x.start, .slice h.keya h.keyl h.keyc, .int .i64 x.a.n, .int .i64 x.a.sm, .int .i64 x.a.mn, .int .i64 x.a.mx]) ⟨by repeat (first | exact Below.refl _ _ | refine Below.setCell ?_ (by first | omega | (simp; done) | (simp; omega)) _ | refine Below.alloc ?_ (by first | omega | (simp; done) | (simp; omega)) _ | apply Below.drew), by with_reducible (repeat (first | (refine blk_new_at _ _ _ _ ?_; first | rfl | (simp; done)) | refine Blk.alloc ?_ _ | apply Blk.drew | refine Blk.setOther ?_ (by first | (simp; done) | (simp; omega)) _))⟩ ?_
    rintro W5 ⟨b5, k5⟩
    have B5 := Lib.hid b5
    have K5 := Lib.hid k5
    have C5 := Lib.hid (KK.out.below b5 KK.out.lt)
    have S5 := keep13 C5.out k5 rfl rfl
    clear b5 k5 q0 q1 q2 q3 q4 q5 q6 q7
    refine mix.wp_region_ord (fun w' => w'.cell? ⟨w.heap.size, 0, none⟩ = some (.int .i64 c.d) ∧ w'.cell? ⟨w.heap.size, 1, none⟩ = some (.slice ch.wsa ch.wsl ch.wsc) ∧ w'.cell? ⟨w.heap.size, 2, none⟩ = some (.slice ch.msa ch.msl ch.msc) ∧ w'.cell? ⟨w.heap.size, 3, none⟩ = some (.int .i64 c.dl) ∧ w'.cell? ⟨w.heap.size, 4, none⟩ = some (.int .i64 c.lt) ∧ w'.cell? ⟨wr.heap.size, 0, none⟩ = some (.int .i64 x.win) ∧ w'.cell? ⟨wr.heap.size, 1, none⟩ = some (.int .i64 x.mask) ∧ w'.cell? ⟨wr.heap.size, 2, none⟩ = some (.int .i64 x.start) ∧ w'.cell? ⟨wr.heap.size, 3, none⟩ = some (.slice h.keya h.keyl h.keyc) ∧ w'.cell? ⟨wr.heap.size, 4, none⟩ = some (.int .i64 x.a.n) ∧ w'.cell? ⟨wr.heap.size, 5, none⟩ = some (.int .i64 x.a.sm) ∧ w'.cell? ⟨wr.heap.size, 6, none⟩ = some (.int .i64 x.a.mn) ∧ w'.cell? ⟨wr.heap.size, 7, none⟩ = some (.int .i64 x.a.mx)) [9,10,13] [0,1,2,3,4,5,6,7,8,11,12,9,10,13,14] (by kernel_rfl) (by kernel_rfl) (fun _ _ d _ _ h => by cases d <;> exact h) S5 ?_
    clear S5
    simp only [List.filterMap_cons, List.filterMap_nil, List.getElem?_cons_zero, List.getElem?_cons_succ, Option.map_some]
    (repeat (first | (apply mix.ord_take; (· rfl); (· rfl); (· (intro w' hSw; (try dsimp only at hSw); go_simp; try with_reducible rfl)); (try simp only [Act.put, List.setIfInBounds_toArray, List.set_cons_zero, List.set_cons_succ])) | ((refine mix.ord_pass rfl (by rfl) ?_); (try simp only [Act.put, List.setIfInBounds_toArray, List.set_cons_zero, List.set_cons_succ]))))
    refine mix.ord_hard rfl (fun K hK => ?_); go_simp
    have bw5 := Lib.hid (show Below w.heap.size w W5.drew from (BB.out.trans (B5.out.mono BB.out.size)).drew)
    refine (DO.out W5.drew (HC.out.below bw5.out) (IS.out.below bw5.out)).mono ?_
    rintro e W6 ⟨a2, n2, c2, f2, rfl, hr2, _, _, _, b6⟩
    have bq6 : Below W5.heap.size W5 W6 := (Below.refl _ _).drew.trans b6
    have B6 := Lib.hid bq6
    have hn2 : n2 ≤ 3 := by have h1 := hr2.1; have h2 := HD3.out; simp [dimsD] at h1; omega
    have R6 := Lib.hid hr2
    have S6 := Lib.hid (keep13 C5.out K5.out (bq6.block _ C5.out.lt) (bq6.block _ K5.out.lt))
    clear b6 bq6 hr2
    refine hK.out _ _ (S6.out) (fun hSw => ?_); clear hK K hSw; (try simp only [Act.put, List.setIfInBounds_toArray, List.set_cons_zero, List.set_cons_succ])
    clear S6
    refine mix.ord_hard rfl (fun K hK => ?_); go_simp
    refine (CO.out W6 a2 n2 c2 f2 (HC.out.below (show Below w.heap.size w W6 from (BB.out.trans (B5.out.mono BB.out.size)).trans (B6.out.mono (Nat.le_trans BB.out.size B5.out.size)))) hn2 R6.out).mono ?_
    rintro e W7 ⟨rfl, b7⟩
    have bq7 : Below W5.heap.size W5 W7 := B6.out.trans (b7.mono B6.out.size)
    have B7 := Lib.hid bq7
    have S7 := Lib.hid (keep13 C5.out K5.out (bq7.block _ C5.out.lt) (bq7.block _ K5.out.lt))
    clear b7 bq7
    refine hK.out _ _ (S7.out) (fun hSw => ?_); clear hK K hSw; (try simp only [Act.put, List.setIfInBounds_toArray, List.set_cons_zero, List.set_cons_succ])
    clear S7
    refine mix.ord_hard rfl (fun K hK => ?_); go_simp
    refine (CJ.out W7 (MA.out.below (B5.out.trans (B7.out.mono B5.out.size)))).mono ?_
    rintro e W8 ⟨rfl, hm8, ap8⟩
    have h57 := B7.out.size
    have h5r := B5.out.size
    have kl5 := K5.out.lt
    have e1 : W8.heap[w.heap.size]? = W5.heap[w.heap.size]? := (ap8.block _ (by have := C5.out.lt; omega) (by simp; omega)).trans (B7.out.block _ C5.out.lt)
    have e2 : W8.heap[wr.heap.size]? = W5.heap[wr.heap.size]? := (ap8.block _ (by omega) (by simp; omega)).trans (B7.out.block _ K5.out.lt)
    have S8 := Lib.hid (keep13 C5.out K5.out e1 e2)
    have C8 := Lib.hid (show Blk W8 w.heap.size _ _ from e1.trans C5.out)
    have M8 := Lib.hid hm8
    have B8 := Lib.hid (show Below w.heap.size w W8 from ((BB.out.trans (B5.out.mono BB.out.size)).trans (B7.out.mono (by have := BB.out.size; omega))).trans (ap8.below (fun z hz => by simp at hz; omega) (by have := BB.out.size; omega)))
    clear hm8 ap8 e1 e2 h57 h5r kl5
    refine hK.out _ _ (S8.out) (fun hSw => ?_); clear hK K hSw; (try simp only [Act.put, List.setIfInBounds_toArray, List.set_cons_zero, List.set_cons_succ])
    clear S8
    (repeat (first | (apply mix.ord_take; (· rfl); (· rfl); (· (intro w' hSw; (try dsimp only at hSw); go_simp; try with_reducible rfl)); (try simp only [Act.put, List.setIfInBounds_toArray, List.set_cons_zero, List.set_cons_succ])) | ((refine mix.ord_pass rfl (by rfl) ?_); (try simp only [Act.put, List.setIfInBounds_toArray, List.set_cons_zero, List.set_cons_succ]))))
    refine mix.ord_end ?_
    cases hjk : joinOk ((F (cellR c i j x)).getD zeroA) x.a with
    | false =>
      have GO3 := Lib.hid (show rollGo c i j l (fun _ => none) = none by rw [GO2.out, hjk]; rfl)
      clear hjk
      go_wp2_with fail
      go_ret
      refine HRR.out _ _ ?_
      rw [GO3.out]
      exact ⟨rfl, B8.out⟩
    | true =>
      have GO3 := Lib.hid (show rollGo c i j l (fun _ => none) = rollGo c i j (l.drop (t + 1)) (upd F (cellR c i j x) (joinC (F (cellR c i j x)) x.a)) by rw [GO2.out, hjk]; rfl)
      clear hjk
      go_wp2_with fail
      go_roundg (len - (t + 1))
      case measure => omega
      case rel =>
        refine ⟨t + 1, _, by omega, by go_num, M8.out, GO3.out, B8.out, C8.out, fun y ay hy => ?_⟩
        unfold upd at hy
        by_cases ey : y = cellR c i j x
        · rw [ey]; rfl
        · rw [if_neg ey] at hy; exact FM.out y ay hy
end Go.Proofs.YtpcekmllmnfmmaaGreat.dat
