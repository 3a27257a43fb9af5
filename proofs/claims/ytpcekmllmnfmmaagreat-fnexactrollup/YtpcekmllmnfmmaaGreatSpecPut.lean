/-
  THE CONTRACT OF l04Put of the model: a pane joined to a list that rises, in a new row; nothing that was there is written.
-/
import Derived.Test.YtpcekmllmnfmmaaGreatLent2
import Derived.Test.YtpcekmllmnfmmaaGreatCubeJoin
import Derived.Test.YtpcekmllmnfmmaaGreatMixHeld
import Derived.Test.YtpcekmllmnfmmaaGreatDataMark2
namespace Go.Proofs.YtpcekmllmnfmmaaGreat.dat
open Go.RowKit Go.Proofs.YtpcekmllmnfmmaaGreat.win

/-- What l04Put hands back. -/
def GiveP2 (w : World) (L : List PaneD) (ok : Bool) (e : Ending) (w' : World) : Prop := ∃ (b off n c : Nat) (fp : List Nat), e = .returned (.tuple #[.slice (some ⟨b, off, none⟩) n c, .bool ok]) ∧ GRow 8 RPane w' (some ⟨b, off, none⟩) n L fp ∧ n ≤ c ∧ c ≤ 9223372036854775807 ∧ Below w.heap.size w w'
/-- Of whose cells one knows: those that lay there, and the one that is put. -/
def PutS (w : World) (p : PaneD) (a : Option Addr) (n c : Nat) (x : PaneD) (h : PaneH) : Prop := (∃ g, Pane.Is w x h g) ∨ (x.key = p.key ∧ h = ⟨a, n, c⟩)
theorem put_is {w w' : World} {p : PaneD} {a : Option Addr} {n c : Nat} {fk : List Nat} (hb : Below w.heap.size w w') (hk : GRow 1 RInt w' a n p.key fk) (h1 : n ≤ c) (h2 : c ≤ 9223372036854775807) {x : PaneD} {h : PaneH} (hs : PutS w p a n c x h) : ∃ g, Pane.Is w' x h g := by
  rcases hs with ⟨g, hg⟩ | ⟨e, rfl⟩
  · exact ⟨g, hg.below hb⟩
  · exact ⟨fk, fk, rfl, by rw [e]; exact hk, h1, h2⟩
theorem made_int (W : World) : Grows 1 RInt 3 W.heap.size (W.alloc (.cells #[] 3)) (.slice (some ⟨W.heap.size, 0, none⟩) 0 0) ([] : List Int) :=
  Grows.made (k := 1) (R := RInt) (e := 3) (base := W.heap.size) (w := W) #[] 0 (Nat.le_refl _) (Nat.zero_le _) (by simp)
theorem made_pane (S : PaneD → PaneH → Prop) (W : World) : Grows 8 (RS S) 62 W.heap.size (W.alloc (.cells #[] 62)) (.slice (some ⟨W.heap.size, 0, none⟩) 0 0) ([] : List PaneD) :=
  Grows.made (k := 8) (R := RS S) (e := 62) (base := W.heap.size) (w := W) #[] 0 (Nat.le_refl _) (Nat.zero_le _) (by simp)
theorem four_id {p x : PaneD} : fourB p.win p.mask p.start p.key x = true ↔ x.id = p.id := by
  unfold fourB PaneD.id
  simp [and_assoc]
theorem place_cases (m : PaneD → Bool) (l : List PaneD) : (∃ (j : Nat) (x : PaneD), l[j]? = some x ∧ m x = true ∧ placeOf m l = (j : Int)) ∨ (placeOf m l = -1 ∧ ∀ y ∈ l, m y = false) := by
  unfold placeOf
  cases h : l.any m with
  | true =>
    left
    obtain ⟨y, hy, hm⟩ := List.any_eq_true.1 h
    have hlt : l.findIdx m < l.length := List.findIdx_lt_length_of_exists ⟨y, hy, hm⟩
    exact ⟨l.findIdx m, l[l.findIdx m], List.getElem?_eq_getElem hlt, List.findIdx_getElem, by simp⟩
  | false =>
    right
    refine ⟨by simp, fun y hy => ?_⟩
    rw [List.any_eq_false] at h
    simpa using h y hy
/-- A row of one's own, its element j opened. -/
theorem put_row {S : PaneD → PaneH → Prop} {base j len : Nat} {w : World} {v : Value} {l : List PaneD} (hG : Grows 8 (RS S) 62 base w v ([] ++ l)) (hl : l.length = len) (hj : j < len) :
    ∃ (b off c : Nat) (fp : List Nat) (u0 u1 u2 u3 u4 u5 u6 u7 : Value), v = .slice (some ⟨b, off, none⟩) len c ∧ (w.cell? ⟨b, off + j * 8, none⟩ = some u0 ∧ w.cell? ⟨b, off + j * 8 + 1, none⟩ = some u1 ∧ w.cell? ⟨b, off + j * 8 + 2, none⟩ = some u2 ∧ w.cell? ⟨b, off + j * 8 + 3, none⟩ = some u3 ∧ w.cell? ⟨b, off + j * 8 + 4, none⟩ = some u4 ∧ w.cell? ⟨b, off + j * 8 + 5, none⟩ = some u5 ∧ w.cell? ⟨b, off + j * 8 + 6, none⟩ = some u6 ∧ w.cell? ⟨b, off + j * 8 + 7, none⟩ = some u7) ∧ len ≤ c ∧ c ≤ 9223372036854775807 ∧ base ≤ b ∧ b < w.heap.size ∧ (∀ o, w.frozen? ⟨b, o, none⟩ = false) ∧
      ∀ (w' : World) (x' : PaneD), (∀ q, base ≤ q → q < w.heap.size → q ≠ b → w'.heap[q]? = w.heap[q]?) → (∀ o, o < off + j * 8 ∨ off + j * 8 + 8 ≤ o → w'.cell? ⟨b, o, none⟩ = w.cell? ⟨b, o, none⟩) → b < w'.heap.size → El 8 (RS S) w' b (off + j * 8) x' [] → GRow 8 (RS S) w' (some ⟨b, off, none⟩) len (l.set j x') fp := by
  rw [List.nil_append] at hG
  obtain ⟨a5, c5, f5, hv5, hg5, hc51, hc52, ho5⟩ := hG.done
  rw [hl] at hv5 hg5 hc51
  obtain ⟨b5, off5, f6, y, ha5, hy, hb5lt, hb5f, _, _, hel, hup⟩ := hg5.update (local_rs _) ho5.1 hj
  subst ha5
  obtain ⟨cs, _, hR, hcs⟩ := hel
  obtain rfl := rs_f hR
  obtain ⟨hh, rfl, _⟩ := hR
  refine ⟨b5, off5, c5, f5, _, _, _, _, _, _, _, _, hv5, ⟨hcs 0 (by omega), hcs 1 (by omega), hcs 2 (by omega), hcs 3 (by omega), hcs 4 (by omega), hcs 5 (by omega), hcs 6 (by omega), hcs 7 (by omega)⟩, hc51, hc52, (ho5.2 b5 hb5f).1, hb5lt, (ho5.2 b5 hb5f).2.frozen, fun w' x' h1 h2 h3 h4 => ?_⟩
  exact hup w' x' (fun c hc hne _ => h1 c (ho5.2 c hc).1 (ho5.2 c hc).2.lt hne) h2 h3 h4
theorem keep_cmp {W w' : World} {q b o : Nat} {t : TypeId} {v0 v1 v2 v3 v4 v5 v6 v7 u0 u1 u2 u3 u4 u5 u6 u7 : Value} (hq : Blk W q t [v0, v1, v2, v3, v4, v5, v6, v7]) (hb : b < W.heap.size) (h0 : W.cell? ⟨b, o, none⟩ = some u0) (h1 : W.cell? ⟨b, o + 1, none⟩ = some u1) (h2 : W.cell? ⟨b, o + 2, none⟩ = some u2) (h3 : W.cell? ⟨b, o + 3, none⟩ = some u3) (h4 : W.cell? ⟨b, o + 4, none⟩ = some u4) (h5 : W.cell? ⟨b, o + 5, none⟩ = some u5) (h6 : W.cell? ⟨b, o + 6, none⟩ = some u6) (h7 : W.cell? ⟨b, o + 7, none⟩ = some u7) (h : Below W.heap.size W w') :
    w'.cell? ⟨q, 0, none⟩ = some v0 ∧ w'.cell? ⟨q, 1, none⟩ = some v1 ∧ w'.cell? ⟨q, 2, none⟩ = some v2 ∧ w'.cell? ⟨q, 3, none⟩ = some v3 ∧ w'.cell? ⟨q, 4, none⟩ = some v4 ∧ w'.cell? ⟨q, 5, none⟩ = some v5 ∧ w'.cell? ⟨q, 6, none⟩ = some v6 ∧ w'.cell? ⟨q, 7, none⟩ = some v7 ∧
    w'.cell? ⟨b, o, none⟩ = some u0 ∧ w'.cell? ⟨b, o + 1, none⟩ = some u1 ∧ w'.cell? ⟨b, o + 2, none⟩ = some u2 ∧ w'.cell? ⟨b, o + 3, none⟩ = some u3 ∧ w'.cell? ⟨b, o + 4, none⟩ = some u4 ∧ w'.cell? ⟨b, o + 5, none⟩ = some u5 ∧ w'.cell? ⟨b, o + 6, none⟩ = some u6 ∧ w'.cell? ⟨b, o + 7, none⟩ = some u7 := by
  have k := hq.below h hq.lt
  exact ⟨by simpa using k.cell 0, by simpa using k.cell 1, by simpa using k.cell 2, by simpa using k.cell 3, by simpa using k.cell 4, by simpa using k.cell 5, by simpa using k.cell 6, by simpa using k.cell 7, (h.cell (p := ⟨b, o, none⟩) hb).trans h0, (h.cell (p := ⟨b, o + 1, none⟩) hb).trans h1, (h.cell (p := ⟨b, o + 2, none⟩) hb).trans h2, (h.cell (p := ⟨b, o + 3, none⟩) hb).trans h3, (h.cell (p := ⟨b, o + 4, none⟩) hb).trans h4, (h.cell (p := ⟨b, o + 5, none⟩) hb).trans h5, (h.cell (p := ⟨b, o + 6, none⟩) hb).trans h6, (h.cell (p := ⟨b, o + 7, none⟩) hb).trans h7⟩
theorem keep_put {W w' : World} {q b o : Nat} {t : TypeId} {v0 v1 v2 v3 v4 v5 v6 v7 u4 u5 u6 u7 : Value} (hq : Blk W q t [v0, v1, v2, v3, v4, v5, v6, v7]) (hb : b < W.heap.size) (h4 : W.cell? ⟨b, o + 4, none⟩ = some u4) (h5 : W.cell? ⟨b, o + 5, none⟩ = some u5) (h6 : W.cell? ⟨b, o + 6, none⟩ = some u6) (h7 : W.cell? ⟨b, o + 7, none⟩ = some u7) (h : Below W.heap.size W w') :
    w'.cell? ⟨q, 4, none⟩ = some v4 ∧ w'.cell? ⟨q, 5, none⟩ = some v5 ∧ w'.cell? ⟨q, 6, none⟩ = some v6 ∧ w'.cell? ⟨q, 7, none⟩ = some v7 ∧ w'.cell? ⟨b, o + 4, none⟩ = some u4 ∧ w'.cell? ⟨b, o + 5, none⟩ = some u5 ∧ w'.cell? ⟨b, o + 6, none⟩ = some u6 ∧ w'.cell? ⟨b, o + 7, none⟩ = some u7 := by
  have k := hq.below h hq.lt
  exact ⟨by simpa using k.cell 4, by simpa using k.cell 5, by simpa using k.cell 6, by simpa using k.cell 7, (h.cell (p := ⟨b, o + 4, none⟩) hb).trans h4, (h.cell (p := ⟨b, o + 5, none⟩) hb).trans h5, (h.cell (p := ⟨b, o + 6, none⟩) hb).trans h6, (h.cell (p := ⟨b, o + 7, none⟩) hb).trans h7⟩

set_option maxRecDepth 100000 in
set_option maxHeartbeats 4000000 in
theorem l04Put_found (a0 : Option Addr) (len cap : Nat) (l : List PaneD) (fp : List Nat) (p : PaneD) (h : PaneH) (f : List Nat) (w : World) (hrow : GRow 8 RPane w a0 len l fp) (hcap : len ≤ cap) (hcm : cap ≤ 9223372036854775807) (hp : Pane.Is w p h f) (hw1 : (Lit.int .i64 p.win).wf = true) (hw2 : (Lit.int .i64 p.mask).wf = true) (hw3 : (Lit.int .i64 p.start).wf = true) (hsz : szL Pane.sz l ≤ 2000000) (hzp : Pane.sz p ≤ 2000000) (hR : Rise l) (j : Nat) (x : PaneD) (hjx : l[j]? = some x) (hid : x.id = p.id) (hpl : placeOf (fourB p.win p.mask p.start p.key) l = (j : Int)) :
    Calls Tryz.prog 32 #[.slice a0 len cap, .agg (Pane.list p h).toArray] w (GiveP2 w (putL p l) (putB p l)) := by
  have hjl : j < len := by have := (List.getElem?_eq_some_iff.1 hjx).1; rw [hrow.1] at this; exact this
  have HPL := Lib.hid (putL_found hR hjx hid)
  have hPB : putB p l = joinOk x.a p.a := by
    unfold putB
    rw [← hid, look_of_mem hR (List.mem_of_getElem? hjx)]
  obtain ⟨r, hr⟩ : ∃ r, joinA x.a p.a = r := ⟨_, rfl⟩
  obtain ⟨ok, hok⟩ : ∃ ok, joinOk x.a p.a = ok := ⟨_, rfl⟩
  have hJ : ∀ w, Calls Tryz.prog 66 #[.agg #[.int .i64 x.a.n, .int .i64 x.a.sm, .int .i64 x.a.mn, .int .i64 x.a.mx], .agg #[.int .i64 p.a.n, .int .i64 p.a.sm, .int .i64 p.a.mn, .int .i64 p.a.mx]] w fun e w' => e = .returned (.tuple #[.agg #[.int .i64 r.n, .int .i64 r.sm, .int .i64 r.mn, .int .i64 r.mx], .bool ok]) ∧ Below w.heap.size w w' := by
    intro w
    have := agg.spec_AggJoin x.a.n x.a.sm x.a.mn x.a.mx p.a.n p.a.sm p.a.mn p.a.mx w
    rw [← hr, ← hok]
    exact this
  have HJ := Lib.hid hJ
  rw [hPB, hok]
  rw [hr] at HPL
  have HX := Lib.hid hjx
  have hj63 : (j : Int) < (len : Int) := by omega
  clear hPB hr hok hJ hid hjx
  obtain ⟨g0, rfl, q0, x0, y0⟩ := hp
  have hlm : len ≤ 2000000 := by rw [← hrow.1]; unfold szL at hsz; omega
  have hkl : h.keyl ≤ 2000000 := by rw [← q0.1]; exact hzp
  have HG := Lib.hid hrow
  have HL := Lib.hid hrow.1
  have HQ := Lib.hid q0
  have HQL := Lib.hid q0.1
  have HU := Lib.hid (And.intro hcap hcm)
  have HW := Lib.hid (And.intro hw1 (And.intro hw2 hw3))
  have HZ := Lib.hid hsz
  have HZP := Lib.hid hzp
  have HRI := Lib.hid hR
  obtain ⟨i0, hi, hz0, hz1, hz2⟩ := info_ints
  obtain ⟨ip, hip, hp0, hp1, hp2⟩ := info_parts info_Pane
  clear hrow q0 hcap hcm hsz hzp hR x0 y0 hw1 hw2 hw3
  simp only [Pane.list]
  go_enter Tryz.func32, Tryz.ntmps32
  have hG0 : Grows 1 RInt 3 (w.heap.size + 1) ((w.alloc (.cells #[.int .i64 p.win, .int .i64 p.mask, .int .i64 p.start, .slice h.keya h.keyl h.keyc, .int .i64 p.a.n, .int .i64 p.a.sm, .int .i64 p.a.mn, .int .i64 p.a.mx] 62)).alloc (.cells #[] 3)) (.slice (some ⟨w.heap.size + 1, 0, none⟩) 0 0) ([] : List Int) := by
    have := made_int (w.alloc (.cells #[.int .i64 p.win, .int .i64 p.mask, .int .i64 p.start, .slice h.keya h.keyl h.keyc, .int .i64 p.a.n, .int .i64 p.a.sm, .int .i64 p.a.mn, .int .i64 p.a.mx] 62))
    simpa using this
  have HG0 := Lib.hid hG0
  clear hG0
  go_wp2_with (at_builtin; refine pushAny (R := RInt) (k := 1) (l := []) (l2 := p.key) (by decide) local_int (fun h => h.2) (fun h => h) int_one rfl (.tmp 12) (.tmp 14) 23 rfl i0 (.int .i64 0) 8 Tryz.underlying23 hi hz0 hz1 hz2 rfl rfl HG0.out (Below.refl _ _) h.keya h.keyl h.keyc f rfl (HQ.out.below local_int (by repeat (first | exact Below.refl _ _ | refine Below.setCell ?_ (by first | omega | (simp; done) | (simp; omega)) _ | refine Below.alloc ?_ (by first | omega | (simp; done) | (simp; omega)) _ | apply Below.drew))) (by simp; omega) (by simp; unfold maxLen; omega) (by simp) ?_; intro v1 w1 hG1 hb1 hk1; obtain ⟨ka, kc, hv1⟩ := hG1.slice; rw [List.nil_append, HQL.out] at hv1; rw [List.nil_append] at hG1; subst hv1; have hK1 : Blk w1 w.heap.size 62 [.int .i64 p.win, .int .i64 p.mask, .int .i64 p.start, .slice h.keya h.keyl h.keyc, .int .i64 p.a.n, .int .i64 p.a.sm, .int .i64 p.a.mn, .int .i64 p.a.mx] := Blk.below (by with_reducible (repeat (first | (refine blk_new_at _ _ _ _ ?_; first | rfl | (simp; done)) | refine Blk.alloc ?_ _ | apply Blk.drew | refine Blk.setOther ?_ (by first | (simp; done) | (simp; omega)) _))) hb1 (by omega); have f3 := hK1.frozen 3; have k0 := hK1.cell 0; have k1 := hK1.cell 1; have k2 := hK1.cell 2; have k4 := hK1.cell 4; have k5 := hK1.cell 5; have k6 := hK1.cell 6; have k7 := hK1.cell 7; have k3 := hK1.cell 3; simp at k0 k1 k2 k3 k4 k5 k6 k7; have KB1 := Lib.hid hK1; have KG1 := Lib.hid hG1; have BB1 := Lib.hid hb1; clear hK1 hG1 hb1 hk1)
  clear HG0
  obtain ⟨fk, hkd⟩ : ∃ fk, GRow 1 RInt w1 ka h.keyl p.key fk ∧ h.keyl ≤ kc ∧ kc ≤ 9223372036854775807 ∧ Own (w.heap.size + 1) w1 fk := by
    obtain ⟨a', c', fk, hv, hg, h1, h2, ho⟩ := KG1.out.done
    rw [HQL.out] at hv hg h1
    cases hv
    exact ⟨fk, hg, h1, h2, ho⟩
  have hb1s : w.heap.size + 1 + 1 ≤ w1.heap.size := by have := BB1.out.size; simpa using this
  refine calls_gen (fun W => Below w.heap.size w W ∧ Blk W w.heap.size 62 [.int .i64 p.win, .int .i64 p.mask, .int .i64 p.start, .slice ka h.keyl kc, .int .i64 p.a.n, .int .i64 p.a.sm, .int .i64 p.a.mn, .int .i64 p.a.mx] ∧ GRow 1 RInt W ka h.keyl p.key fk ∧ Own (w.heap.size + 1) W fk) ⟨?_, ?_, ?_, ?_⟩ ?_
  · exact ((((Below.refl w.heap.size w).alloc (Nat.le_refl _) _).alloc (by simp) _).trans (BB1.out.mono (by omega))).setCell (Nat.le_refl _) _
  · exact (KB1.out.set 3 _).of_eq rfl
  · exact hkd.1.set local_int (hkd.2.2.2.ne (by omega)) _ _
  · exact hkd.2.2.2.set _ _ _
  clear f3 k0 k1 k2 k3 k4 k5 k6 k7 KB1 KG1 BB1 hb1s
  rintro W2 ⟨b2, k2, g2, o2⟩
  refine (spec_PaneAt a0 len cap l fp p.win p.mask p.start ka h.keyl kc p.key fk W2 (HG.out.below local_Pane b2) HU.out.1 HU.out.2 HW.out.1 HW.out.2.1 HW.out.2.2 g2 hkd.2.1 hkd.2.2.1 HZ.out HZP.out).mono ?_
  rintro e W3 ⟨rfl, b3⟩
  have HKD := Lib.hid (And.intro hkd.2.1 hkd.2.2.1)
  have B3 := Lib.hid (b2.trans (b3.mono b2.size))
  have K3 := Lib.hid (k2.below b3 k2.lt)
  have G3 := Lib.hid (g2.below local_int b3)
  have O3 := Lib.hid (o2.below b3)
  clear hkd b2 k2 g2 o2 b3
  rw [hpl]
  obtain ⟨b, off, x', fx, cs, rfl, hbl, hx', hcl, hRx, hcs⟩ := HG.out.at hjl
  rw [HX.out] at hx'
  obtain rfl := Option.some.inj hx'
  obtain ⟨hh, rfl, hIs⟩ := hRx
  have hcell : ∀ q, q < 8 → W3.cell? ⟨b, off + j * 8 + q, none⟩ = (Pane.list x hh)[q]? := fun q hq => (B3.out.cell (p := ⟨b, off + j * 8 + q, none⟩) hbl).trans (hcs q hq)
  have q4 : W3.cell? ⟨b, off + j * 8 + 4, none⟩ = some (.int .i64 x.a.n) := hcell 4 (by omega)
  have q5 : W3.cell? ⟨b, off + j * 8 + 5, none⟩ = some (.int .i64 x.a.sm) := hcell 5 (by omega)
  have q6 : W3.cell? ⟨b, off + j * 8 + 6, none⟩ = some (.int .i64 x.a.mn) := hcell 6 (by omega)
  have q7 : W3.cell? ⟨b, off + j * 8 + 7, none⟩ = some (.int .i64 x.a.mx) := hcell 7 (by omega)
  have hb3 : b < W3.heap.size := Nat.lt_of_lt_of_le hbl B3.out.size
  have QC := Lib.hid (And.intro q4 (And.intro q5 (And.intro q6 q7)))
  have hj0 : (0 : Int) ≤ (j : Int) := by omega
  obtain ⟨e4, e5, e6, e7, _, _, _, _⟩ := keep_put K3.out hb3 q4 q5 q6 q7 (Below.refl _ _)
  clear hcell hcs hcl hx' hIs hpl
  go_wp2_with fail
  go_cut [7, 8] (fun v u wx => u = .bool ok ∧ JBox r W3 v wx)
  case first =>
    go_region_held3 (fun w' => w'.cell? ⟨w.heap.size, 4, none⟩ = some (.int .i64 p.a.n) ∧ w'.cell? ⟨w.heap.size, 5, none⟩ = some (.int .i64 p.a.sm) ∧ w'.cell? ⟨w.heap.size, 6, none⟩ = some (.int .i64 p.a.mn) ∧ w'.cell? ⟨w.heap.size, 7, none⟩ = some (.int .i64 p.a.mx) ∧ w'.cell? ⟨b, off + j * 8 + 4, none⟩ = some (.int .i64 x.a.n) ∧ w'.cell? ⟨b, off + j * 8 + 5, none⟩ = some (.int .i64 x.a.sm) ∧ w'.cell? ⟨b, off + j * 8 + 6, none⟩ = some (.int .i64 x.a.mn) ∧ w'.cell? ⟨b, off + j * 8 + 7, none⟩ = some (.int .i64 x.a.mx))
      ((refine keep_put (W := W3) K3.out hb3 QC.out.1 QC.out.2.1 QC.out.2.2.1 QC.out.2.2.2 ?_; repeat (first | exact hbz | apply Below.drew | exact Below.refl _ _ | refine Below.setCell ?_ (by first | (simp; done) | (have := hZ.out.size; simp at this ⊢; omega)) _ | refine Below.alloc ?_ (by first | (simp; done) | (have := hZ.out.size; simp at this ⊢; omega)) _)))
      (first | (go_at_call 66; refine (HJ.out _).mono ?_; rintro e wz ⟨rfl, hq⟩; have hQ := Lib.hid hq; have hbz : Below W3.heap.size W3 wz := (by first | exact (Below.refl _ _).drew.trans hq | exact ((Below.refl _ _).alloc (Nat.le_refl _) _).drew.trans (hq.mono (by simp))); have hZ := Lib.hid hbz; obtain ⟨kz, fz⟩ := agg.bcell hq; clear hq))
    all_goals (go_wp2_with fail; go_meet)
    all_goals first
      | (with_reducible exact ⟨rfl, jbox_after rfl hZ.out⟩)
      | exact ⟨rfl, jbox_before hQ.out rfl⟩
  case rest =>
    obtain ⟨rfl, bx, rfl, hbx, kb, hbw⟩ := hcut
    generalize wc = W4 at *
    have B4 := Lib.hid (B3.out.trans (hbw.mono B3.out.size))
    have K4 := Lib.hid (K3.out.below hbw K3.out.lt)
    have G4 := Lib.hid (G3.out.below local_int hbw)
    have O4 := Lib.hid (O3.out.below hbw)
    have KB := Lib.hid kb
    have HBX := Lib.hid (show w.heap.size < bx by have := K3.out.lt; omega)
    obtain ⟨fp2, hrs⟩ := rs_of (S := PutS w p ka h.keyl kc) HG.out (fun y g q hi => .inl ⟨q, hi⟩)
    have HRS := Lib.hid (hrs.below (local_rs _) B4.out)
    have HGP := Lib.hid (made_pane (PutS w p ka h.keyl kc) W4)
    clear hbw kb hrs hbx e4 e5 e6 e7 q4 q5 q6 q7 QC B3 K3 G3 O3 hb3
    go_wp2_with ((at_builtin; refine pushAny (R := RS (PutS w p ka h.keyl kc)) (k := 8) (l := []) (l2 := l) (by decide) (local_rs _) rs_f rs_ind rs_one rfl (.tmp 40) (.tmp 41) 29 rfl ip _ 80 Tryz.underlying29 hip hp0 hp1 hp2 rfl rfl HGP.out (Below.refl _ _) (some ⟨b, off, none⟩) len cap fp2 rfl (HRS.out.below (local_rs _) ((Below.refl _ _).alloc (Nat.le_refl _) _)) (by simp; omega) (by simp; unfold maxLen; omega) (by simp) ?_; intro v5 w5 hG5 hb5 hk5; obtain ⟨b5, off5, c5, f5, u0, u1, u2, u3, u4, u5, u6, u7, rfl, ⟨y0, y1, y2, y3, y4, y5, y6, y7⟩, hc51, hc52, hb5g, hb5lt, fb, hup⟩ := put_row hG5 HL.out hjl; have hW5 : Below W4.heap.size W4 w5 := ((Below.refl _ _).alloc (Nat.le_refl _) _).trans hb5; have hKp := K4.out.below hW5 K4.out.lt; have hKx := KB.out.below hW5 KB.out.lt; have fp4 := hKp.frozen 4; have fp5 := hKp.frozen 5; have fp6 := hKp.frozen 6; have fp7 := hKp.frozen 7; have k0 := hKp.cell 0; have k1 := hKp.cell 1; have k2 := hKp.cell 2; have k3 := hKp.cell 3; have k4 := hKp.cell 4; have k5 := hKp.cell 5; have k6 := hKp.cell 6; have k7 := hKp.cell 7; have x0 := hKx.cell 0; have x1 := hKx.cell 1; have x2 := hKx.cell 2; have x3 := hKx.cell 3; have hne : b5 ≠ w.heap.size := (by have := K4.out.lt; omega); have hne2 : w.heap.size ≠ b5 := (by omega); have hne3 : bx ≠ w.heap.size := (by have := HBX.out; omega); simp at k0 k1 k2 k3 k4 k5 k6 k7 x0 x1 x2 x3; have UP := Lib.hid hup; have C5 := Lib.hid (And.intro hc51 hc52); have B5 := Lib.hid hW5; have HB5 := Lib.hid (And.intro hb5lt hb5g); clear hup hc51 hc52 hW5 hKp hKx hG5 hb5 hk5 hb5lt hb5g))
    go_ret2
    have hw1 := ((((Wrote.refl w.heap.size 4 8 w5).set (o := 4) (.int .i64 r.n) (by omega) (by omega)).set (o := 5) (.int .i64 r.sm) (by omega) (by omega)).set (o := 6) (.int .i64 r.mn) (by omega) (by omega)).set (o := 7) (.int .i64 r.mx) (by omega) (by omega)
    generalize (((w5.setCell ⟨w.heap.size, 4, none⟩ (.int .i64 r.n)).setCell ⟨w.heap.size, 5, none⟩ (.int .i64 r.sm)).setCell ⟨w.heap.size, 6, none⟩ (.int .i64 r.mn)).setCell ⟨w.heap.size, 7, none⟩ (.int .i64 r.mx) = W6 at *
    have hb56 : W6.heap[b5]? = w5.heap[b5]? := hw1.block HB5.out.1 hne
    have z0 := (cell_same hb56 _).trans y0
    have z1 := (cell_same hb56 _).trans y1
    have z2 := (cell_same hb56 _).trans y2
    have z3 := (cell_same hb56 _).trans y3
    have z4 := (cell_same hb56 _).trans y4
    have z5 := (cell_same hb56 _).trans y5
    have z6 := (cell_same hb56 _).trans y6
    have z7 := (cell_same hb56 _).trans y7
    have hw2 := ((((((((Wrote.refl b5 (off5 + j * 8) (off5 + j * 8 + 8) W6).set (o := off5 + j * 8) (.int .i64 p.win) (by omega) (by omega)).set (o := off5 + j * 8 + 1) (.int .i64 p.mask) (by omega) (by omega)).set (o := off5 + j * 8 + 2) (.int .i64 p.start) (by omega) (by omega)).set (o := off5 + j * 8 + 3) (.slice ka h.keyl kc) (by omega) (by omega)).set (o := off5 + j * 8 + 4) (.int .i64 r.n) (by omega) (by omega)).set (o := off5 + j * 8 + 5) (.int .i64 r.sm) (by omega) (by omega)).set (o := off5 + j * 8 + 6) (.int .i64 r.mn) (by omega) (by omega)).set (o := off5 + j * 8 + 7) (.int .i64 r.mx) (by omega) (by omega)
    have hel : El 8 (RS (PutS w p ka h.keyl kc)) ((((((((W6.setCell ⟨b5, off5 + j * 8, none⟩ (.int .i64 p.win)).setCell ⟨b5, off5 + j * 8 + 1, none⟩ (.int .i64 p.mask)).setCell ⟨b5, off5 + j * 8 + 2, none⟩ (.int .i64 p.start)).setCell ⟨b5, off5 + j * 8 + 3, none⟩ (.slice ka h.keyl kc)).setCell ⟨b5, off5 + j * 8 + 4, none⟩ (.int .i64 r.n)).setCell ⟨b5, off5 + j * 8 + 5, none⟩ (.int .i64 r.sm)).setCell ⟨b5, off5 + j * 8 + 6, none⟩ (.int .i64 r.mn)).setCell ⟨b5, off5 + j * 8 + 7, none⟩ (.int .i64 r.mx)) b5 (off5 + j * 8) ⟨p.win, p.mask, p.start, p.key, r⟩ [] := by
      refine ⟨Pane.list ⟨p.win, p.mask, p.start, p.key, r⟩ ⟨ka, h.keyl, kc⟩, rfl, ⟨_, rfl, .inr ⟨rfl, rfl⟩, rfl⟩, fun i hi => ?_⟩
      have : i = 0 ∨ i = 1 ∨ i = 2 ∨ i = 3 ∨ i = 4 ∨ i = 5 ∨ i = 6 ∨ i = 7 := by omega
      rcases this with rfl | rfl | rfl | rfl | rfl | rfl | rfl | rfl
      all_goals simp [go_sem, Pane.list, z0, z1, z2, z3, z4, z5, z6, z7]
    generalize (((((((W6.setCell ⟨b5, off5 + j * 8, none⟩ (.int .i64 p.win)).setCell ⟨b5, off5 + j * 8 + 1, none⟩ (.int .i64 p.mask)).setCell ⟨b5, off5 + j * 8 + 2, none⟩ (.int .i64 p.start)).setCell ⟨b5, off5 + j * 8 + 3, none⟩ (.slice ka h.keyl kc)).setCell ⟨b5, off5 + j * 8 + 4, none⟩ (.int .i64 r.n)).setCell ⟨b5, off5 + j * 8 + 5, none⟩ (.int .i64 r.sm)).setCell ⟨b5, off5 + j * 8 + 6, none⟩ (.int .i64 r.mn)).setCell ⟨b5, off5 + j * 8 + 7, none⟩ (.int .i64 r.mx) = W9 at *
    have hs6 := hw1.ap.size
    have hs9 := hw2.ap.size
    have hs5 := B5.out.size
    have h45 := HB5.out
    have hrow9 := UP.out W9 ⟨p.win, p.mask, p.start, p.key, r⟩ (fun q _ hq2 hq3 => (hw2.block (by omega) hq3).trans (hw1.block hq2 (by have := K4.out.lt; omega))) (fun o ho => (hw2.cell o ho).trans (cell_same hb56 _)) (by omega) hel
    have hk5 := G4.out.below local_int B5.out
    have hk6 := hk5.keep (w' := W6) local_int (fun c hc => hw1.block (hk5.lt local_int c hc) (O4.out.ne (by omega) c hc))
    have hk9 := hk6.keep (w' := W9) local_int (fun c hc => hw2.block (hk6.lt local_int c hc) (by have := (O4.out.2 c hc).2.lt; omega))
    have hB9 : Below w.heap.size w W9 := ((B4.out.trans (B5.out.mono B4.out.size)).trans (hw1.ap.below (fun z hz => by simp at hz; omega) (by have := B4.out.size; omega))).trans (hw2.ap.below (fun z hz => by simp at hz; have := B4.out.size; omega) (by have := B4.out.size; omega))
    obtain ⟨f9, hf9⟩ := rs_row hrow9 (fun y g hs => put_is hB9 hk9 HKD.out.1 HKD.out.2 hs)
    exact ⟨b5, off5, len, c5, f9, rfl, by rw [HPL.out]; exact hf9, C5.out.1, C5.out.2, hB9⟩
set_option maxRecDepth 100000 in
set_option maxHeartbeats 4000000 in
theorem l04Put_new (b0 o0 : Nat) (len cap : Nat) (l : List PaneD) (fp : List Nat) (p : PaneD) (h : PaneH) (f : List Nat) (w : World) (hrow : GRow 8 RPane w (some ⟨b0, o0, none⟩) len l fp) (hcap : len ≤ cap) (hcm : cap ≤ 9223372036854775807) (hp : Pane.Is w p h f) (hw1 : (Lit.int .i64 p.win).wf = true) (hw2 : (Lit.int .i64 p.mask).wf = true) (hw3 : (Lit.int .i64 p.start).wf = true) (hsz : szL Pane.sz l ≤ 2000000) (hzp : Pane.sz p ≤ 2000000) (hR : Rise l) (hno : ∀ y ∈ l, fourB p.win p.mask p.start p.key y = false) (hpl : placeOf (fourB p.win p.mask p.start p.key) l = -1) :
    Calls Tryz.prog 32 #[.slice (some ⟨b0, o0, none⟩) len cap, .agg (Pane.list p h).toArray] w (GiveP2 w (putL p l) (putB p l)) := by
  have hids : ∀ q ∈ l, q.id ≠ p.id := fun q hq e => by have := four_id.2 e; rw [hno q hq] at this; cases this
  have HN := Lib.hid hids
  have hPB : putB p l = true := by
    unfold putB
    cases e : look l p.id with
    | none => rfl
    | some a => obtain ⟨q, hq, h1, _⟩ := look_some_mem e; exact absurd h1 (hids q hq)
  rw [hPB]
  have hpis := hp
  have HPI := Lib.hid (fun W (hb : Below w.heap.size w W) => hpis.below hb)
  clear hno hids hPB hpis
  obtain ⟨g0, rfl, q0, x0, y0⟩ := hp
  have hlm : len ≤ 2000000 := by rw [← hrow.1]; unfold szL at hsz; omega
  have hkl : h.keyl ≤ 2000000 := by rw [← q0.1]; exact hzp
  have HG := Lib.hid hrow
  have HL := Lib.hid hrow.1
  have HQ := Lib.hid q0
  have HQL := Lib.hid q0.1
  have HU := Lib.hid (And.intro hcap hcm)
  have HW := Lib.hid (And.intro hw1 (And.intro hw2 hw3))
  have HZ := Lib.hid hsz
  have HZP := Lib.hid hzp
  have HRI := Lib.hid hR
  obtain ⟨i0, hi, hz0, hz1, hz2⟩ := info_ints
  obtain ⟨ip, hip, hp0, hp1, hp2⟩ := info_parts info_Pane
  clear hrow q0 hcap hcm hsz hzp hR x0 y0 hw1 hw2 hw3
  simp only [Pane.list]
  go_enter Tryz.func32, Tryz.ntmps32
  have hG0 : Grows 1 RInt 3 (w.heap.size + 1) ((w.alloc (.cells #[.int .i64 p.win, .int .i64 p.mask, .int .i64 p.start, .slice h.keya h.keyl h.keyc, .int .i64 p.a.n, .int .i64 p.a.sm, .int .i64 p.a.mn, .int .i64 p.a.mx] 62)).alloc (.cells #[] 3)) (.slice (some ⟨w.heap.size + 1, 0, none⟩) 0 0) ([] : List Int) := by
    have := made_int (w.alloc (.cells #[.int .i64 p.win, .int .i64 p.mask, .int .i64 p.start, .slice h.keya h.keyl h.keyc, .int .i64 p.a.n, .int .i64 p.a.sm, .int .i64 p.a.mn, .int .i64 p.a.mx] 62))
    simpa using this
  have HG0 := Lib.hid hG0
  clear hG0
  go_wp2_with (at_builtin; refine pushAny (R := RInt) (k := 1) (l := []) (l2 := p.key) (by decide) local_int (fun h => h.2) (fun h => h) int_one rfl (.tmp 12) (.tmp 14) 23 rfl i0 (.int .i64 0) 8 Tryz.underlying23 hi hz0 hz1 hz2 rfl rfl HG0.out (Below.refl _ _) h.keya h.keyl h.keyc f rfl (HQ.out.below local_int (by repeat (first | exact Below.refl _ _ | refine Below.setCell ?_ (by first | omega | (simp; done) | (simp; omega)) _ | refine Below.alloc ?_ (by first | omega | (simp; done) | (simp; omega)) _ | apply Below.drew))) (by simp; omega) (by simp; unfold maxLen; omega) (by simp) ?_; intro v1 w1 hG1 hb1 hk1; obtain ⟨ka, kc, hv1⟩ := hG1.slice; rw [List.nil_append, HQL.out] at hv1; rw [List.nil_append] at hG1; subst hv1; have hK1 : Blk w1 w.heap.size 62 [.int .i64 p.win, .int .i64 p.mask, .int .i64 p.start, .slice h.keya h.keyl h.keyc, .int .i64 p.a.n, .int .i64 p.a.sm, .int .i64 p.a.mn, .int .i64 p.a.mx] := Blk.below (by with_reducible (repeat (first | (refine blk_new_at _ _ _ _ ?_; first | rfl | (simp; done)) | refine Blk.alloc ?_ _ | apply Blk.drew | refine Blk.setOther ?_ (by first | (simp; done) | (simp; omega)) _))) hb1 (by omega); have f3 := hK1.frozen 3; have k0 := hK1.cell 0; have k1 := hK1.cell 1; have k2 := hK1.cell 2; have k4 := hK1.cell 4; have k5 := hK1.cell 5; have k6 := hK1.cell 6; have k7 := hK1.cell 7; have k3 := hK1.cell 3; simp at k0 k1 k2 k3 k4 k5 k6 k7; have KB1 := Lib.hid hK1; have KG1 := Lib.hid hG1; have BB1 := Lib.hid hb1; clear hK1 hG1 hb1 hk1)
  clear HG0
  obtain ⟨fk, hkd⟩ : ∃ fk, GRow 1 RInt w1 ka h.keyl p.key fk ∧ h.keyl ≤ kc ∧ kc ≤ 9223372036854775807 ∧ Own (w.heap.size + 1) w1 fk := by
    obtain ⟨a', c', fk, hv, hg, h1, h2, ho⟩ := KG1.out.done
    rw [HQL.out] at hv hg h1
    cases hv
    exact ⟨fk, hg, h1, h2, ho⟩
  have hb1s : w.heap.size + 1 + 1 ≤ w1.heap.size := by have := BB1.out.size; simpa using this
  refine calls_gen (fun W => Below w.heap.size w W ∧ Blk W w.heap.size 62 [.int .i64 p.win, .int .i64 p.mask, .int .i64 p.start, .slice ka h.keyl kc, .int .i64 p.a.n, .int .i64 p.a.sm, .int .i64 p.a.mn, .int .i64 p.a.mx] ∧ GRow 1 RInt W ka h.keyl p.key fk ∧ Own (w.heap.size + 1) W fk) ⟨?_, ?_, ?_, ?_⟩ ?_
  · exact ((((Below.refl w.heap.size w).alloc (Nat.le_refl _) _).alloc (by simp) _).trans (BB1.out.mono (by omega))).setCell (Nat.le_refl _) _
  · exact (KB1.out.set 3 _).of_eq rfl
  · exact hkd.1.set local_int (hkd.2.2.2.ne (by omega)) _ _
  · exact hkd.2.2.2.set _ _ _
  clear f3 k0 k1 k2 k3 k4 k5 k6 k7 KB1 KG1 BB1 hb1s
  rintro W2 ⟨b2, k2, g2, o2⟩
  refine (spec_PaneAt (some ⟨b0, o0, none⟩) len cap l fp p.win p.mask p.start ka h.keyl kc p.key fk W2 (HG.out.below local_Pane b2) HU.out.1 HU.out.2 HW.out.1 HW.out.2.1 HW.out.2.2 g2 hkd.2.1 hkd.2.2.1 HZ.out HZP.out).mono ?_
  rintro e W3 ⟨rfl, b3⟩
  have HKD := Lib.hid (And.intro hkd.2.1 hkd.2.2.1)
  have B3 := Lib.hid (b2.trans (b3.mono b2.size))
  have K3 := Lib.hid (k2.below b3 k2.lt)
  have G3 := Lib.hid (g2.below local_int b3)
  have O3 := Lib.hid (o2.below b3)
  clear hkd b2 k2 g2 o2 b3
  rw [hpl]
  have HK2 := Lib.hid (show ∀ W, Below W3.heap.size W3 W → Pane.Is W p ⟨ka, h.keyl, kc⟩ fk from fun W hb => ⟨fk, rfl, G3.out.below local_int hb, HKD.out.1, HKD.out.2⟩)
  clear hpl
  go_wp2_with fail
  go_loopg [10] len (fun k v wr => ∃ t : Nat, t + k = len ∧ v = .int .i64 t ∧ (∀ q ∈ l.take t, idC q.id p.id < 0) ∧ Below W3.heap.size W3 wr)
  case atStart => exact ⟨0, by omega, rfl, by simp, Below.refl _ _⟩
  case round =>
    obtain ⟨t, ht, rfl, hlt, hB⟩ := hrel
    have HLT := Lib.hid hlt
    have HB := Lib.hid hB
    have K5 := Lib.hid (K3.out.below hB K3.out.lt)
    clear hlt hB
    by_cases htl : t < len
    · obtain ⟨b, off, x, fx, cs, ha, hbl, hx, hcl, hRx, hcs⟩ := HG.out.at htl
      cases ha
      obtain ⟨hh, rfl, hIs⟩ := hRx
      have hwr := B3.out.trans (HB.out.mono B3.out.size)
      have hcell : ∀ q, q < 8 → wr.cell? ⟨b0, o0 + t * 8 + q, none⟩ = (Pane.list x hh)[q]? := fun q hq => (hwr.cell (p := ⟨b0, o0 + t * 8 + q, none⟩) hbl).trans (hcs q hq)
      have q0 : wr.cell? ⟨b0, o0 + t * 8, none⟩ = some (.int .i64 x.win) := hcell 0 (by omega)
      have q1 : wr.cell? ⟨b0, o0 + t * 8 + 1, none⟩ = some (.int .i64 x.mask) := hcell 1 (by omega)
      have q2 : wr.cell? ⟨b0, o0 + t * 8 + 2, none⟩ = some (.int .i64 x.start) := hcell 2 (by omega)
      have q3 : wr.cell? ⟨b0, o0 + t * 8 + 3, none⟩ = some (.slice hh.keya hh.keyl hh.keyc) := hcell 3 (by omega)
      have q4 : wr.cell? ⟨b0, o0 + t * 8 + 4, none⟩ = some (.int .i64 x.a.n) := hcell 4 (by omega)
      have q5 : wr.cell? ⟨b0, o0 + t * 8 + 5, none⟩ = some (.int .i64 x.a.sm) := hcell 5 (by omega)
      have q6 : wr.cell? ⟨b0, o0 + t * 8 + 6, none⟩ = some (.int .i64 x.a.mn) := hcell 6 (by omega)
      have q7 : wr.cell? ⟨b0, o0 + t * 8 + 7, none⟩ = some (.int .i64 x.a.mx) := hcell 7 (by omega)
      have hbw : b0 < wr.heap.size := Nat.lt_of_lt_of_le hbl hwr.size
      have KC := Lib.hid (fun w' hb => keep_cmp (w' := w') K5.out hbw q0 q1 q2 q3 q4 q5 q6 q7 hb)
      have htl2 : (t : Int) < (len : Int) := by omega
      have ht0 : (0 : Int) ≤ (t : Int) := by omega
      have zx : Pane.sz x ≤ 2000000 := by have h1 := sum_take_succ Pane.sz l hx; have h2 := sum_take_le Pane.sz l (t + 1); have h3 := HZ.out; unfold szL at h3; omega
      have HPC := Lib.hid (fun W (hb : Below wr.heap.size wr W) => spec_PaneCmp x hh fx p ⟨ka, h.keyl, kc⟩ fk W (hIs.below (hwr.trans (hb.mono hwr.size))) (HK2.out W (HB.out.trans (hb.mono HB.out.size))) zx HZP.out)
      have HX := Lib.hid hx
      obtain ⟨cv, hcv⟩ : ∃ cv, paneC x p = cv := ⟨_, rfl⟩
      have HCV := Lib.hid hcv
      have S0 := KC.out wr (Below.refl _ _)
      clear hcell hcs hcl hx hIs hwr hcv q0 q1 q2 q3 q4 q5 q6 q7
      go_wp2_with fail
      refine mix.wp_region_mixh (fun w' => w'.cell? ⟨w.heap.size, 0, none⟩ = some (.int .i64 p.win) ∧ w'.cell? ⟨w.heap.size, 1, none⟩ = some (.int .i64 p.mask) ∧ w'.cell? ⟨w.heap.size, 2, none⟩ = some (.int .i64 p.start) ∧ w'.cell? ⟨w.heap.size, 3, none⟩ = some (.slice ka h.keyl kc) ∧ w'.cell? ⟨w.heap.size, 4, none⟩ = some (.int .i64 p.a.n) ∧ w'.cell? ⟨w.heap.size, 5, none⟩ = some (.int .i64 p.a.sm) ∧ w'.cell? ⟨w.heap.size, 6, none⟩ = some (.int .i64 p.a.mn) ∧ w'.cell? ⟨w.heap.size, 7, none⟩ = some (.int .i64 p.a.mx) ∧ w'.cell? ⟨b0, o0 + t * 8, none⟩ = some (.int .i64 x.win) ∧ w'.cell? ⟨b0, o0 + t * 8 + 1, none⟩ = some (.int .i64 x.mask) ∧ w'.cell? ⟨b0, o0 + t * 8 + 2, none⟩ = some (.int .i64 x.start) ∧ w'.cell? ⟨b0, o0 + t * 8 + 3, none⟩ = some (.slice hh.keya hh.keyl hh.keyc) ∧ w'.cell? ⟨b0, o0 + t * 8 + 4, none⟩ = some (.int .i64 x.a.n) ∧ w'.cell? ⟨b0, o0 + t * 8 + 5, none⟩ = some (.int .i64 x.a.sm) ∧ w'.cell? ⟨b0, o0 + t * 8 + 6, none⟩ = some (.int .i64 x.a.mn) ∧ w'.cell? ⟨b0, o0 + t * 8 + 7, none⟩ = some (.int .i64 x.a.mx)) [10] (by kernel_rfl) (by kernel_rfl) (fun _ _ d _ _ h => by cases d <;> exact h) S0 ?_
      clear S0
      (repeat (first | (apply mix.held_take; (· rfl); (· rfl); (· (intro w' hSw; (try dsimp only at hSw); go_simp; try with_reducible rfl)); (try simp only [Act.put, List.setIfInBounds_toArray, List.set_cons_zero, List.set_cons_succ])) | ((refine mix.held_pass rfl (by rfl) ?_); (try simp only [Act.put, List.setIfInBounds_toArray, List.set_cons_zero, List.set_cons_succ]))))
      refine mix.held_hard rfl (fun K hK => ?_); go_simp
      refine (HPC.out _ (Below.refl _ _).drew).mono ?_
      rintro e W6 ⟨rfl, b6⟩
      rw [HCV.out]
      have hb6 : Below wr.heap.size wr W6 := (Below.refl _ _).drew.trans b6
      have B6 := Lib.hid (HB.out.trans (hb6.mono HB.out.size))
      have K6 := Lib.hid (K5.out.below hb6 K5.out.lt)
      have S6 := KC.out W6 hb6
      clear b6 hb6
      refine hK.out _ _ (S6) (fun hSw => ?_); clear hK K hSw; (try simp only [Act.put, List.setIfInBounds_toArray, List.set_cons_zero, List.set_cons_succ])
      clear S6
      (repeat (first | (apply mix.held_take; (· rfl); (· rfl); (· (intro w' hSw; (try dsimp only at hSw); go_simp; try with_reducible rfl)); (try simp only [Act.put, List.setIfInBounds_toArray, List.set_cons_zero, List.set_cons_succ])) | ((refine mix.held_pass rfl (by rfl) ?_); (try simp only [Act.put, List.setIfInBounds_toArray, List.set_cons_zero, List.set_cons_succ]))))
      refine mix.held_end ?_
      by_cases hc : cv < 0
      · have HLT2 := Lib.hid (show ∀ q ∈ l.take (t + 1), idC q.id p.id < 0 from fun q hq => by
          rw [List.take_add_one, HX.out] at hq
          rcases List.mem_append.1 hq with hq | hq
          · exact HLT.out q hq
          · simp at hq; subst hq; rw [← paneC_id, HCV.out]; exact hc)
        go_wp2_with fail
        go_roundg (len - (t + 1))
        case measure => omega
        case rel => exact ⟨t + 1, by omega, by go_num, HLT2.out, B6.out⟩
      · have HPL := Lib.hid (putL_new (p := p) (l := l) t HLT.out (fun q hq => by rw [HX.out] at hq; cases hq; rw [← paneC_id, HCV.out]; exact hc) HN.out (by rw [HL.out]; omega))
        obtain ⟨fp2, hrs⟩ := rs_of (S := (PutS w p ka h.keyl kc)) HG.out (fun y g q hi => .inl ⟨q, hi⟩)
        have HWX := Lib.hid (B3.out.trans (B6.out.mono B3.out.size))
        obtain ⟨fT, hT⟩ := hrs.take (t := t) (by omega)
        obtain ⟨fD, hD⟩ := hrs.drop (t := t) (by omega)
        have HT := Lib.hid (hT.below (local_rs _) HWX.out)
        have HDR := Lib.hid (hD.below (local_rs _) HWX.out)
        have HGP := Lib.hid (made_pane (PutS w p ka h.keyl kc) W6)
        have hcl1 := HU.out.1
        have hcl2 := HU.out.2
        have htl3 : (l.take t).length ≤ 2000000 := by simp; omega
        have HKX := Lib.hid (fun W (hb : Below W6.heap.size W6 W) => (K6.out.below hb K6.out.lt).cell)
        clear hrs hT hD
        go_wp2_with (first | ((at_builtin; refine pushAny (R := RS (PutS w p ka h.keyl kc)) (k := 8) (l := []) (l2 := l.take t) (by decide) (local_rs _) rs_f rs_ind rs_one rfl (.tmp 66) (.tmp 69) 29 rfl ip _ 80 Tryz.underlying29 hip hp0 hp1 hp2 rfl rfl HGP.out (Below.refl _ _) _ _ _ fT rfl (HT.out.below (local_rs _) ((Below.refl _ _).alloc (Nat.le_refl _) _)) (by simp; omega) (by simp; unfold maxLen; omega) (by simp) ?_; intro v7 w7 hG7 hb7 hk7; rw [List.nil_append] at hG7; have hW7 : Below W6.heap.size W6 w7 := ((Below.refl _ _).alloc (Nat.le_refl _) _).trans hb7; have y0 := HKX.out w7 hW7 0; have y1 := HKX.out w7 hW7 1; have y2 := HKX.out w7 hW7 2; have y3 := HKX.out w7 hW7 3; have y4 := HKX.out w7 hW7 4; have y5 := HKX.out w7 hW7 5; have y6 := HKX.out w7 hW7 6; have y7 := HKX.out w7 hW7 7; simp at y0 y1 y2 y3 y4 y5 y6 y7; have G7 := Lib.hid hG7; have B7 := Lib.hid hW7; clear hG7 hb7 hk7 hW7)) | ((at_builtin; refine push (R := RS (PutS w p ka h.keyl kc)) (k := 8) (local_rs _) rfl (.tmp 71) (.tmp 73) 29 rfl ip _ 80 Tryz.underlying29 hip hp0 hp1 hp2 rfl (by decide) rfl G7.out ((Below.refl _ _).alloc (Nat.le_refl _) _) w7.heap.size 1 rfl (Pane.list p ⟨ka, h.keyl, kc⟩) rfl (rs_one (S := (PutS w p ka h.keyl kc)) (w := w7) (x := p) (f := []) ⟨_, rfl, .inr ⟨rfl, rfl⟩, rfl⟩) (fun j u hj => ((blk_new w7 62 (Pane.list p ⟨ka, h.keyl, kc⟩)).cell j).trans hj) p [] ⟨_, rfl, .inr ⟨rfl, rfl⟩, rfl⟩ Own.nil (by omega) (by unfold maxLen; omega) B7.out.size ?_; intro v8 w8 hG8 hb8; have G8 := Lib.hid hG8; have B8 := Lib.hid (B7.out.trans ((Below.alloc (Below.refl W6.heap.size w7) B7.out.size _).trans hb8)); clear hG8 hb8)) | ((at_builtin; refine pushAny (R := RS (PutS w p ka h.keyl kc)) (k := 8) (l := l.take t ++ [p]) (l2 := l.drop t) (by decide) (local_rs _) rs_f rs_ind rs_one rfl (.tmp 75) (.tmp 78) 29 rfl ip _ 80 Tryz.underlying29 hip hp0 hp1 hp2 rfl rfl G8.out (Below.refl _ _) _ _ _ fD rfl (HDR.out.below (local_rs _) B8.out) (by simp; omega) (by simp; unfold maxLen; omega) B8.out.size ?_; intro v9 w9 hG9 hb9 hk9; have G9 := Lib.hid hG9; have B9 := Lib.hid (B8.out.trans hb9); clear hG9 hb9 hk9)))
        go_ret2
        have hB9 := HWX.out.trans (B9.out.mono HWX.out.size)
        have hk9 := G3.out.below local_int (B6.out.trans (B9.out.mono B6.out.size))
        obtain ⟨a9, c9, f9, hv9, hg9, hc91, hc92, _⟩ := G9.out.done
        obtain ⟨f10, h10⟩ := rs_row hg9 (fun y g hs => put_is hB9 hk9 HKD.out.1 HKD.out.2 hs)
        have he : (l.take t ++ [p]) ++ l.drop t = putL p l := by rw [HPL.out]; simp
        rw [he] at h10 hv9 hc91
        have hn : (putL p l).length ≠ 0 := by rw [← he]; simp
        obtain ⟨b9, o9, rfl⟩ : ∃ b9 o9, a9 = some ⟨b9, o9, none⟩ := by
          obtain ⟨_, ⟨h0, _⟩ | ⟨b, off, F, ha, _⟩⟩ := h10
          · exact absurd h0 hn
          · exact ⟨b, off, ha⟩
        subst hv9
        exact ⟨b9, o9, _, c9, f10, rfl, h10, hc91, hc92, hB9⟩
    · obtain rfl : t = len := by omega
      have HPL := Lib.hid (putL_new (p := p) (l := l) t HLT.out (fun q hq => by rw [List.getElem?_eq_none (by rw [HL.out]; exact Nat.le_refl _)] at hq; cases hq) HN.out (by rw [HL.out]; exact Nat.le_refl _))
      have kc0 := K5.out.cell 0
      have hdr0 : l.drop t = [] := List.drop_of_length_le (by rw [HL.out]; exact Nat.le_refl _)
      have HD0 := Lib.hid hdr0
      clear kc0 hdr0
      have htt : decide ((t : Int) < (t : Int)) = false := decide_eq_false (by omega)
      go_wp2_with fail
      refine mix.wp_region_mixh (fun _ => True) [10] (by kernel_rfl) (by kernel_rfl) (fun _ _ d _ _ h => by cases d <;> exact h) trivial ?_
      (repeat (first | (apply mix.held_take; (· rfl); (· rfl); (· (intro w' hSw; (try dsimp only at hSw); go_simp; try with_reducible rfl)); (try simp only [Act.put, List.setIfInBounds_toArray, List.set_cons_zero, List.set_cons_succ])) | ((refine mix.held_pass rfl (by rfl) ?_); (try simp only [Act.put, List.setIfInBounds_toArray, List.set_cons_zero, List.set_cons_succ]))))
      refine mix.held_hard rfl (fun K hK => ?_); go_simp
      refine hK.out _ _ (trivial) (fun hSw => ?_); clear hK K hSw; (try simp only [Act.put, List.setIfInBounds_toArray, List.set_cons_zero, List.set_cons_succ])
      (repeat (first | (apply mix.held_take; (· rfl); (· rfl); (· (intro w' hSw; (try dsimp only at hSw); go_simp; try with_reducible rfl)); (try simp only [Act.put, List.setIfInBounds_toArray, List.set_cons_zero, List.set_cons_succ])) | ((refine mix.held_pass rfl (by rfl) ?_); (try simp only [Act.put, List.setIfInBounds_toArray, List.set_cons_zero, List.set_cons_succ]))))
      refine mix.held_end ?_
      have b6 : Below W3.heap.size W3 wr.drew := HB.out.drew
      have k6 := K5.out.drew
      clear HB K5
      generalize wr.drew = W6 at *
      have B6 := Lib.hid b6
      have K6 := Lib.hid k6
      clear b6 k6 htt
      by_cases hce : t < cap
      · skip
        obtain ⟨fp2, hrs⟩ := rs_of (S := (PutS w p ka h.keyl kc)) HG.out (fun y g q hi => .inl ⟨q, hi⟩)
        have HWX := Lib.hid (B3.out.trans (B6.out.mono B3.out.size))
        obtain ⟨fT, hT⟩ := hrs.take (t := t) (by omega)
        obtain ⟨fD, hD⟩ := hrs.drop (t := t) (by omega)
        have HT := Lib.hid (hT.below (local_rs _) HWX.out)
        have HDR := Lib.hid (hD.below (local_rs _) HWX.out)
        have HGP := Lib.hid (made_pane (PutS w p ka h.keyl kc) W6)
        have hcl1 := HU.out.1
        have hcl2 := HU.out.2
        have htl3 : (l.take t).length ≤ 2000000 := by simp; omega
        have HKX := Lib.hid (fun W (hb : Below W6.heap.size W6 W) => (K6.out.below hb K6.out.lt).cell)
        clear hrs hT hD
        go_wp2_with (first | ((at_builtin; refine pushAny (R := RS (PutS w p ka h.keyl kc)) (k := 8) (l := []) (l2 := l.take t) (by decide) (local_rs _) rs_f rs_ind rs_one rfl (.tmp 66) (.tmp 69) 29 rfl ip _ 80 Tryz.underlying29 hip hp0 hp1 hp2 rfl rfl HGP.out (Below.refl _ _) _ _ _ fT rfl (HT.out.below (local_rs _) ((Below.refl _ _).alloc (Nat.le_refl _) _)) (by simp; omega) (by simp; unfold maxLen; omega) (by simp) ?_; intro v7 w7 hG7 hb7 hk7; rw [List.nil_append] at hG7; have hW7 : Below W6.heap.size W6 w7 := ((Below.refl _ _).alloc (Nat.le_refl _) _).trans hb7; have y0 := HKX.out w7 hW7 0; have y1 := HKX.out w7 hW7 1; have y2 := HKX.out w7 hW7 2; have y3 := HKX.out w7 hW7 3; have y4 := HKX.out w7 hW7 4; have y5 := HKX.out w7 hW7 5; have y6 := HKX.out w7 hW7 6; have y7 := HKX.out w7 hW7 7; simp at y0 y1 y2 y3 y4 y5 y6 y7; have G7 := Lib.hid hG7; have B7 := Lib.hid hW7; clear hG7 hb7 hk7 hW7)) | ((at_builtin; refine push (R := RS (PutS w p ka h.keyl kc)) (k := 8) (local_rs _) rfl (.tmp 71) (.tmp 73) 29 rfl ip _ 80 Tryz.underlying29 hip hp0 hp1 hp2 rfl (by decide) rfl G7.out ((Below.refl _ _).alloc (Nat.le_refl _) _) w7.heap.size 1 rfl (Pane.list p ⟨ka, h.keyl, kc⟩) rfl (rs_one (S := (PutS w p ka h.keyl kc)) (w := w7) (x := p) (f := []) ⟨_, rfl, .inr ⟨rfl, rfl⟩, rfl⟩) (fun j u hj => ((blk_new w7 62 (Pane.list p ⟨ka, h.keyl, kc⟩)).cell j).trans hj) p [] ⟨_, rfl, .inr ⟨rfl, rfl⟩, rfl⟩ Own.nil (by omega) (by unfold maxLen; omega) B7.out.size ?_; intro v8 w8 hG8 hb8; have G8 := Lib.hid hG8; have B8 := Lib.hid (B7.out.trans ((Below.alloc (Below.refl W6.heap.size w7) B7.out.size _).trans hb8)); clear hG8 hb8)) | ((at_builtin; refine pushAny (R := RS (PutS w p ka h.keyl kc)) (k := 8) (l := l.take t ++ [p]) (l2 := l.drop t) (by decide) (local_rs _) rs_f rs_ind rs_one rfl (.tmp 75) (.tmp 78) 29 rfl ip _ 80 Tryz.underlying29 hip hp0 hp1 hp2 rfl rfl G8.out (Below.refl _ _) _ _ _ [] rfl (by rw [HD0.out]; exact GRow.nil) (by simp; omega) (by simp; unfold maxLen; omega) B8.out.size ?_; intro v9 w9 hG9 hb9 hk9; have G9 := Lib.hid hG9; have B9 := Lib.hid (B8.out.trans hb9); clear hG9 hb9 hk9)))
        go_ret2
        have hB9 := HWX.out.trans (B9.out.mono HWX.out.size)
        have hk9 := G3.out.below local_int (B6.out.trans (B9.out.mono B6.out.size))
        obtain ⟨a9, c9, f9, hv9, hg9, hc91, hc92, _⟩ := G9.out.done
        obtain ⟨f10, h10⟩ := rs_row hg9 (fun y g hs => put_is hB9 hk9 HKD.out.1 HKD.out.2 hs)
        have he : (l.take t ++ [p]) ++ l.drop t = putL p l := by rw [HPL.out]; simp
        rw [he] at h10 hv9 hc91
        have hn : (putL p l).length ≠ 0 := by rw [← he]; simp
        obtain ⟨b9, o9, rfl⟩ : ∃ b9 o9, a9 = some ⟨b9, o9, none⟩ := by
          obtain ⟨_, ⟨h0, _⟩ | ⟨b, off, F, ha, _⟩⟩ := h10
          · exact absurd h0 hn
          · exact ⟨b, off, ha⟩
        subst hv9
        exact ⟨b9, o9, _, c9, f10, rfl, h10, hc91, hc92, hB9⟩
      · obtain rfl : t = cap := by have := HU.out.1; omega
        obtain ⟨fp2, hrs⟩ := rs_of (S := (PutS w p ka h.keyl kc)) HG.out (fun y g q hi => .inl ⟨q, hi⟩)
        have HWX := Lib.hid (B3.out.trans (B6.out.mono B3.out.size))
        obtain ⟨fT, hT⟩ := hrs.take (t := t) (by omega)
        obtain ⟨fD, hD⟩ := hrs.drop (t := t) (by omega)
        have HT := Lib.hid (hT.below (local_rs _) HWX.out)
        have HDR := Lib.hid (hD.below (local_rs _) HWX.out)
        have HGP := Lib.hid (made_pane (PutS w p ka h.keyl kc) W6)
        have hcl1 := HU.out.1
        have hcl2 := HU.out.2
        have htl3 : (l.take t).length ≤ 2000000 := by simp; omega
        have HKX := Lib.hid (fun W (hb : Below W6.heap.size W6 W) => (K6.out.below hb K6.out.lt).cell)
        clear hrs hT hD
        go_wp2_with (first | ((at_builtin; refine pushAny (R := RS (PutS w p ka h.keyl kc)) (k := 8) (l := []) (l2 := l.take t) (by decide) (local_rs _) rs_f rs_ind rs_one rfl (.tmp 66) (.tmp 69) 29 rfl ip _ 80 Tryz.underlying29 hip hp0 hp1 hp2 rfl rfl HGP.out (Below.refl _ _) _ _ _ fT rfl (HT.out.below (local_rs _) ((Below.refl _ _).alloc (Nat.le_refl _) _)) (by simp; omega) (by simp; unfold maxLen; omega) (by simp) ?_; intro v7 w7 hG7 hb7 hk7; rw [List.nil_append] at hG7; have hW7 : Below W6.heap.size W6 w7 := ((Below.refl _ _).alloc (Nat.le_refl _) _).trans hb7; have y0 := HKX.out w7 hW7 0; have y1 := HKX.out w7 hW7 1; have y2 := HKX.out w7 hW7 2; have y3 := HKX.out w7 hW7 3; have y4 := HKX.out w7 hW7 4; have y5 := HKX.out w7 hW7 5; have y6 := HKX.out w7 hW7 6; have y7 := HKX.out w7 hW7 7; simp at y0 y1 y2 y3 y4 y5 y6 y7; have G7 := Lib.hid hG7; have B7 := Lib.hid hW7; clear hG7 hb7 hk7 hW7)) | ((at_builtin; refine push (R := RS (PutS w p ka h.keyl kc)) (k := 8) (local_rs _) rfl (.tmp 71) (.tmp 73) 29 rfl ip _ 80 Tryz.underlying29 hip hp0 hp1 hp2 rfl (by decide) rfl G7.out ((Below.refl _ _).alloc (Nat.le_refl _) _) w7.heap.size 1 rfl (Pane.list p ⟨ka, h.keyl, kc⟩) rfl (rs_one (S := (PutS w p ka h.keyl kc)) (w := w7) (x := p) (f := []) ⟨_, rfl, .inr ⟨rfl, rfl⟩, rfl⟩) (fun j u hj => ((blk_new w7 62 (Pane.list p ⟨ka, h.keyl, kc⟩)).cell j).trans hj) p [] ⟨_, rfl, .inr ⟨rfl, rfl⟩, rfl⟩ Own.nil (by omega) (by unfold maxLen; omega) B7.out.size ?_; intro v8 w8 hG8 hb8; have G8 := Lib.hid hG8; have B8 := Lib.hid (B7.out.trans ((Below.alloc (Below.refl W6.heap.size w7) B7.out.size _).trans hb8)); clear hG8 hb8)) | ((at_builtin; refine pushAny (R := RS (PutS w p ka h.keyl kc)) (k := 8) (l := l.take t ++ [p]) (l2 := l.drop t) (by decide) (local_rs _) rs_f rs_ind rs_one rfl (.tmp 75) (.tmp 78) 29 rfl ip _ 80 Tryz.underlying29 hip hp0 hp1 hp2 rfl rfl G8.out (Below.refl _ _) _ _ _ [] rfl (by rw [HD0.out]; exact GRow.nil) (by simp; omega) (by simp; unfold maxLen; omega) B8.out.size ?_; intro v9 w9 hG9 hb9 hk9; have G9 := Lib.hid hG9; have B9 := Lib.hid (B8.out.trans hb9); clear hG9 hb9 hk9)))
        go_ret2
        have hB9 := HWX.out.trans (B9.out.mono HWX.out.size)
        have hk9 := G3.out.below local_int (B6.out.trans (B9.out.mono B6.out.size))
        obtain ⟨a9, c9, f9, hv9, hg9, hc91, hc92, _⟩ := G9.out.done
        obtain ⟨f10, h10⟩ := rs_row hg9 (fun y g hs => put_is hB9 hk9 HKD.out.1 HKD.out.2 hs)
        have he : (l.take t ++ [p]) ++ l.drop t = putL p l := by rw [HPL.out]; simp
        rw [he] at h10 hv9 hc91
        have hn : (putL p l).length ≠ 0 := by rw [← he]; simp
        obtain ⟨b9, o9, rfl⟩ : ∃ b9 o9, a9 = some ⟨b9, o9, none⟩ := by
          obtain ⟨_, ⟨h0, _⟩ | ⟨b, off, F, ha, _⟩⟩ := h10
          · exact absurd h0 hn
          · exact ⟨b, off, ha⟩
        subst hv9
        exact ⟨b9, o9, _, c9, f10, rfl, h10, hc91, hc92, hB9⟩
theorem l04Put (b0 o0 : Nat) (len cap : Nat) (l : List PaneD) (fp : List Nat) (p : PaneD) (h : PaneH) (f : List Nat) (w : World) (hrow : GRow 8 RPane w (some ⟨b0, o0, none⟩) len l fp) (hcap : len ≤ cap) (hcm : cap ≤ 9223372036854775807) (hp : Pane.Is w p h f) (hw1 : (Lit.int .i64 p.win).wf = true) (hw2 : (Lit.int .i64 p.mask).wf = true) (hw3 : (Lit.int .i64 p.start).wf = true) (hsz : szL Pane.sz l ≤ 2000000) (hzp : Pane.sz p ≤ 2000000) (hR : Rise l) :
    Calls Tryz.prog 32 #[.slice (some ⟨b0, o0, none⟩) len cap, .agg (Pane.list p h).toArray] w (GiveP2 w (putL p l) (putB p l)) := by
  rcases place_cases (fourB p.win p.mask p.start p.key) l with ⟨j, x, hx, hm, hpl⟩ | ⟨hpl, hno⟩
  · exact l04Put_found _ len cap l fp p h f w hrow hcap hcm hp hw1 hw2 hw3 hsz hzp hR j x hx (four_id.1 hm) hpl
  · exact l04Put_new b0 o0 len cap l fp p h f w hrow hcap hcm hp hw1 hw2 hw3 hsz hzp hR hno hpl
end Go.Proofs.YtpcekmllmnfmmaaGreat.dat
