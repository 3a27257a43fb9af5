/-
  ROWS WHOSE KEYS LIE ELSEWHERE, a list of the call's own; l06CopyRows of the model.
-/
import Derived.Test.YtoglclmaacjdaaaUpsert
namespace Go.Proofs.Ytoglclmaacjdaaa.dat
open Go.RowKit Go.Proofs.Ytoglclmaacjdaaa.win

/-- Rows of whose cells S is said. -/
def RSR (S : RowD → RowH → Prop) : Rel RowD := fun _ cs x f => ∃ h, cs = Row.list x h ∧ S x h ∧ f = []
theorem local_rsr (S : RowD → RowH → Prop) : Local (RSR S) := ⟨fun h _ => h, fun ⟨_, _, _, e⟩ b hb => by rw [e] at hb; simp at hb⟩
theorem rsr_f {S : RowD → RowH → Prop} {w : World} {c : List Value} {x : RowD} {f : List Nat} (h : RSR S w c x f) : f = [] := h.choose_spec.2.2
theorem rsr_ind {S : RowD → RowH → Prop} {w w' : World} {c : List Value} {x : RowD} {f : List Nat} (h : RSR S w c x f) : RSR S w' c x f := h
theorem rsr_one {S : RowD → RowH → Prop} {w : World} {c : List Value} {x : RowD} {f : List Nat} (h : RSR S w c x f) : ∀ u ∈ c, u.oneCell' = true := by
  obtain ⟨hh, rfl, _⟩ := h
  exact row_one
/-- A key that may be read and lies not in the list's own block. -/
def KeyIn (w : World) (o : Option Nat) (x : RowD) (h : RowH) : Prop := ∃ g, Row.Is w x h g ∧ ∀ b ∈ g, o ≠ some b
theorem KeyIn.below {w w' : World} {o : Option Nat} {x : RowD} {h : RowH} (k : KeyIn w o x h) (hb : Below w.heap.size w w') : KeyIn w' o x h := by
  obtain ⟨g, hg, hn⟩ := k
  exact ⟨g, hg.below hb, hn⟩
theorem KeyIn.young {w w' : World} {o o' : Option Nat} {x : RowD} {h : RowH} (k : KeyIn w o x h) (hb : Below w.heap.size w w') (hy : ∀ b, o' = some b → w.heap.size ≤ b) : KeyIn w' o' x h := by
  obtain ⟨g, hg, _⟩ := k
  exact ⟨g, hg.below hb, fun b hbm e => by have := hy b e; have := hg.lt b hbm; omega⟩
theorem Grows.turn {S S' : RowD → RowH → Prop} {e : TypeId} {base : Nat} {w : World} {v : Value} {l : List RowD} (h : Grows 9 (RSR S) e base w v l) (hS : ∀ x h, S x h → S' x h) : Grows 9 (RSR S') e base w v l := by
  obtain ⟨css, F, h1, h2, h3, h4, h5, h6, ho⟩ := h.ex
  exact ⟨css, F, h1, h2, h3, fun i x c f hx hc hf => by obtain ⟨hh, e, hs, hn⟩ := h4 i x c f hx hc hf; exact ⟨hh, e, hS x hh hs, hn⟩, h5, h6, ho⟩
theorem rsr_row {S : RowD → RowH → Prop} {w : World} {a : Option Addr} {len : Nat} {l : List RowD} {fp : List Nat} (h : GRow 9 (RSR S) w a len l fp) (hS : ∀ x h, S x h → ∃ g, Row.Is w x h g) : ∃ fp', GRow 9 RRow w a len l fp' :=
  h.conv fun _ x _ ⟨hh, e, hs, _⟩ => by obtain ⟨g, hg⟩ := hS x hh hs; exact ⟨g, hh, e, hg⟩
theorem growRow_keys {e : TypeId} {base : Nat} {w : World} {v : Value} {l : List RowD} (h : Grows 9 RRow e base w v l) : Grows 9 (RSR (KeyIn w v.ownBlock)) e base w v l := by
  obtain ⟨css, F, h1, h2, h3, h4, h5, h6, ho⟩ := h.ex
  have hfl : (List.replicate l.length ([] : List Nat)).flatten = [] := by simp
  refine ⟨css, List.replicate l.length [], h1, by simp, h3, fun i x c f hx hc hf => ?_, by rw [hfl]; simp, by rw [hfl]; simp, ho⟩
  obtain rfl : f = [] := (List.mem_replicate.1 (List.mem_of_getElem? hf)).2
  have hi : i < F.length := by rw [h2]; exact (List.getElem?_eq_some_iff.1 hx).1
  have hF : F[i]? = some F[i] := List.getElem?_eq_getElem hi
  obtain ⟨hh, e, his⟩ := h4 i x c F[i] hx hc hF
  exact ⟨hh, e, ⟨F[i], his, fun b hb => (h6 b (mem_flatten_of hF hb)).2.2⟩, rfl⟩
/-- One row written over. -/
theorem growS_set {S : RowD → RowH → Prop} {base : Nat} {wr w : World} {v : Value} {l : List RowD} {j : Nat} {y : RowD} {h : RowH} (hG : Grows 9 (RSR S) 120 base wr v l) (hb : Below wr.heap.size wr w) (hj : j < l.length) (hy : S y h) :
    ∃ (b c : Nat) (u0 u1 u2 u3 u4 u5 u6 u7 u8 : Value), v = .slice (some ⟨b, 0, none⟩) l.length c ∧ base ≤ b ∧ b < wr.heap.size ∧
      (w.cell? ⟨b, j * 9, none⟩ = some u0 ∧ w.cell? ⟨b, j * 9 + 1, none⟩ = some u1 ∧ w.cell? ⟨b, j * 9 + 2, none⟩ = some u2 ∧ w.cell? ⟨b, j * 9 + 3, none⟩ = some u3 ∧ w.cell? ⟨b, j * 9 + 4, none⟩ = some u4 ∧ w.cell? ⟨b, j * 9 + 5, none⟩ = some u5 ∧ w.cell? ⟨b, j * 9 + 6, none⟩ = some u6 ∧ w.cell? ⟨b, j * 9 + 7, none⟩ = some u7 ∧ w.cell? ⟨b, j * 9 + 8, none⟩ = some u8) ∧ (∀ o, w.frozen? ⟨b, o, none⟩ = false) ∧
      Grows 9 (RSR S) 120 base (w.setCells b (j * 9) (Row.list y h)) v (l.set j y) ∧ Apart [b] w (w.setCells b (j * 9) (Row.list y h)) := by
  obtain ⟨css, F, e1, e2, e3, e4, e5, e6, hown⟩ := hG.ex
  rcases hown.2 with ⟨rfl, h0⟩ | ⟨g0, cap, cur, rfl, hbg, hh, hnc, hcm, hsz, htk⟩
  · omega
  obtain ⟨L, hL⟩ : ∃ L, cur = L.toArray := ⟨cur.toList, rfl⟩
  subst hL
  have hLl : L.length = cap * 9 := by simpa using hsz
  have hg0 : g0 < wr.heap.size := (Array.getElem?_eq_some_iff.1 hh).1
  have hbk : Blk w g0 120 L := (hb.block g0 hg0).trans hh
  have hcell : ∀ i, i < 9 → ∃ u, w.cell? ⟨g0, j * 9 + i, none⟩ = some u := fun i hi => ⟨_, (hbk.cell (j * 9 + i)).trans (List.getElem?_eq_getElem (by omega))⟩
  obtain ⟨u0, c0⟩ := hcell 0 (by omega)
  obtain ⟨u1, c1⟩ := hcell 1 (by omega)
  obtain ⟨u2, c2⟩ := hcell 2 (by omega)
  obtain ⟨u3, c3⟩ := hcell 3 (by omega)
  obtain ⟨u4, c4⟩ := hcell 4 (by omega)
  obtain ⟨u5, c5⟩ := hcell 5 (by omega)
  obtain ⟨u6, c6⟩ := hcell 6 (by omega)
  obtain ⟨u7, c7⟩ := hcell 7 (by omega)
  obtain ⟨u8, c8⟩ := hcell 8 (by omega)
  have hk' : Blk (w.setCells g0 (j * 9) (Row.list y h)) g0 120 (putAt L (j * 9) (Row.list y h)) := blk_setCells _ _ hbk (by simp [Row.list]; omega)
  have hfl : (List.replicate (l.set j y).length ([] : List Nat)).flatten = [] := by simp
  refine ⟨g0, cap, u0, u1, u2, u3, u4, u5, u6, u7, u8, rfl, hbg, hg0, ⟨by simpa using c0, c1, c2, c3, c4, c5, c6, c7, c8⟩, fun o => hbk.frozen o, ⟨css.set j (Row.list y h), List.replicate (l.set j y).length [], by simp [e1], by simp, ?_, ?_, by rw [hfl]; simp, by rw [hfl]; simp, ?_⟩, apart_setCells (by simp) _ _ (Apart.refl _ _)⟩
  · intro c hc
    rcases List.mem_or_eq_of_mem_set hc with hc | rfl
    · exact e3 c hc
    · rfl
  · intro i x c q hx hc hq
    obtain rfl : q = [] := (List.mem_replicate.1 (List.mem_of_getElem? hq)).2
    by_cases hi : i = j
    · subst hi
      rw [List.getElem?_set_self hj] at hx
      rw [List.getElem?_set_self (by omega)] at hc
      cases hx; cases hc
      exact ⟨h, rfl, hy, rfl⟩
    · rw [List.getElem?_set_ne (Ne.symm hi)] at hx hc
      have hil : i < F.length := by rw [e2]; exact (List.getElem?_eq_some_iff.1 hx).1
      have hF : F[i]? = some F[i] := List.getElem?_eq_getElem hil
      obtain ⟨hh, he, hs, _⟩ := e4 i x c F[i] hx hc hF
      exact ⟨hh, he, hs, rfl⟩
  · have hcl : css.flatten.length = l.length * 9 := by rw [flat_len e3, e1]
    have hfs := flat_setAt e3 (d := Row.list y h) rfl (m := j) (by omega)
    have htl : (css.set j (Row.list y h)).flatten.length = (l.set j y).length * 9 := by
      rw [hfs, putAt_len _ _ _ (by rw [hcl]; show j * 9 + 9 ≤ _; omega), hcl, List.length_set]
    refine ⟨htl, .inr ⟨g0, cap, (putAt L (j * 9) (Row.list y h)).toArray, by rw [List.length_set], hbg, hk', by rw [List.length_set]; exact hnc, hcm, ?_, ?_⟩⟩
    · rw [List.size_toArray, putAt_len _ _ _ (by show j * 9 + 9 ≤ _; omega), hLl]
    · rw [hfs, List.length_set, ← htk]
      exact take_putAt_in L (j * 9) (l.length * 9) (Row.list y h) (by show j * 9 + 9 ≤ _; omega) (by omega)

/-- A walk that halts at an append; its world under a letter. -/
def HaltU (p : Prop) : Prop := p
theorem halt_u {P : Program} {ops : Array Oper} {rest : List Oper} {o : Oper} {a : Act} {w : World} {Q : Exit → Act → World → Prop} (s x : Operand) (t t' : TypeId) (_ : o.op = .call { callee := .builtin .append, args := #[s, x], argTypes := #[t, t'] }) (h : HaltU (wpList P ops Q (o :: rest) a w)) : wpList P ops Q (o :: rest) a w := h
theorem wpl_gen {P : Program} {ops : Array Oper} {l : List Oper} {a : Act} {w : World} {Q : Exit → Act → World → Prop} (G : World → Prop) (hG : G w) (h : ∀ W, G W → wpList P ops Q l a W) : wpList P ops Q l a w := h w hG
theorem made_rows (R : Rel RowD) (W : World) : Grows 9 R 120 W.heap.size (W.alloc (.cells #[] 120)) (.slice (some ⟨W.heap.size, 0, none⟩) 0 0) ([] : List RowD) :=
  Grows.made (k := 9) (R := R) (e := 120) (base := W.heap.size) (w := W) #[] 0 (Nat.le_refl _) (Nat.zero_le _) (by simp)

set_option maxRecDepth 100000 in
set_option maxHeartbeats 4000000 in
theorem l06CopyRows_ (a : Option Addr) (n c : Nat) (l : List RowD) (fp : List Nat) (w : World) (hrow : GRow 9 RRow w a n l fp) (hz : szL Row.sz l ≤ 2000000) :
    Calls Try.prog 84 #[.slice a n c] w fun e w' => ∃ v, e = .returned v ∧ Grows 9 RRow 120 w.heap.size w' v l ∧ Below w.heap.size w w' := by
  have hn : n ≤ 2000000 := by rw [← hrow.1]; unfold szL at hz; omega
  have R0 := Lib.hid hrow
  have L0 := Lib.hid hrow.1
  have Z0 := Lib.hid hz
  clear hrow hz
  obtain ⟨i0, hi, hz0, hz1, hz2⟩ := row_info
  have HI := Lib.hid (And.intro hi (And.intro hz0 (And.intro hz1 hz2)))
  obtain ⟨ii, hii, hi0, hi1, hi2⟩ := info_ints_
  have HII := Lib.hid (And.intro hii (And.intro hi0 (And.intro hi1 hi2)))
  clear hi hz0 hz1 hz2 hii hi0 hi1 hi2
  go_enter Try.func84, Try.ntmps84
  go_wp2_with fail
  go_loopg [3, 4] n (fun k v i wr => ∃ j : Nat, j + k = n ∧ i = .int .i64 j ∧ Below w.heap.size w wr ∧ Grows 9 RRow 120 w.heap.size wr v (l.take j))
  case atStart => exact ⟨0, by omega, rfl, by repeat (first | exact Below.refl _ _ | refine Below.setCell ?_ (by first | omega | (simp; done) | (simp; omega)) _ | refine Below.alloc ?_ (by first | omega | (simp; done) | (simp; omega)) _ | apply Below.drew), made_rows RRow w⟩
  case round =>
    obtain ⟨j, hj, rfl, hB, hG⟩ := hrel
    have HB := Lib.hid hB
    have HG := Lib.hid hG
    by_cases hlt : j < n
    case neg =>
      have hall : l.take j = l := List.take_of_length_le (by rw [L0.out]; omega)
      rw [hall] at hG
      have HD := Lib.hid hG
      clear hB hG hall
      go_wp2_with fail
      go_ret
      exact ⟨_, rfl, HD.out, HB.out⟩
    obtain ⟨b, off, x, f, cs, rfl, hbl, hx, hcl, hRx, hcs⟩ := R0.out.at hlt
    obtain ⟨h, rfl, hIs⟩ := hRx
    obtain ⟨q0, q1, q2, q3, q4, q5, q6, q7, q8⟩ := row_cell9 (fun i hi => (hB.cell (p := ⟨b, off + j * 9 + i, none⟩) hbl).trans (hcs i hi))
    have hlt2 : (j : Int) < (n : Int) := by omega
    have h02 : (0 : Int) ≤ (j : Int) := by omega
    have hXS : l.take (j + 1) = l.take j ++ [x] := by rw [List.take_add_one, hx]; rfl
    have XS := Lib.hid hXS
    have hjl : (l.take j).length = j := by rw [List.length_take, L0.out]; omega
    have JL := Lib.hid hjl
    have hsx : Row.sz x ≤ 2000000 := sz_elemR hx Z0.out
    obtain ⟨f0, rfl, r0, u0, v0⟩ := hIs
    have hkl : h.keyl ≤ 2000000 := by rw [← r0.1]; exact hsx
    have HQ := Lib.hid r0
    have HQL := Lib.hid r0.1
    have hww := HB.out.size
    have HG0 := Lib.hid (show Grows 1 RInt 3 (wr.heap.size + 1) ((wr.alloc (.cells #[.int .i64 x.win, .int .i64 x.mask, .int .i64 x.start, .slice h.keya h.keyl h.keyc, .int .i64 x.a.n, .int .i64 x.a.sm, .int .i64 x.a.mn, .int .i64 x.a.mx, .int .i64 x.times] 120)).alloc (.cells #[] 3)) (.slice (some ⟨wr.heap.size + 1, 0, none⟩) 0 0) ([] : List Int) by
      have := made_ints (wr.alloc (.cells #[.int .i64 x.win, .int .i64 x.mask, .int .i64 x.start, .slice h.keya h.keyl h.keyc, .int .i64 x.a.n, .int .i64 x.a.sm, .int .i64 x.a.mn, .int .i64 x.a.mx, .int .i64 x.times] 120))
      simpa using this)
    clear hB hG hcs hcl hx hXS hjl hsx r0 u0 v0
    go_wp2_with (first
      | (at_builtin; refine pushAny (R := RInt) (k := 1) (l := []) (l2 := x.key) (by decide) local_int (fun h => h.2) (fun h => h) int_one rfl (.tmp 17) (.tmp 19) 29 rfl ii (.int .i64 0) 8 Try.underlying29 HII.out.1 HII.out.2.1 HII.out.2.2.1 HII.out.2.2.2 rfl rfl HG0.out (Below.refl _ _) h.keya h.keyl h.keyc f rfl (HQ.out.below local_int ((HB.out.alloc hww _).alloc (by simp; omega) _)) (by simp; omega) (by simp; unfold maxLen; omega) (by simp) ?_; intro v1 w1 hG1 hb1 hk1; obtain ⟨ka, kc, hv1⟩ := hG1.slice; rw [List.nil_append, HQL.out] at hv1; rw [List.nil_append] at hG1; subst hv1; have hK1 : Blk w1 wr.heap.size 120 [.int .i64 x.win, .int .i64 x.mask, .int .i64 x.start, .slice h.keya h.keyl h.keyc, .int .i64 x.a.n, .int .i64 x.a.sm, .int .i64 x.a.mn, .int .i64 x.a.mx, .int .i64 x.times] := Blk.below (by with_reducible (repeat (first | (refine blk_new_at _ _ _ _ ?_; first | rfl | (simp; done)) | refine Blk.alloc ?_ _ | apply Blk.drew | refine Blk.setOther ?_ (by first | (simp; done) | (simp; omega)) _))) hb1 (by omega); have f3 := hK1.frozen 3; obtain ⟨k0, k1, k2, k3, k4, k5, k6, k7, k8⟩ := row_blk hK1; have KB1 := Lib.hid hK1; have KG1 := Lib.hid hG1; have BB1 := Lib.hid hb1; clear hK1 hG1 hb1 hk1)
      | (at_builtin; refine halt_u (.tmp 22) (.tmp 24) _ _ rfl ?_))
    unfold HaltU
    obtain ⟨fk, hkd⟩ : ∃ fk, GRow 1 RInt w1 ka h.keyl x.key fk ∧ h.keyl ≤ kc ∧ kc ≤ 9223372036854775807 ∧ Own (wr.heap.size + 1) w1 fk := by
      obtain ⟨a', c', fk, hv, hg, h1, h2, ho⟩ := KG1.out.done
      rw [HQL.out] at hv hg h1
      cases hv
      exact ⟨fk, hg, h1, h2, ho⟩
    have hb1s : wr.heap.size + 1 + 1 ≤ w1.heap.size := by have := BB1.out.size; simpa using this
    have hX3 : Below wr.heap.size wr (w1.setCell ⟨wr.heap.size, 3, none⟩ (.slice ka h.keyl kc)) := ((((Below.refl wr.heap.size wr).alloc (Nat.le_refl _) _).alloc (by simp) _).trans (BB1.out.mono (by omega))).setCell (p := ⟨wr.heap.size, 3, none⟩) (Nat.le_refl _) _
    have hX4 := hkd.1.set local_int (hkd.2.2.2.ne (show wr.heap.size < wr.heap.size + 1 by omega)) 3 (.slice ka h.keyl kc)
    have hX5 := hkd.2.2.2.set wr.heap.size 3 (.slice ka h.keyl kc)
    refine wpl_gen (fun W => Below wr.heap.size wr W ∧ Blk W w1.heap.size 120 (Row.list x ⟨ka, h.keyl, kc⟩) ∧ GRow 1 RInt W ka h.keyl x.key fk ∧ Own (wr.heap.size + 1) W fk) ⟨?_, ?_, ?_, ?_⟩ ?_
    · exact hX3.alloc (by simp; omega) _
    · unfold Row.list; with_reducible (repeat (first | (refine blk_new_at _ _ _ _ ?_; first | rfl | (simp; done)) | refine Blk.alloc ?_ _ | apply Blk.drew | refine Blk.setOther ?_ (by first | (simp; done) | (simp; omega)) _))
    · exact hX4.below local_int ((Below.refl _ _).alloc (Nat.le_refl _) _)
    · exact hX5.below ((Below.refl _ _).alloc (Nat.le_refl _) _)
    rintro W ⟨bW, kW, gW, oW⟩
    refine push2 (wr := wr) local_Row rfl (.tmp 22) (.tmp 24) 46 rfl i0 _ 88 Try.underlying46 HI.out.1 HI.out.2.1 HI.out.2.2.1 HI.out.2.2.2 rfl (by decide) rfl HG.out bW w1.heap.size 1 (by first | rfl | simp [Act.eval]) (Row.list x ⟨ka, h.keyl, kc⟩) rfl row_one (fun q u hq => (kW.cell q).trans hq) x fk ⟨⟨ka, h.keyl, kc⟩, rfl, ⟨fk, rfl, gW, hkd.2.1, hkd.2.2.1⟩⟩ (oW.mono (by omega)) (by rw [JL.out]; omega) (by rw [JL.out]; unfold maxLen; omega) hww ?_
    intro v' W3 hG3 hb3 _ _
    have HG3 := Lib.hid hG3
    have HB3 := Lib.hid ((HB.out.trans (bW.mono hww)).trans hb3)
    clear hG3 hb3 bW kW gW oW f3 k0 k1 k2 k3 k4 k5 k6 k7 k8 q0 q1 q2 q3 q4 q5 q6 q7 q8 hX3 hX4 hX5 hkd
    go_wp2_with fail
    go_roundg (n - (j + 1))
    case measure => omega
    case rel => exact ⟨j + 1, by omega, by go_num, HB3.out, by rw [XS.out]; exact HG3.out⟩
end Go.Proofs.Ytoglclmaacjdaaa.dat
