/-
  THE DRAWS: the contract of anyConfig: it answers some Config, in memory of its own, and writes nothing but the cursor and new memory.
  Condition: the cursor is one, and has been asked fewer than 2^35 times.
-/
import Derived.Test.YtpoojmodebgioaaDoorCurConf
namespace Go.Proofs.YtpoojmodebgioaaDoor.cur
open Go.RowKit Go.Proofs.YtpoojmodebgioaaDoor.win Go.Proofs.YtpoojmodebgioaaDoor.dat

/-- What anyConfig has on its way: a Config in block x; the answer's box at R. -/
def AnyAt (g : Nat) (a : Option Addr) (len cap m : Nat) (w : World) (lo x p q : Nat) (W : World) : Prop :=
  ∃ (c : ConfD) (wv mv : Value), Blk W x 27 [.int .i64 c.d, wv, mv, .int .i64 c.dl, .int .i64 c.lt] ∧ ConfAt lo c wv mv W ∧ (wv.ownBlock ≠ some x ∧ mv.ownBlock ≠ some x) ∧ (c.ws.length ≤ p ∧ c.ms.length ≤ q ∧ 1 ≤ c.ws.length) ∧ Blk W w.heap.size 27 [.int .i64 0, .slice none 0 0, .slice none 0 0, .int .i64 0, .int .i64 0] ∧ Curs g a len cap m W ∧ Only g w W ∧ lo ≤ W.heap.size
/-- A store into x. -/
theorem any_store {g : Nat} {a : Option Addr} {len cap m : Nat} {w : World} {lo x p q : Nat} {W : World} {L : List Value} (c : ConfD) (wv mv : Value) (hX : Blk W x 27 L) (hA : ConfAt lo c wv mv W) (hx : wv.ownBlock ≠ some x ∧ mv.ownBlock ≠ some x) (hb : c.ws.length ≤ p ∧ c.ms.length ≤ q ∧ 1 ≤ c.ws.length)
    (hK : Blk W w.heap.size 27 [.int .i64 0, .slice none 0 0, .slice none 0 0, .int .i64 0, .int .i64 0]) (hC : Curs g a len cap m W) (hO : Only g w W) (hlo : lo ≤ W.heap.size) (hxw : w.heap.size < x) (hg : g < w.heap.size) (i : Nat) (v : Value) (hL : L.set i v = [.int .i64 c.d, wv, mv, .int .i64 c.dl, .int .i64 c.lt]) : AnyAt g a len cap m w lo x p q (W.setCell ⟨x, i, none⟩ v) := by
  have hne : ∀ b, b ≠ x → (W.setCell ⟨x, i, none⟩ v).heap[b]? = W.heap[b]? := fun b hb => Below.heap_setCell _ _ _ b hb
  have hB : Below x W (W.setCell ⟨x, i, none⟩ v) := below_set _
  refine ⟨c, wv, mv, (hX.set i v).of_eq hL, ⟨hA.1.stay local_Win plain_win (fun b h => hne b (fun e => hx.1 (by rw [h, e]))), hA.2.1.stay local_int plain_int (fun b h => hne b (fun e => hx.2 (by rw [h, e]))), hA.2.2⟩, hx, hb, (hne _ (by omega)).trans hK, hC.belowB hB (by omega), hO.then_below hB (by omega), ?_⟩
  simp [World.setCell]; exact hlo
theorem AnyAt.only {g : Nat} {a : Option Addr} {len cap m m' : Nat} {w : World} {lo x p q : Nat} {W W' : World} (h : AnyAt g a len cap m w lo x p q W) (ho : Only g W W') (hc : Curs g a len cap m' W') (hg : g < w.heap.size) (hlo : g < lo) (hxg : x ≠ g) : AnyAt g a len cap m' w lo x p q W' := by
  obtain ⟨c, wv, mv, hX, hA, hx, hb, hK, hC, hO, hl⟩ := h
  exact ⟨c, wv, mv, (ho.block x hX.lt hxg).trans hX, ⟨hA.1.keep local_Win (fun b h1 h2 => ho.block b h2 (by omega)), hA.2.1.keep local_int (fun b h1 h2 => ho.block b h2 (by omega)), hA.2.2⟩, hx, hb, (ho.block _ hK.lt (by omega)).trans hK, hc, hO.trans ho, Nat.le_trans hl ho.size⟩

set_option maxRecDepth 100000 in
set_option maxHeartbeats 16000000 in
theorem anyConfig_any (g : Nat) (a : Option Addr) (len cap m : Nat) (w : World) (hm : m ≤ 34359738368) (hc : Curs g a len cap m w) :
    Calls Tryd.prog 23 #[.pointer (some ⟨g, 0, none⟩)] w (fun e w' => ∃ (x : ConfD) (wv mv : Value), e = .returned (.agg #[.int .i64 x.d, wv, mv, .int .i64 x.dl, .int .i64 x.lt]) ∧ ConfAt w.heap.size x wv mv w' ∧ x.ws.length ≤ 4 ∧ x.ms.length ≤ 5 ∧ Curs g a len cap (m + 60) w' ∧ Only g w w') := by
  have hg := hc.lt
  have H := Lib.hid hc
  clear hc
  go_enter Tryd.func23, Tryd.ntmps23
  go_wp2_with fail
  refine calls_gen (fun W => Below w.heap.size w W ∧ Blk W w.heap.size 27 [.int .i64 0, .slice none 0 0, .slice none 0 0, .int .i64 0, .int .i64 0]) ⟨by repeat (first | exact Below.refl _ _ | refine Below.setCell ?_ (by first | omega | (simp; done) | (simp; omega)) _ | refine Below.alloc ?_ (by first | omega | (simp; done) | (simp; omega)) _ | apply Below.drew), by with_reducible (repeat (first | (refine blk_new_at _ _ _ _ ?_; first | rfl | (simp; done)) | refine Blk.alloc ?_ _ | apply Blk.drew | refine Blk.setOther ?_ (by first | (simp; done) | (simp; omega)) _))⟩ ?_
  rintro W1 ⟨b1, k1⟩
  have hlt1 := k1.lt
  refine (config_any g a len cap m W1 (by omega) (H.out.below b1)).mono ?_
  rintro e W2 ⟨c, wv, mv, rfl, hA, hw2, hm4, hw1, hc2, ho2⟩
  obtain ⟨aw, cw, hwv⟩ := hA.1.slice
  obtain ⟨am, cm, hmv⟩ := hA.2.1.slice
  subst hwv hmv
  have K2 := Lib.hid (show Blk W2 w.heap.size 27 [.int .i64 0, .slice none 0 0, .slice none 0 0, .int .i64 0, .int .i64 0] from (ho2.block _ hlt1 (by omega)).trans k1)
  have A2 := Lib.hid hA
  have C2 := Lib.hid hc2
  have O2 := Lib.hid ((Only.of_below b1).trans ho2)
  have Z2 := Lib.hid (show w.heap.size < W1.heap.size ∧ W1.heap.size ≤ W2.heap.size from ⟨hlt1, ho2.size⟩)
  have BD := Lib.hid (show c.ws.length ≤ 2 ∧ c.ms.length ≤ 4 ∧ 1 ≤ c.ws.length from ⟨hw2, hm4, hw1⟩)
  clear b1 k1 hA hc2 ho2 H hlt1 hw2 hm4 hw1
  go_wp2_with fail
  have hx2 : (Value.slice aw c.ws.length cw).ownBlock ≠ some W2.heap.size ∧ (Value.slice am c.ms.length cm).ownBlock ≠ some W2.heap.size := ⟨fun h => by have := A2.out.1.lt _ h; omega, fun h => by have := A2.out.2.1.lt _ h; omega⟩
  have hbx : Below W2.heap.size W2 (W2.alloc (.cells #[.int .i64 c.d, .slice aw c.ws.length cw, .slice am c.ms.length cm, .int .i64 c.dl, .int .i64 c.lt] 27)) := (Below.refl _ _).alloc (Nat.le_refl _) _
  have A3 : AnyAt g a len cap (m + 40) w W1.heap.size W2.heap.size 2 4 (W2.alloc (.cells #[.int .i64 c.d, .slice aw c.ws.length cw, .slice am c.ms.length cm, .int .i64 c.dl, .int .i64 c.lt] 27)) :=
    ⟨c, _, _, blk_new W2 27 _, ⟨A2.out.1.below local_Win hbx, A2.out.2.1.below local_int hbx, A2.out.2.2⟩, hx2, BD.out, K2.out.alloc _, C2.out.below hbx, O2.out.alloc _, by have := Z2.out.2; simp; omega⟩
  have hC3 : Curs g a len cap (m + 40) (W2.alloc (.cells #[.int .i64 c.d, .slice aw c.ws.length cw, .slice am c.ms.length cm, .int .i64 c.dl, .int .i64 c.lt] 27)) := C2.out.below hbx
  refine (once_any g a len cap (m + 40) 8 _ (by omega) hC3).mono ?_
  rintro e W4 ⟨t, rfl, hc4, ho4⟩
  have hg2 := C2.out.lt
  have hglo : g < W1.heap.size := by have := Z2.out.1; omega
  have hwlo : w.heap.size < W1.heap.size := Z2.out.1
  have hxg : W2.heap.size ≠ g := by omega
  have hxw : w.heap.size < W2.heap.size := by have := Z2.out; omega
  have A4 := Lib.hid (A3.only ho4 hc4 hg hglo hxg)
  clear A3 hC3 hc4 ho4 hbx hx2 A2 C2 O2 K2 BD Z2 hg2
  generalize W2.heap.size = x at *
  generalize W1.heap.size = lo at *
  go_upto_if 7 with fail
  go_cut [] (fun wx => AnyAt g a len cap (m + 60) w lo x 4 5 wx)
  case first =>
    cases t
    · go_wp2_with fail
      go_meet
      obtain ⟨c, wv, mv, hX, hA, hx, hb, hK, hC, hO, hl⟩ := A4.out
      exact ⟨c, wv, mv, hX, hA, hx, ⟨by omega, by omega, by omega⟩, hK, hC.more (by omega), hO, hl⟩
    · go_wp2_with fail
      have hC4 : Curs g a len cap (m + 40 + 1) W4 := by obtain ⟨_, _, _, _, _, _, _, _, h, _⟩ := A4.out; exact h
      refine (pick_any g a len cap (m + 40 + 1) 6 W4 (by omega) hC4).mono ?_
      rintro e W5 ⟨r, rfl, r0, r1, hc5, ho5⟩
      have A5 := Lib.hid (A4.out.only ho5 hc5 hg hglo hxg)
      have hr6 : r = 0 ∨ r = 1 ∨ r = 2 ∨ r = 3 ∨ r = 4 ∨ r = 5 := by omega
      clear hC4 hc5 ho5 A4 r0 r1
      rcases hr6 with rfl | rfl | rfl | rfl | rfl | rfl
      · go_wp2_with fail
        have hC5 : Curs g a len cap (m + 40 + 1 + 1) W5 := by obtain ⟨_, _, _, _, _, _, _, _, h, _⟩ := A5.out; exact h
        refine (raw_any g a len cap (m + 40 + 1 + 1) W5 (by omega) hC5).mono ?_
        rintro e W6 ⟨v, rfl, -, hc6, ho6⟩
        have A6 := Lib.hid (A5.out.only ho6 hc6 hg hglo hxg)
        clear hC5 hc6 ho6 A5
        obtain ⟨c, wv, mv, hX, hA, hx, hb, hK, hC, hO, hl⟩ := A6.out
        obtain ⟨aw, cw, hwv⟩ := hA.1.slice
        obtain ⟨am, cm, hmv⟩ := hA.2.1.slice
        subst hwv hmv
        have c0 := hX.cell 0
        have c1 := hX.cell 1
        have c2 := hX.cell 2
        have c3 := hX.cell 3
        have c4 := hX.cell 4
        have xf := hX.frozen
        simp at c0 c1 c2 c3 c4
        have HX := Lib.hid hX
        have HA := Lib.hid hA
        have HXO := Lib.hid hx
        have HB := Lib.hid hb
        have HK := Lib.hid hK
        have HC := Lib.hid hC
        have HO := Lib.hid hO
        have HL := Lib.hid hl
        clear hX hA hx hb hK hC hO hl
        go_wp2_with fail
        go_meet
        exact (any_store ⟨v, c.ws, c.ms, c.dl, c.lt⟩ _ _ HX.out HA.out HXO.out (by have := HB.out; exact ⟨by simp only; omega, by simp only; omega, by simp only; omega⟩) HK.out (HC.out.more (by omega)) HO.out HL.out hxw hg 0 (.int .i64 v) (by simp))
      · have HC5 : True := trivial
        obtain ⟨c, wv, mv, hX, hA, hx, hb, hK, hC, hO, hl⟩ := A5.out
        obtain ⟨aw, cw, hwv⟩ := hA.1.slice
        obtain ⟨am, cm, hmv⟩ := hA.2.1.slice
        subst hwv hmv
        have c0 := hX.cell 0
        have c1 := hX.cell 1
        have c2 := hX.cell 2
        have c3 := hX.cell 3
        have c4 := hX.cell 4
        have xf := hX.frozen
        simp at c0 c1 c2 c3 c4
        have HX := Lib.hid hX
        have HA := Lib.hid hA
        have HXO := Lib.hid hx
        have HB := Lib.hid hb
        have HK := Lib.hid hK
        have HC := Lib.hid hC
        have HO := Lib.hid hO
        have HL := Lib.hid hl
        clear hX hA hx hb hK hC hO hl
        go_wp2_with fail
        refine mix.wp_region_tail (fun w' => w'.cell? ⟨x, 1, none⟩ = some (.slice aw c.ws.length cw)) [3,4,5] [0,1,2,3,4,5,6] (by kernel_rfl) (by kernel_rfl) (fun _ _ d _ _ h => by cases d <;> exact h) c1 ?_
        simp only [List.filterMap_cons, List.filterMap_nil, List.getElem?_cons_zero, List.getElem?_cons_succ, Option.map_some]
        (repeat (apply mix.ordt_take; (· rfl); (· rfl); (· (intro w' hSw; (try dsimp only at hSw); go_simp; try with_reducible rfl)); (try simp only [Act.put, List.setIfInBounds_toArray, List.set_cons_zero, List.set_cons_succ])))
        refine mix.ordt_hard rfl (fun K hK => ?_); go_simp
        refine (win_any g a len cap (m + 40 + 1 + 1) W5.drew (by omega) (HC.out.below (Below.refl _ _).drew)).mono ?_
        rintro e W6 ⟨z, l, rfl, hc6, ho6⟩
        have X6 := Lib.hid (show Blk W6 x 27 [.int .i64 c.d, .slice aw c.ws.length cw, .slice am c.ms.length cm, .int .i64 c.dl, .int .i64 c.lt] from (ho6.block x HX.out.lt hxg).trans HX.out)
        have HA6 := Lib.hid (show ConfAt lo c (.slice aw c.ws.length cw) (.slice am c.ms.length cm) W6 from HA.out.stay (fun b h1 h2 => ho6.block b h2 (by omega)))
        have K6 := Lib.hid (show Blk W6 w.heap.size 27 [.int .i64 0, .slice none 0 0, .slice none 0 0, .int .i64 0, .int .i64 0] from (ho6.block _ HK.out.lt (by omega)).trans HK.out)
        have C6 := Lib.hid hc6
        have O6 := Lib.hid ((HO.out.drew).trans ho6)
        have L6 := Lib.hid (Nat.le_trans HL.out ho6.size)
        have x6 := X6.out.lt
        have d1 := X6.out.cell 1
        simp at d1
        clear hc6 ho6 c0 c1 c2 c3 c4 xf HX HA HK HC HO HL
        refine hK.out _ _ (by exact d1) (fun hSw => ?_); clear hK K hSw; (try simp only [Act.put, List.setIfInBounds_toArray, List.set_cons_zero, List.set_cons_succ])
        refine mix.ordt_hard rfl (fun K hK => ?_); go_simp
        have hb7 : Below W6.heap.size W6 (W6.alloc (.cells #[.int .i64 z, .int .i64 l] 83)) := (Below.refl _ _).alloc (Nat.le_refl _) _
        have d2 : (W6.alloc (.cells #[.int .i64 z, .int .i64 l] 83)).cell? ⟨x, 1, none⟩ = some (.slice aw c.ws.length cw) := (hb7.cell (p := ⟨x, 1, none⟩) x6).trans d1
        refine hK.out _ _ (by exact d2) (fun hSw => ?_); clear hK K hSw; (try simp only [Act.put, List.setIfInBounds_toArray, List.set_cons_zero, List.set_cons_succ])
        obtain ⟨i0, hi, hi2⟩ := Option.map_eq_some_iff.1 info_Win
        simp only [Prod.mk.injEq] at hi2
        obtain ⟨hz0, hz1, hz2⟩ := hi2
        have hBd := HB.out
        refine mix.ordt_hardb rfl rfl (fun K hK => ?_)
        refine push_wp (v := .slice aw c.ws.length cw) local_Win _ _ 24 rfl i0 (.agg #[.int .i64 0, .int .i64 0]) 16 Tryd.underlying24 hi hz0 hz1 hz2 rfl (by decide) rfl HA6.out.1 hb7 W6.heap.size 1 rfl [.int .i64 z, .int .i64 l] rfl (fun u hu => by simp at hu; rcases hu with rfl | rfl <;> rfl) (fun j u hj => ?_) (z, l) [] ⟨rfl, rfl⟩ Own.nil (by omega) (by unfold maxLen; omega) L6.out ?_
        · exact ((blk_new W6 83 [.int .i64 z, .int .i64 l]).cell j).trans hj
        intro v8 W8 hG8 hb8 hk8 hw8
        obtain ⟨a8, cap8, hv8⟩ := hG8.slice
        subst hv8
        generalize hn8 : (c.ws ++ [(z, l)]).length = n8 at *
        have hsz : (W6.alloc (.cells #[.int .i64 z, .int .i64 l] 83)).heap.size = W6.heap.size + 1 := by simp
        have hkk : ∀ b, b < W6.heap.size → (Value.slice aw c.ws.length cw).ownBlock ≠ some b → W8.heap[b]? = W6.heap[b]? := fun b h1 h2 => (hk8 b (by omega) h2).trans (Below.heap_alloc _ _ _ h1)
        have X8 := Lib.hid (show Blk W8 x 27 [.int .i64 c.d, .slice aw c.ws.length cw, .slice am c.ms.length cm, .int .i64 c.dl, .int .i64 c.lt] from (hkk x x6 HXO.out.1).trans X6.out)
        have hBl : Below lo W6 W8 := ((Below.refl _ _).alloc L6.out _).trans hb8
        have hOth : Grows 1 RInt 3 lo W8 (.slice am c.ms.length cm) c.ms := HA6.out.2.1.stay local_int plain_int (fun b hb => hkk b (HA6.out.2.1.lt b hb).2 (fun h => HA6.out.2.2 b h hb))
        have hNew : ConfAt lo ⟨c.d, c.ws ++ [(z, l)], c.ms, c.dl, c.lt⟩ (.slice a8 n8 cap8) (.slice am c.ms.length cm) W8 := by
          refine ⟨hG8, hOth, fun b hb => ?_⟩
          rcases hw8 with e | e
          · exact HA6.out.2.2 b (e ▸ hb)
          · intro h
            have h1 := HA6.out.2.1.lt b h
            rw [e] at hb
            simp at hb
            omega
        have hXn : (Value.slice a8 n8 cap8).ownBlock ≠ some x ∧ (Value.slice am c.ms.length cm).ownBlock ≠ some x := by
          refine ⟨?_, HXO.out.2⟩
          rcases hw8 with e | e
          · rw [e]; exact HXO.out.1
          · rw [e]; intro h; simp at h; omega
        have hfin := any_store (g := g) (a := a) (len := len) (cap := cap) (m := m + 60) (w := w) (p := 4) (q := 5) ⟨c.d, c.ws ++ [(z, l)], c.ms, c.dl, c.lt⟩ _ _ X8.out hNew hXn (by refine ⟨?_, ?_, ?_⟩ <;> simp <;> omega) (K6.out.belowB hBl (by omega)) ((C6.out.belowB hBl hglo).more (by omega)) (O6.out.then_below hBl (by omega)) (Nat.le_trans L6.out (by have := hb8.size; omega)) hxw hg 1 (.slice a8 n8 cap8) (by simp)
        have HF := Lib.hid hfin
        have d8 := X8.out.cell 1
        have f8 := X8.out.frozen
        simp at d8
        clear hfin hNew hXn hOth hkk hk8 hw8 hb8 hG8 hBl hsz d1 d2 hb7 hi hz0 hz1 hz2
        refine hK.out _ _ (by exact d8) (fun hSw => ?_); clear hK K hSw; (try simp only [Act.put, List.setIfInBounds_toArray, List.set_cons_zero, List.set_cons_succ])
        (repeat (apply mix.ordt_take; (· rfl); (· rfl); (· (intro w' hSw; (try dsimp only at hSw); go_simp; try with_reducible rfl)); (try simp only [Act.put, List.setIfInBounds_toArray, List.set_cons_zero, List.set_cons_succ])))
        refine mix.ordt_end ?_; refine mix.last_step (fun K hK => ?_); go_simp
        refine hK _ _ ?_
        clear hK K
        go_wp2_with fail
        go_meet
        exact HF.out
      · have HC5 : True := trivial
        obtain ⟨c, wv, mv, hX, hA, hx, hb, hK, hC, hO, hl⟩ := A5.out
        obtain ⟨aw, cw, hwv⟩ := hA.1.slice
        obtain ⟨am, cm, hmv⟩ := hA.2.1.slice
        subst hwv hmv
        have c0 := hX.cell 0
        have c1 := hX.cell 1
        have c2 := hX.cell 2
        have c3 := hX.cell 3
        have c4 := hX.cell 4
        have xf := hX.frozen
        simp at c0 c1 c2 c3 c4
        have HX := Lib.hid hX
        have HA := Lib.hid hA
        have HXO := Lib.hid hx
        have HB := Lib.hid hb
        have HK := Lib.hid hK
        have HC := Lib.hid hC
        have HO := Lib.hid hO
        have HL := Lib.hid hl
        clear hX hA hx hb hK hC hO hl
        go_wp2_with fail
        refine mix.wp_region_tail (fun w' => w'.cell? ⟨x, 2, none⟩ = some (.slice am c.ms.length cm)) [3,4,5] [0,1,2,3,4,5,6] (by kernel_rfl) (by kernel_rfl) (fun _ _ d _ _ h => by cases d <;> exact h) c2 ?_
        simp only [List.filterMap_cons, List.filterMap_nil, List.getElem?_cons_zero, List.getElem?_cons_succ, Option.map_some]
        (repeat (apply mix.ordt_take; (· rfl); (· rfl); (· (intro w' hSw; (try dsimp only at hSw); go_simp; try with_reducible rfl)); (try simp only [Act.put, List.setIfInBounds_toArray, List.set_cons_zero, List.set_cons_succ])))
        refine mix.ordt_hard rfl (fun K hK => ?_); go_simp
        refine (raw_any g a len cap (m + 40 + 1 + 1) W5.drew (by omega) (HC.out.below (Below.refl _ _).drew)).mono ?_
        rintro e W6 ⟨z, rfl, -, hc6, ho6⟩
        have X6 := Lib.hid (show Blk W6 x 27 [.int .i64 c.d, .slice aw c.ws.length cw, .slice am c.ms.length cm, .int .i64 c.dl, .int .i64 c.lt] from (ho6.block x HX.out.lt hxg).trans HX.out)
        have HA6 := Lib.hid (show ConfAt lo c (.slice aw c.ws.length cw) (.slice am c.ms.length cm) W6 from HA.out.stay (fun b h1 h2 => ho6.block b h2 (by omega)))
        have K6 := Lib.hid (show Blk W6 w.heap.size 27 [.int .i64 0, .slice none 0 0, .slice none 0 0, .int .i64 0, .int .i64 0] from (ho6.block _ HK.out.lt (by omega)).trans HK.out)
        have C6 := Lib.hid hc6
        have O6 := Lib.hid ((HO.out.drew).trans ho6)
        have L6 := Lib.hid (Nat.le_trans HL.out ho6.size)
        have x6 := X6.out.lt
        have d1 := X6.out.cell 2
        simp at d1
        clear hc6 ho6 c0 c1 c2 c3 c4 xf HX HA HK HC HO HL
        refine hK.out _ _ (by exact d1) (fun hSw => ?_); clear hK K hSw; (try simp only [Act.put, List.setIfInBounds_toArray, List.set_cons_zero, List.set_cons_succ])
        refine mix.ordt_hard rfl (fun K hK => ?_); go_simp
        have hb7 : Below W6.heap.size W6 (W6.alloc (.cells #[.int .i64 z] 3)) := (Below.refl _ _).alloc (Nat.le_refl _) _
        have d2 : (W6.alloc (.cells #[.int .i64 z] 3)).cell? ⟨x, 2, none⟩ = some (.slice am c.ms.length cm) := (hb7.cell (p := ⟨x, 2, none⟩) x6).trans d1
        refine hK.out _ _ (by exact d2) (fun hSw => ?_); clear hK K hSw; (try simp only [Act.put, List.setIfInBounds_toArray, List.set_cons_zero, List.set_cons_succ])
        obtain ⟨i0, hi, hi2⟩ := Option.map_eq_some_iff.1 info_int
        simp only [Prod.mk.injEq] at hi2
        obtain ⟨hz0, hz1, hz2⟩ := hi2
        have hBd := HB.out
        refine mix.ordt_hardb rfl rfl (fun K hK => ?_)
        refine push_wp (v := .slice am c.ms.length cm) local_int _ _ 25 rfl i0 (.int .i64 0) 8 Tryd.underlying25 hi hz0 hz1 hz2 rfl (by decide) rfl HA6.out.2.1 hb7 W6.heap.size 1 rfl [.int .i64 z] rfl (fun u hu => by simp at hu; subst hu; rfl) (fun j u hj => ?_) z [] ⟨rfl, rfl⟩ Own.nil (by omega) (by unfold maxLen; omega) L6.out ?_
        · exact ((blk_new W6 3 [.int .i64 z]).cell j).trans hj
        intro v8 W8 hG8 hb8 hk8 hw8
        obtain ⟨a8, cap8, hv8⟩ := hG8.slice
        subst hv8
        generalize hn8 : (c.ms ++ [z]).length = n8 at *
        have hsz : (W6.alloc (.cells #[.int .i64 z] 3)).heap.size = W6.heap.size + 1 := by simp
        have hkk : ∀ b, b < W6.heap.size → (Value.slice am c.ms.length cm).ownBlock ≠ some b → W8.heap[b]? = W6.heap[b]? := fun b h1 h2 => (hk8 b (by omega) h2).trans (Below.heap_alloc _ _ _ h1)
        have X8 := Lib.hid (show Blk W8 x 27 [.int .i64 c.d, .slice aw c.ws.length cw, .slice am c.ms.length cm, .int .i64 c.dl, .int .i64 c.lt] from (hkk x x6 HXO.out.2).trans X6.out)
        have hBl : Below lo W6 W8 := ((Below.refl _ _).alloc L6.out _).trans hb8
        have hOth : Grows 2 RWin 83 lo W8 (.slice aw c.ws.length cw) c.ws := HA6.out.1.stay local_Win plain_win (fun b hb => hkk b (HA6.out.1.lt b hb).2 (HA6.out.2.2 b hb))
        have hNew : ConfAt lo ⟨c.d, c.ws, c.ms ++ [z], c.dl, c.lt⟩ (.slice aw c.ws.length cw) (.slice a8 n8 cap8) W8 := by
          refine ⟨hOth, hG8, fun b hb => ?_⟩
          rcases hw8 with e | e
          · rw [e]; exact HA6.out.2.2 b hb
          · intro h
            have h1 := HA6.out.1.lt b hb
            rw [e] at h
            simp at h
            omega
        have hXn : (Value.slice aw c.ws.length cw).ownBlock ≠ some x ∧ (Value.slice a8 n8 cap8).ownBlock ≠ some x := by
          refine ⟨HXO.out.1, ?_⟩
          rcases hw8 with e | e
          · rw [e]; exact HXO.out.2
          · rw [e]; intro h; simp at h; omega
        have hfin := any_store (g := g) (a := a) (len := len) (cap := cap) (m := m + 60) (w := w) (p := 4) (q := 5) ⟨c.d, c.ws, c.ms ++ [z], c.dl, c.lt⟩ _ _ X8.out hNew hXn (by refine ⟨?_, ?_, ?_⟩ <;> simp <;> omega) (K6.out.belowB hBl (by omega)) ((C6.out.belowB hBl hglo).more (by omega)) (O6.out.then_below hBl (by omega)) (Nat.le_trans L6.out (by have := hb8.size; omega)) hxw hg 2 (.slice a8 n8 cap8) (by simp)
        have HF := Lib.hid hfin
        have d8 := X8.out.cell 2
        have f8 := X8.out.frozen
        simp at d8
        clear hfin hNew hXn hOth hkk hk8 hw8 hb8 hG8 hBl hsz d1 d2 hb7 hi hz0 hz1 hz2
        refine hK.out _ _ (by exact d8) (fun hSw => ?_); clear hK K hSw; (try simp only [Act.put, List.setIfInBounds_toArray, List.set_cons_zero, List.set_cons_succ])
        (repeat (apply mix.ordt_take; (· rfl); (· rfl); (· (intro w' hSw; (try dsimp only at hSw); go_simp; try with_reducible rfl)); (try simp only [Act.put, List.setIfInBounds_toArray, List.set_cons_zero, List.set_cons_succ])))
        refine mix.ordt_end ?_; refine mix.last_step (fun K hK => ?_); go_simp
        refine hK _ _ ?_
        clear hK K
        go_wp2_with fail
        go_meet
        exact HF.out
      · go_wp2_with fail
        have hC5 : Curs g a len cap (m + 40 + 1 + 1) W5 := by obtain ⟨_, _, _, _, _, _, _, _, h, _⟩ := A5.out; exact h
        refine (raw_any g a len cap (m + 40 + 1 + 1) W5 (by omega) hC5).mono ?_
        rintro e W6 ⟨v, rfl, -, hc6, ho6⟩
        have A6 := Lib.hid (A5.out.only ho6 hc6 hg hglo hxg)
        clear hC5 hc6 ho6 A5
        obtain ⟨c, wv, mv, hX, hA, hx, hb, hK, hC, hO, hl⟩ := A6.out
        obtain ⟨aw, cw, hwv⟩ := hA.1.slice
        obtain ⟨am, cm, hmv⟩ := hA.2.1.slice
        subst hwv hmv
        have c0 := hX.cell 0
        have c1 := hX.cell 1
        have c2 := hX.cell 2
        have c3 := hX.cell 3
        have c4 := hX.cell 4
        have xf := hX.frozen
        simp at c0 c1 c2 c3 c4
        have HX := Lib.hid hX
        have HA := Lib.hid hA
        have HXO := Lib.hid hx
        have HB := Lib.hid hb
        have HK := Lib.hid hK
        have HC := Lib.hid hC
        have HO := Lib.hid hO
        have HL := Lib.hid hl
        clear hX hA hx hb hK hC hO hl
        go_wp2_with fail
        go_meet
        exact (any_store ⟨c.d, c.ws, c.ms, v, c.lt⟩ _ _ HX.out HA.out HXO.out (by have := HB.out; exact ⟨by simp only; omega, by simp only; omega, by simp only; omega⟩) HK.out (HC.out.more (by omega)) HO.out HL.out hxw hg 3 (.int .i64 v) (by simp))
      · go_wp2_with fail
        have hC5 : Curs g a len cap (m + 40 + 1 + 1) W5 := by obtain ⟨_, _, _, _, _, _, _, _, h, _⟩ := A5.out; exact h
        have hg5 := hC5.lt
        have hCt : Curs g a len cap (m + 40 + 1 + 1) (W5.alloc (.cells #[.int .i64 1000, .int .i64 1001, .int .i64 (-1)] 3)) := hC5.below ((Below.refl _ _).alloc (Nat.le_refl _) _)
        have At := A5.out.only ((Only.refl g W5).alloc (.cells #[.int .i64 1000, .int .i64 1001, .int .i64 (-1)] 3)) hCt hg hglo hxg
        refine (pick_any g a len cap (m + 40 + 1 + 1) 3 _ (by omega) hCt).mono ?_
        rintro e W6 ⟨k, rfl, k0, k1, hc6, ho6⟩
        have A6 := Lib.hid (At.only ho6 hc6 hg hglo hxg)
        have hsel : ∃ u : Int, W6.cell? ⟨W5.heap.size, k.toNat, none⟩ = some (.int .i64 u) := by
          rw [ho6.cell (b := W5.heap.size) (by simp) (by omega)]
          have : k = 0 ∨ k = 1 ∨ k = 2 := by omega
          rcases this with rfl | rfl | rfl <;> exact ⟨_, by simp [go_sem]; rfl⟩
        obtain ⟨v, hu⟩ := hsel
        have k3 : k < 3 := by omega
        clear hC5 hCt At hc6 ho6 A5 k1
        obtain ⟨c, wv, mv, hX, hA, hx, hb, hK, hC, hO, hl⟩ := A6.out
        obtain ⟨aw, cw, hwv⟩ := hA.1.slice
        obtain ⟨am, cm, hmv⟩ := hA.2.1.slice
        subst hwv hmv
        have c0 := hX.cell 0
        have c1 := hX.cell 1
        have c2 := hX.cell 2
        have c3 := hX.cell 3
        have c4 := hX.cell 4
        have xf := hX.frozen
        simp at c0 c1 c2 c3 c4
        have HX := Lib.hid hX
        have HA := Lib.hid hA
        have HXO := Lib.hid hx
        have HB := Lib.hid hb
        have HK := Lib.hid hK
        have HC := Lib.hid hC
        have HO := Lib.hid hO
        have HL := Lib.hid hl
        clear hX hA hx hb hK hC hO hl
        go_wp2_with fail
        go_meet
        exact (any_store ⟨c.d, c.ws, c.ms, c.dl, v⟩ _ _ HX.out HA.out HXO.out (by have := HB.out; exact ⟨by simp only; omega, by simp only; omega, by simp only; omega⟩) HK.out (HC.out.more (by omega)) HO.out HL.out hxw hg 4 (.int .i64 v) (by simp))
      · have HC5 : True := trivial
        obtain ⟨c, wv, mv, hX, hA, hx, hb, hK, hC, hO, hl⟩ := A5.out
        obtain ⟨aw, cw, hwv⟩ := hA.1.slice
        obtain ⟨am, cm, hmv⟩ := hA.2.1.slice
        subst hwv hmv
        have c0 := hX.cell 0
        have c1 := hX.cell 1
        have c2 := hX.cell 2
        have c3 := hX.cell 3
        have c4 := hX.cell 4
        have xf := hX.frozen
        simp at c0 c1 c2 c3 c4
        have HX := Lib.hid hX
        have HA := Lib.hid hA
        have HXO := Lib.hid hx
        have HB := Lib.hid hb
        have HK := Lib.hid hK
        have HC := Lib.hid hC
        have HO := Lib.hid hO
        have HL := Lib.hid hl
        clear hX hA hx hb hK hC hO hl
        obtain ⟨i0, hi, hi2⟩ := Option.map_eq_some_iff.1 info_Win
        simp only [Prod.mk.injEq] at hi2
        obtain ⟨hz0, hz1, hz2⟩ := hi2
        have hBd := HB.out
        have x6 := HX.out.lt
        go_wp2_with (at_builtin; refine push_self (v := .slice aw c.ws.length cw) local_Win plain_win rfl _ _ 24 rfl i0 (.agg #[.int .i64 0, .int .i64 0]) 16 Tryd.underlying24 hi hz0 hz1 hz2 rfl (by decide) rfl rfl HA.out.1 (by omega) one_win (by omega) (by unfold maxLen; omega) HL.out ?_; intro v8 W8 hG8 hb8 hk8 hw8; obtain ⟨a8, cap8, hv8⟩ := hG8.slice; subst hv8; have X8 : Blk W8 x 27 [.int .i64 c.d, .slice aw c.ws.length cw, .slice am c.ms.length cm, .int .i64 c.dl, .int .i64 c.lt] := (hk8 x x6 HXO.out.1).trans HX.out; have d8 := X8.cell 1; have f8 := X8.frozen; simp at d8)
        go_meet
        have hOth : Grows 1 RInt 3 lo W8 (.slice am c.ms.length cm) c.ms := HA.out.2.1.stay local_int plain_int (fun b hb => hk8 b (HA.out.2.1.lt b hb).2 (fun h => HA.out.2.2 b h hb))
        have hNew : ConfAt lo ⟨c.d, c.ws ++ c.ws, c.ms, c.dl, c.lt⟩ (.slice a8 (c.ws ++ c.ws).length cap8) (.slice am c.ms.length cm) W8 := by
          refine ⟨hG8, hOth, fun b hb => ?_⟩
          rcases hw8 with e | e
          · exact HA.out.2.2 b (e ▸ hb)
          · intro h
            have h1 := HA.out.2.1.lt b h
            rw [e] at hb
            simp at hb
            omega
        have hXn : (Value.slice a8 (c.ws ++ c.ws).length cap8).ownBlock ≠ some x ∧ (Value.slice am c.ms.length cm).ownBlock ≠ some x := by
          refine ⟨?_, HXO.out.2⟩
          rcases hw8 with e | e
          · rw [e]; exact HXO.out.1
          · rw [e]; intro h; simp at h; omega
        have hfin := any_store (g := g) (a := a) (len := len) (cap := cap) (m := m + 60) (w := w) (p := 4) (q := 5) ⟨c.d, c.ws ++ c.ws, c.ms, c.dl, c.lt⟩ _ _ X8 hNew hXn (by refine ⟨?_, ?_, ?_⟩ <;> simp <;> omega) (HK.out.belowB hb8 (by omega)) ((HC.out.belowB hb8 hglo).more (by omega)) (HO.out.then_below hb8 (by omega)) (Nat.le_trans HL.out hb8.size) hxw hg 1 (.slice a8 (c.ws ++ c.ws).length cap8) (by simp)
        simp only [List.length_append] at hfin
        exact hfin
  case rest =>
    generalize wc = W7 at *
    clear wc
    obtain ⟨c, wv, mv, hX, hA, hx, hb, hK, hC, hO, hl⟩ := hcut
    obtain ⟨aw, cw, hwv⟩ := hA.1.slice
    obtain ⟨am, cm, hmv⟩ := hA.2.1.slice
    subst hwv hmv
    have c0 := hX.cell 0
    have c1 := hX.cell 1
    have c2 := hX.cell 2
    have c3 := hX.cell 3
    have c4 := hX.cell 4
    have k0 := hK.cell 0
    have k1 := hK.cell 1
    have k2 := hK.cell 2
    have k3 := hK.cell 3
    have k4 := hK.cell 4
    have kf := hK.frozen
    simp at c0 c1 c2 c3 c4 k0 k1 k2 k3 k4
    have HALL := Lib.hid (show Blk (five w.heap.size (.int .i64 c.d) (.slice aw c.ws.length cw) (.slice am c.ms.length cm) (.int .i64 c.dl) (.int .i64 c.lt) W7) w.heap.size 27 [.int .i64 c.d, .slice aw c.ws.length cw, .slice am c.ms.length cm, .int .i64 c.dl, .int .i64 c.lt] ∧ ConfAt lo c (.slice aw c.ws.length cw) (.slice am c.ms.length cm) (five w.heap.size (.int .i64 c.d) (.slice aw c.ws.length cw) (.slice am c.ms.length cm) (.int .i64 c.dl) (.int .i64 c.lt) W7) ∧ Curs g a len cap (m + 60) (five w.heap.size (.int .i64 c.d) (.slice aw c.ws.length cw) (.slice am c.ms.length cm) (.int .i64 c.dl) (.int .i64 c.lt) W7) ∧ Only g w (five w.heap.size (.int .i64 c.d) (.slice aw c.ws.length cw) (.slice am c.ms.length cm) (.int .i64 c.dl) (.int .i64 c.lt) W7) from ⟨five_blk hK, hA.stay (fun b h1 _ => five_other b (by omega)), hC.belowB five_below hg, hO.then_below five_below (Nat.le_refl _)⟩)
    unfold five at HALL
    have HB := Lib.hid hb
    clear hX hA hx hb hK hC hO hl A4
    go_wp2_with fail
    refine body_gen (fun W9 => Blk W9 w.heap.size 27 [.int .i64 c.d, .slice aw c.ws.length cw, .slice am c.ms.length cm, .int .i64 c.dl, .int .i64 c.lt] ∧ ConfAt lo c (.slice aw c.ws.length cw) (.slice am c.ms.length cm) W9 ∧ Curs g a len cap (m + 60) W9 ∧ Only g w W9) HALL.out ?_
    rintro W9 ⟨q9, a9, c9, o9⟩
    have z0 := q9.cell 0
    have z1 := q9.cell 1
    have z2 := q9.cell 2
    have z3 := q9.cell 3
    have z4 := q9.cell 4
    simp at z0 z1 z2 z3 z4
    refine bodyPost_ret (v := .agg #[.int .i64 c.d, .slice aw c.ws.length cw, .slice am c.ms.length cm, .int .i64 c.dl, .int .i64 c.lt]) (by simp [results, Tryd.results23, go_sem, z0, z1, z2, z3, z4]) rfl ⟨c, _, _, rfl, a9.lower (by omega), HB.out.1, HB.out.2.1, c9, o9⟩
end Go.Proofs.YtpoojmodebgioaaDoor.cur
