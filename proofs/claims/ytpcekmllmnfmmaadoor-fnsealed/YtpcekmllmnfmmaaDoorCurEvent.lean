/-
  THE DRAWS: the contract of event: it answers some event, in memory of its own, and writes nothing but the cursor and new memory.
  Condition: the cursor is one, and has been asked fewer than 2^35 times.
-/
import Derived.Test.YtpcekmllmnfmmaaDoorCurAny
import Derived.Test.YtpcekmllmnfmmaaDoorCurTime
namespace Go.Proofs.YtpcekmllmnfmmaaDoor.cur
open Go.RowKit Go.Proofs.YtpcekmllmnfmmaaDoor.win Go.Proofs.YtpcekmllmnfmmaaDoor.dat

/-- What event has on its way: an event in block x; the answer's box. -/
def EvAt (g : Nat) (a : Option Addr) (len cap m : Nat) (w : World) (lo x q : Nat) (d : Int) (W : World) : Prop :=
  ∃ (t v : Int) (dv : Value) (ds : List Int), Blk W x 56 [.int .i64 t, dv, .int .i64 v] ∧ Grows 1 RInt 3 lo W dv ds ∧ ds.length ≤ q ∧ Blk W (w.heap.size + 1) 56 [.int .i64 0, .slice none 0 0, .int .i64 0] ∧ W.cell? ⟨w.heap.size, 0, none⟩ = some (.int .i64 d) ∧ Curs g a len cap m W ∧ Only g w W ∧ lo ≤ W.heap.size
theorem ev_store {g : Nat} {a : Option Addr} {len cap m : Nat} {w : World} {lo x q : Nat} {d : Int} {W : World} {L : List Value} (t v : Int) (dv : Value) (ds : List Int) (hX : Blk W x 56 L) (hG : Grows 1 RInt 3 lo W dv ds) (hq : ds.length ≤ q)
    (hK : Blk W (w.heap.size + 1) 56 [.int .i64 0, .slice none 0 0, .int .i64 0]) (hD : W.cell? ⟨w.heap.size, 0, none⟩ = some (.int .i64 d)) (hC : Curs g a len cap m W) (hO : Only g w W) (hlo : lo ≤ W.heap.size) (hxlo : x < lo) (hxw : w.heap.size + 1 < x) (hg : g < w.heap.size) (i : Nat) (u : Value) (hL : L.set i u = [.int .i64 t, dv, .int .i64 v]) : EvAt g a len cap m w lo x q d (W.setCell ⟨x, i, none⟩ u) := by
  have hne : ∀ b, b ≠ x → (W.setCell ⟨x, i, none⟩ u).heap[b]? = W.heap[b]? := fun b hb => Below.heap_setCell _ _ _ b hb
  have hB : Below x W (W.setCell ⟨x, i, none⟩ u) := below_set _
  refine ⟨t, v, dv, ds, (hX.set i u).of_eq hL, hG.keep local_int (fun b hb _ => hne b (by omega)), hq, (hne _ (by omega)).trans hK, (hB.cell (p := ⟨w.heap.size, 0, none⟩) (by show w.heap.size < x; omega)).trans hD, hC.belowB hB (by omega), hO.then_below hB (by omega), ?_⟩
  simp [World.setCell]; exact hlo
theorem EvAt.only {g : Nat} {a : Option Addr} {len cap m m' : Nat} {w : World} {lo x q : Nat} {d : Int} {W W' : World} (h : EvAt g a len cap m w lo x q d W) (ho : Only g W W') (hc : Curs g a len cap m' W') (hg : g < w.heap.size) (hglo : g < lo) (hxg : x ≠ g) : EvAt g a len cap m' w lo x q d W' := by
  obtain ⟨t, v, dv, ds, hX, hG, hq, hK, hD, hC, hO, hl⟩ := h
  have hk := hK.lt
  exact ⟨t, v, dv, ds, (ho.block x hX.lt hxg).trans hX, hG.keep local_int (fun b h1 h2 => ho.block b h2 (by omega)), hq, (ho.block _ hk (by omega)).trans hK, (ho.cell (b := w.heap.size) (by omega) (by omega)).trans hD, hc, hO.trans ho, Nat.le_trans hl ho.size⟩

/-- The answer's box. -/
def three (R : Nat) (p q r : Value) (W : World) : World := ((W.setCell ⟨R, 0, none⟩ p).setCell ⟨R, 1, none⟩ q).setCell ⟨R, 2, none⟩ r
theorem three_blk {R : Nat} {p q r p' q' r' : Value} {ty : TypeId} {W : World} (h : Blk W R ty [p', q', r']) : Blk (three R p q r W) R ty [p, q, r] := by
  unfold three; (apply Blk.of_eq; (repeat (first | (with_reducible exact h) | (with_reducible apply Blk.set) | ((with_reducible apply Blk.other); · first | (simp; done) | (simp; omega)) | (with_reducible apply Blk.drew))); rfl)
theorem three_other {R : Nat} {p q r : Value} {W : World} (b : Nat) (hb : b ≠ R) : (three R p q r W).heap[b]? = W.heap[b]? := by
  unfold three
  rw [Below.heap_setCell _ _ _ b hb, Below.heap_setCell _ _ _ b hb, Below.heap_setCell _ _ _ b hb]
theorem three_below {R : Nat} {p q r : Value} {W : World} : Below R W (three R p q r W) := by unfold three; repeat (first | exact Below.refl _ _ | refine Below.setCell ?_ (by first | omega | (simp; done) | (simp; omega)) _ | refine Below.alloc ?_ (by first | omega | (simp; done) | (simp; omega)) _ | apply Below.drew)

set_option maxRecDepth 100000 in
set_option maxHeartbeats 16000000 in
theorem event_any (g : Nat) (a : Option Addr) (len cap m : Nat) (c : ConfD) (wa ma : Option Addr) (wl wc' ml mc : Nat) (w : World) (hm : m ≤ 34359738368) (hc : Curs g a len cap m w) :
    Calls Tryd.prog 28 #[.pointer (some ⟨g, 0, none⟩), .agg #[.int .i64 c.d, .slice wa wl wc', .slice ma ml mc, .int .i64 c.dl, .int .i64 c.lt]] w (fun e w' => ∃ (t v : Int) (dv : Value) (ds : List Int), e = .returned (.agg #[.int .i64 t, dv, .int .i64 v]) ∧ Grows 1 RInt 3 w.heap.size w' dv ds ∧ ds.length ≤ 5 ∧ Curs g a len cap (m + 20) w' ∧ Only g w w') := by
  have hg := hc.lt
  have H := Lib.hid hc
  clear hc
  go_enter Tryd.func28, Tryd.ntmps28
  go_wp2_with fail
  refine calls_gen (fun W => Below w.heap.size w W ∧ Blk W (w.heap.size + 1) 56 [.int .i64 0, .slice none 0 0, .int .i64 0] ∧ W.cell? ⟨w.heap.size, 0, none⟩ = some (.int .i64 c.d)) ⟨by repeat (first | exact Below.refl _ _ | refine Below.setCell ?_ (by first | omega | (simp; done) | (simp; omega)) _ | refine Below.alloc ?_ (by first | omega | (simp; done) | (simp; omega)) _ | apply Below.drew), by with_reducible (repeat (first | (refine blk_new_at _ _ _ _ ?_; first | rfl | (simp; done)) | refine Blk.alloc ?_ _ | apply Blk.drew | refine Blk.setOther ?_ (by first | (simp; done) | (simp; omega)) _)), by simp [go_sem]⟩ ?_
  rintro W1 ⟨b1, k1, d1⟩
  have hlt1 := k1.lt
  refine (time_any g a len cap m W1 (by omega) (H.out.below b1)).mono ?_
  rintro e W2 ⟨t, rfl, -, hc2, ho2⟩
  have K2 := Lib.hid (show Blk W2 (w.heap.size + 1) 56 [.int .i64 0, .slice none 0 0, .int .i64 0] from (ho2.block _ hlt1 (by omega)).trans k1)
  have D2 := Lib.hid ((ho2.cell (b := w.heap.size) (o := 0) (by omega) (by omega)).trans d1)
  have C2 := Lib.hid hc2
  have O2 := Lib.hid ((Only.of_below b1).trans ho2)
  clear b1 k1 d1 hc2 ho2 H hlt1
  go_wp2_with fail
  refine (value_any g a len cap (m + 2) W2 (by omega) C2.out).mono ?_
  rintro e W3 ⟨v, rfl, -, hc3, ho3⟩
  have hk2 := K2.out.lt
  have K3 := Lib.hid (show Blk W3 (w.heap.size + 1) 56 [.int .i64 0, .slice none 0 0, .int .i64 0] from (ho3.block _ hk2 (by omega)).trans K2.out)
  have D3 := Lib.hid ((ho3.cell (b := w.heap.size) (o := 0) (by omega) (by omega)).trans D2.out)
  have C3 := Lib.hid hc3
  have O3 := Lib.hid (O2.out.trans ho3)
  clear hc3 ho3 K2 D2 C2 O2 hk2
  have hk3 := K3.out.lt
  have hg3 := C3.out.lt
  have hA4 : EvAt g a len cap (m + 3 + 0) w (W3.heap.size + 1) W3.heap.size 0 c.d (W3.alloc (.cells #[.int .i64 t, .slice none 0 0, .int .i64 v] 56)) :=
    ⟨t, v, _, [], blk_new W3 56 _, Grows.nil, by simp, K3.out.alloc _, (((Below.refl W3.heap.size W3).alloc (Nat.le_refl _) _).cell (p := ⟨w.heap.size, 0, none⟩) (by show w.heap.size < W3.heap.size; omega)).trans D3.out, C3.out.below ((Below.refl _ _).alloc (Nat.le_refl _) _), O3.out.alloc _, by simp⟩
  have HA4 := Lib.hid hA4
  have hxg : W3.heap.size ≠ g := by omega
  have hxw : w.heap.size + 1 < W3.heap.size := hk3
  clear hA4 K3 D3 C3 O3
  go_wp2_with fail
  generalize (W3.alloc (.cells #[.int .i64 t, .slice none 0 0, .int .i64 v] 56)) = W4 at *
  have hxlo : W3.heap.size < W3.heap.size + 1 := by omega
  have hglo : g < W3.heap.size + 1 := by omega
  generalize W3.heap.size + 1 = lo at *
  generalize W3.heap.size = x at *
  go_loopg [6] 4 (fun k kk wr => ∃ i : Nat, i + k = 4 ∧ kk = .int .i64 (i : Int) ∧ EvAt g a len cap (m + 3 + i) w lo x i c.d wr)
  case atStart => exact ⟨0, by omega, rfl, HA4.out⟩
  case round =>
    obtain ⟨i, hik, rfl, hA⟩ := hrel
    clear HA4
    have HA := Lib.hid hA
    have hD0 : wr.cell? ⟨w.heap.size, 0, none⟩ = some (.int .i64 c.d) := by obtain ⟨_, _, _, _, _, _, _, _, h, _⟩ := hA; exact h
    have AX : Hid (EvAt g a len cap (m + 8) w lo x 4 c.d wr) := by
      obtain ⟨t, v, dv, ds, hX, hG, hq, hK, hD, hC, hO, hl⟩ := hA
      exact ⟨t, v, dv, ds, hX, hG, by omega, hK, hD, hC.more (by omega), hO, hl⟩
    clear hA
    by_cases hd : (i : Int) < c.d
    case neg =>
      have hd' : ¬ (i : Int) < c.d := hd
      clear HA
      go_wp2_with fail
      have hC4 : Curs g a len cap (m + 8) wr := by obtain ⟨_, _, _, _, _, _, _, _, _, h, _⟩ := AX.out; exact h
      refine (once_any g a len cap (m + 8) 14 wr (by omega) hC4).mono ?_
      rintro e W4 ⟨tt, rfl, hc4, ho4⟩
      have A4 := Lib.hid (AX.out.only ho4 hc4 hg hglo hxg)
      clear hC4 hc4 ho4 AX
      go_upto_if 30 with fail
      go_cut [] (fun wx => EvAt g a len cap (m + 20) w lo x 5 c.d wx)
      case first =>
        cases tt
        · go_wp2_with fail
          go_meet
          obtain ⟨t, v, dv, ds, hX, hG, hq, hK, hD, hC, hO, hl⟩ := A4.out
          exact ⟨t, v, dv, ds, hX, hG, by omega, hK, hD, hC.more (by omega), hO, hl⟩
        · go_wp2_with fail
          have hC4 : Curs g a len cap (m + 8 + 1) W4 := by obtain ⟨_, _, _, _, _, _, _, _, _, h, _⟩ := A4.out; exact h
          refine (pick_any g a len cap (m + 8 + 1) 3 W4 (by omega) hC4).mono ?_
          rintro e W5 ⟨r, rfl, r0, r1, hc5, ho5⟩
          have A5 := Lib.hid (A4.out.only ho5 hc5 hg hglo hxg)
          have hr3 : r = 0 ∨ r = 1 ∨ r = 2 := by omega
          clear hC4 hc5 ho5 A4 r0 r1
          rcases hr3 with rfl | rfl | rfl
          · go_wp2_with fail
            have hC5 : Curs g a len cap (m + 8 + 1 + 1) W5 := by obtain ⟨_, _, _, _, _, _, _, _, _, h, _⟩ := A5.out; exact h
            refine (raw_any g a len cap (m + 8 + 1 + 1) W5 (by omega) hC5).mono ?_
            rintro e W6 ⟨z, rfl, -, hc6, ho6⟩
            have A6 := Lib.hid (A5.out.only ho6 hc6 hg hglo hxg)
            clear hC5 hc6 ho6 A5
            obtain ⟨t, v, dv, ds, hX, hG, hq, hK, hD, hC, hO, hl⟩ := A6.out
            obtain ⟨ad, cd, hdv⟩ := hG.slice
            subst hdv
            have c0 := hX.cell 0
            have c1 := hX.cell 1
            have c2 := hX.cell 2
            have xf := hX.frozen
            simp at c0 c1 c2
            have HX := Lib.hid hX
            have HG := Lib.hid hG
            have HK := Lib.hid hK
            have HD := Lib.hid hD
            have HC := Lib.hid hC
            have HO := Lib.hid hO
            have HL := Lib.hid hl
            clear hX hG hK hC hO hl
            go_wp2_with fail
            go_meet
            exact ev_store z v _ ds HX.out HG.out (by omega) HK.out HD.out (HC.out.more (by omega)) HO.out HL.out hxlo hxw hg 0 (.int .i64 z) (by simp)
          · have HT : True := trivial
            obtain ⟨t, v, dv, ds, hX, hG, hq, hK, hD, hC, hO, hl⟩ := A5.out
            obtain ⟨ad, cd, hdv⟩ := hG.slice
            subst hdv
            have c0 := hX.cell 0
            have c1 := hX.cell 1
            have c2 := hX.cell 2
            have xf := hX.frozen
            simp at c0 c1 c2
            have HX := Lib.hid hX
            have HG := Lib.hid hG
            have HK := Lib.hid hK
            have HD := Lib.hid hD
            have HC := Lib.hid hC
            have HO := Lib.hid hO
            have HL := Lib.hid hl
            clear hX hG hK hC hO hl
            go_wp2_with fail
            refine mix.wp_region_tail (fun w' => w'.cell? ⟨x, 1, none⟩ = some (.slice ad ds.length cd)) [3,4,5] [0,1,2,3,4,5,6] (by kernel_rfl) (by kernel_rfl) (fun _ _ d _ _ h => by cases d <;> exact h) c1 ?_
            simp only [List.filterMap_cons, List.filterMap_nil, List.getElem?_cons_zero, List.getElem?_cons_succ, Option.map_some]
            (repeat (apply mix.ordt_take; (· rfl); (· rfl); (· (intro w' hSw; (try dsimp only at hSw); go_simp; try with_reducible rfl)); (try simp only [Act.put, List.setIfInBounds_toArray, List.set_cons_zero, List.set_cons_succ])))
            refine mix.ordt_hard rfl (fun K hK => ?_); go_simp
            refine (raw_any g a len cap (m + 8 + 1 + 1) W5.drew (by omega) (HC.out.below (Below.refl _ _).drew)).mono ?_
            rintro e W6 ⟨z, rfl, -, hc6, ho6⟩
            have X6 := Lib.hid (show Blk W6 x 56 [.int .i64 t, .slice ad ds.length cd, .int .i64 v] from (ho6.block x HX.out.lt hxg).trans HX.out)
            have G6 := Lib.hid (HG.out.keep (w' := W6) local_int (fun b h1 h2 => ho6.block b h2 (by omega)))
            have K6 := Lib.hid (show Blk W6 (w.heap.size + 1) 56 [.int .i64 0, .slice none 0 0, .int .i64 0] from (ho6.block _ HK.out.lt (by omega)).trans HK.out)
            have D6 := Lib.hid (show W6.cell? ⟨w.heap.size, 0, none⟩ = some (.int .i64 c.d) from (ho6.cell (b := w.heap.size) (by have := HL.out; show w.heap.size < W5.heap.size; omega) (by omega)).trans HD.out)
            have C6 := Lib.hid hc6
            have O6 := Lib.hid ((HO.out.drew).trans ho6)
            have L6 := Lib.hid (Nat.le_trans HL.out ho6.size)
            have x6 := X6.out.lt
            have d1 := X6.out.cell 1
            simp at d1
            clear hc6 ho6 c0 c1 c2 xf HX HG HK HC HO HL HD
            refine hK.out _ _ (by exact d1) (fun hSw => ?_); clear hK K hSw; (try simp only [Act.put, List.setIfInBounds_toArray, List.set_cons_zero, List.set_cons_succ])
            refine mix.ordt_hard rfl (fun K hK => ?_); go_simp
            have hb7 : Below W6.heap.size W6 (W6.alloc (.cells #[.int .i64 z] 3)) := (Below.refl _ _).alloc (Nat.le_refl _) _
            have d2 : (W6.alloc (.cells #[.int .i64 z] 3)).cell? ⟨x, 1, none⟩ = some (.slice ad ds.length cd) := (hb7.cell (p := ⟨x, 1, none⟩) x6).trans d1
            refine hK.out _ _ (by exact d2) (fun hSw => ?_); clear hK K hSw; (try simp only [Act.put, List.setIfInBounds_toArray, List.set_cons_zero, List.set_cons_succ])
            obtain ⟨i0, hi, hi2⟩ := Option.map_eq_some_iff.1 win.info_int
            simp only [Prod.mk.injEq] at hi2
            obtain ⟨hz0, hz1, hz2⟩ := hi2
            refine mix.ordt_hardb rfl rfl (fun K hK => ?_)
            refine push_wp (v := .slice ad ds.length cd) local_int _ _ 30 rfl i0 (.int .i64 0) 8 Tryd.underlying30 hi hz0 hz1 hz2 rfl (by decide) rfl G6.out hb7 W6.heap.size 1 rfl [.int .i64 z] rfl (fun u hu => by simp at hu; subst hu; rfl) (fun j u hj => ?_) z [] ⟨rfl, rfl⟩ Own.nil (by omega) (by unfold maxLen; omega) L6.out ?_
            · exact ((blk_new W6 3 [.int .i64 z]).cell j).trans hj
            intro v8 W8 hG8 hb8 hk8 hw8
            obtain ⟨a8, cap8, hv8⟩ := hG8.slice
            subst hv8
            generalize hn8 : (ds ++ [z]).length = n8 at *
            have hBl : Below lo W6 W8 := ((Below.refl _ _).alloc L6.out _).trans hb8
            have X8 := Lib.hid (X6.out.belowB hBl hxlo)
            have hfin := ev_store (g := g) (a := a) (len := len) (cap := cap) (m := m + 20) (w := w) (lo := lo) (d := c.d) (q := 5) t v _ (ds ++ [z]) X8.out hG8 (by simp; omega) (K6.out.belowB hBl (by omega)) ((hBl.cell (p := ⟨w.heap.size, 0, none⟩) (by show w.heap.size < lo; omega)).trans D6.out) ((C6.out.belowB hBl hglo).more (by omega)) (O6.out.then_below hBl (by omega)) (Nat.le_trans L6.out (by have := hb8.size; simp at this; omega)) hxlo hxw hg 1 (.slice a8 n8 cap8) (by simp)
            have HF := Lib.hid hfin
            have d8 := X8.out.cell 1
            have f8 := X8.out.frozen
            simp at d8
            clear hfin hk8 hw8 hb8 hG8 hBl d1 d2 hb7 hi hz0 hz1 hz2
            refine hK.out _ _ (by exact d8) (fun hSw => ?_); clear hK K hSw; (try simp only [Act.put, List.setIfInBounds_toArray, List.set_cons_zero, List.set_cons_succ])
            (repeat (apply mix.ordt_take; (· rfl); (· rfl); (· (intro w' hSw; (try dsimp only at hSw); go_simp; try with_reducible rfl)); (try simp only [Act.put, List.setIfInBounds_toArray, List.set_cons_zero, List.set_cons_succ])))
            refine mix.ordt_end ?_; refine mix.last_step (fun K hK => ?_); go_simp
            refine hK _ _ ?_
            clear hK K
            go_wp2_with fail
            go_meet
            exact HF.out
          · go_wp2_with fail
            have hC5 : Curs g a len cap (m + 8 + 1 + 1) W5 := by obtain ⟨_, _, _, _, _, _, _, _, _, h, _⟩ := A5.out; exact h
            refine (raw_any g a len cap (m + 8 + 1 + 1) W5 (by omega) hC5).mono ?_
            rintro e W6 ⟨z, rfl, -, hc6, ho6⟩
            have A6 := Lib.hid (A5.out.only ho6 hc6 hg hglo hxg)
            clear hC5 hc6 ho6 A5
            obtain ⟨t, v, dv, ds, hX, hG, hq, hK, hD, hC, hO, hl⟩ := A6.out
            obtain ⟨ad, cd, hdv⟩ := hG.slice
            subst hdv
            have c0 := hX.cell 0
            have c1 := hX.cell 1
            have c2 := hX.cell 2
            have xf := hX.frozen
            simp at c0 c1 c2
            have HX := Lib.hid hX
            have HG := Lib.hid hG
            have HK := Lib.hid hK
            have HD := Lib.hid hD
            have HC := Lib.hid hC
            have HO := Lib.hid hO
            have HL := Lib.hid hl
            clear hX hG hK hC hO hl
            go_wp2_with fail
            go_meet
            exact ev_store t z _ ds HX.out HG.out (by omega) HK.out HD.out (HC.out.more (by omega)) HO.out HL.out hxlo hxw hg 2 (.int .i64 z) (by simp)
      case rest =>
        generalize wc = W7 at *
        clear wc
        obtain ⟨t, v, dv, ds, hX, hG, hq, hK, hD, hC, hO, hl⟩ := hcut
        obtain ⟨ad, cd, hdv⟩ := hG.slice
        subst hdv
        have c0 := hX.cell 0
        have c1 := hX.cell 1
        have c2 := hX.cell 2
        have k0 := hK.cell 0
        have k1 := hK.cell 1
        have k2 := hK.cell 2
        have kf := hK.frozen
        simp at c0 c1 c2 k0 k1 k2
        have HALL := Lib.hid (show Blk (three (w.heap.size + 1) (.int .i64 t) (.slice ad ds.length cd) (.int .i64 v) W7) (w.heap.size + 1) 56 [.int .i64 t, .slice ad ds.length cd, .int .i64 v] ∧ Grows 1 RInt 3 lo (three (w.heap.size + 1) (.int .i64 t) (.slice ad ds.length cd) (.int .i64 v) W7) (.slice ad ds.length cd) ds ∧ Curs g a len cap (m + 20) (three (w.heap.size + 1) (.int .i64 t) (.slice ad ds.length cd) (.int .i64 v) W7) ∧ Only g w (three (w.heap.size + 1) (.int .i64 t) (.slice ad ds.length cd) (.int .i64 v) W7) from ⟨three_blk hK, hG.keep local_int (fun b h1 _ => three_other b (by omega)), hC.belowB three_below (by omega), hO.then_below three_below (by omega)⟩)
        unfold three at HALL
        clear hX hG hK hD hC hO hl A4
        go_wp2_with fail
        refine body_gen (fun W9 => Blk W9 (w.heap.size + 1) 56 [.int .i64 t, .slice ad ds.length cd, .int .i64 v] ∧ Grows 1 RInt 3 lo W9 (.slice ad ds.length cd) ds ∧ Curs g a len cap (m + 20) W9 ∧ Only g w W9) HALL.out ?_
        rintro W9 ⟨q9, a9, c9, o9⟩
        have z0 := q9.cell 0
        have z1 := q9.cell 1
        have z2 := q9.cell 2
        simp at z0 z1 z2
        exact bodyPost_ret (v := .agg #[.int .i64 t, .slice ad ds.length cd, .int .i64 v]) (by simp [results, Tryd.results28, go_sem, z0, z1, z2]) rfl ⟨t, v, _, ds, rfl, a9.lower (by omega), hq, c9, o9⟩
    by_cases h4 : i < 4
    case neg =>
      obtain rfl : i = 4 := by omega
      clear HA
      go_wp2_with fail
      have hC4 : Curs g a len cap (m + 8) wr := by obtain ⟨_, _, _, _, _, _, _, _, _, h, _⟩ := AX.out; exact h
      refine (once_any g a len cap (m + 8) 14 wr (by omega) hC4).mono ?_
      rintro e W4 ⟨tt, rfl, hc4, ho4⟩
      have A4 := Lib.hid (AX.out.only ho4 hc4 hg hglo hxg)
      clear hC4 hc4 ho4 AX
      go_upto_if 30 with fail
      go_cut [] (fun wx => EvAt g a len cap (m + 20) w lo x 5 c.d wx)
      case first =>
        cases tt
        · go_wp2_with fail
          go_meet
          obtain ⟨t, v, dv, ds, hX, hG, hq, hK, hD, hC, hO, hl⟩ := A4.out
          exact ⟨t, v, dv, ds, hX, hG, by omega, hK, hD, hC.more (by omega), hO, hl⟩
        · go_wp2_with fail
          have hC4 : Curs g a len cap (m + 8 + 1) W4 := by obtain ⟨_, _, _, _, _, _, _, _, _, h, _⟩ := A4.out; exact h
          refine (pick_any g a len cap (m + 8 + 1) 3 W4 (by omega) hC4).mono ?_
          rintro e W5 ⟨r, rfl, r0, r1, hc5, ho5⟩
          have A5 := Lib.hid (A4.out.only ho5 hc5 hg hglo hxg)
          have hr3 : r = 0 ∨ r = 1 ∨ r = 2 := by omega
          clear hC4 hc5 ho5 A4 r0 r1
          rcases hr3 with rfl | rfl | rfl
          · go_wp2_with fail
            have hC5 : Curs g a len cap (m + 8 + 1 + 1) W5 := by obtain ⟨_, _, _, _, _, _, _, _, _, h, _⟩ := A5.out; exact h
            refine (raw_any g a len cap (m + 8 + 1 + 1) W5 (by omega) hC5).mono ?_
            rintro e W6 ⟨z, rfl, -, hc6, ho6⟩
            have A6 := Lib.hid (A5.out.only ho6 hc6 hg hglo hxg)
            clear hC5 hc6 ho6 A5
            obtain ⟨t, v, dv, ds, hX, hG, hq, hK, hD, hC, hO, hl⟩ := A6.out
            obtain ⟨ad, cd, hdv⟩ := hG.slice
            subst hdv
            have c0 := hX.cell 0
            have c1 := hX.cell 1
            have c2 := hX.cell 2
            have xf := hX.frozen
            simp at c0 c1 c2
            have HX := Lib.hid hX
            have HG := Lib.hid hG
            have HK := Lib.hid hK
            have HD := Lib.hid hD
            have HC := Lib.hid hC
            have HO := Lib.hid hO
            have HL := Lib.hid hl
            clear hX hG hK hC hO hl
            go_wp2_with fail
            go_meet
            exact ev_store z v _ ds HX.out HG.out (by omega) HK.out HD.out (HC.out.more (by omega)) HO.out HL.out hxlo hxw hg 0 (.int .i64 z) (by simp)
          · have HT : True := trivial
            obtain ⟨t, v, dv, ds, hX, hG, hq, hK, hD, hC, hO, hl⟩ := A5.out
            obtain ⟨ad, cd, hdv⟩ := hG.slice
            subst hdv
            have c0 := hX.cell 0
            have c1 := hX.cell 1
            have c2 := hX.cell 2
            have xf := hX.frozen
            simp at c0 c1 c2
            have HX := Lib.hid hX
            have HG := Lib.hid hG
            have HK := Lib.hid hK
            have HD := Lib.hid hD
            have HC := Lib.hid hC
            have HO := Lib.hid hO
            have HL := Lib.hid hl
            clear hX hG hK hC hO hl
            go_wp2_with fail
            refine mix.wp_region_tail (fun w' => w'.cell? ⟨x, 1, none⟩ = some (.slice ad ds.length cd)) [3,4,5] [0,1,2,3,4,5,6] (by kernel_rfl) (by kernel_rfl) (fun _ _ d _ _ h => by cases d <;> exact h) c1 ?_
            simp only [List.filterMap_cons, List.filterMap_nil, List.getElem?_cons_zero, List.getElem?_cons_succ, Option.map_some]
            (repeat (apply mix.ordt_take; (· rfl); (· rfl); (· (intro w' hSw; (try dsimp only at hSw); go_simp; try with_reducible rfl)); (try simp only [Act.put, List.setIfInBounds_toArray, List.set_cons_zero, List.set_cons_succ])))
            refine mix.ordt_hard rfl (fun K hK => ?_); go_simp
            refine (raw_any g a len cap (m + 8 + 1 + 1) W5.drew (by omega) (HC.out.below (Below.refl _ _).drew)).mono ?_
            rintro e W6 ⟨z, rfl, -, hc6, ho6⟩
            have X6 := Lib.hid (show Blk W6 x 56 [.int .i64 t, .slice ad ds.length cd, .int .i64 v] from (ho6.block x HX.out.lt hxg).trans HX.out)
            have G6 := Lib.hid (HG.out.keep (w' := W6) local_int (fun b h1 h2 => ho6.block b h2 (by omega)))
            have K6 := Lib.hid (show Blk W6 (w.heap.size + 1) 56 [.int .i64 0, .slice none 0 0, .int .i64 0] from (ho6.block _ HK.out.lt (by omega)).trans HK.out)
            have D6 := Lib.hid (show W6.cell? ⟨w.heap.size, 0, none⟩ = some (.int .i64 c.d) from (ho6.cell (b := w.heap.size) (by have := HL.out; show w.heap.size < W5.heap.size; omega) (by omega)).trans HD.out)
            have C6 := Lib.hid hc6
            have O6 := Lib.hid ((HO.out.drew).trans ho6)
            have L6 := Lib.hid (Nat.le_trans HL.out ho6.size)
            have x6 := X6.out.lt
            have d1 := X6.out.cell 1
            simp at d1
            clear hc6 ho6 c0 c1 c2 xf HX HG HK HC HO HL HD
            refine hK.out _ _ (by exact d1) (fun hSw => ?_); clear hK K hSw; (try simp only [Act.put, List.setIfInBounds_toArray, List.set_cons_zero, List.set_cons_succ])
            refine mix.ordt_hard rfl (fun K hK => ?_); go_simp
            have hb7 : Below W6.heap.size W6 (W6.alloc (.cells #[.int .i64 z] 3)) := (Below.refl _ _).alloc (Nat.le_refl _) _
            have d2 : (W6.alloc (.cells #[.int .i64 z] 3)).cell? ⟨x, 1, none⟩ = some (.slice ad ds.length cd) := (hb7.cell (p := ⟨x, 1, none⟩) x6).trans d1
            refine hK.out _ _ (by exact d2) (fun hSw => ?_); clear hK K hSw; (try simp only [Act.put, List.setIfInBounds_toArray, List.set_cons_zero, List.set_cons_succ])
            obtain ⟨i0, hi, hi2⟩ := Option.map_eq_some_iff.1 win.info_int
            simp only [Prod.mk.injEq] at hi2
            obtain ⟨hz0, hz1, hz2⟩ := hi2
            refine mix.ordt_hardb rfl rfl (fun K hK => ?_)
            refine push_wp (v := .slice ad ds.length cd) local_int _ _ 30 rfl i0 (.int .i64 0) 8 Tryd.underlying30 hi hz0 hz1 hz2 rfl (by decide) rfl G6.out hb7 W6.heap.size 1 rfl [.int .i64 z] rfl (fun u hu => by simp at hu; subst hu; rfl) (fun j u hj => ?_) z [] ⟨rfl, rfl⟩ Own.nil (by omega) (by unfold maxLen; omega) L6.out ?_
            · exact ((blk_new W6 3 [.int .i64 z]).cell j).trans hj
            intro v8 W8 hG8 hb8 hk8 hw8
            obtain ⟨a8, cap8, hv8⟩ := hG8.slice
            subst hv8
            generalize hn8 : (ds ++ [z]).length = n8 at *
            have hBl : Below lo W6 W8 := ((Below.refl _ _).alloc L6.out _).trans hb8
            have X8 := Lib.hid (X6.out.belowB hBl hxlo)
            have hfin := ev_store (g := g) (a := a) (len := len) (cap := cap) (m := m + 20) (w := w) (lo := lo) (d := c.d) (q := 5) t v _ (ds ++ [z]) X8.out hG8 (by simp; omega) (K6.out.belowB hBl (by omega)) ((hBl.cell (p := ⟨w.heap.size, 0, none⟩) (by show w.heap.size < lo; omega)).trans D6.out) ((C6.out.belowB hBl hglo).more (by omega)) (O6.out.then_below hBl (by omega)) (Nat.le_trans L6.out (by have := hb8.size; simp at this; omega)) hxlo hxw hg 1 (.slice a8 n8 cap8) (by simp)
            have HF := Lib.hid hfin
            have d8 := X8.out.cell 1
            have f8 := X8.out.frozen
            simp at d8
            clear hfin hk8 hw8 hb8 hG8 hBl d1 d2 hb7 hi hz0 hz1 hz2
            refine hK.out _ _ (by exact d8) (fun hSw => ?_); clear hK K hSw; (try simp only [Act.put, List.setIfInBounds_toArray, List.set_cons_zero, List.set_cons_succ])
            (repeat (apply mix.ordt_take; (· rfl); (· rfl); (· (intro w' hSw; (try dsimp only at hSw); go_simp; try with_reducible rfl)); (try simp only [Act.put, List.setIfInBounds_toArray, List.set_cons_zero, List.set_cons_succ])))
            refine mix.ordt_end ?_; refine mix.last_step (fun K hK => ?_); go_simp
            refine hK _ _ ?_
            clear hK K
            go_wp2_with fail
            go_meet
            exact HF.out
          · go_wp2_with fail
            have hC5 : Curs g a len cap (m + 8 + 1 + 1) W5 := by obtain ⟨_, _, _, _, _, _, _, _, _, h, _⟩ := A5.out; exact h
            refine (raw_any g a len cap (m + 8 + 1 + 1) W5 (by omega) hC5).mono ?_
            rintro e W6 ⟨z, rfl, -, hc6, ho6⟩
            have A6 := Lib.hid (A5.out.only ho6 hc6 hg hglo hxg)
            clear hC5 hc6 ho6 A5
            obtain ⟨t, v, dv, ds, hX, hG, hq, hK, hD, hC, hO, hl⟩ := A6.out
            obtain ⟨ad, cd, hdv⟩ := hG.slice
            subst hdv
            have c0 := hX.cell 0
            have c1 := hX.cell 1
            have c2 := hX.cell 2
            have xf := hX.frozen
            simp at c0 c1 c2
            have HX := Lib.hid hX
            have HG := Lib.hid hG
            have HK := Lib.hid hK
            have HD := Lib.hid hD
            have HC := Lib.hid hC
            have HO := Lib.hid hO
            have HL := Lib.hid hl
            clear hX hG hK hC hO hl
            go_wp2_with fail
            go_meet
            exact ev_store t z _ ds HX.out HG.out (by omega) HK.out HD.out (HC.out.more (by omega)) HO.out HL.out hxlo hxw hg 2 (.int .i64 z) (by simp)
      case rest =>
        generalize wc = W7 at *
        clear wc
        obtain ⟨t, v, dv, ds, hX, hG, hq, hK, hD, hC, hO, hl⟩ := hcut
        obtain ⟨ad, cd, hdv⟩ := hG.slice
        subst hdv
        have c0 := hX.cell 0
        have c1 := hX.cell 1
        have c2 := hX.cell 2
        have k0 := hK.cell 0
        have k1 := hK.cell 1
        have k2 := hK.cell 2
        have kf := hK.frozen
        simp at c0 c1 c2 k0 k1 k2
        have HALL := Lib.hid (show Blk (three (w.heap.size + 1) (.int .i64 t) (.slice ad ds.length cd) (.int .i64 v) W7) (w.heap.size + 1) 56 [.int .i64 t, .slice ad ds.length cd, .int .i64 v] ∧ Grows 1 RInt 3 lo (three (w.heap.size + 1) (.int .i64 t) (.slice ad ds.length cd) (.int .i64 v) W7) (.slice ad ds.length cd) ds ∧ Curs g a len cap (m + 20) (three (w.heap.size + 1) (.int .i64 t) (.slice ad ds.length cd) (.int .i64 v) W7) ∧ Only g w (three (w.heap.size + 1) (.int .i64 t) (.slice ad ds.length cd) (.int .i64 v) W7) from ⟨three_blk hK, hG.keep local_int (fun b h1 _ => three_other b (by omega)), hC.belowB three_below (by omega), hO.then_below three_below (by omega)⟩)
        unfold three at HALL
        clear hX hG hK hD hC hO hl A4
        go_wp2_with fail
        refine body_gen (fun W9 => Blk W9 (w.heap.size + 1) 56 [.int .i64 t, .slice ad ds.length cd, .int .i64 v] ∧ Grows 1 RInt 3 lo W9 (.slice ad ds.length cd) ds ∧ Curs g a len cap (m + 20) W9 ∧ Only g w W9) HALL.out ?_
        rintro W9 ⟨q9, a9, c9, o9⟩
        have z0 := q9.cell 0
        have z1 := q9.cell 1
        have z2 := q9.cell 2
        simp at z0 z1 z2
        exact bodyPost_ret (v := .agg #[.int .i64 t, .slice ad ds.length cd, .int .i64 v]) (by simp [results, Tryd.results28, go_sem, z0, z1, z2]) rfl ⟨t, v, _, ds, rfl, a9.lower (by omega), hq, c9, o9⟩
    have h4' : (i : Int) < 4 := by omega
    clear AX
    obtain ⟨t, v, dv, ds, hX, hG, hq0, hK, hD, hC, hO, hl⟩ := HA.out
    obtain ⟨ad, cd, hdv⟩ := hG.slice
    subst hdv
    have c0 := hX.cell 0
    have c1 := hX.cell 1
    have c2 := hX.cell 2
    have xf := hX.frozen
    simp at c0 c1 c2
    have HX := Lib.hid hX
    have HG := Lib.hid hG
    have HK := Lib.hid hK
    have HD := Lib.hid hD
    have HC := Lib.hid hC
    have HO := Lib.hid hO
    have HL := Lib.hid hl
    clear hX hG hK hC hO hl
    have hq : ds.length ≤ i := hq0
    have HQ := Lib.hid hq0
    clear hq0
    go_wp2_with fail
    refine mix.wp_region_tail (fun w' => w'.cell? ⟨x, 1, none⟩ = some (.slice ad ds.length cd)) [3,4,5] [0,1,2,3,4,5,6] (by kernel_rfl) (by kernel_rfl) (fun _ _ d _ _ h => by cases d <;> exact h) c1 ?_
    simp only [List.filterMap_cons, List.filterMap_nil, List.getElem?_cons_zero, List.getElem?_cons_succ, Option.map_some]
    (repeat (apply mix.ordt_take; (· rfl); (· rfl); (· (intro w' hSw; (try dsimp only at hSw); go_simp; try with_reducible rfl)); (try simp only [Act.put, List.setIfInBounds_toArray, List.set_cons_zero, List.set_cons_succ])))
    refine mix.ordt_hard rfl (fun K hK => ?_); go_simp
    refine (pick_any g a len cap (m + 3 + i) 3 wr.drew (by omega) (HC.out.below (Below.refl _ _).drew)).mono ?_
    rintro e W6 ⟨z, rfl, r0, r1, hc6, ho6⟩
    have X6 := Lib.hid (show Blk W6 x 56 [.int .i64 t, .slice ad ds.length cd, .int .i64 v] from (ho6.block x HX.out.lt hxg).trans HX.out)
    have G6 := Lib.hid (HG.out.keep (w' := W6) local_int (fun b h1 h2 => ho6.block b h2 (by omega)))
    have K6 := Lib.hid (show Blk W6 (w.heap.size + 1) 56 [.int .i64 0, .slice none 0 0, .int .i64 0] from (ho6.block _ HK.out.lt (by omega)).trans HK.out)
    have D6 := Lib.hid (show W6.cell? ⟨w.heap.size, 0, none⟩ = some (.int .i64 c.d) from (ho6.cell (b := w.heap.size) (by have := HL.out; show w.heap.size < wr.heap.size; omega) (by omega)).trans HD.out)
    have C6 := Lib.hid hc6
    have O6 := Lib.hid ((HO.out.drew).trans ho6)
    have L6 := Lib.hid (Nat.le_trans HL.out ho6.size)
    have x6 := X6.out.lt
    have d1 := X6.out.cell 1
    simp at d1
    clear hc6 ho6 c0 c1 c2 xf HX HG HK HC HO HL HD
    refine hK.out _ _ (by exact d1) (fun hSw => ?_); clear hK K hSw; (try simp only [Act.put, List.setIfInBounds_toArray, List.set_cons_zero, List.set_cons_succ])
    refine mix.ordt_hard rfl (fun K hK => ?_); go_simp
    have hb7 : Below W6.heap.size W6 (W6.alloc (.cells #[.int .i64 z] 3)) := (Below.refl _ _).alloc (Nat.le_refl _) _
    have d2 : (W6.alloc (.cells #[.int .i64 z] 3)).cell? ⟨x, 1, none⟩ = some (.slice ad ds.length cd) := (hb7.cell (p := ⟨x, 1, none⟩) x6).trans d1
    refine hK.out _ _ (by exact d2) (fun hSw => ?_); clear hK K hSw; (try simp only [Act.put, List.setIfInBounds_toArray, List.set_cons_zero, List.set_cons_succ])
    obtain ⟨i0, hi, hi2⟩ := Option.map_eq_some_iff.1 win.info_int
    simp only [Prod.mk.injEq] at hi2
    obtain ⟨hz0, hz1, hz2⟩ := hi2
    refine mix.ordt_hardb rfl rfl (fun K hK => ?_)
    refine push_wp (v := .slice ad ds.length cd) local_int _ _ 30 rfl i0 (.int .i64 0) 8 Tryd.underlying30 hi hz0 hz1 hz2 rfl (by decide) rfl G6.out hb7 W6.heap.size 1 rfl [.int .i64 z] rfl (fun u hu => by simp at hu; subst hu; rfl) (fun j u hj => ?_) z [] ⟨rfl, rfl⟩ Own.nil (by omega) (by unfold maxLen; omega) L6.out ?_
    · exact ((blk_new W6 3 [.int .i64 z]).cell j).trans hj
    intro v8 W8 hG8 hb8 hk8 hw8
    obtain ⟨a8, cap8, hv8⟩ := hG8.slice
    subst hv8
    generalize hn8 : (ds ++ [z]).length = n8 at *
    have hBl : Below lo W6 W8 := ((Below.refl _ _).alloc L6.out _).trans hb8
    have X8 := Lib.hid (X6.out.belowB hBl hxlo)
    have hfin := ev_store (g := g) (a := a) (len := len) (cap := cap) (m := m + 3 + (i + 1)) (w := w) (lo := lo) (d := c.d) (q := i + 1) t v _ (ds ++ [z]) X8.out hG8 (by simp; omega) (K6.out.belowB hBl (by omega)) ((hBl.cell (p := ⟨w.heap.size, 0, none⟩) (by show w.heap.size < lo; omega)).trans D6.out) ((C6.out.belowB hBl hglo).more (by omega)) (O6.out.then_below hBl (by omega)) (Nat.le_trans L6.out (by have := hb8.size; simp at this; omega)) hxlo hxw hg 1 (.slice a8 n8 cap8) (by simp)
    have HF := Lib.hid hfin
    have d8 := X8.out.cell 1
    have f8 := X8.out.frozen
    simp at d8
    clear hfin hk8 hw8 hb8 hG8 hBl d1 d2 hb7 hi hz0 hz1 hz2
    refine hK.out _ _ (by exact d8) (fun hSw => ?_); clear hK K hSw; (try simp only [Act.put, List.setIfInBounds_toArray, List.set_cons_zero, List.set_cons_succ])
    (repeat (apply mix.ordt_take; (· rfl); (· rfl); (· (intro w' hSw; (try dsimp only at hSw); go_simp; try with_reducible rfl)); (try simp only [Act.put, List.setIfInBounds_toArray, List.set_cons_zero, List.set_cons_succ])))
    refine mix.ordt_end ?_; refine mix.last_step (fun K hK => ?_); go_simp
    refine hK _ _ ?_
    clear hK K
    go_wp2_with fail
    go_roundg (4 - (i + 1))
    case measure => omega
    case rel => exact ⟨i + 1, by omega, by go_num, HF.out⟩
end Go.Proofs.YtpcekmllmnfmmaaDoor.cur
