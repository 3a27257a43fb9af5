/-
  THE DRAWS: the contract of DrawEventText: some Config and some event, in memory of their own; nothing that was there is written.
  Condition: the code is a slice of bytes, at most 2,000,000 of them.
-/
import Derived.Test.YtpoojmodebgioaaDoorCurEvent
import Derived.Test.YtpoojmodebgioaaDoorFreeTail
import Derived.Test.YtpoojmodebgioaaDoorMixOrd
namespace Go.Proofs.YtpoojmodebgioaaDoor.cur
open Go.RowKit Go.Proofs.YtpoojmodebgioaaDoor.win Go.Proofs.YtpoojmodebgioaaDoor.dat

theorem conf_is {lo : Nat} {c : ConfD} {wv mv : Value} {W : World} (h : ConfAt lo c wv mv W) : ∃ (hh : ConfigH) (fp : List Nat), wv = .slice hh.wsa hh.wsl hh.wsc ∧ mv = .slice hh.msa hh.msl hh.msc ∧ Config.Is W c hh fp := by
  obtain ⟨a, cap, f0, e0, g0, u0, v0, _, _⟩ := h.1.plain plain_win
  obtain ⟨b, cap', f1, e1, g1, u1, v1, _, _⟩ := h.2.1.plain plain_int
  exact ⟨⟨a, _, cap, b, _, cap'⟩, f0 ++ f1, e0, e1, f0, f1, rfl, g0, u0, v0, g1, u1, v1⟩

set_option maxRecDepth 100000 in
set_option maxHeartbeats 4000000 in
theorem DrawEventText_any (a : Option Addr) (len cap : Nat) (w : World) (hle : len ≤ 2000000) (hcode : Code w a len) :
    Calls Tryd.prog 6 #[.slice a len cap] w (fun e w' => ∃ (c : ConfD) (h : ConfigH) (fp : List Nat) (ev : EventD) (eh : EventH) (ef : List Nat), e = .returned (.tuple #[.agg (Config.list c h).toArray, .agg (Event.list ev eh).toArray]) ∧ Config.Is w' c h fp ∧ c.ws.length ≤ 4 ∧ c.ms.length ≤ 5 ∧ Event.Is w' ev eh ef ∧ ev.ds.length ≤ 5 ∧ Below w.heap.size w w') := by
  have HK := Lib.hid hcode
  clear hcode
  go_enter Tryd.func6, Tryd.ntmps6
  go_wp2_with fail
  refine calls_gen (fun W => Below w.heap.size w W ∧ Blk W w.heap.size 27 [.int .i64 0, .slice none 0 0, .slice none 0 0, .int .i64 0, .int .i64 0] ∧ Blk W (w.heap.size + 1) 29 [.int .i64 0, .slice none 0 0, .int .i64 0]) ⟨by repeat (first | exact Below.refl _ _ | refine Below.setCell ?_ (by first | omega | (simp; done) | (simp; omega)) _ | refine Below.alloc ?_ (by first | omega | (simp; done) | (simp; omega)) _ | apply Below.drew), by with_reducible (repeat (first | (refine blk_new_at _ _ _ _ ?_; first | rfl | (simp; done)) | refine Blk.alloc ?_ _ | apply Blk.drew | refine Blk.setOther ?_ (by first | (simp; done) | (simp; omega)) _)), by with_reducible (repeat (first | (refine blk_new_at _ _ _ _ ?_; first | rfl | (simp; done)) | refine Blk.alloc ?_ _ | apply Blk.drew | refine Blk.setOther ?_ (by first | (simp; done) | (simp; omega)) _))⟩ ?_
  rintro W0 ⟨b0, k0, y0⟩
  refine (l01Open_cur _ _ _ _ hle (HK.out.below b0)).mono ?_
  rintro e W1 ⟨rfl, hc1, hb1⟩
  have K1 := Lib.hid (k0.below hb1 k0.lt)
  have Y1 := Lib.hid (y0.below hb1 y0.lt)
  have C1 := Lib.hid hc1
  have B1 := Lib.hid (b0.trans (hb1.mono b0.size))
  have hgw : w.heap.size + 1 < W0.heap.size := y0.lt
  clear hc1 hb1 k0 y0 b0 HK
  generalize W0.heap.size = g at *
  go_wp2_with fail
  refine (anyConfig_any g a len cap 0 W1 (by omega) C1.out).mono ?_
  rintro e W2 ⟨c, wv, mv, rfl, hA, hws, hms, hc2, ho2⟩
  obtain ⟨aw, cw, hwv⟩ := hA.1.slice
  obtain ⟨am, cm, hmv⟩ := hA.2.1.slice
  subst hwv hmv
  have hg1 := C1.out.lt
  have hk1 := K1.out.lt
  have hy1 := Y1.out.lt
  have K2 := Lib.hid (show Blk W2 w.heap.size 27 [.int .i64 0, .slice none 0 0, .slice none 0 0, .int .i64 0, .int .i64 0] from (ho2.block _ hk1 (by omega)).trans K1.out)
  have Y2 := Lib.hid (show Blk W2 (w.heap.size + 1) 29 [.int .i64 0, .slice none 0 0, .int .i64 0] from (ho2.block _ hy1 (by omega)).trans Y1.out)
  have A2 := Lib.hid hA
  have C2 := Lib.hid hc2
  have B2 := Lib.hid (B1.out.trans (ho2.below (B := w.heap.size) (by omega) (by omega)))
  have Z2 := Lib.hid (show W1.heap.size ≤ W2.heap.size from ho2.size)
  clear hA hc2 ho2 K1 C1 B1 Y1
  go_wp2_with fail
  refine wp_gen (fun W => Below W2.heap.size W2 W ∧ Blk W W2.heap.size 27 [.int .i64 c.d, .slice aw c.ws.length cw, .slice am c.ms.length cm, .int .i64 c.dl, .int .i64 c.lt]) ⟨by repeat (first | exact Below.refl _ _ | refine Below.setCell ?_ (by first | omega | (simp; done) | (simp; omega)) _ | refine Below.alloc ?_ (by first | omega | (simp; done) | (simp; omega)) _ | apply Below.drew), by with_reducible (repeat (first | (refine blk_new_at _ _ _ _ ?_; first | rfl | (simp; done)) | refine Blk.alloc ?_ _ | apply Blk.drew | refine Blk.setOther ?_ (by first | (simp; done) | (simp; omega)) _))⟩ ?_
  rintro W3 ⟨b3, x3⟩
  have X3 := Lib.hid x3
  have A3 := Lib.hid (show ConfAt W1.heap.size c (.slice aw c.ws.length cw) (.slice am c.ms.length cm) W3 from A2.out.stay (fun b _ h2 => b3.block b h2))
  have K3 := Lib.hid (K2.out.below b3 K2.out.lt)
  have Y3 := Lib.hid (Y2.out.below b3 Y2.out.lt)
  have hg2 := C2.out.lt
  have C3 := Lib.hid (C2.out.below b3)
  have B3 := Lib.hid (B2.out.trans (b3.mono B2.out.size))
  have hx3 := x3.lt
  have hy2 := Y2.out.lt
  have hxg : W2.heap.size ≠ g := by omega
  clear b3 x3 A2 K2 C2 B2 Y2
  generalize W2.heap.size = x at *
  have hg3 : g < W3.heap.size := by omega
  have x0 := X3.out.cell 0
  have x1 := X3.out.cell 1
  have x2 := X3.out.cell 2
  have x3 := X3.out.cell 3
  have x4 := X3.out.cell 4
  simp at x0 x1 x2 x3 x4
  refine mix.wp_region_tail (fun w' => w'.cell? ⟨x, 0, none⟩ = some (.int .i64 c.d) ∧ w'.cell? ⟨x, 1, none⟩ = some (.slice aw c.ws.length cw) ∧ w'.cell? ⟨x, 2, none⟩ = some (.slice am c.ms.length cm) ∧ w'.cell? ⟨x, 3, none⟩ = some (.int .i64 c.dl) ∧ w'.cell? ⟨x, 4, none⟩ = some (.int .i64 c.lt)) [3,4] [0,1,2,3,4] (by kernel_rfl) (by kernel_rfl) (fun _ _ d _ _ h => by cases d <;> exact h) ⟨x0, x1, x2, x3, x4⟩ ?_
  simp only [List.filterMap_cons, List.filterMap_nil, List.getElem?_cons_zero, List.getElem?_cons_succ, Option.map_some]
  (repeat (apply mix.ordt_take; (· rfl); (· rfl); (· (intro w' hSw; (try dsimp only at hSw); go_simp; try with_reducible rfl)); (try simp only [Act.put, List.setIfInBounds_toArray, List.set_cons_zero, List.set_cons_succ])))
  refine mix.ordt_hard rfl (fun K hK => ?_); go_simp
  refine (event_any g a len cap (0 + 60) c aw am c.ws.length cw c.ms.length cm W3.drew (by omega) (C3.out.below (Below.refl _ _).drew)).mono ?_
  rintro e W4 ⟨t, v, dv, ds, rfl, hG, hds, hc4, ho4⟩
  obtain ⟨ad, cd, hdv⟩ := hG.slice
  subst hdv
  have hsz4 := ho4.size
  have X4 := Lib.hid (show Blk W4 x 27 [.int .i64 c.d, .slice aw c.ws.length cw, .slice am c.ms.length cm, .int .i64 c.dl, .int .i64 c.lt] from (ho4.block x X3.out.lt hxg).trans X3.out)
  have K4 := Lib.hid (show Blk W4 w.heap.size 27 [.int .i64 0, .slice none 0 0, .slice none 0 0, .int .i64 0, .int .i64 0] from (ho4.block _ K3.out.lt (by omega)).trans K3.out)
  have Y4 := Lib.hid (show Blk W4 (w.heap.size + 1) 29 [.int .i64 0, .slice none 0 0, .int .i64 0] from (ho4.block _ Y3.out.lt (by omega)).trans Y3.out)
  have A4 := Lib.hid (show ConfAt W1.heap.size c (.slice aw c.ws.length cw) (.slice am c.ms.length cm) W4 from A3.out.stay (fun b h1 h2 => ho4.block b h2 (by omega)))
  have G4 := Lib.hid hG
  have B4 := Lib.hid (B3.out.trans ((Below.refl _ _).drew.trans (ho4.below (B := w.heap.size) (by omega) (by show w.heap.size ≤ W3.heap.size; omega))))
  have hkk := K4.out.lt
  have hyy := Y4.out.lt
  have p0 := X4.out.cell 0
  have p1 := X4.out.cell 1
  have p2 := X4.out.cell 2
  have p3 := X4.out.cell 3
  have p4 := X4.out.cell 4
  have k0 := K4.out.cell 0
  have k1 := K4.out.cell 1
  have k2 := K4.out.cell 2
  have k3 := K4.out.cell 3
  have k4 := K4.out.cell 4
  have kf := K4.out.frozen
  simp at p0 p1 p2 p3 p4 k0 k1 k2 k3 k4
  have HP := Lib.hid (And.intro p0 (And.intro p1 (And.intro p2 (And.intro p3 p4))))
  clear hG hc4 ho4 x0 x1 x2 x3 x4 X3 K3 Y3 A3 C3 B3 p0 p1 p2 p3 p4
  refine hK.out _ _ (by exact HP.out) (fun hSw => ?_); clear hK K hSw; (try simp only [Act.put, List.setIfInBounds_toArray, List.set_cons_zero, List.set_cons_succ])
  clear HP
  refine mix.ordt_hard rfl (fun K hK => ?_); go_simp
  have hx5 : Blk (((((W4.setCell ⟨w.heap.size, 0, none⟩ (.int .i64 c.d)).setCell ⟨w.heap.size, 1, none⟩ (.slice aw c.ws.length cw)).setCell ⟨w.heap.size, 2, none⟩ (.slice am c.ms.length cm)).setCell ⟨w.heap.size, 3, none⟩ (.int .i64 c.dl)).setCell ⟨w.heap.size, 4, none⟩ (.int .i64 c.lt)) x 27 [.int .i64 c.d, .slice aw c.ws.length cw, .slice am c.ms.length cm, .int .i64 c.dl, .int .i64 c.lt] := ((((X4.out.setOther (by simp; omega) _).setOther (by simp; omega) _).setOther (by simp; omega) _).setOther (by simp; omega) _).setOther (by simp; omega) _
  have K5 := Lib.hid (show Blk (((((W4.setCell ⟨w.heap.size, 0, none⟩ (.int .i64 c.d)).setCell ⟨w.heap.size, 1, none⟩ (.slice aw c.ws.length cw)).setCell ⟨w.heap.size, 2, none⟩ (.slice am c.ms.length cm)).setCell ⟨w.heap.size, 3, none⟩ (.int .i64 c.dl)).setCell ⟨w.heap.size, 4, none⟩ (.int .i64 c.lt)) w.heap.size 27 [.int .i64 c.d, .slice aw c.ws.length cw, .slice am c.ms.length cm, .int .i64 c.dl, .int .i64 c.lt] from (((((K4.out.set 0 _).set 1 _).set 2 _).set 3 _).set 4 _).of_eq rfl)
  have Y5 := Lib.hid (show Blk (((((W4.setCell ⟨w.heap.size, 0, none⟩ (.int .i64 c.d)).setCell ⟨w.heap.size, 1, none⟩ (.slice aw c.ws.length cw)).setCell ⟨w.heap.size, 2, none⟩ (.slice am c.ms.length cm)).setCell ⟨w.heap.size, 3, none⟩ (.int .i64 c.dl)).setCell ⟨w.heap.size, 4, none⟩ (.int .i64 c.lt)) (w.heap.size + 1) 29 [.int .i64 0, .slice none 0 0, .int .i64 0] from ((((Y4.out.setOther (by simp) _).setOther (by simp) _).setOther (by simp) _).setOther (by simp) _).setOther (by simp) _)
  have E5 := Lib.hid (show ∀ b, b ≠ w.heap.size → (((((W4.setCell ⟨w.heap.size, 0, none⟩ (.int .i64 c.d)).setCell ⟨w.heap.size, 1, none⟩ (.slice aw c.ws.length cw)).setCell ⟨w.heap.size, 2, none⟩ (.slice am c.ms.length cm)).setCell ⟨w.heap.size, 3, none⟩ (.int .i64 c.dl)).setCell ⟨w.heap.size, 4, none⟩ (.int .i64 c.lt)).heap[b]? = W4.heap[b]? from fun b hb => by
    rw [Below.heap_setCell _ _ _ b (by simpa using hb), Below.heap_setCell _ _ _ b (by simpa using hb), Below.heap_setCell _ _ _ b (by simpa using hb), Below.heap_setCell _ _ _ b (by simpa using hb), Below.heap_setCell _ _ _ b (by simpa using hb)])
  have B5 := Lib.hid (show Below w.heap.size w (((((W4.setCell ⟨w.heap.size, 0, none⟩ (.int .i64 c.d)).setCell ⟨w.heap.size, 1, none⟩ (.slice aw c.ws.length cw)).setCell ⟨w.heap.size, 2, none⟩ (.slice am c.ms.length cm)).setCell ⟨w.heap.size, 3, none⟩ (.int .i64 c.dl)).setCell ⟨w.heap.size, 4, none⟩ (.int .i64 c.lt)) from ((((B4.out.setCell (Nat.le_refl _) _).setCell (Nat.le_refl _) _).setCell (Nat.le_refl _) _).setCell (Nat.le_refl _) _).setCell (Nat.le_refl _) _)
  have q0 := hx5.cell 0
  have q1 := hx5.cell 1
  have q2 := hx5.cell 2
  have q3 := hx5.cell 3
  have q4 := hx5.cell 4
  simp only [List.getElem?_cons_zero, List.getElem?_cons_succ] at q0 q1 q2 q3 q4
  have HQ := Lib.hid (And.intro q0 (And.intro q1 (And.intro q2 (And.intro q3 q4))))
  have y0 := Y5.out.cell 0
  have y1 := Y5.out.cell 1
  have y2 := Y5.out.cell 2
  have yf := Y5.out.frozen
  simp only [List.getElem?_cons_zero, List.getElem?_cons_succ] at y0 y1 y2
  clear q0 q1 q2 q3 q4 hx5 k0 k1 k2 k3 k4 kf
  generalize (((((W4.setCell ⟨w.heap.size, 0, none⟩ (.int .i64 c.d)).setCell ⟨w.heap.size, 1, none⟩ (.slice aw c.ws.length cw)).setCell ⟨w.heap.size, 2, none⟩ (.slice am c.ms.length cm)).setCell ⟨w.heap.size, 3, none⟩ (.int .i64 c.dl)).setCell ⟨w.heap.size, 4, none⟩ (.int .i64 c.lt)) = W5 at *
  refine hK.out _ _ (by exact HQ.out) (fun hSw => ?_); clear hK K hSw; (try simp only [Act.put, List.setIfInBounds_toArray, List.set_cons_zero, List.set_cons_succ])
  clear HQ
  refine mix.ordt_end ?_; refine mix.last_step (fun K hK => ?_); go_simp
  refine hK _ _ ?_
  clear hK K
  go_wp2_with fail
  refine body_gen (fun W => Below w.heap.size w W ∧ Blk W w.heap.size 27 [.int .i64 c.d, .slice aw c.ws.length cw, .slice am c.ms.length cm, .int .i64 c.dl, .int .i64 c.lt] ∧ Blk W (w.heap.size + 1) 29 [.int .i64 t, .slice ad ds.length cd, .int .i64 v] ∧ ConfAt W1.heap.size c (.slice aw c.ws.length cw) (.slice am c.ms.length cm) W ∧ Grows 1 RInt 3 W3.drew.heap.size W (.slice ad ds.length cd) ds) ⟨?_, ?_, ?_, ?_, ?_⟩ ?_
  · exact ((B5.out.setCell (by simp) _).setCell (by simp) _).setCell (by simp) _
  · exact ((K5.out.setOther (by simp) _).setOther (by simp) _).setOther (by simp) _
  · exact (((Y5.out.set 0 _).set 1 _).set 2 _).of_eq rfl
  · exact A4.out.stay (fun b h1 h2 => by rw [Below.heap_setCell _ _ _ b (by simp; omega), Below.heap_setCell _ _ _ b (by simp; omega), Below.heap_setCell _ _ _ b (by simp; omega)]; exact E5.out b (by omega))
  · exact G4.out.keep local_int (fun b h1 h2 => by
      have h1' : W3.heap.size ≤ b := h1
      rw [Below.heap_setCell _ _ _ b (by simp; omega), Below.heap_setCell _ _ _ b (by simp; omega), Below.heap_setCell _ _ _ b (by simp; omega)]; exact E5.out b (by omega))
  rintro W ⟨hB, hK, hY, hA, hG⟩
  have z0 := hK.cell 0
  have z1 := hK.cell 1
  have z2 := hK.cell 2
  have z3 := hK.cell 3
  have z4 := hK.cell 4
  have e0 := hY.cell 0
  have e1 := hY.cell 1
  have e2 := hY.cell 2
  simp at z0 z1 z2 z3 z4 e0 e1 e2
  refine bodyPost_ret (v := .tuple #[.agg #[.int .i64 c.d, .slice aw c.ws.length cw, .slice am c.ms.length cm, .int .i64 c.dl, .int .i64 c.lt], .agg #[.int .i64 t, .slice ad ds.length cd, .int .i64 v]]) (by simp [results, Tryd.results6, go_sem, z0, z1, z2, z3, z4, e0, e1, e2]) rfl ?_
  obtain ⟨hh, fp, e1, e2, hIs⟩ := conf_is hA
  obtain ⟨ad', cd', fd, e3, r3, u3, v3, _, _⟩ := hG.plain plain_int
  cases e3
  exact ⟨c, hh, fp, ⟨t, ds, v⟩, ⟨_, _, _⟩, fd, by rw [e1, e2]; rfl, hIs, hws, hms, ⟨fd, rfl, r3, u3, v3⟩, hds, hB⟩
end Go.Proofs.YtpoojmodebgioaaDoor.cur
