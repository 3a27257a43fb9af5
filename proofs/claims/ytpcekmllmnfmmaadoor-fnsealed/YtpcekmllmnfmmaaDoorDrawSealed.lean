/-
  THE CONTRACTS OF DrawSealed, DrawUnsealed of the model: SOME text of at most 4000 bytes; nothing that was there is written.
-/
import Derived.Test.YtpcekmllmnfmmaaDoorCurEvent
import Derived.Test.YtpcekmllmnfmmaaDoorEventText
import Derived.Test.YtpcekmllmnfmmaaDoorSealLaw
import Derived.Test.YtpcekmllmnfmmaaDoorMixOrd
namespace Go.Proofs.YtpcekmllmnfmmaaDoor.dat
open Go.RowKit Go.Proofs.YtpcekmllmnfmmaaDoor.win Go.Proofs.YtpcekmllmnfmmaaDoor.cur
open Go.Proofs.YtpcekmllmnfmmaaDoor.num (Texted)

/-- Some text. -/
def Drawn (w : World) (e : Ending) (w' : World) : Prop := ∃ l : List UInt8, e = .returned (.string ⟨l.toArray⟩) ∧ l.length ≤ 4000 ∧ Below w.heap.size w w'
theorem evD_len (c : ConfD) (e : EventD) : (evD c e).length ≤ 200 := by
  unfold evD
  split
  · rename_i h; exact evText_len h
  · simp

theorem conf_is2 {lo : Nat} {c : ConfD} {aw am : Option Addr} {n k cw cm : Nat} {W : World} (h : ConfAt lo c (.slice aw n cw) (.slice am k cm) W) : ∃ fp : List Nat, Config.Is W c ⟨aw, n, cw, am, k, cm⟩ fp ∧ ∀ b ∈ fp, lo ≤ b := by
  obtain ⟨a, cap, f0, e0, g0, u0, v0, o0, _⟩ := h.1.plain plain_win
  obtain ⟨b, cap', f1, e1, g1, u1, v1, o1, _⟩ := h.2.1.plain plain_int
  cases e0
  cases e1
  exact ⟨f0 ++ f1, ⟨f0, f1, rfl, g0, u0, v0, g1, u1, v1⟩, fun b hb => (List.mem_append.1 hb).elim (fun h => (o0.2 b h).1) (fun h => (o1.2 b h).1)⟩

set_option maxRecDepth 100000 in
set_option maxHeartbeats 2000000 in
theorem DrawSealed_any (a : Option Addr) (len cap : Nat) (w : World) (hle : len ≤ 2000000) (hcode : cur.Code w a len) :
    Calls Tryd.prog 15 #[.slice a len cap] w (Drawn w) := by
  have HK := Lib.hid hcode
  clear hcode
  go_enter Tryd.func15, Tryd.ntmps15
  go_wp2_with fail
  refine (l01Open_cur _ _ _ _ hle HK.out).mono ?_
  rintro e W1 ⟨rfl, hc1, hb1⟩
  have C1 := Lib.hid hc1
  have B1 := Lib.hid hb1
  obtain ⟨g, hg⟩ : ∃ g, w.heap.size = g := ⟨_, rfl⟩
  rw [hg] at C1 B1 ⊢
  have HGG := Lib.hid hg
  clear hc1 hb1 HK
  go_wp2_with fail
  refine (config_any g a len cap 0 W1 (by omega) C1.out).mono ?_
  rintro e W2 ⟨c, wv, mv, rfl, hA, hws, hms, _, hc2, ho2⟩
  obtain ⟨aw, cw, hwv⟩ := hA.1.slice
  obtain ⟨am, cm, hmv⟩ := hA.2.1.slice
  subst hwv hmv
  have hg1 := C1.out.lt
  have A2 := Lib.hid hA
  have C2 := Lib.hid hc2
  have B2 := Lib.hid (B1.out.trans (ho2.below (B := g) (by omega) (by omega)))
  have Z2 := Lib.hid (show W1.heap.size ≤ W2.heap.size from ho2.size)
  clear hA hc2 ho2 C1 B1
  go_wp2_with fail
  refine wp_gen (fun W => Below W2.heap.size W2 W ∧ Blk W W2.heap.size 52 [.int .i64 c.d, .slice aw c.ws.length cw, .slice am c.ms.length cm, .int .i64 c.dl, .int .i64 c.lt]) ⟨by repeat (first | exact Below.refl _ _ | refine Below.setCell ?_ (by first | omega | (simp; done) | (simp; omega)) _ | refine Below.alloc ?_ (by first | omega | (simp; done) | (simp; omega)) _ | apply Below.drew), by with_reducible (repeat (first | (refine blk_new_at _ _ _ _ ?_; first | rfl | (simp; done)) | refine Blk.alloc ?_ _ | apply Blk.drew | refine Blk.setOther ?_ (by first | (simp; done) | (simp; omega)) _))⟩ ?_
  rintro W3 ⟨b3, x3⟩
  have X3 := Lib.hid x3
  have A3 := Lib.hid (show ConfAt W1.heap.size c (.slice aw c.ws.length cw) (.slice am c.ms.length cm) W3 from A2.out.stay (fun b _ h2 => b3.block b h2))
  have hg2 := C2.out.lt
  have C3 := Lib.hid (C2.out.below b3)
  have B3 := Lib.hid (B2.out.trans (b3.mono (Nat.le_of_lt hg2)))
  have hx3 := x3.lt
  have hxg : W2.heap.size ≠ g := by omega
  have hgx : g < W2.heap.size := hg2
  clear b3 x3 A2 C2 B2
  generalize W2.heap.size = x at *
  have hg3 : g < W3.heap.size := by omega
  have x0 := X3.out.cell 0
  have x1 := X3.out.cell 1
  have x2 := X3.out.cell 2
  have x3 := X3.out.cell 3
  have x4 := X3.out.cell 4
  simp at x0 x1 x2 x3 x4
  refine mix.wp_region_ord (fun w' => w'.cell? ⟨x, 0, none⟩ = some (.int .i64 c.d) ∧ w'.cell? ⟨x, 1, none⟩ = some (.slice aw c.ws.length cw) ∧ w'.cell? ⟨x, 2, none⟩ = some (.slice am c.ms.length cm) ∧ w'.cell? ⟨x, 3, none⟩ = some (.int .i64 c.dl) ∧ w'.cell? ⟨x, 4, none⟩ = some (.int .i64 c.lt)) [3,4] [0,1,2,3,4,5] (by kernel_rfl) (by kernel_rfl) (fun _ _ d _ _ h => by cases d <;> exact h) ⟨x0, x1, x2, x3, x4⟩ ?_
  clear x0 x1 x2 x3 x4
  simp only [List.filterMap_cons, List.filterMap_nil, List.getElem?_cons_zero, List.getElem?_cons_succ, Option.map_some]
  (repeat (first | (apply mix.ord_take; (· rfl); (· rfl); (· (intro w' hSw; (try dsimp only at hSw); go_simp; try with_reducible rfl)); (try simp only [Act.put, List.setIfInBounds_toArray, List.set_cons_zero, List.set_cons_succ])) | ((refine mix.ord_pass rfl (by rfl) ?_); (try simp only [Act.put, List.setIfInBounds_toArray, List.set_cons_zero, List.set_cons_succ]))))
  refine mix.ord_hard rfl (fun K hK => ?_); go_simp
  refine (event_any g a len cap (0 + 40) c aw am c.ws.length cw c.ms.length cm W3.drew (by omega) (C3.out.below (Below.refl _ _).drew)).mono ?_
  rintro e W4 ⟨t, v, dv, ds, rfl, hG, hds, hc4, ho4⟩
  obtain ⟨ad, cd, hdv⟩ := hG.slice
  subst hdv
  have hsz4 := ho4.size
  have X4 := Lib.hid (show Blk W4 x 52 [.int .i64 c.d, .slice aw c.ws.length cw, .slice am c.ms.length cm, .int .i64 c.dl, .int .i64 c.lt] from (ho4.block x X3.out.lt hxg).trans X3.out)
  have A4 := Lib.hid (show ConfAt W1.heap.size c (.slice aw c.ws.length cw) (.slice am c.ms.length cm) W4 from A3.out.stay (fun b h1 h2 => ho4.block b h2 (by have := HGG.out; omega)))
  have G4 := Lib.hid hG
  have B4 := Lib.hid (B3.out.trans ((Below.refl _ _).drew.trans (ho4.below (B := g) (by omega) (by show g ≤ W3.heap.size; omega))))
  have x0 := X4.out.cell 0
  have x1 := X4.out.cell 1
  have x2 := X4.out.cell 2
  have x3 := X4.out.cell 3
  have x4 := X4.out.cell 4
  simp at x0 x1 x2 x3 x4
  have S4 := Lib.hid (And.intro x0 (And.intro x1 (And.intro x2 (And.intro x3 x4))))
  clear hG hc4 ho4 x0 x1 x2 x3 x4
  refine hK.out _ _ (S4.out) (fun hSw => ?_); clear hK K hSw; (try simp only [Act.put, List.setIfInBounds_toArray, List.set_cons_zero, List.set_cons_succ])
  refine mix.ord_hard rfl (fun K hK => ?_); go_simp
  obtain ⟨cf, hcf, _⟩ := conf_is2 A4.out
  obtain ⟨ad', cd', ef, e3, r3, u3, v3, _, _⟩ := G4.out.plain plain_int
  cases e3
  refine (spec_EventText c ⟨_, _, _, _, _, _⟩ cf ⟨t, ds, v⟩ ⟨_, _, _⟩ ef W4 hcf ⟨ef, rfl, r3, u3, v3⟩).mono ?_
  rintro e W5 ⟨rfl, hb5⟩
  have X5 := X4.out.below hb5 X4.out.lt
  have x0 := X5.cell 0
  have x1 := X5.cell 1
  have x2 := X5.cell 2
  have x3 := X5.cell 3
  have x4 := X5.cell 4
  simp at x0 x1 x2 x3 x4
  have S5 := Lib.hid (And.intro x0 (And.intro x1 (And.intro x2 (And.intro x3 x4))))
  have B5 := Lib.hid (B4.out.trans (hb5.mono (show g ≤ W4.heap.size by have h1 : W3.heap.size ≤ W4.heap.size := hsz4; omega)))
  clear x0 x1 x2 x3 x4 X5 hb5 S4
  refine hK.out _ _ (S5.out) (fun hSw => ?_); clear hK K hSw; (try simp only [Act.put, List.setIfInBounds_toArray, List.set_cons_zero, List.set_cons_succ])
  (repeat (first | (apply mix.ord_take; (· rfl); (· rfl); (· (intro w' hSw; (try dsimp only at hSw); go_simp; try with_reducible rfl)); (try simp only [Act.put, List.setIfInBounds_toArray, List.set_cons_zero, List.set_cons_succ])) | ((refine mix.ord_pass rfl (by rfl) ?_); (try simp only [Act.put, List.setIfInBounds_toArray, List.set_cons_zero, List.set_cons_succ]))))
  refine mix.ord_end ?_
  go_wp2_with fail
  refine bodyPost_ret (v := .string ⟨(evD c ⟨t, ds, v⟩).toArray⟩) (by simp [results, Tryd.results15, go_sem]) rfl ?_
  refine ⟨evD c ⟨t, ds, v⟩, rfl, by have := evD_len c ⟨t, ds, v⟩; omega, ?_⟩
  rw [HGG.out]
  exact B5.out
end Go.Proofs.YtpcekmllmnfmmaaDoor.dat
