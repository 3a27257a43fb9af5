/-
  THE DRAWS: the contract of DrawEventRead: some Config and some short text; nothing that was there is written.
  Condition: the code is a slice of bytes, at most 2,000,000 of them.
-/
import Derived.Test.YtpoojmodebgioaaDoorCurText
import Derived.Test.YtpoojmodebgioaaDoorEventText
namespace Go.Proofs.YtpoojmodebgioaaDoor.cur
open Go.RowKit Go.Proofs.YtpoojmodebgioaaDoor.win Go.Proofs.YtpoojmodebgioaaDoor.dat

def pieces : List Value := [.string ⟨#[32]⟩, .string ⟨#[48]⟩, .string ⟨#[45]⟩, .string ⟨#[101]⟩, .string ⟨#[49]⟩, .string ⟨#[57, 57, 57, 57, 57, 57, 57]⟩]
def VE (g base R : Nat) (cv : Value) (L : List Value) (s : ByteArray) (k : Nat) (i : Nat) (w : World) (v : Value) : Prop := match i with
  | 0 => v = cv
  | 1 => v = .string s
  | 2 => v = .int .i64 (k : Int)
  | 3 => ∃ t : ByteArray, v = .string t ∧ t.size ≤ 200
  | 4 => ∃ b : Nat, v = .slice (some ⟨b, 0, none⟩) 6 6 ∧ base ≤ b ∧ Blk w b 9 pieces
  | 5 => v = .pointer (some ⟨g, 0, none⟩)
  | 6 => ∃ r : Nat, v = .int .i64 (r : Int) ∧ r < 6
  | 7 => ∃ (b r : Nat), v = .pointer (some ⟨b, r, none⟩) ∧ r < 6 ∧ base ≤ b ∧ Blk w b 9 pieces
  | 8 => ∃ t : ByteArray, v = .string t ∧ t.size ≤ 7
  | 9 => ∃ t : ByteArray, v = .string t ∧ t.size ≤ 207
  | 10 => v = .string s
  | 11 => v = .string s
  | 12 => v = .int .i64 (s.size : Int)
  | 13 => v = .int .i64 (k : Int)
  | 14 => v = .pointer (some ⟨g, 0, none⟩)
  | 15 => ∃ r : Nat, v = .int .i64 (r : Int) ∧ r < 2
  | 16 => ∃ r : Nat, v = .int .i64 (r : Int) ∧ r ≤ 201
  | 17 => ∃ r : Nat, v = .int .i64 (r : Int) ∧ r ≤ s.size
  | 18 => ∃ t : ByteArray, v = .string t ∧ t.size ≤ 200
  | 19 => ∃ t : ByteArray, v = .string t ∧ t.size ≤ 407
  | 20 => Blk w R 27 L
  | _ => True
theorem VE.keep2 {g base R : Nat} {cv : Value} {L : List Value} {s : ByteArray} {k : Nat} {w w' : World} (h : ∀ b, base ≤ b → b < w.heap.size → w'.heap[b]? = w.heap[b]?) (hR : Blk w R 27 L → Blk w' R 27 L) (j : Nat) (u : Value) (hv : VE g base R cv L s k j w u) : VE g base R cv L s k j w' u := by
  have hB : ∀ {b t vs}, base ≤ b → Blk w b t vs → Blk w' b t vs := fun h0 hb => (h _ h0 hb.lt).trans hb
  unfold VE at *
  split at hv <;> first | exact hv | (obtain ⟨b, e, h0, hb⟩ := hv; exact ⟨b, e, h0, hB h0 hb⟩) | (obtain ⟨b, r, e, hr, h0, hb⟩ := hv; exact ⟨b, r, e, hr, h0, hB h0 hb⟩) | exact hR hv
theorem VE.keep {g base R : Nat} {cv : Value} {L : List Value} {s : ByteArray} {k : Nat} {w w' : World} (h : ∀ b, base ≤ b ∨ b = R → b < w.heap.size → w'.heap[b]? = w.heap[b]?) (j : Nat) (u : Value) (hv : VE g base R cv L s k j w u) : VE g base R cv L s k j w' u :=
  VE.keep2 (fun b h1 h2 => h b (.inl h1) h2) (fun hb => (h R (.inr rfl) hb.lt).trans hb) j u hv
theorem Curs.keepR {g B : Nat} {a : Option Addr} {len cap m : Nat} {w w' : World} (h : Curs g a len cap m w) (ha : 0 < len → ∃ b off, a = some ⟨b, off, none⟩ ∧ b < B) (hb : Below B w w') (ho : ∀ b, b ≠ B → w'.heap[b]? = w.heap[b]?) (hg : g ≠ B) : Curs g a len cap m w' := by
  obtain ⟨pos, seed, h1, h2, h3, h4, h5, h6, c0, c1, c2, hf, hB⟩ := h
  have hc : ∀ o, w'.cell? ⟨g, o, none⟩ = w.cell? ⟨g, o, none⟩ := fun o => World.cell?_of_block (w := w) (a := ⟨g, o, none⟩) (ho g hg)
  refine ⟨pos, seed, h1, h2, h3, h4, Nat.lt_of_lt_of_le h5 hb.size, h6, (hc 0).trans c0, (hc 1).trans c1, (hc 2).trans c2, fun j => (World.frozen?_of_block (w := w) (a := ⟨g, j, none⟩) (ho g hg)).trans (hf j), fun h0 => ?_⟩
  obtain ⟨b, off, e, k1, k2, k3⟩ := hB h0
  obtain ⟨b', off', e', hlt⟩ := ha h0
  rw [e] at e'
  cases e'
  refine ⟨b, off, e, k1, Nat.lt_of_lt_of_le k2 hb.size, fun i hi => ?_⟩
  obtain ⟨v, v0, v1, hv⟩ := k3 i hi
  exact ⟨v, v0, v1, (World.cell?_of_block (w := w) (a := ⟨b, off + i, none⟩) (ho b (by omega))).trans hv⟩
theorem apart_only {g R : Nat} {w w' : World} (h : Only g w w') : Apart [g, R] w w' := ⟨h.os, h.tape, h.output, h.size, fun b hb hn => h.block b hb (fun e => hn (by simp [e]))⟩

set_option maxRecDepth 100000 in
set_option maxHeartbeats 16000000 in
theorem DrawEventRead_any (a : Option Addr) (len cap : Nat) (w : World) (hle : len ≤ 2000000) (hcode : Code w a len) :
    Calls Tryd.prog 11 #[.slice a len cap] w (fun e w' => ∃ (c : ConfD) (h : ConfigH) (fp : List Nat) (s : ByteArray), e = .returned (.tuple #[.agg (Config.list c h).toArray, .string s]) ∧ Config.Is w' c h fp ∧ c.ws.length ≤ 4 ∧ c.ms.length ≤ 5 ∧ s.size ≤ 2000 ∧ Below w.heap.size w w') := by
  have HK := Lib.hid hcode
  have HAD := Lib.hid (show 0 < len → ∃ b off, a = some ⟨b, off, none⟩ ∧ b < w.heap.size from fun h0 => by obtain ⟨b, off, e, h1, _⟩ := hcode h0; exact ⟨b, off, e, h1⟩)
  clear hcode
  go_enter Tryd.func11, Tryd.ntmps11
  go_wp2_with fail
  refine calls_gen (fun W => Below w.heap.size w W ∧ Blk W w.heap.size 27 [.int .i64 0, .slice none 0 0, .slice none 0 0, .int .i64 0, .int .i64 0]) ⟨by repeat (first | exact Below.refl _ _ | refine Below.setCell ?_ (by first | omega | (simp; done) | (simp; omega)) _ | refine Below.alloc ?_ (by first | omega | (simp; done) | (simp; omega)) _ | apply Below.drew), by with_reducible (repeat (first | (refine blk_new_at _ _ _ _ ?_; first | rfl | (simp; done)) | refine Blk.alloc ?_ _ | apply Blk.drew | refine Blk.setOther ?_ (by first | (simp; done) | (simp; omega)) _))⟩ ?_
  rintro W0 ⟨b0, k0⟩
  refine (l01Open_cur _ _ _ _ hle (HK.out.below b0)).mono ?_
  rintro e W1 ⟨rfl, hc1, hb1⟩
  have K1 := Lib.hid (k0.below hb1 k0.lt)
  have C1 := Lib.hid hc1
  have B1 := Lib.hid (b0.trans (hb1.mono b0.size))
  have hgw : w.heap.size < W0.heap.size := k0.lt
  clear hc1 hb1 k0 b0 HK
  generalize W0.heap.size = g at *
  go_wp2_with fail
  refine (anyConfig_any g a len cap 0 W1 (by omega) C1.out).mono ?_
  rintro e W2 ⟨c, wv, mv, rfl, hA, hws, hms, hc2, ho2⟩
  obtain ⟨aw, cw, hwv⟩ := hA.1.slice
  obtain ⟨am, cm, hmv⟩ := hA.2.1.slice
  subst hwv hmv
  have hg1 := C1.out.lt
  have hk1 := K1.out.lt
  have K2 := Lib.hid (show Blk W2 w.heap.size 27 [.int .i64 0, .slice none 0 0, .slice none 0 0, .int .i64 0, .int .i64 0] from (ho2.block _ hk1 (by omega)).trans K1.out)
  have A2 := Lib.hid hA
  have C2 := Lib.hid hc2
  have B2 := Lib.hid (B1.out.trans (ho2.below (B := w.heap.size) (by omega) (by omega)))
  have Z2 := Lib.hid (show W1.heap.size ≤ W2.heap.size from ho2.size)
  clear hA hc2 ho2 K1 C1 B1
  go_wp2_with fail
  refine wp_gen (fun W => Below W2.heap.size W2 W ∧ Blk W W2.heap.size 27 [.int .i64 c.d, .slice aw c.ws.length cw, .slice am c.ms.length cm, .int .i64 c.dl, .int .i64 c.lt]) ⟨by repeat (first | exact Below.refl _ _ | refine Below.setCell ?_ (by first | omega | (simp; done) | (simp; omega)) _ | refine Below.alloc ?_ (by first | omega | (simp; done) | (simp; omega)) _ | apply Below.drew), by with_reducible (repeat (first | (refine blk_new_at _ _ _ _ ?_; first | rfl | (simp; done)) | refine Blk.alloc ?_ _ | apply Blk.drew | refine Blk.setOther ?_ (by first | (simp; done) | (simp; omega)) _))⟩ ?_
  rintro W3 ⟨b3, x3⟩
  have X3 := Lib.hid x3
  have A3 := Lib.hid (show ConfAt W1.heap.size c (.slice aw c.ws.length cw) (.slice am c.ms.length cm) W3 from A2.out.stay (fun b _ h2 => b3.block b h2))
  have K3 := Lib.hid (K2.out.below b3 K2.out.lt)
  have hg2 := C2.out.lt
  have C3 := Lib.hid (C2.out.below b3)
  have B3 := Lib.hid (B2.out.trans (b3.mono B2.out.size))
  have hx3 := x3.lt
  have hxg : W2.heap.size ≠ g := by omega
  clear b3 x3 A2 K2 C2 B2
  generalize W2.heap.size = x at *
  have hg3 : g < W3.heap.size := by omega
  have x0 := X3.out.cell 0
  have x1 := X3.out.cell 1
  have x2 := X3.out.cell 2
  have x3 := X3.out.cell 3
  have x4 := X3.out.cell 4
  simp at x0 x1 x2 x3 x4
  refine mix.wp_region_ord (fun w' => w'.cell? ⟨x, 0, none⟩ = some (.int .i64 c.d) ∧ w'.cell? ⟨x, 1, none⟩ = some (.slice aw c.ws.length cw) ∧ w'.cell? ⟨x, 2, none⟩ = some (.slice am c.ms.length cm) ∧ w'.cell? ⟨x, 3, none⟩ = some (.int .i64 c.dl) ∧ w'.cell? ⟨x, 4, none⟩ = some (.int .i64 c.lt)) [3,4] [0,1,2,3,4,5] (by kernel_rfl) (by kernel_rfl) (fun _ _ d _ _ h => by cases d <;> exact h) ⟨x0, x1, x2, x3, x4⟩ ?_
  simp only [List.filterMap_cons, List.filterMap_nil, List.getElem?_cons_zero, List.getElem?_cons_succ, Option.map_some]
  (repeat (first | (apply mix.ord_take; (· rfl); (· rfl); (· (intro w' hSw; (try dsimp only at hSw); go_simp; try with_reducible rfl)); (try simp only [Act.put, List.setIfInBounds_toArray, List.set_cons_zero, List.set_cons_succ])) | ((refine mix.ord_pass rfl (by rfl) ?_); (try simp only [Act.put, List.setIfInBounds_toArray, List.set_cons_zero, List.set_cons_succ]))))
  refine mix.ord_hard rfl (fun K hK => ?_); go_simp
  refine (event_any g a len cap (0 + 60) c aw am c.ws.length cw c.ms.length cm W3.drew (by omega) (C3.out.below (Below.refl _ _).drew)).mono ?_
  rintro e W4 ⟨t, v, dv, ds, rfl, hG, hds, hc4, ho4⟩
  obtain ⟨ad, cd, fd, hdv, r3, u3, v3, -, -⟩ := hG.plain plain_int
  subst hdv
  have hsz4 : W3.heap.size ≤ W4.heap.size := ho4.size
  have X4 := Lib.hid (show Blk W4 x 27 [.int .i64 c.d, .slice aw c.ws.length cw, .slice am c.ms.length cm, .int .i64 c.dl, .int .i64 c.lt] from (ho4.block x X3.out.lt hxg).trans X3.out)
  have K4 := Lib.hid (show Blk W4 w.heap.size 27 [.int .i64 0, .slice none 0 0, .slice none 0 0, .int .i64 0, .int .i64 0] from (ho4.block _ K3.out.lt (by omega)).trans K3.out)
  have A4 := Lib.hid (show ConfAt W1.heap.size c (.slice aw c.ws.length cw) (.slice am c.ms.length cm) W4 from A3.out.stay (fun b h1 h2 => ho4.block b h2 (by omega)))
  have C4 := Lib.hid hc4
  have B4 := Lib.hid (B3.out.trans ((Below.refl _ _).drew.trans (ho4.below (B := w.heap.size) (by omega) (by show w.heap.size ≤ W3.heap.size; omega))))
  have EV := Lib.hid (show Event.Is W4 ⟨t, ds, v⟩ ⟨ad, ds.length, cd⟩ fd from ⟨fd, rfl, r3, u3, v3⟩)
  have p0 := X4.out.cell 0
  have p1 := X4.out.cell 1
  have p2 := X4.out.cell 2
  have p3 := X4.out.cell 3
  have p4 := X4.out.cell 4
  simp at p0 p1 p2 p3 p4
  have HP := Lib.hid (And.intro p0 (And.intro p1 (And.intro p2 (And.intro p3 p4))))
  clear hG hc4 ho4 x0 x1 x2 x3 x4 X3 K3 A3 C3 B3 p0 p1 p2 p3 p4 r3 u3 v3
  refine hK.out _ _ (by exact HP.out) (fun hSw => ?_); clear hK K hSw; (try simp only [Act.put, List.setIfInBounds_toArray, List.set_cons_zero, List.set_cons_succ])
  refine mix.ord_hard rfl (fun K hK => ?_); go_simp
  obtain ⟨hh, fp, e1, e2, hIs⟩ := conf_is A4.out
  have hlist : Value.agg #[.int .i64 c.d, .slice aw c.ws.length cw, .slice am c.ms.length cm, .int .i64 c.dl, .int .i64 c.lt] = .agg (Config.list c hh).toArray := by unfold Config.list; rw [← e1, ← e2]
  rw [hlist]
  refine (spec_EventText c hh fp ⟨t, ds, v⟩ ⟨ad, ds.length, cd⟩ fd W4 hIs EV.out).mono ?_
  rw [← hlist]
  rintro e W5 ⟨rfl, b5⟩
  obtain ⟨s, hs⟩ : ∃ s : ByteArray, (⟨(evD c ⟨t, ds, v⟩).toArray⟩ : ByteArray) = s := ⟨_, rfl⟩
  have hsz : s.size ≤ 200 := by
    rw [← hs]
    show (evD c ⟨t, ds, v⟩).toArray.size ≤ 200
    unfold evD
    split
    · rename_i h; simpa using evText_len h
    · simp
  rw [hs]
  have X5 := Lib.hid (X4.out.below b5 X4.out.lt)
  have K5 := Lib.hid (K4.out.below b5 K4.out.lt)
  have A5 := Lib.hid (show ConfAt W1.heap.size c (.slice aw c.ws.length cw) (.slice am c.ms.length cm) W5 from A4.out.stay (fun b h1 h2 => b5.block b h2))
  have C5 := Lib.hid (C4.out.below b5)
  have B5 := Lib.hid (B4.out.trans (b5.mono B4.out.size))
  have hsz5 : W4.heap.size ≤ W5.heap.size := b5.size
  have HP5 : Hid ((fun w' => w'.cell? ⟨x, 0, none⟩ = some (.int .i64 c.d) ∧ w'.cell? ⟨x, 1, none⟩ = some (.slice aw c.ws.length cw) ∧ w'.cell? ⟨x, 2, none⟩ = some (.slice am c.ms.length cm) ∧ w'.cell? ⟨x, 3, none⟩ = some (.int .i64 c.dl) ∧ w'.cell? ⟨x, 4, none⟩ = some (.int .i64 c.lt)) W5) := by
    have p0 := X5.out.cell 0
    have p1 := X5.out.cell 1
    have p2 := X5.out.cell 2
    have p3 := X5.out.cell 3
    have p4 := X5.out.cell 4
    simp at p0 p1 p2 p3 p4
    exact ⟨p0, p1, p2, p3, p4⟩
  clear b5 hs e1 e2 hIs hlist X4 K4 A4 C4 B4 EV HP
  refine hK.out _ _ (HP5.out) (fun hSw => ?_); clear hK K hSw; (try simp only [Act.put, List.setIfInBounds_toArray, List.set_cons_zero, List.set_cons_succ])
  clear HP5
  (repeat (first | (apply mix.ord_take; (· rfl); (· rfl); (· (intro w' hSw; (try dsimp only at hSw); go_simp; try with_reducible rfl)); (try simp only [Act.put, List.setIfInBounds_toArray, List.set_cons_zero, List.set_cons_succ])) | ((refine mix.ord_pass rfl (by rfl) ?_); (try simp only [Act.put, List.setIfInBounds_toArray, List.set_cons_zero, List.set_cons_succ]))))
  refine mix.ord_end ?_
  go_wp2_with fail
  refine (once_any g a len cap (0 + 60 + 20) 3 W5 (by omega) C5.out).mono ?_
  rintro e W6 ⟨tb, rfl, hc6, ho6⟩
  have X6 := Lib.hid (show Blk W6 x 27 [.int .i64 c.d, .slice aw c.ws.length cw, .slice am c.ms.length cm, .int .i64 c.dl, .int .i64 c.lt] from (ho6.block x X5.out.lt hxg).trans X5.out)
  have K6 := Lib.hid (show Blk W6 w.heap.size 27 [.int .i64 0, .slice none 0 0, .slice none 0 0, .int .i64 0, .int .i64 0] from (ho6.block _ K5.out.lt (by omega)).trans K5.out)
  have A6 := Lib.hid (show ConfAt W1.heap.size c (.slice aw c.ws.length cw) (.slice am c.ms.length cm) W6 from A5.out.stay (fun b h1 h2 => ho6.block b h2 (by omega)))
  have C6 := Lib.hid hc6
  have B6 := Lib.hid (B5.out.trans (ho6.below (B := w.heap.size) (by omega) (by omega)))
  have hsz6 := ho6.size
  clear hc6 ho6 X5 K5 A5 C5 B5
  cases tb with
  | false =>
    have x0 := X6.out.cell 0
    have x1 := X6.out.cell 1
    have x2 := X6.out.cell 2
    have x3 := X6.out.cell 3
    have x4 := X6.out.cell 4
    have k0 := K6.out.cell 0
    have k1 := K6.out.cell 1
    have k2 := K6.out.cell 2
    have k3 := K6.out.cell 3
    have k4 := K6.out.cell 4
    have kf := K6.out.frozen
    simp at x0 x1 x2 x3 x4 k0 k1 k2 k3 k4
    have hkl := K6.out.lt
    go_wp2_with fail
    refine body_gen (fun W => Below w.heap.size w W ∧ Blk W w.heap.size 27 [.int .i64 c.d, .slice aw c.ws.length cw, .slice am c.ms.length cm, .int .i64 c.dl, .int .i64 c.lt] ∧ ConfAt W1.heap.size c (.slice aw c.ws.length cw) (.slice am c.ms.length cm) W) ⟨?_, ?_, ?_⟩ ?_
    · exact ((((B6.out.setCell (Nat.le_refl _) _).setCell (Nat.le_refl _) _).setCell (Nat.le_refl _) _).setCell (Nat.le_refl _) _).setCell (Nat.le_refl _) _
    · exact (((((K6.out.set 0 _).set 1 _).set 2 _).set 3 _).set 4 _).of_eq rfl
    · exact A6.out.stay (fun b h1 h2 => by rw [Below.heap_setCell _ _ _ b (by simp; omega), Below.heap_setCell _ _ _ b (by simp; omega), Below.heap_setCell _ _ _ b (by simp; omega), Below.heap_setCell _ _ _ b (by simp; omega), Below.heap_setCell _ _ _ b (by simp; omega)])
    rintro W ⟨hB, hK, hA⟩
    have z0 := hK.cell 0
    have z1 := hK.cell 1
    have z2 := hK.cell 2
    have z3 := hK.cell 3
    have z4 := hK.cell 4
    simp at z0 z1 z2 z3 z4
    refine bodyPost_ret (v := .tuple #[(.agg #[.int .i64 c.d, .slice aw c.ws.length cw, .slice am c.ms.length cm, .int .i64 c.dl, .int .i64 c.lt]), .string s]) (by simp [results, Tryd.results11, go_sem, z0, z1, z2, z3, z4]) rfl ?_
    obtain ⟨hh, fp, e1, e2, hIs⟩ := conf_is hA
    exact ⟨c, hh, fp, s, by rw [e1, e2]; rfl, hIs, hws, hms, by omega, hB⟩
  | true =>
    go_wp2_with fail
    refine (pick_any g a len cap (0 + 60 + 20 + 1) ((s.size : Int) + 1) W6 (by omega) C6.out).mono ?_
    rintro e W7 ⟨kk, rfl, k0, k1, hc7, ho7⟩
    obtain ⟨k, rfl⟩ : ∃ k : Nat, kk = k := ⟨kk.toNat, by omega⟩
    have hks : k ≤ s.size := by omega
    have X7 := Lib.hid (show Blk W7 x 27 [.int .i64 c.d, .slice aw c.ws.length cw, .slice am c.ms.length cm, .int .i64 c.dl, .int .i64 c.lt] from (ho7.block x X6.out.lt hxg).trans X6.out)
    have K7 := Lib.hid (show Blk W7 w.heap.size 27 [.int .i64 0, .slice none 0 0, .slice none 0 0, .int .i64 0, .int .i64 0] from (ho7.block _ K6.out.lt (by omega)).trans K6.out)
    have A7 := Lib.hid (show ConfAt W1.heap.size c (.slice aw c.ws.length cw) (.slice am c.ms.length cm) W7 from A6.out.stay (fun b h1 h2 => ho7.block b h2 (by omega)))
    have C7 := Lib.hid hc7
    have B7 := Lib.hid (B6.out.trans (ho7.below (B := w.heap.size) (by omega) (by omega)))
    have hsz7 := ho7.size
    clear hc7 ho7 X6 K6 A6 C6 B6 k0 k1
    go_wp2_with fail
    obtain ⟨M, hM⟩ : ∃ M, M = 0 + 60 + 20 + 1 + 1 := ⟨_, rfl⟩
    have C8 : Hid (Curs g a len cap M W7) := by rw [hM]; exact C7
    have hM2 : M ≤ 200 := by omega
    have hg7 : g < W7.heap.size := by omega
    clear hM C7
    refine mix.wp_region_free_tail (VE g W7.heap.size w.heap.size (.agg #[.int .i64 c.d, .slice aw c.ws.length cw, .slice am c.ms.length cm, .int .i64 c.dl, .int .i64 c.lt]) [.int .i64 c.d, .slice aw c.ws.length cw, .slice am c.ms.length cm, .int .i64 c.dl, .int .i64 c.lt] s k) (fun n wx => Curs g a len cap (M + 20 * n) wx ∧ Apart [g, w.heap.size] W7 wx ∧ ∃ p1 p2 p3 p4 p5, Blk wx w.heap.size 27 [p1, p2, p3, p4, p5]) 21 46 [24, 25, 26, 27, 28, 29, 30, 31, 32, 33, 34, 35, 36, 37, 38, 39, 40, 41, 42, 43] rfl (by kernel_rfl) (by kernel_rfl) (by kernel_rfl) ⟨C8.out.below (Below.refl _ _).drew, apart_only (Only.refl g W7).drew, _, _, _, _, _, K7.out⟩ ?_ ?_
    · refine ⟨?_, ?_, ?_, ?_, ?_, ?_, ?_, ?_, ?_, ?_, ?_, ?_, ?_, ?_, ?_, ?_, ?_, ?_, ?_, ?_, ?_, trivial⟩
      · intro n A W hn hG hL hP K hK
        have e0 : A.tmps.getD 5 undef = .pointer (some ⟨x, 0, none⟩) := hL.same 5 (by decide)
        have hXW : Blk W x 27 [.int .i64 c.d, .slice aw c.ws.length cw, .slice am c.ms.length cm, .int .i64 c.dl, .int .i64 c.lt] := (hG.2.1.block x X7.out.lt (by simp; omega)).trans X7.out
        have c0 := hXW.cell 0
        have c1 := hXW.cell 1
        have c2 := hXW.cell 2
        have c3 := hXW.cell 3
        have c4 := hXW.cell 4
        simp at c0 c1 c2 c3 c4
        go_simp
        exact hK _ _ rfl ⟨hG.1.more (by omega), hG.2⟩ (fun _ _ h => h)
      · intro n A W hn hG hL hP K hK
        have e0 : A.tmps.getD 6 undef = .string s := hL.same 6 (by decide)
        go_simp
        exact hK _ _ rfl ⟨hG.1.more (by omega), hG.2⟩ (fun _ _ h => h)
      · intro n A W hn hG hL hP K hK
        have e0 : A.tmps.getD 7 undef = .int .i64 (k : Int) := hL.same 7 (by decide)
        go_simp
        exact hK _ _ rfl ⟨hG.1.more (by omega), hG.2⟩ (fun _ _ h => h)
      · intro n A W hn hG hL hP K hK
        have e1 : A.tmps.getD 25 undef = .string s := hP 1 (by kernel_rfl) _ rfl
        have e2 : A.tmps.getD 26 undef = .int .i64 (k : Int) := hP 2 (by kernel_rfl) _ rfl
        have q1 : (k : Int) ≤ (s.size : Int) := by omega
        have q0 : (0 : Int) ≤ (k : Int) := by omega
        go_simp
        exact hK _ _ ⟨_, rfl, by rw [ByteArray.size_extract]; omega⟩ ⟨hG.1.more (by omega), hG.2⟩ (fun _ _ h => h)
      · intro n A W hn hG hL hP K hK
        go_simp
        exact hK _ _ ⟨W.heap.size, rfl, hG.2.1.size, blk_new W 9 pieces⟩ ⟨(hG.1.below ((Below.refl _ _).alloc (Nat.le_refl _) _)).more (by omega), hG.2.1.alloc _, by obtain ⟨p1, p2, p3, p4, p5, hR⟩ := hG.2.2; exact ⟨p1, p2, p3, p4, p5, hR.alloc _⟩⟩ (VE.keep (fun b _ h2 => Below.heap_alloc _ _ _ h2))
      · intro n A W hn hG hL hP K hK
        have e0 : A.tmps.getD 4 undef = .pointer (some ⟨g, 0, none⟩) := hL.same 4 (by decide)
        go_simp
        exact hK _ _ rfl ⟨hG.1.more (by omega), hG.2⟩ (fun _ _ h => h)
      · intro n A W hn hG hL hP K hK
        have e0 : A.tmps.getD 29 undef = .pointer (some ⟨g, 0, none⟩) := hP 5 (by kernel_rfl) _ rfl
        go_simp
        refine (pick_any g a len cap (M + 20 * n) 6 W (by omega) hG.1).mono ?_
        rintro e w' ⟨r, rfl, r0, r1, hc, ho⟩
        exact hK _ _ ⟨r.toNat, by rw [Int.toNat_of_nonneg r0], by omega⟩ ⟨hc.more (by omega), hG.2.1.trans (apart_only ho), by obtain ⟨p1, p2, p3, p4, p5, hR⟩ := hG.2.2; exact ⟨p1, p2, p3, p4, p5, (ho.block _ hR.lt (by omega)).trans hR⟩⟩ (VE.keep (fun b h1 h2 => ho.block b h2 (by omega)))
      · intro n A W hn hG hL hP K hK
        obtain ⟨b, e1, hb⟩ : ∃ b, A.tmps.getD 28 undef = .slice (some ⟨b, 0, none⟩) 6 6 ∧ W7.heap.size ≤ b ∧ Blk W b 9 pieces := hP 4 (by kernel_rfl) _ rfl
        obtain ⟨r, e2, hr⟩ : ∃ r : Nat, A.tmps.getD 30 undef = .int .i64 (r : Int) ∧ r < 6 := hP 6 (by kernel_rfl) _ rfl
        have hr2 : (r : Int) < 6 := by omega
        have hr0 : (0 : Int) ≤ (r : Int) := by omega
        have HB := Lib.hid hb
        clear hb
        go_simp
        exact hK _ _ ⟨b, r, rfl, hr, HB.out⟩ ⟨hG.1.more (by omega), hG.2⟩ (fun _ _ h => h)
      · intro n A W hn hG hL hP K hK
        obtain ⟨b, r, e1, hr, hb0, hb⟩ : ∃ b r, A.tmps.getD 31 undef = .pointer (some ⟨b, r, none⟩) ∧ r < 6 ∧ W7.heap.size ≤ b ∧ Blk W b 9 pieces := hP 7 (by kernel_rfl) _ rfl
        obtain ⟨z, hz, hzs⟩ : ∃ z : ByteArray, W.cell? ⟨b, r, none⟩ = some (.string z) ∧ Hid (z.size ≤ 7) := by
          have : r = 0 ∨ r = 1 ∨ r = 2 ∨ r = 3 ∨ r = 4 ∨ r = 5 := by omega
          rcases this with rfl | rfl | rfl | rfl | rfl | rfl
          · exact ⟨_, hb.cell 0, Lib.hid (by decide)⟩
          · exact ⟨_, hb.cell 1, Lib.hid (by decide)⟩
          · exact ⟨_, hb.cell 2, Lib.hid (by decide)⟩
          · exact ⟨_, hb.cell 3, Lib.hid (by decide)⟩
          · exact ⟨_, hb.cell 4, Lib.hid (by decide)⟩
          · exact ⟨_, hb.cell 5, Lib.hid (by decide)⟩
        clear hb
        go_simp
        exact hK _ _ ⟨z, rfl, hzs.out⟩ ⟨hG.1.more (by omega), hG.2⟩ (fun _ _ h => h)
      · intro n A W hn hG hL hP K hK
        obtain ⟨t1, e1, h1⟩ : ∃ t : ByteArray, A.tmps.getD 27 undef = .string t ∧ t.size ≤ 200 := hP 3 (by kernel_rfl) _ rfl
        obtain ⟨t2, e2, h2⟩ : ∃ t : ByteArray, A.tmps.getD 32 undef = .string t ∧ t.size ≤ 7 := hP 8 (by kernel_rfl) _ rfl
        have e1' : A.tmps[27]?.getD undef = .string t1 := by simpa using e1
        have e2' : A.tmps[32]?.getD undef = .string t2 := by simpa using e2
        have hle3 : ¬ 9223372036854775807 < t1.size + t2.size := by omega
        go_simp
        exact hK _ _ ⟨_, rfl, by rw [ByteArray.size_append]; omega⟩ ⟨hG.1.more (by omega), hG.2⟩ (fun _ _ h => h)
      · intro n A W hn hG hL hP K hK
        have e0 : A.tmps.getD 6 undef = .string s := hL.same 6 (by decide)
        go_simp
        exact hK _ _ rfl ⟨hG.1.more (by omega), hG.2⟩ (fun _ _ h => h)
      · intro n A W hn hG hL hP K hK
        have e0 : A.tmps.getD 6 undef = .string s := hL.same 6 (by decide)
        go_simp
        exact hK _ _ rfl ⟨hG.1.more (by omega), hG.2⟩ (fun _ _ h => h)
      · intro n A W hn hG hL hP K hK
        have e0 : A.tmps.getD 35 undef = .string s := hP 11 (by kernel_rfl) _ rfl
        go_simp
        exact hK _ _ rfl ⟨hG.1.more (by omega), hG.2⟩ (fun _ _ h => h)
      · intro n A W hn hG hL hP K hK
        have e0 : A.tmps.getD 7 undef = .int .i64 (k : Int) := hL.same 7 (by decide)
        go_simp
        exact hK _ _ rfl ⟨hG.1.more (by omega), hG.2⟩ (fun _ _ h => h)
      · intro n A W hn hG hL hP K hK
        have e0 : A.tmps.getD 4 undef = .pointer (some ⟨g, 0, none⟩) := hL.same 4 (by decide)
        go_simp
        exact hK _ _ rfl ⟨hG.1.more (by omega), hG.2⟩ (fun _ _ h => h)
      · intro n A W hn hG hL hP K hK
        have e0 : A.tmps.getD 38 undef = .pointer (some ⟨g, 0, none⟩) := hP 14 (by kernel_rfl) _ rfl
        go_simp
        refine (pick_any g a len cap (M + 20 * n) 2 W (by omega) hG.1).mono ?_
        rintro e w' ⟨r, rfl, r0, r1, hc, ho⟩
        exact hK _ _ ⟨r.toNat, by rw [Int.toNat_of_nonneg r0], by omega⟩ ⟨hc.more (by omega), hG.2.1.trans (apart_only ho), by obtain ⟨p1, p2, p3, p4, p5, hR⟩ := hG.2.2; exact ⟨p1, p2, p3, p4, p5, (ho.block _ hR.lt (by omega)).trans hR⟩⟩ (VE.keep (fun b h1 h2 => ho.block b h2 (by omega)))
      · intro n A W hn hG hL hP K hK
        have e1 : A.tmps.getD 37 undef = .int .i64 (k : Int) := hP 13 (by kernel_rfl) _ rfl
        obtain ⟨r, e2, hr⟩ : ∃ r : Nat, A.tmps.getD 39 undef = .int .i64 (r : Int) ∧ r < 2 := hP 15 (by kernel_rfl) _ rfl
        have hw : IntKind.i64.wrap ((k : Int) + (r : Int)) = ((k + r : Nat) : Int) := by rw [IntKind.wrap_i64]; omega
        go_simp
        exact hK _ _ ⟨k + r, by first | rfl | simp, by omega⟩ ⟨hG.1.more (by omega), hG.2⟩ (fun _ _ h => h)
      · intro n A W hn hG hL hP K hK
        have e1 : A.tmps.getD 36 undef = .int .i64 (s.size : Int) := hP 12 (by kernel_rfl) _ rfl
        obtain ⟨r, e2, hr⟩ : ∃ r : Nat, A.tmps.getD 40 undef = .int .i64 (r : Int) ∧ r ≤ 201 := hP 16 (by kernel_rfl) _ rfl
        obtain ⟨m, hm, hms2⟩ : ∃ m : Nat, min (s.size : Int) (r : Int) = (m : Int) ∧ m ≤ s.size := ⟨min s.size r, by omega, by omega⟩
        go_simp
        exact hK _ _ ⟨m, by first | rfl | rw [hm] | simp [hm], hms2⟩ ⟨hG.1.more (by omega), hG.2⟩ (fun _ _ h => h)
      · intro n A W hn hG hL hP K hK
        have e1 : A.tmps.getD 34 undef = .string s := hP 10 (by kernel_rfl) _ rfl
        obtain ⟨r, e2, hr⟩ : ∃ r : Nat, A.tmps.getD 41 undef = .int .i64 (r : Int) ∧ r ≤ s.size := hP 17 (by kernel_rfl) _ rfl
        have q1 : (r : Int) ≤ (s.size : Int) := by omega
        have q0 : (0 : Int) ≤ (r : Int) := by omega
        go_simp
        exact hK _ _ ⟨_, rfl, by rw [ByteArray.size_extract]; omega⟩ ⟨hG.1.more (by omega), hG.2⟩ (fun _ _ h => h)
      · intro n A W hn hG hL hP K hK
        obtain ⟨t1, e1, h1⟩ : ∃ t : ByteArray, A.tmps.getD 33 undef = .string t ∧ t.size ≤ 207 := hP 9 (by kernel_rfl) _ rfl
        obtain ⟨t2, e2, h2⟩ : ∃ t : ByteArray, A.tmps.getD 42 undef = .string t ∧ t.size ≤ 200 := hP 18 (by kernel_rfl) _ rfl
        have e1' : A.tmps[33]?.getD undef = .string t1 := by simpa using e1
        have e2' : A.tmps[42]?.getD undef = .string t2 := by simpa using e2
        have hle3 : ¬ 9223372036854775807 < t1.size + t2.size := by omega
        go_simp
        exact hK _ _ ⟨_, rfl, by rw [ByteArray.size_append]; omega⟩ ⟨hG.1.more (by omega), hG.2⟩ (fun _ _ h => h)
      · intro n A W hn hG hL hP K hK
        have e0 : A.tmps.getD 2 undef = .pointer (some ⟨w.heap.size, 0, none⟩) := hL.same 2 (by decide)
        have e1 : A.tmps.getD 24 undef = (.agg #[.int .i64 c.d, .slice aw c.ws.length cw, .slice am c.ms.length cm, .int .i64 c.dl, .int .i64 c.lt]) := hP 0 (by kernel_rfl) _ rfl
        obtain ⟨p1, p2, p3, p4, p5, hR⟩ := hG.2.2
        have c0 := hR.cell 0
        have c1 := hR.cell 1
        have c2 := hR.cell 2
        have c3 := hR.cell 3
        have c4 := hR.cell 4
        have rf := hR.frozen
        simp at c0 c1 c2 c3 c4
        have HR := Lib.hid (show Blk (five w.heap.size (.int .i64 c.d) (.slice aw c.ws.length cw) (.slice am c.ms.length cm) (.int .i64 c.dl) (.int .i64 c.lt) W) w.heap.size 27 [.int .i64 c.d, .slice aw c.ws.length cw, .slice am c.ms.length cm, .int .i64 c.dl, .int .i64 c.lt] ∧ (∀ b, b ≠ w.heap.size → (five w.heap.size (.int .i64 c.d) (.slice aw c.ws.length cw) (.slice am c.ms.length cm) (.int .i64 c.dl) (.int .i64 c.lt) W).heap[b]? = W.heap[b]?) ∧ Curs g a len cap (M + 20 * (n + 1)) (five w.heap.size (.int .i64 c.d) (.slice aw c.ws.length cw) (.slice am c.ms.length cm) (.int .i64 c.dl) (.int .i64 c.lt) W) ∧ Apart [g, w.heap.size] W7 (five w.heap.size (.int .i64 c.d) (.slice aw c.ws.length cw) (.slice am c.ms.length cm) (.int .i64 c.dl) (.int .i64 c.lt) W) from
          ⟨five_blk hR, five_other, (hG.1.keepR HAD.out five_below five_other (by omega)).more (by omega), by unfold five; exact ((((hG.2.1.setCell (by simp) _ _).setCell (by simp) _ _).setCell (by simp) _ _).setCell (by simp) _ _).setCell (by simp) _ _⟩)
        unfold five at HR
        clear hR
        go_simp
        exact hK undef _ HR.out.1 ⟨HR.out.2.2.1, HR.out.2.2.2, _, _, _, _, _, HR.out.1⟩ (VE.keep2 (fun b h1 _ => HR.out.2.1 b (by omega)) (fun _ => HR.out.1))
    · intro W f hG hV
      obtain ⟨t, e3, ht⟩ : ∃ t : ByteArray, f 43 = .string t ∧ t.size ≤ 407 := hV 19 _ (by omega) rfl
      obtain ⟨_, hR⟩ : ∃ _ : Value, Blk W w.heap.size 27 [.int .i64 c.d, .slice aw c.ws.length cw, .slice am c.ms.length cm, .int .i64 c.dl, .int .i64 c.lt] := hV 20 _ (by omega) rfl
      have HR := Lib.hid hR
      have HAA := Lib.hid hG.2.1
      clear hR hG hV
      simp [mix.lit]
      rw [e3]
      go_wp2_with fail
      have z0 := HR.out.cell 0
      have z1 := HR.out.cell 1
      have z2 := HR.out.cell 2
      have z3 := HR.out.cell 3
      have z4 := HR.out.cell 4
      simp at z0 z1 z2 z3 z4
      have hAW : ConfAt W1.heap.size c (.slice aw c.ws.length cw) (.slice am c.ms.length cm) W := A7.out.stay (fun b h1 h2 => HAA.out.block b h2 (by simp; omega))
      obtain ⟨hh, fp, e0, e1, hIs⟩ := conf_is hAW
      have hlist : Config.list c hh = [.int .i64 c.d, .slice aw c.ws.length cw, .slice am c.ms.length cm, .int .i64 c.dl, .int .i64 c.lt] := by unfold Config.list; rw [← e0, ← e1]
      have hBel : Below w.heap.size w W := B7.out.trans (HAA.out.below (by intro b hb; simp at hb; omega) (by omega))
      exact bodyPost_ret (v := .tuple #[(.agg #[.int .i64 c.d, .slice aw c.ws.length cw, .slice am c.ms.length cm, .int .i64 c.dl, .int .i64 c.lt]), .string t]) (by simp [results, Tryd.results11, go_sem, z0, z1, z2, z3, z4]) rfl ⟨c, hh, fp, t, by rw [hlist], hIs, hws, hms, by omega, hBel⟩
end Go.Proofs.YtpoojmodebgioaaDoor.cur
