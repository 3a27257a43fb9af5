/-
  THE CONTRACTS OF (Pane).nums, (Row).nums, RowText of the program: a row's numbers in a new row; its line.
-/
import Derived.Test.YtemefahhogdoaaaDoorConcatInts
import Derived.Test.YtemefahhogdoaaaDoorFree
namespace Go.Proofs.YtemefahhogdoaaaDoor.dat
open Go.RowKit Go.Proofs.YtemefahhogdoaaaDoor.win
open Go.Proofs.YtemefahhogdoaaaDoor.num (Pow Pow.below Texted)

/-- A pane's numbers. -/
def PaneD.nums (x : PaneD) : List Int := [x.win, x.mask, x.start, (x.key.length : Int)] ++ x.key ++ [x.a.n, x.a.sm, x.a.mn, x.a.mx]
def ThreeAt (base : Nat) (kv : Value) (l0 l2 : List Int) (w : World) (g : Nat) : Prop := ∃ v9 v14, Blk w g 22 [v9, kv, v14] ∧ Grows 1 RInt 3 base w v9 l0 ∧ Grows 1 RInt 3 base w v14 l2 ∧ base ≤ g
theorem ThreeAt.keep {base : Nat} {kv : Value} {l0 l2 : List Int} {w w' : World} {g : Nat} (h : ThreeAt base kv l0 l2 w g) (hk : ∀ b, base ≤ b → b < w.heap.size → w'.heap[b]? = w.heap[b]?) : ThreeAt base kv l0 l2 w' g := by
  obtain ⟨v9, v14, h1, h2, h3, h4⟩ := h
  exact ⟨v9, v14, (hk g h4 h1.lt).trans h1, h2.keep local_int hk, h3.keep local_int hk, h4⟩
def VP (base x0 : Nat) (x : PaneD) (h : PaneH) (i : Nat) (w : World) (v : Value) : Prop := match i with
  | 0 => v = .pointer (some ⟨x0, 0, none⟩)
  | 1 => v = .int .i64 x.win
  | 2 => v = .pointer (some ⟨x0, 1, none⟩)
  | 3 => v = .int .i64 x.mask
  | 4 => v = .pointer (some ⟨x0, 2, none⟩)
  | 5 => v = .int .i64 x.start
  | 6 => v = .pointer (some ⟨x0, 3, none⟩)
  | 7 => v = .slice h.keya h.keyl h.keyc
  | 8 => v = .int .i64 (h.keyl : Int)
  | 9 => Grows 1 RInt 3 base w v [x.win, x.mask, x.start, (h.keyl : Int)]
  | 10 => v = .pointer (some ⟨x0, 3, none⟩)
  | 11 => v = .slice h.keya h.keyl h.keyc
  | 12 => v = .pointer (some ⟨x0, 4, none⟩)
  | 13 => v = .agg #[.int .i64 x.a.n, .int .i64 x.a.sm, .int .i64 x.a.mn, .int .i64 x.a.mx]
  | 14 => Grows 1 RInt 3 base w v [x.a.n, x.a.sm, x.a.mn, x.a.mx]
  | 15 => ∃ g, v = .slice (some ⟨g, 0, none⟩) 3 3 ∧ ThreeAt base (.slice h.keya h.keyl h.keyc) [x.win, x.mask, x.start, (h.keyl : Int)] [x.a.n, x.a.sm, x.a.mn, x.a.mx] w g
  | 16 => Grows 1 RInt 3 base w v ([x.win, x.mask, x.start, (h.keyl : Int)] ++ x.key ++ [x.a.n, x.a.sm, x.a.mn, x.a.mx])
  | 17 => Grows 1 RInt 3 base w v ([x.win, x.mask, x.start, (h.keyl : Int)] ++ x.key ++ [x.a.n, x.a.sm, x.a.mn, x.a.mx])
  | _ => True
theorem VP.keep {base x0 : Nat} {x : PaneD} {h : PaneH} {w w' : World} (hk : ∀ b, base ≤ b → b < w.heap.size → w'.heap[b]? = w.heap[b]?) (j : Nat) (u : Value) (hv : VP base x0 x h j w u) : VP base x0 x h j w' u := by
  unfold VP at *
  split at hv <;> first | exact hv | exact hv.keep local_int hk | (obtain ⟨g, e, hf⟩ := hv; exact ⟨g, e, hf.keep hk⟩)
theorem grows_row {base : Nat} {w : World} {v : Value} {l : List Int} (h : Grows 1 RInt 3 base w v l) : ∃ a len cap fp, v = .slice a len cap ∧ GRow 1 RInt w a len l fp := by
  obtain ⟨a, cap, fp, e, g, _⟩ := h.done
  exact ⟨a, _, cap, fp, e, g⟩
theorem three_rows {base : Nat} {ka : Option Addr} {kl kc : Nat} {key l0 l2 : List Int} {w : World} {g : Nat} {fp : List Nat} (h : ThreeAt base (.slice ka kl kc) l0 l2 w g) (hr : GRow 1 RInt w ka kl key fp) (h0 : l0.length ≤ 2000000) (h1 : kl ≤ 2000000) (h2 : l2.length ≤ 2000000) :
    RowsAt w g 3 (fun j => if j = 0 then l0 else if j = 1 then key else l2) := by
  obtain ⟨v9, v14, hb, g9, g14, hg⟩ := h
  intro j hj
  have : j = 0 ∨ j = 1 ∨ j = 2 := by omega
  rcases this with rfl | rfl | rfl
  · obtain ⟨a, len, cap, f, rfl, hh⟩ := grows_row g9
    exact ⟨a, len, cap, f, by simpa using hb.cell 0, by simpa using hh, by rw [← hh.1]; exact h0, hb.lt⟩
  · exact ⟨ka, kl, kc, fp, by simpa using hb.cell 1, by simpa using hr, h1, hb.lt⟩
  · obtain ⟨a, len, cap, f, rfl, hh⟩ := grows_row g14
    exact ⟨a, len, cap, f, by simpa using hb.cell 2, by simpa using hh, by rw [← hh.1]; exact h2, hb.lt⟩

set_option maxRecDepth 100000 in
set_option maxHeartbeats 4000000 in
theorem paneNums (x : PaneD) (h : PaneH) (fp : List Nat) (w : World) (hin : Pane.Is w x h fp) (hk : h.keyl ≤ 2000000) :
    Calls Tryd.prog 30 #[.agg (Pane.list x h).toArray] w (fun e w' => ∃ v, e = .returned v ∧ Grows 1 RInt 3 w.heap.size w' v x.nums ∧ Below w.heap.size w w') := by
  obtain ⟨f0, rfl, r0, u0, v0⟩ := hin
  have hl0 := r0.1
  have hnum : x.nums = [x.win, x.mask, x.start, (h.keyl : Int)] ++ x.key ++ [x.a.n, x.a.sm, x.a.mn, x.a.mx] := by unfold PaneD.nums; rw [hl0]
  rw [hnum]
  have HR := Lib.hid r0
  clear hnum hl0 r0 u0 v0
  simp only [Pane.list]
  go_enter Tryd.func30, Tryd.ntmps30
  go_wp2_with fail
  refine wp_gen (fun W => Below w.heap.size w W ∧ Blk W w.heap.size 39 [.int .i64 x.win, .int .i64 x.mask, .int .i64 x.start, .slice h.keya h.keyl h.keyc, .int .i64 x.a.n, .int .i64 x.a.sm, .int .i64 x.a.mn, .int .i64 x.a.mx]) ⟨by repeat (first | exact Below.refl _ _ | refine Below.setCell ?_ (by first | omega | (simp; done) | (simp; omega)) _ | refine Below.alloc ?_ (by first | omega | (simp; done) | (simp; omega)) _ | apply Below.drew), by with_reducible (repeat (first | (refine blk_new_at _ _ _ _ ?_; first | rfl | (simp; done)) | refine Blk.alloc ?_ _ | apply Blk.drew | refine Blk.setOther ?_ (by first | (simp; done) | (simp; omega)) _))⟩ ?_
  rintro W1 ⟨b1, k1⟩
  have B1 := Lib.hid b1
  have K1 := Lib.hid k1
  have R1 := Lib.hid (HR.out.below local_int b1)
  have hx0 := k1.lt
  clear b1 k1
  refine mix.wp_region_free (VP W1.heap.size w.heap.size x h) (fun _ wx => Below W1.heap.size W1 wx) 20 [3, 4, 5, 6, 7, 8, 9, 10, 11, 12, 13, 14, 15, 16, 17, 18, 19, 2] rfl (by kernel_rfl) (by kernel_rfl) (by kernel_rfl) (Below.refl _ _).drew ?_ ?_
  · refine ⟨?_, ?_, ?_, ?_, ?_, ?_, ?_, ?_, ?_, ?_, ?_, ?_, ?_, ?_, ?_, ?_, ?_, ?_, trivial⟩
    · intro n A W hn hG hL hP K hK
      have e0 : A.tmps.getD 1 undef = .pointer (some ⟨w.heap.size, 0, none⟩) := hL.same 1 (by decide)
      go_simp
      exact hK _ _ rfl hG (fun _ _ h => h)
    · intro n A W hn hG hL hP K hK
      have e1 : A.tmps.getD 3 undef = .pointer (some ⟨w.heap.size, 0, none⟩) := hP 0 (by kernel_rfl) _ _ rfl rfl
      have c0 := (hG.cell (p := ⟨w.heap.size, 0, none⟩) hx0).trans (K1.out.cell 0)
      simp at c0
      go_simp
      exact hK _ _ rfl hG (fun _ _ h => h)
    · intro n A W hn hG hL hP K hK
      have e0 : A.tmps.getD 1 undef = .pointer (some ⟨w.heap.size, 0, none⟩) := hL.same 1 (by decide)
      go_simp
      exact hK _ _ rfl hG (fun _ _ h => h)
    · intro n A W hn hG hL hP K hK
      have e1 : A.tmps.getD 5 undef = .pointer (some ⟨w.heap.size, 1, none⟩) := hP 2 (by kernel_rfl) _ _ rfl rfl
      have c1 := (hG.cell (p := ⟨w.heap.size, 1, none⟩) hx0).trans (K1.out.cell 1)
      simp at c1
      go_simp
      exact hK _ _ rfl hG (fun _ _ h => h)
    · intro n A W hn hG hL hP K hK
      have e0 : A.tmps.getD 1 undef = .pointer (some ⟨w.heap.size, 0, none⟩) := hL.same 1 (by decide)
      go_simp
      exact hK _ _ rfl hG (fun _ _ h => h)
    · intro n A W hn hG hL hP K hK
      have e1 : A.tmps.getD 7 undef = .pointer (some ⟨w.heap.size, 2, none⟩) := hP 4 (by kernel_rfl) _ _ rfl rfl
      have c2 := (hG.cell (p := ⟨w.heap.size, 2, none⟩) hx0).trans (K1.out.cell 2)
      simp at c2
      go_simp
      exact hK _ _ rfl hG (fun _ _ h => h)
    · intro n A W hn hG hL hP K hK
      have e0 : A.tmps.getD 1 undef = .pointer (some ⟨w.heap.size, 0, none⟩) := hL.same 1 (by decide)
      go_simp
      exact hK _ _ rfl hG (fun _ _ h => h)
    · intro n A W hn hG hL hP K hK
      have e1 : A.tmps.getD 9 undef = .pointer (some ⟨w.heap.size, 3, none⟩) := hP 6 (by kernel_rfl) _ _ rfl rfl
      have c3 := (hG.cell (p := ⟨w.heap.size, 3, none⟩) hx0).trans (K1.out.cell 3)
      simp at c3
      go_simp
      exact hK _ _ rfl hG (fun _ _ h => h)
    · intro n A W hn hG hL hP K hK
      have e1 : A.tmps.getD 10 undef = .slice h.keya h.keyl h.keyc := hP 7 (by kernel_rfl) _ _ rfl rfl
      go_simp
      exact hK _ _ rfl hG (fun _ _ h => h)
    · intro n A W hn hG hL hP K hK
      have e1 : A.tmps.getD 4 undef = .int .i64 x.win := hP 1 (by kernel_rfl) _ _ rfl rfl
      have e2 : A.tmps.getD 6 undef = .int .i64 x.mask := hP 3 (by kernel_rfl) _ _ rfl rfl
      have e3 : A.tmps.getD 8 undef = .int .i64 x.start := hP 5 (by kernel_rfl) _ _ rfl rfl
      have e4 : A.tmps.getD 11 undef = .int .i64 (h.keyl : Int) := hP 8 (by kernel_rfl) _ _ rfl rfl
      have e1' : A.tmps[4]?.getD undef = .int .i64 x.win := by simpa using e1
      have e2' : A.tmps[6]?.getD undef = .int .i64 x.mask := by simpa using e2
      have e3' : A.tmps[8]?.getD undef = .int .i64 x.start := by simpa using e3
      have e4' : A.tmps[11]?.getD undef = .int .i64 (h.keyl : Int) := by simpa using e4
      go_simp
      refine hK _ _ (Grows.built W.heap.size [x.win, x.mask, x.start, (h.keyl : Int)] [.int .i64 x.win, .int .i64 x.mask, .int .i64 x.start, .int .i64 (h.keyl : Int)] rfl (fun i y c hy hc => ?_) hG.size (blk_new W _ _) (show 4 ≤ maxLen by decide)) (hG.alloc hG.size _) (VP.keep (fun b _ h2 => Below.heap_alloc _ _ _ h2))
      rcases i with _ | _ | _ | _ | i <;> simp at hy hc <;> (subst hy hc; exact ⟨rfl, rfl⟩)
    · intro n A W hn hG hL hP K hK
      have e0 : A.tmps.getD 1 undef = .pointer (some ⟨w.heap.size, 0, none⟩) := hL.same 1 (by decide)
      go_simp
      exact hK _ _ rfl hG (fun _ _ h => h)
    · intro n A W hn hG hL hP K hK
      have e1 : A.tmps.getD 13 undef = .pointer (some ⟨w.heap.size, 3, none⟩) := hP 10 (by kernel_rfl) _ _ rfl rfl
      have c3 := (hG.cell (p := ⟨w.heap.size, 3, none⟩) hx0).trans (K1.out.cell 3)
      simp at c3
      go_simp
      exact hK _ _ rfl hG (fun _ _ h => h)
    · intro n A W hn hG hL hP K hK
      have e0 : A.tmps.getD 1 undef = .pointer (some ⟨w.heap.size, 0, none⟩) := hL.same 1 (by decide)
      go_simp
      exact hK _ _ rfl hG (fun _ _ h => h)
    · intro n A W hn hG hL hP K hK
      have e1 : A.tmps.getD 15 undef = .pointer (some ⟨w.heap.size, 4, none⟩) := hP 12 (by kernel_rfl) _ _ rfl rfl
      have c4 := (hG.cell (p := ⟨w.heap.size, 4, none⟩) hx0).trans (K1.out.cell 4)
      have c5 := (hG.cell (p := ⟨w.heap.size, 5, none⟩) hx0).trans (K1.out.cell 5)
      have c6 := (hG.cell (p := ⟨w.heap.size, 6, none⟩) hx0).trans (K1.out.cell 6)
      have c7 := (hG.cell (p := ⟨w.heap.size, 7, none⟩) hx0).trans (K1.out.cell 7)
      simp at c4 c5 c6 c7
      go_simp
      exact hK _ _ rfl hG (fun _ _ h => h)
    · intro n A W hn hG hL hP K hK
      have e1 : A.tmps.getD 16 undef = .agg #[.int .i64 x.a.n, .int .i64 x.a.sm, .int .i64 x.a.mn, .int .i64 x.a.mx] := hP 13 (by kernel_rfl) _ _ rfl rfl
      go_simp
      refine (aggNums x.a.n x.a.sm x.a.mn x.a.mx W).mono ?_
      rintro e w' ⟨v, rfl, hGr, hb⟩
      exact hK _ _ (Grows.lower hGr hG.size) (hG.trans (hb.mono hG.size)) (VP.keep (fun b _ h2 => hb.block b h2))
    · intro n A W hn hG hL hP K hK
      have g9 : Grows 1 RInt 3 W1.heap.size W (A.tmps.getD 12 undef) [x.win, x.mask, x.start, (h.keyl : Int)] := hP 9 (by kernel_rfl) _ _ rfl rfl
      have g14 : Grows 1 RInt 3 W1.heap.size W (A.tmps.getD 17 undef) [x.a.n, x.a.sm, x.a.mn, x.a.mx] := hP 14 (by kernel_rfl) _ _ rfl rfl
      have e2 : A.tmps.getD 14 undef = .slice h.keya h.keyl h.keyc := hP 11 (by kernel_rfl) _ _ rfl rfl
      obtain ⟨a9, c9, e1⟩ := g9.slice
      obtain ⟨a14, c14, e3⟩ := g14.slice
      rw [e1] at g9
      rw [e3] at g14
      have e1' : A.tmps[12]?.getD undef = .slice a9 4 c9 := by simpa using e1
      have e2' : A.tmps[14]?.getD undef = .slice h.keya h.keyl h.keyc := by simpa using e2
      have e3' : A.tmps[17]?.getD undef = .slice a14 4 c14 := by simpa using e3
      have G9 := Lib.hid g9
      have G14 := Lib.hid g14
      clear g9 g14 e1 e2 e3
      go_simp
      exact hK _ _ ⟨W.heap.size, rfl, _, _, blk_new W _ _, G9.out.below local_int ((Below.refl _ _).alloc (Nat.le_refl _) _), G14.out.below local_int ((Below.refl _ _).alloc (Nat.le_refl _) _), hG.size⟩ (hG.alloc hG.size _) (VP.keep (fun b _ h2 => Below.heap_alloc _ _ _ h2))
    · intro n A W hn hG hL hP K hK
      obtain ⟨g, e1, h3⟩ : ∃ g, A.tmps.getD 18 undef = .slice (some ⟨g, 0, none⟩) 3 3 ∧ ThreeAt W1.heap.size (.slice h.keya h.keyl h.keyc) [x.win, x.mask, x.start, (h.keyl : Int)] [x.a.n, x.a.sm, x.a.mn, x.a.mx] W g := hP 15 (by kernel_rfl) _ _ rfl rfl
      have hrows := three_rows h3 (R1.out.below local_int hG) (by simp) hk (by simp)
      go_simp
      refine (concatN g 3 _ W (by omega) hrows).mono ?_
      rintro e w' ⟨v, rfl, hGr, hb⟩
      refine hK _ _ ?_ (hG.trans (hb.mono hG.size)) (VP.keep (fun b _ h2 => hb.block b h2))
      have := Grows.lower hGr hG.size
      simpa [ccat, VP] using this
    · intro n A W hn hG hL hP K hK
      have e1 : Grows 1 RInt 3 W1.heap.size W (A.tmps.getD 19 undef) ([x.win, x.mask, x.start, (h.keyl : Int)] ++ x.key ++ [x.a.n, x.a.sm, x.a.mn, x.a.mx]) := hP 16 (by kernel_rfl) _ _ rfl rfl
      have e1' : Grows 1 RInt 3 W1.heap.size W (A.tmps[19]?.getD undef) ([x.win, x.mask, x.start, (h.keyl : Int)] ++ x.key ++ [x.a.n, x.a.sm, x.a.mn, x.a.mx]) := by simpa using e1
      go_simp
      exact hK _ _ e1' hG (fun _ _ h => h)
  · intro n wx f hn hG hV
    have g : Grows 1 RInt 3 W1.heap.size wx (f 2) ([x.win, x.mask, x.start, (h.keyl : Int)] ++ x.key ++ [x.a.n, x.a.sm, x.a.mn, x.a.mx]) := hV 17 _ 2 rfl rfl
    have HG := Lib.hid (And.intro g hG)
    clear g hG hV
    simp [mix.lit]
    go_wp2_with fail
    go_ret
    exact ⟨_, rfl, Grows.lower HG.out.1 B1.out.size, B1.out.trans (HG.out.2.mono B1.out.size)⟩
end Go.Proofs.YtemefahhogdoaaaDoor.dat
