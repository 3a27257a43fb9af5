/-
  THE CONTRACT OF THE CUBE'S panes: what it holds as panes in new memory, in an order by PaneCmp; nothing that was there is written.
-/
import Derived.Test.YtpcekmllmnfmmaaGreatCubePanes
namespace Go.Proofs.YtpcekmllmnfmmaaGreat.dat
open Go.RowKit Go.Proofs.YtpcekmllmnfmmaaGreat.win

/-- What panes hands back. -/
def Panes (c : ConfD) (F : CellD → Option AggD) (w : World) (r : Ending) (w' : World) : Prop := ∃ (v : Value) (L : List PaneD) (xs : List CellD), r = .returned v ∧ Grows 8 RPane 62 w.heap.size w' v L ∧ Below w.heap.size w w' ∧
  xs.Nodup ∧ (∀ x, x ∈ xs ↔ F x ≠ none) ∧ L.Perm (xs.map (pnOf c F)) ∧ L.Pairwise (fun x y => ¬ paneC y x < 0) ∧ L.length ≤ 9000000
theorem Grows.mono {α : Type} {k : Nat} {R : Rel α} {e : TypeId} {base base' : Nat} {w : World} {v : Value} {l : List α} (h : Grows k R e base w v l) (hb : base' ≤ base) : Grows k R e base' w v l := by
  obtain ⟨css, F, h1, h2, h3, h4, h5, h6, ho⟩ := h.ex
  refine ⟨css, F, h1, h2, h3, h4, h5, fun b hb' => ⟨Nat.le_trans hb (h6 b hb').1, (h6 b hb').2⟩, ho.1, ?_⟩
  rcases ho.2 with hn | ⟨g, cap, cur, hv, hg, rest⟩
  · exact .inl hn
  · exact .inr ⟨g, cap, cur, hv, Nat.le_trans hb hg, rest⟩
theorem pn_sz (c : ConfD) (F : CellD → Option AggD) (x : CellD) : Pane.sz (pnOf c F x) ≤ 2000000 := by
  unfold pnOf paneOf Pane.sz
  have := keyD_len c (maskOf c x) ([x.d0, x.d1, x.d2].take c.d.toNat)
  have h2 : ([x.d0, x.d1, x.d2].take c.d.toNat).length ≤ 3 := by simp; omega
  simp only
  omega

set_option maxRecDepth 100000 in
set_option maxHeartbeats 4000000 in
theorem cubePanes (c : ConfD) (ch : ConfigH) (cf : List Nat) (b n : Nat) (F : CellD → Option AggD) (w : World) (hc : Config.Is w c ch cf) (hok : confD c = true) (hm : MapAt cubeK w b n F) (hn : n ≤ 8000000) (hF : ∀ x a, F x = some a → ∃ (i : Nat) (m : Int), x.mask = (i : Int) ∧ i < ch.msl ∧ c.ms[i]? = some m) :
    Calls Tryz.prog 41 #[.map (some b), .agg (Config.list c ch).toArray] w (Panes c F w) := by
  have HC := Lib.hid hc
  have HM := Lib.hid hm
  have HF := Lib.hid hF
  have HOK := Lib.hid hok
  have hbl := hm.lt
  have HWF := Lib.hid (show ∀ x, F x ≠ none → Cell.Wf x from fun x hx => by obtain ⟨D, _, _, t⟩ := hm; exact t x hx)
  have HP := Lib.hid (fun x i m a W h1 h2 h3 h4 => paneAt_ c ch cf x i m a W h1 HOK.out h2 h3 h4)
  clear hc hm hF hok
  obtain ⟨i0, hi, hz0, hz1, hz2⟩ := info_parts info_Pane
  simp only [Config.list, Cell.v, Cell.list, aggV, Pane.list] at *
  go_enter Tryz.func41, Tryz.ntmps41
  go_wp2_with (first | (at_len; refine len_map cubeK _ rfl _ _ rfl rfl b n F rfl (HM.out.below ((Below.refl _ _).alloc (Nat.le_refl _) _)) ?_; intro s hs; have hmk := run_makeQ s (by omega)) | (at_range; refine range_map cubeK _ rfl _ _ rfl rfl b n F rfl (HM.out.below (((Below.refl _ _).alloc (Nat.le_refl _) _).alloc (by simp) _)) ?_; intro w1 cnt hcnt hr1 hb1 hs1))
  have szr : ((w.alloc (.cells #[.int .i64 c.d, .slice ch.wsa ch.wsl ch.wsc, .slice ch.msa ch.msl ch.msc, .int .i64 c.dl, .int .i64 c.lt] 33)).alloc (.cells (madeCells #[.int .i64 0, .int .i64 0, .int .i64 0, .slice none 0 0, .int .i64 0, .int .i64 0, .int .i64 0, .int .i64 0] (s * 8)) 62)).heap.size = w.heap.size + 1 + 1 := by simp
  have hbm : Below w.heap.size w ((w.alloc (.cells #[.int .i64 c.d, .slice ch.wsa ch.wsl ch.wsc, .slice ch.msa ch.msl ch.msc, .int .i64 c.dl, .int .i64 c.lt] 33)).alloc (.cells (madeCells #[.int .i64 0, .int .i64 0, .int .i64 0, .slice none 0 0, .int .i64 0, .int .i64 0, .int .i64 0, .int .i64 0] (s * 8)) 62)) := by repeat (first | exact Below.refl _ _ | refine Below.setCell ?_ (by first | omega | (simp; done) | (simp; omega)) _ | refine Below.alloc ?_ (by first | omega | (simp; done) | (simp; omega)) _ | apply Below.drew)
  have hkm : Blk ((w.alloc (.cells #[.int .i64 c.d, .slice ch.wsa ch.wsl ch.wsc, .slice ch.msa ch.msl ch.msc, .int .i64 c.dl, .int .i64 c.lt] 33)).alloc (.cells (madeCells #[.int .i64 0, .int .i64 0, .int .i64 0, .slice none 0 0, .int .i64 0, .int .i64 0, .int .i64 0, .int .i64 0] (s * 8)) 62)) w.heap.size 33 [.int .i64 c.d, .slice ch.wsa ch.wsl ch.wsc, .slice ch.msa ch.msl ch.msc, .int .i64 c.dl, .int .i64 c.lt] := by with_reducible (repeat (first | (refine blk_new_at _ _ _ _ ?_; first | rfl | (simp; done)) | refine Blk.alloc ?_ _ | apply Blk.drew | refine Blk.setOther ?_ (by first | (simp; done) | (simp; omega)) _))
  have hgm : Grows 8 RPane 62 (w.heap.size + 1) ((w.alloc (.cells #[.int .i64 c.d, .slice ch.wsa ch.wsl ch.wsc, .slice ch.msa ch.msl ch.msc, .int .i64 c.dl, .int .i64 c.lt] 33)).alloc (.cells (madeCells #[.int .i64 0, .int .i64 0, .int .i64 0, .slice none 0 0, .int .i64 0, .int .i64 0, .int .i64 0, .int .i64 0] (s * 8)) 62)) (.slice (some ⟨w.heap.size + 1, 0, none⟩) 0 s) [] := by
    have := Grows.made (k := 8) (R := RPane) (e := 62) (base := w.heap.size + 1) (w := w.alloc (.cells #[.int .i64 c.d, .slice ch.wsa ch.wsl ch.wsc, .slice ch.msa ch.msl ch.msc, .int .i64 c.dl, .int .i64 c.lt] 33)) (madeCells #[.int .i64 0, .int .i64 0, .int .i64 0, .slice none 0 0, .int .i64 0, .int .i64 0, .int .i64 0, .int .i64 0] (s * 8)) s (by simp) (by unfold maxLen; omega) (by rw [size_madeCells])
    simpa using this
  clear hmk
  generalize (w.alloc (.cells #[.int .i64 c.d, .slice ch.wsa ch.wsl ch.wsc, .slice ch.msa ch.msl ch.msc, .int .i64 c.dl, .int .i64 c.lt] 33)).alloc (.cells (madeCells #[.int .i64 0, .int .i64 0, .int .i64 0, .slice none 0 0, .int .i64 0, .int .i64 0, .int .i64 0, .int .i64 0] (s * 8)) 62) = wm at *
  rw [szr] at hr1
  have B1 := Lib.hid (hbm.trans (hb1.mono hbm.size))
  have K1 := Lib.hid (hkm.below hb1 hkm.lt)
  have G1 := Lib.hid (hgm.below local_Pane hb1)
  have R1 := Lib.hid hr1
  rw [szr]
  clear hbm hkm hgm hr1 hb1 hs1 szr
  go_frame
  go_loopg [5] cnt (fun k v wr => ∃ (left : CellD → Bool) (xs : List CellD), MapRange cubeK wr b (w.heap.size + 1 + 1) n F left k ∧ Met F left xs ∧ xs.length + k ≤ n ∧ Grows 8 RPane 62 (w.heap.size + 1) wr v (xs.map (pnOf c F)) ∧ v.ownBlock ≠ none ∧ Below w.heap.size w wr ∧ Blk wr w.heap.size 33 [.int .i64 c.d, .slice ch.wsa ch.wsl ch.wsc, .slice ch.msa ch.msl ch.msc, .int .i64 c.dl, .int .i64 c.lt])
  case atStart => exact ⟨_, [], R1.out, Met.start F, by simpa using hcnt, G1.out, by simp [Value.ownBlock], B1.out, K1.out⟩
  case round =>
    obtain ⟨left, xs, hr, hmet, hct, hG, hv, hB, hK⟩ := hrel
    have RR := Lib.hid hr
    have MM := Lib.hid hmet
    have GG := Lib.hid hG
    have VV := Lib.hid hv
    have BB := Lib.hid hB
    have KK := Lib.hid hK
    have hrl := hr.lt.2
    have NW := Lib.hid hr.notWr
    clear hr hmet hG hv hB hK
    go_wp2_with (at_next; refine next_map cubeK _ rfl _ rfl b (w.heap.size + 1 + 1) n F left gk rfl RR.out ?_ ?_)
    · intro h0
      have HD := Lib.hid (MM.out.done h0 HWF.out)
      have HS := Lib.hid (sortPanes GG.out VV.out (fun p hp => by obtain ⟨x, _, rfl⟩ := List.mem_map.1 hp; exact pn_sz c F x) (by simp; omega))
      clear h0
      go_wp2_with (go_at_call 77; refine HS.out.mono ?_; rintro e w3 ⟨rfl, L, hp3, hs3, hG3, hb3⟩)
      go_ret
      exact ⟨_, L, xs, rfl, hG3.mono (by omega), BB.out.trans (hb3.mono (by omega)), MM.out.nd, HD.out, hp3, hs3.imp (fun {x y} h => by omega), by rw [hp3.length_eq]; simp; omega⟩
    · intro x a w2 cnt2 hwf hlx hFx hr2 hlt2 hg2 hs2 hen
      obtain ⟨ix, m, hxi, hix, hu⟩ := HF.out x a hFx
      have hmo : maskOf c x = m := by unfold maskOf; rw [hxi, Int.toNat_natCast, hu]; rfl
      have hpn : pnOf c F x = paneOf c m x a := by unfold pnOf; rw [hmo, hFx]; rfl
      have bg : Below w.heap.size wr w2 := ⟨hg2.os, hg2.tape, hg2.output, hg2.size, fun k hk => hg2.block k (by have := BB.out.size; omega) (by simp; omega)⟩
      have B2 := Lib.hid (BB.out.trans bg)
      have K2 := Lib.hid (show Blk w2 w.heap.size 33 [.int .i64 c.d, .slice ch.wsa ch.wsl ch.wsc, .slice ch.msa ch.msl ch.msc, .int .i64 c.dl, .int .i64 c.lt] from (hg2.block w.heap.size (by omega) (by simp; omega)).trans KK.out)
      have G2 := Lib.hid (GG.out.but (w' := w2) local_Pane NW.out (fun k hk hne => hg2.block k hk (by simp; exact hne)))
      have R2 := Lib.hid hr2
      have M2 := Lib.hid (MM.out.step hwf hlx hFx)
      have HPN := Lib.hid hpn
      have HX := Lib.hid (And.intro hxi (And.intro hix hu))
      have hrl2 : w.heap.size + 1 + 1 < w2.heap.size := by omega
      have hkl2 : w.heap.size < w2.heap.size := by omega
      replace hen : (Instr.entry (.pointer (some ⟨w.heap.size + 1 + 1, 0, none⟩))).run Tryz.prog w2 = .ok (.tuple #[.agg #[.int .i64 x.win, .int .i64 x.mask, .int .i64 x.start, .int .i64 x.d0, .int .i64 x.d1, .int .i64 x.d2], .agg #[.int .i64 a.n, .int .i64 a.sm, .int .i64 a.mn, .int .i64 a.mx]]) w2 := hen
      have k2 := K2.out
      have e0 := k2.cell 0
      have e1 := k2.cell 1
      have e2 := k2.cell 2
      have e3 := k2.cell 3
      have e4 := k2.cell 4
      simp at e0 e1 e2 e3 e4
      have LX := Lib.hid (show (xs.map (pnOf c F)).length ≤ 8000000 by simp; omega)
      have XL := Lib.hid (show (xs ++ [x]).length + cnt2 ≤ n by simp; omega)
      clear hr2 hg2 hs2 hxi hix hu hmo hpn hFx hwf hlx bg k2
      simp only [Cell.v, Cell.list, cubeK, aggV]
      go_wp2_with fail
      refine calls_gen (fun W => Below w2.heap.size w2 W) (by repeat (first | exact Below.refl _ _ | refine Below.setCell ?_ (by first | omega | (simp; done) | (simp; omega)) _ | refine Below.alloc ?_ (by first | omega | (simp; done) | (simp; omega)) _ | apply Below.drew)) ?_
      intro W3 b3
      refine (HP.out x ix m a W3 (HC.out.below (B2.out.trans (b3.mono B2.out.size))) HX.out.1 HX.out.2.1 HX.out.2.2).mono ?_
      rintro e W4 ⟨h, f, rfl, hIs, hOw, b4⟩
      have bq := b3.trans (b4.mono b3.size)
      have B4 := Lib.hid bq
      have hsz4 := bq.size
      have IS := Lib.hid hIs
      have OW := Lib.hid (hOw.mono b3.size)
      clear b3 b4 bq hIs hOw e0 e1 e2 e3 e4 hen
      go_wp2_with (at_builtin; refine push2 (wr := w2) local_Pane rfl _ _ 29 rfl i0 _ 80 Tryz.underlying29 hi hz0 hz1 hz2 rfl (by decide) rfl G2.out (B4.out.alloc B4.out.size _) W4.heap.size 1 rfl (Pane.list (paneOf c m x a) h) rfl (fun u hu => by simp [Pane.list] at hu; rcases hu with rfl | rfl | rfl | rfl | rfl | rfl | rfl | rfl <;> rfl) (fun i u hiu => ((blk_new W4 62 (Pane.list (paneOf c m x a) h)).cell i).trans hiu) (paneOf c m x a) f ⟨h, rfl, IS.out.below ((Below.refl _ _).alloc (Nat.le_refl _) _)⟩ (OW.out.below ((Below.refl _ _).alloc (Nat.le_refl _) _)) (by have := LX.out; omega) (by have := LX.out; unfold maxLen; omega) (by have := B2.out.size; omega) ?_; intro v5 W5 hG5 hb5 hk5 hw5)
      have sameAt : ∀ k, k < w2.heap.size → u5.ownBlock ≠ some k → W5.heap[k]? = w2.heap[k]? := fun k hk hne => (hk5 k (by simp; omega) hne).trans ((B4.out.alloc B4.out.size _).block k hk)
      have hnr := G2.out.own_lt R2.out.notWr
      have hnb : ∀ k, k < w.heap.size + 1 → u5.ownBlock ≠ some k := fun k hk e => by have := (G2.out.lt k e).1; omega
      have SA := Lib.hid sameAt
      have NR := Lib.hid hnr
      have NB := Lib.hid hnb
      have G5 := Lib.hid hG5
      have B5 := Lib.hid (show Below w.heap.size w2 W5 from ((B4.out.mono (by omega)).alloc (by omega) _).trans (hb5.mono (by omega)))
      have W5' := Lib.hid hw5
      clear sameAt hnr hnb hG5 hb5 hk5 hw5
      go_roundg cnt2
      case measure => exact hlt2
      case rel =>
        refine ⟨_, xs ++ [x], R2.out.same (SA.out b (by omega) (NB.out b (by omega))) (SA.out _ hrl2 NR.out), M2.out, XL.out, ?_, ?_, B2.out.trans B5.out, ?_⟩
        · rw [List.map_append, List.map_cons, List.map_nil, HPN.out]; exact G5.out
        · rcases W5'.out with e | e
          · rw [e]; exact VV.out
          · rw [e]; simp
        · refine (SA.out w.heap.size hkl2 ?_).trans K2.out
          exact NB.out w.heap.size (by omega)
end Go.Proofs.YtpcekmllmnfmmaaGreat.dat
