/-
  THE CONTRACT OF THE MODEL's AggList: what the call answers, and that nothing that was there is written.
  Condition: the slice's elements are the numbers of a list.
-/
import Derived.Test.YthldfaapckhcpaaDoorAggList
namespace Go.Proofs.YthldfaapckhcpaaDoor.agg
open Go.RowKit

theorem keep5 {W w' : World} {p b o : Nat} {a : Q} {v : Int} (ha : Box4 W p a) (hv : W.cell? ⟨b, o, none⟩ = some (.int .i64 v)) (hp : p < W.heap.size) (hb : b < W.heap.size) (h : Below W.heap.size W w') :
    w'.cell? ⟨p, 0, none⟩ = some (.int .i64 a.n) ∧ w'.cell? ⟨p, 1, none⟩ = some (.int .i64 a.s) ∧ w'.cell? ⟨p, 2, none⟩ = some (.int .i64 a.mn) ∧ w'.cell? ⟨p, 3, none⟩ = some (.int .i64 a.mx) ∧ w'.cell? ⟨b, o, none⟩ = some (.int .i64 v) := by
  obtain ⟨a0, a1, a2, a3⟩ := ha.below h hp
  exact ⟨a0, a1, a2, a3, (h.cell (p := ⟨b, o, none⟩) hb).trans hv⟩

theorem joinT_yes {q p : Q} (h1 : q.Ok) (h2 : p.Ok) (h3 : q.n + p.n ≤ 1000) : joinT q.n q.s q.mn q.mx p.n p.s p.mn p.mx = true ∧ joinV q.n q.s q.mn q.mx p.n p.s p.mn p.mx = wth q p := by
  have h : JoinP q p := ⟨h1, h2, h3⟩
  have e : joinB q p = true := by simp [joinB, h]
  exact ⟨e, by show joinQ q p = wth q p; unfold joinQ; rw [if_pos e]⟩
theorem joinT_no {q p : Q} (h3 : 1000 < q.n + p.n) : joinT q.n q.s q.mn q.mx p.n p.s p.mn p.mx = false := by
  have h : ¬ JoinP q p := fun h => by have := h.2.2; omega
  show joinB q p = false
  simp [joinB, h]

set_option maxHeartbeats 400000 in
theorem l01Value_any (v : Int) (w : World) : Calls Tryd.prog 25 #[.int .i64 v] w fun e w' => e = .returned (.bool (isVal v)) ∧ w = w' := by
  by_cases h1 : -1000000 ≤ v
  · by_cases h2 : v ≤ 1000000
    · go_enter Tryd.func25, Tryd.ntmps25
      go_wp2
      go_ret
      exact ⟨ret_bool ((isVal_iff v).2 ⟨h1, h2⟩).symm, rfl⟩
    · have hd : decide (v ≤ 1000000) = false := by simp; omega
      go_enter Tryd.func25, Tryd.ntmps25
      go_wp2
      go_ret
      exact ⟨ret_bool ((isVal_not v).2 (by omega)).symm, rfl⟩
  · go_enter Tryd.func25, Tryd.ntmps25
    go_wp2
    go_ret
    exact ⟨ret_bool ((isVal_not v).2 (by omega)).symm, rfl⟩

set_option maxHeartbeats 1000000 in
theorem spec_AggList (a : Option Addr) (len cap : Nat) (l : List Int) (w : World) (hmax : len ≤ 2000000) (hrow : Row w a len l) :
    Calls Tryd.prog 35 #[.slice a len cap] w fun e w' => e = .returned (.tuple #[.agg #[.int .i64 (listV l).n, .int .i64 (listV l).s, .int .i64 (listV l).mn, .int .i64 (listV l).mx], .bool (listT l)]) ∧ Below w.heap.size w w' := by
  have HC := Lib.hid hrow.2
  have HL := Lib.hid hrow.1
  clear hrow
  go_enter Tryd.func35, Tryd.ntmps35
  go_wp2_with fail
  go_loopg [5] len (fun k i wr => ∃ j : Nat, j + k = len ∧ j ≤ 1000 ∧ i = .int .i64 j ∧ Vals l j ∧ ListInv w wr (foldQ (l.take j)))
  case atStart =>
    refine ⟨0, by omega, by omega, rfl, Vals.zero l, ?_⟩
    refine ⟨(Below.refl _ _).alloc (by simp) _, by simp, ?_⟩
    have h := own_alloc (w.alloc (.cells #[.int .i64 0, .int .i64 0, .int .i64 0, .int .i64 0] 25)) zero 25
    rw [World.size_alloc] at h
    exact h
  case round =>
    obtain ⟨j, hj, hj1, rfl, hv, hinv, hsz, hown⟩ := hrel
    have base : Below w.heap.size w wr := ((Below.refl _ _).alloc (Nat.le_refl _) _).trans (hinv.mono (by omega))
    have hsz' : w.heap.size < wr.heap.size := by omega
    by_cases hlt : j < len
    · obtain ⟨b, off, rfl, hb, hc⟩ := HC.out (by omega)
      clear HC
      have HC := Lib.hid hc
      clear hc
      obtain ⟨v, hveq⟩ : ∃ v, l.getD j 0 = v := ⟨_, rfl⟩
      have hcell : wr.cell? ⟨b, off + j, none⟩ = some (.int .i64 v) := by
        rw [hinv.cell (p := ⟨b, off + j, none⟩) (by show b < w.heap.size + 1; omega), World.cell?_alloc_past _ _ _ hb, ← hveq]
        exact HC.out j hlt
      obtain ⟨hok, hqn⟩ : (foldQ (l.take j)).Ok ∧ (foldQ (l.take j)).n = j := by
        have h1 := foldQ_take (l.take j) (by simp; omega) (l.take j).length (Nat.le_refl _) (by intro x hx; rw [List.take_of_length_le (Nat.le_refl _)] at hx; exact hv x hx)
        rw [List.take_of_length_le (Nat.le_refl _), List.length_take, Nat.min_eq_left (by rw [HL.out]; omega)] at h1
        exact h1
      have hsucc := foldQ_succ (l := l) (k := j) (by rw [HL.out]; exact hlt)
      rw [hveq] at hsucc
      generalize foldQ (l.take j) = q at *
      have hown' := hown
      obtain ⟨⟨c0, c1, c2, c3⟩, hf⟩ := hown
      have HO := Lib.hid hown'
      have HQ := Lib.hid hok
      have HS := Lib.hid hsucc
      have HV := Lib.hid hveq
      have HW := Lib.hid hv
      have HN := Lib.hid hqn
      have HI := Lib.hid hinv
      clear hown' hok hsucc hveq hv hqn hinv
      have hbr : b < wr.heap.size := by omega
      go_upto_region 5 with fail
      go_cut [6, 7] (fun sa sb wx => JoinLeft wr sa sb wx (joinV q.n q.s q.mn q.mx (ofV v).n (ofV v).s (ofV v).mn (ofV v).mx) (joinT q.n q.s q.mn q.mx (ofV v).n (ofV v).s (ofV v).mn (ofV v).mx))
      case first =>
        go_region_held3 (fun w' => w'.cell? ⟨w.heap.size + 1, 0, none⟩ = some (.int .i64 q.n) ∧ w'.cell? ⟨w.heap.size + 1, 1, none⟩ = some (.int .i64 q.s) ∧ w'.cell? ⟨w.heap.size + 1, 2, none⟩ = some (.int .i64 q.mn) ∧ w'.cell? ⟨w.heap.size + 1, 3, none⟩ = some (.int .i64 q.mx) ∧ w'.cell? ⟨b, off + j, none⟩ = some (.int .i64 v)) ((refine keep5 (a := q) ⟨c0, c1, c2, c3⟩ hcell hsz hbr ?_; repeat (first | exact Below.refl _ _ | refine Below.setCell ?_ (by first | omega | (simp; done) | (simp; omega)) _ | refine Below.alloc ?_ (by first | omega | (simp; done) | (simp; omega)) _ | apply Below.drew | refine Below.trans ?_ (hb1.mono (by first | omega | (simp; done) | (simp; omega))))))
          (first | (go_at_call 48; refine (spec_AggOf _ _).mono ?_; rintro e w' ⟨rfl, rfl⟩) | (go_at_call 47; refine (spec_AggJoin _ _ _ _ _ _ _ _ _).mono ?_; rintro e w1 ⟨rfl, hb1⟩; obtain ⟨k1, f1⟩ := bcell hb1; have z3 : wr.heap.size ≤ w1.heap.size := Nat.le_trans (by simp <;> omega) hb1.size))
        all_goals (go_wp2_with fail; go_meet)
        all_goals (
          have zz := hb1.size
          simp only [World.size_alloc, World.size_drew] at zz
          refine ⟨_, rfl, rfl, ?_, ?_, ?_, ?_⟩
          · repeat (first | exact Below.refl _ _ | refine Below.setCell ?_ (by first | omega | (simp; done) | (simp; omega)) _ | refine Below.alloc ?_ (by first | omega | (simp; done) | (simp; omega)) _ | apply Below.drew | refine Below.trans ?_ (hb1.mono (by first | omega | (simp; done) | (simp; omega))))
          · first | omega | (simp; done) | (simp; omega)
          · first | omega | (simp; done) | (simp; omega)
          · first | (with_reducible exact box_alloc _ _ _) | ((with_reducible refine box_set _ zero ?_); refine Box4.below ?_ hb1 (by first | omega | (simp; done) | (simp; omega)); refine ⟨?_, ?_, ?_, ?_⟩ <;> simp [go_sem, zero]))
      case rest =>
        obtain ⟨g, rfl, rfl, hb2, hg, hgs, hx⟩ := hcut
        have ho := HO.out.below hb2 hsz
        obtain ⟨⟨r0, r1, r2, r3⟩, rf⟩ := (((own_alloc w zero 25).below HI.out (by omega)).below hb2 hsz')
        simp only [zero] at r0 r1 r2 r3
        have hcell2 : wc.cell? ⟨b, off + j, none⟩ = some (.int .i64 v) := (hb2.cell (p := ⟨b, off + j, none⟩) hbr).trans hcell
        replace base := base.trans (hb2.mono (by omega))
        have hinv2 := HI.out.trans (hb2.mono (by omega))
        have hszc : w.heap.size + 1 < wc.heap.size := Nat.lt_of_lt_of_le hsz hb2.size
        have hgne : ¬ g = w.heap.size + 1 := by omega
        have HI2 := Lib.hid hinv2
        have HX := Lib.hid hx
        have HO2 := Lib.hid ho
        clear hcell c0 c1 c2 c3 hf HO HI hb2 hinv2 hx ho
        by_cases iv : isVal v = true
        · obtain ⟨v1, v2⟩ := isVal_bd iv
          have hvok := ok_ofV v
          have hvn := ofV_n iv
          by_cases h1 : j = 1000
          · have hT : Hid (listT l = false) := listT_long (by rw [HL.out]; omega)
            have hV : Hid (listV l = zero) := listV_no hT.out
            have hjt : joinT q.n q.s q.mn q.mx (ofV v).n (ofV v).s (ofV v).mn (ofV v).mx = false := joinT_no (by rw [HN.out, hvn]; omega)
            have H1 := Lib.hid h1
            clear hvok hvn h1
            rw [hjt]
            clear hjt
            go_wp2_with fail
            rw [hT.out, hV.out]
            refine bodyPost_ret (v := .tuple #[.agg #[.int .i64 0, .int .i64 0, .int .i64 0, .int .i64 0], .bool false]) (by simp [results, Tryd.results35, go_sem, r0, r1, r2, r3]) rfl ⟨rfl, ?_⟩
            repeat (first | exact base | refine Below.setCell ?_ (by simp; try omega) _)
          · obtain ⟨hjt, hjv⟩ := joinT_yes (p := ofV v) HQ.out hvok (by rw [HN.out, hvn]; omega)
            have hx := HX.out
            rw [hjv] at hx
            rw [hjt]
            clear hjt hvok hvn hjv HX
            obtain ⟨⟨c0, c1, c2, c3⟩, hf⟩ := HO2.out
            obtain ⟨x0, x1, x2, x3⟩ := hx
            have hS2 : Hid (foldQ (l.take (j + 1)) = wth q (ofV v)) := HS.out
            generalize wth q (ofV v) = q2 at *
            clear HS
            go_wp2_with (go_at_call 25; refine (l01Value_any _ _).mono ?_; rintro e w' ⟨rfl, rfl⟩)
            go_roundg (len - (j + 1))
            case measure => omega
            case rel =>
              refine ⟨j + 1, by omega, by omega, by go_num, Vals.succ HW.out (by rw [HL.out]; exact hlt) (by rw [HV.out]; exact iv), ?_⟩
              rw [hS2.out]
              refine ⟨HI2.out.trans (below_set4 _ _ _ _), ?_, ?_⟩
              · exact Nat.lt_of_lt_of_le hszc (below_set4 (w := wc) (g := w.heap.size + 1) _ _ _ _).size
              · exact own_set q2 q HO2.out
        · have iv' : isVal v = false := by simpa using iv
          have hT : Hid (listT l = false) := listT_bad (k := j) (by rw [HL.out]; exact hlt) (by rw [HV.out]; exact iv')
          have hV : Hid (listV l = zero) := listV_no hT.out
          have hvz : ofV v = zero := by simp [ofV, iv']
          obtain ⟨hjt, hjv⟩ := joinT_yes (p := ofV v) HQ.out (ok_ofV v) (by rw [HN.out, hvz]; simp [zero]; omega)
          rw [hjt]
          clear hjt hvz hjv HX iv
          go_wp2_with (go_at_call 25; refine (l01Value_any _ _).mono ?_; rintro e w' ⟨rfl, rfl⟩)
          rw [hT.out, hV.out]
          refine bodyPost_ret (v := .tuple #[.agg #[.int .i64 0, .int .i64 0, .int .i64 0, .int .i64 0], .bool false]) (by simp [results, Tryd.results35, go_sem, r0, r1, r2, r3]) rfl ⟨rfl, ?_⟩
          repeat (first | exact base | refine Below.setCell ?_ (by simp; try omega) _)
    · have hjl : j = len := by omega
      obtain ⟨⟨r0, r1, r2, r3⟩, rf⟩ := (own_alloc w zero 25).below hinv (by omega)
      simp only [zero] at r0 r1 r2 r3
      have hT : Hid (listT l = true) := by
        refine listT_yes (by rw [HL.out]; omega) (Vals.all ?_)
        rw [HL.out, ← hjl]; exact hv
      have hV : Hid (listV l = foldQ (l.take j)) := by
        rw [Hid, listV_yes hT.out, List.take_of_length_le (by rw [HL.out]; omega)]
      generalize foldQ (l.take j) = q at *
      obtain ⟨⟨c0, c1, c2, c3⟩, hf⟩ := hown
      have HW := Lib.hid hv
      have HJ := Lib.hid hjl
      clear hv hjl
      go_wp2_with fail
      rw [hT.out, hV.out]
      refine bodyPost_ret (v := .tuple #[.agg #[.int .i64 q.n, .int .i64 q.s, .int .i64 q.mn, .int .i64 q.mx], .bool true]) (by simp [results, Tryd.results35, go_sem, r0, r1, r2, r3]) rfl ⟨rfl, ?_⟩
      repeat (first | exact base | refine Below.setCell ?_ (by simp; try omega) _)
end Go.Proofs.YthldfaapckhcpaaDoor.agg
