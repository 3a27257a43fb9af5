/-
  THE CONTRACTS OF AggList, of the program and of its model: what each call answers, and that nothing that was there is written.
  Condition: the slice's elements are the numbers of a list, at most 2^20 of them.
-/
import Derived.Test.YthldfaapckhcpaaAggCells
import Derived.Deep.LoopGhost
import Derived.Deep.RegionHeld3
import Derived.Deep.DeepCutAuto
namespace Go.Proofs.Ythldfaapckhcpaa.agg
open Go.RowKit

/-- At a round's head: the answer's block as it was laid, all else below it as before, and the sum so far in the block behind it. -/
def ListInv (w : World) (wr : World) (q : Q) : Prop :=
  Below (w.heap.size + 1) (w.alloc (.cells #[.int .i64 0, .int .i64 0, .int .i64 0, .int .i64 0] 25)) wr ∧ w.heap.size + 1 < wr.heap.size ∧ Own4 wr (w.heap.size + 1) q

theorem isVal_bd {v : Int} (h : isVal v = true) : -1000000 ≤ v ∧ v ≤ 1000000 := (isVal_iff v).1 h

set_option maxHeartbeats 400000 in
theorem isValue_any (v : Int) (w : World) : Calls Try.prog 36 #[.int .i64 v] w fun e w' => e = .returned (.bool (isVal v)) ∧ w = w' := by
  by_cases h1 : -1000000 ≤ v
  · by_cases h2 : v ≤ 1000000
    · go_enter Try.func36, Try.ntmps36
      go_wp2
      go_ret
      exact ⟨ret_bool ((isVal_iff v).2 ⟨h1, h2⟩).symm, rfl⟩
    · have hd : decide (v ≤ 1000000) = false := by simp; omega
      go_enter Try.func36, Try.ntmps36
      go_wp2
      go_ret
      exact ⟨ret_bool ((isVal_not v).2 (by omega)).symm, rfl⟩
  · go_enter Try.func36, Try.ntmps36
    go_wp2
    go_ret
    exact ⟨ret_bool ((isVal_not v).2 (by omega)).symm, rfl⟩

set_option maxHeartbeats 1000000 in
theorem impl_AggList_short (a : Option Addr) (len cap : Nat) (l : List Int) (w : World) (hle : len ≤ 1000) (hrow : Row w a len l) :
    Calls Try.prog 16 #[.slice a len cap] w fun e w' => e = .returned (.tuple #[.agg #[.int .i64 (listV l).n, .int .i64 (listV l).s, .int .i64 (listV l).mn, .int .i64 (listV l).mx], .bool (listT l)]) ∧ Below w.heap.size w w' := by
  have HC := Lib.hid hrow.2
  have HL := Lib.hid hrow.1
  clear hrow
  go_enter Try.func16, Try.ntmps16
  go_wp2_with fail
  go_loopg [14] len (fun k i wr => ∃ j : Nat, j + k = len ∧ i = .int .i64 j ∧ Vals l j ∧ ListInv w wr (foldQ (l.take j)))
  case atStart =>
    refine ⟨0, by omega, rfl, Vals.zero l, ?_⟩
    refine ⟨(Below.refl _ _).alloc (by simp) _, by simp, ?_⟩
    have h := own_alloc (w.alloc (.cells #[.int .i64 0, .int .i64 0, .int .i64 0, .int .i64 0] 25)) zero 25
    rw [World.size_alloc] at h
    exact h
  case round =>
    obtain ⟨j, hj, rfl, hv, hinv, hsz, hown⟩ := hrel
    have base : Below w.heap.size w wr := ((Below.refl _ _).alloc (Nat.le_refl _) _).trans (hinv.mono (by omega))
    obtain ⟨⟨r0, r1, r2, r3⟩, rf⟩ := (own_alloc w zero 25).below hinv (by omega)
    simp only [zero] at r0 r1 r2 r3
    have hsz' : w.heap.size < wr.heap.size := by omega
    by_cases hlt : j < len
    · obtain ⟨b, off, rfl, hb, hc⟩ := HC.out (by omega)
      clear HC
      have HC := Lib.hid hc
      clear hc
      obtain ⟨v, hveq⟩ : ∃ v, l.getD j 0 = v := ⟨_, rfl⟩
      have hcell : wr.cell? ⟨b, off + j, none⟩ = some (.int .i64 v) := by
        rw [hinv.cell (p := ⟨b, off + j, none⟩) (by show b < w.heap.size + 1; omega), World.cell?_alloc_past _ _ _ hb, ← hveq]
        exact HC.out j hlt
      obtain ⟨hok, hqn⟩ := foldQ_take l (by rw [HL.out]; exact hle) j (by rw [HL.out]; omega) hv
      have hsucc := foldQ_succ (l := l) (k := j) (by rw [HL.out]; exact hlt)
      rw [hveq] at hsucc
      generalize foldQ (l.take j) = q at *
      obtain ⟨⟨c0, c1, c2, c3⟩, hf⟩ := hown
      have HQ := Lib.hid hok
      have HS := Lib.hid hsucc
      have HV := Lib.hid hveq
      have HW := Lib.hid hv
      have HN := Lib.hid hqn
      clear hok hsucc hveq hv hqn
      by_cases iv : isVal v = true
      · obtain ⟨v1, v2⟩ := isVal_bd iv
        go_wp2_with (go_at_call 36; refine (isValue_any _ _).mono ?_; rintro e w' ⟨rfl, rfl⟩)
        go_region_with (first | (go_at_call 20; refine (impl_AggOf_yes _ _ v1 v2).mono ?_; rintro e w' ⟨rfl, rfl⟩) | (go_at_call 28; refine (with_any _ _ _ _ _ _ _ _ _ HQ.out ?_).mono ?_; exact .inr (.inl ⟨rfl, v1, v2, rfl, rfl⟩); rintro e w3 ⟨rfl, hb3⟩; obtain ⟨k3, f3⟩ := bcell hb3))
        all_goals (
          have z3 : wr.heap.size ≤ w3.heap.size := Nat.le_trans (by simp) hb3.size
          have hB : Below wr.heap.size wr w3 := by repeat (first | exact Below.refl _ _ | refine Below.setCell ?_ (by first | omega | (simp; done) | (simp; omega)) _ | refine Below.alloc ?_ (by first | omega | (simp; done) | (simp; omega)) _ | apply Below.drew | refine Below.trans ?_ (hb3.mono (by first | omega | (simp; done) | (simp; omega))))
          clear k3 f3
          go_wp2_with fail
          go_roundg (len - (j + 1))
          case measure => omega
          case rel =>
            refine ⟨j + 1, by omega, by go_num, Vals.succ HW.out (by rw [HL.out]; exact hlt) (by rw [HV.out]; exact iv), ?_⟩
            rw [HS.out, ofV_yes v1 v2]
            refine ⟨(hinv.trans (hB.mono (by omega))).trans (below_set4 _ _ _ _), ?_, ?_⟩
            · exact Nat.lt_of_lt_of_le (show w.heap.size + 1 < w3.heap.size by omega) (below_set4 (w := w3) (g := w.heap.size + 1) _ _ _ _).size
            · exact own_set (withV q.n q.s q.mn q.mx 1 v v v) q (Own4.below ⟨⟨c0, c1, c2, c3⟩, hf⟩ hB hsz))
      · have iv' : isVal v = false := by simpa using iv
        have hT : Hid (listT l = false) := listT_bad (k := j) (by rw [HL.out]; exact hlt) (by rw [HV.out]; exact iv')
        have hV : Hid (listV l = zero) := listV_no hT.out
        clear iv
        go_wp2_with (go_at_call 36; refine (isValue_any _ _).mono ?_; rintro e w' ⟨rfl, rfl⟩)
        rw [hT.out, hV.out]
        refine bodyPost_ret (v := .tuple #[.agg #[.int .i64 0, .int .i64 0, .int .i64 0, .int .i64 0], .bool false]) (by simp [results, Try.results16, go_sem, r0, r1, r2, r3]) rfl ⟨rfl, ?_⟩
        repeat (first | exact base | refine Below.setCell ?_ (by simp; try omega) _)
    · have hjl : j = len := by omega
      have hT : Hid (listT l = true) := by
        refine listT_yes (by rw [HL.out]; exact hle) (Vals.all ?_)
        rw [HL.out, ← hjl]; exact hv
      have hV : Hid (listV l = foldQ (l.take j)) := by
        rw [Hid, listV_yes hT.out, List.take_of_length_le (by rw [HL.out]; omega)]
      generalize foldQ (l.take j) = q at *
      obtain ⟨⟨c0, c1, c2, c3⟩, hf⟩ := hown
      have HW := Lib.hid hv
      have HJ := Lib.hid hjl
      clear hv hjl
      go_wp2_with fail
      rw [hT.out, hV.out]
      refine bodyPost_ret (v := .tuple #[.agg #[.int .i64 q.n, .int .i64 q.s, .int .i64 q.mn, .int .i64 q.mx], .bool true]) (by simp [results, Try.results16, go_sem, r0, r1, r2, r3]) rfl ⟨rfl, ?_⟩
      repeat (first | exact base | refine Below.setCell ?_ (by simp; try omega) _)

set_option maxHeartbeats 400000 in
theorem impl_AggList_long (a : Option Addr) (len cap : Nat) (l : List Int) (w : World) (hl : l.length = len) (hgt : 1000 < len) :
    Calls Try.prog 16 #[.slice a len cap] w fun e w' => e = .returned (.tuple #[.agg #[.int .i64 (listV l).n, .int .i64 (listV l).s, .int .i64 (listV l).mn, .int .i64 (listV l).mx], .bool (listT l)]) ∧ Below w.heap.size w w' := by
  have hT : listT l = false := listT_long (by omega)
  rw [hT, listV_no hT]
  clear hT hl
  go_enter Try.func16, Try.ntmps16
  go_wp2_with fail
  exact bodyPost_ret (v := .tuple #[.agg #[.int .i64 0, .int .i64 0, .int .i64 0, .int .i64 0], .bool false]) (by simp [results, Try.results16, go_sem]) rfl ⟨rfl, (Below.refl _ _).alloc (Nat.le_refl _) _⟩

theorem impl_AggList (a : Option Addr) (len cap : Nat) (l : List Int) (w : World) (hrow : Row w a len l) :
    Calls Try.prog 16 #[.slice a len cap] w fun e w' => e = .returned (.tuple #[.agg #[.int .i64 (listV l).n, .int .i64 (listV l).s, .int .i64 (listV l).mn, .int .i64 (listV l).mx], .bool (listT l)]) ∧ Below w.heap.size w w' := by
  by_cases h : len ≤ 1000
  · exact impl_AggList_short a len cap l w h hrow
  · exact impl_AggList_long a len cap l w hrow.1 (by omega)
end Go.Proofs.Ythldfaapckhcpaa.agg
