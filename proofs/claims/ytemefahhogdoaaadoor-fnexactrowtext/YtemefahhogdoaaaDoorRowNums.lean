/-
  THE CONTRACTS OF (Agg).nums and (Row).pane of the program: a new row of the four numbers; the row's pane; nothing that was there is written.
-/
import Derived.Test.YtemefahhogdoaaaDoorRowSpec3
namespace Go.Proofs.YtemefahhogdoaaaDoor.dat
open Go.RowKit Go.Proofs.YtemefahhogdoaaaDoor.win

theorem run_make4 (w : World) : (Instr.makeSlice 22 (.int .i64 4) (.int .i64 4)).run Tryd.prog w = .ok (.slice (some ⟨w.heap.size, 0, none⟩) 4 4) (w.alloc (.cells #[.int .i64 0, .int .i64 0, .int .i64 0, .int .i64 0] 3)) := by
  obtain ⟨i, hi, h⟩ := Option.map_eq_some_iff.1 dat.info_int
  simp only [Prod.mk.injEq] at h
  have hr := run_make (P := Tryd.prog) w 22 3 i _ Tryd.underlying22 hi h.1 .i64 .i64 4 4 (by omega) (by omega) (by rw [h.2.2]; omega) (by omega)
  simp only [h.2.1] at hr
  have hc : madeCells (Value.int .i64 0).cells (Int.toNat 4 * 1) = #[.int .i64 0, .int .i64 0, .int .i64 0, .int .i64 0] := by kernel_rfl
  rw [hc] at hr
  exact hr

set_option maxRecDepth 100000 in
set_option maxHeartbeats 1000000 in
theorem aggNums (p q r s : Int) (w : World) :
    Calls Tryd.prog 35 #[.agg #[.int .i64 p, .int .i64 q, .int .i64 r, .int .i64 s]] w (fun e w' => ∃ v, e = .returned v ∧ Grows 1 RInt 3 w.heap.size w' v [p, q, r, s] ∧ Below w.heap.size w w') := by
  go_enter Tryd.func35, Tryd.ntmps35
  have hmk := run_make4
  go_wp2_with fail
  go_ret
  refine ⟨_, rfl, ?_, by repeat (first | exact Below.refl _ _ | refine Below.setCell ?_ (by first | omega | (simp; done) | (simp; omega)) _ | refine Below.alloc ?_ (by first | omega | (simp; done) | (simp; omega)) _ | apply Below.drew)⟩
  refine Grows.built (w.heap.size + 1) [p, q, r, s] [.int .i64 p, .int .i64 q, .int .i64 r, .int .i64 s] rfl (fun i x c hx hc => ?_) (by omega) (by with_reducible (repeat (first | (refine blk_new_at _ _ _ _ ?_; first | rfl | (simp; done)) | refine Blk.alloc ?_ _ | apply Blk.drew | refine Blk.setOther ?_ (by first | (simp; done) | (simp; omega)) _))) (show 4 ≤ maxLen by decide)
  rcases i with _ | _ | _ | _ | i <;> simp at hx hc <;> (subst hx hc; exact ⟨rfl, rfl⟩)
set_option maxRecDepth 100000 in
set_option maxHeartbeats 2000000 in
theorem rowPane (x : RowD) (h : RowH) (w : World) :
    Calls Tryd.prog 29 #[.agg (Row.list x h).toArray] w fun e w' => e = .returned (.agg (Pane.list x.pane h.pane).toArray) ∧ Below w.heap.size w w' := by
  simp only [Row.list, Pane.list, RowD.pane, RowH.pane]
  go_enter Tryd.func29, Tryd.ntmps29
  go_wp2_with fail
  refine bodyPost_ret (v := .agg #[.int .i64 x.win, .int .i64 x.mask, .int .i64 x.start, .slice h.keya h.keyl h.keyc, .int .i64 x.a.n, .int .i64 x.a.sm, .int .i64 x.a.mn, .int .i64 x.a.mx]) (by simp [results, Tryd.results29, go_sem]) rfl ⟨rfl, ?_⟩
  repeat (first | exact Below.refl _ _ | refine Below.setCell ?_ (by first | omega | (simp; done) | (simp; omega)) _ | refine Below.alloc ?_ (by first | omega | (simp; done) | (simp; omega)) _ | apply Below.drew)
end Go.Proofs.YtemefahhogdoaaaDoor.dat
