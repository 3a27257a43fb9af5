/-
  THE CONTRACTS OF PanesOk of the model, and of what it calls; nothing that was there is written.
  Condition: panes of at most 2,000,000 numbers.
-/
import Derived.Test.YtoglclmaacjdaaaPanesOk
import Derived.Test.YtoglclmaacjdaaaMixHeld
namespace Go.Proofs.Ytoglclmaacjdaaa.dat
open Go.RowKit Go.Proofs.Ytoglclmaacjdaaa.win

def keptTo (m : Int) : Nat → Int
  | 0 => 0
  | j + 1 => keptTo m j + (if bitB m j then 1 else 0)
theorem kept_ones {d m : Int} (hd0 : 0 ≤ d) (hd3 : d ≤ 3) (h : inB d m = true) : keptTo m d.toNat = ones m := by
  unfold inB at h
  have h2 := of_decide_eq_true h
  have h4 : d = 0 ∨ d = 1 ∨ d = 2 ∨ d = 3 := by omega
  have h8 : m = 0 ∨ m = 1 ∨ m = 2 ∨ m = 3 ∨ m = 4 ∨ m = 5 ∨ m = 6 ∨ m = 7 := by
    have h3 : pw d ≤ 8 := by unfold pw; repeat (first | omega | split)
    omega
  rcases h4 with rfl | rfl | rfl | rfl <;> rcases h8 with rfl | rfl | rfl | rfl | rfl | rfl | rfl | rfl <;> first | decide | (exfalso; revert h; decide)

set_option maxRecDepth 100000 in
set_option maxHeartbeats 2000000 in
theorem l04Kept (c : ConfD) (ch : ConfigH) (m : Int) (w : World) (hd0 : 0 ≤ c.d) (hd3 : c.d ≤ 3) (h0 : 0 ≤ m) (h8 : m < 8) :
    Calls Try.prog 164 #[.agg (Config.list c ch).toArray, .int .i64 m] w fun e w' => e = .returned (.int .i64 (keptTo m c.d.toNat)) ∧ Below w.heap.size w w' := by
  obtain ⟨n, hn⟩ : ∃ n : Nat, c.d = (n : Int) := ⟨c.d.toNat, by omega⟩
  have hn3 : n ≤ 3 := by omega
  have HN := Lib.hid hn
  rw [hn, Int.toNat_natCast]
  clear hn hd0 hd3
  simp only [Config.list]
  rw [HN.out]
  go_enter Try.func164, Try.ntmps164
  go_wp2_with fail
  go_loopg [5, 6] n (fun k s i wr => ∃ j : Nat, j + k = n ∧ i = .int .i64 j ∧ s = .int .i64 (keptTo m j) ∧ 0 ≤ keptTo m j ∧ keptTo m j ≤ (j : Int) ∧ Below w.heap.size w wr ∧ wr.cell? ⟨w.heap.size, 0, none⟩ = some (.int .i64 (n : Int)))
  case atStart => exact ⟨0, by omega, rfl, rfl, by simp [keptTo], by simp [keptTo], by repeat (first | exact Below.refl _ _ | refine Below.setCell ?_ (by first | omega | (simp; done) | (simp; omega)) _ | refine Below.alloc ?_ (by first | omega | (simp; done) | (simp; omega)) _ | apply Below.drew), by simp [go_sem]⟩
  case round =>
    obtain ⟨j, hj, rfl, rfl, q0, q1, hb, hcell⟩ := hrel
    have HB := Lib.hid hb
    have HC := Lib.hid hcell
    clear hb
    by_cases hlt : j < n
    case neg =>
      obtain rfl : j = n := by omega
      have hnl : ¬ (j : Int) < (j : Int) := by omega
      go_wp2_with fail
      go_ret
      exact ⟨rfl, HB.out⟩
    have hlt2 : (j : Int) < (n : Int) := by omega
    obtain ⟨s, hs⟩ : ∃ s, keptTo m j = s := ⟨_, rfl⟩
    have HS := Lib.hid hs
    rw [hs] at q0 q1 ⊢
    clear hs
    cases hp : bitB m j with
    | false =>
      have hbit : ∀ w, Calls Try.prog 183 #[.int .i64 m, .int .i64 j] w fun e w' => e = .returned (.bool false) ∧ w = w' := by rw [← hp]; exact l03Bit h0 h8 (by omega)
      have HBit := Lib.hid hbit
      have HP := Lib.hid hp
      clear hp hbit
      go_wp2_with fail
      refine (HBit.out _).mono ?_
      rintro e w3 ⟨rfl, rfl⟩
      go_wp2_with fail
      go_roundg (n - (j + 1))
      case measure => omega
      case rel => exact ⟨j + 1, by omega, by go_num, by simp [keptTo, HP.out, HS.out], by simp [keptTo, HP.out, HS.out]; exact q0, by simp [keptTo, HP.out, HS.out]; omega, HB.out, HC.out⟩
    | true =>
      have hbit : ∀ w, Calls Try.prog 183 #[.int .i64 m, .int .i64 j] w fun e w' => e = .returned (.bool true) ∧ w = w' := by rw [← hp]; exact l03Bit h0 h8 (by omega)
      have HBit := Lib.hid hbit
      have HP := Lib.hid hp
      clear hp hbit
      go_wp2_with fail
      refine (HBit.out _).mono ?_
      rintro e w3 ⟨rfl, rfl⟩
      go_wp2_with fail
      go_roundg (n - (j + 1))
      case measure => omega
      case rel => exact ⟨j + 1, by omega, by go_num, by simp [keptTo, HP.out, HS.out], by simp [keptTo, HP.out, HS.out]; omega, by simp [keptTo, HP.out, HS.out]; omega, HB.out, HC.out⟩

/-- May a pane stand where it does? -/
def whereB (c : ConfD) (p : PaneD) : Bool := placeB c.ws.length p.win && placeB c.ms.length p.mask && startB c p && keyB c p
theorem between_place {n : Nat} {k : Int} : decide (0 ≤ k ∧ k ≤ (n : Int) - 1) = placeB n k := by
  unfold placeB
  congr 1
  simp only [eq_iff_iff]
  omega
theorem conf_lens {c : ConfD} (h : confD c = true) : c.ws.length ≤ 3 ∧ c.ms.length ≤ 4 := by
  unfold confD winsB masksB at h
  simp only [Bool.and_eq_true, decide_eq_true_eq] at h
  exact ⟨h.1.1.1.2.1.1, h.1.1.2.1.1⟩
theorem conf_in {c : ConfD} (h : confD c = true) {i : Nat} {m : Int} (hu : c.ms[i]? = some m) : inB c.d m = true := by
  unfold confD masksB at h
  simp only [Bool.and_eq_true] at h
  exact List.all_eq_true.1 h.1.1.2.1.2 m (List.mem_of_getElem? hu)

set_option maxRecDepth 100000 in
set_option maxHeartbeats 8000000 in
theorem where_no1 (c : ConfD) (ch : ConfigH) (win mask start : Int) (key : List Int) (A : AggD) (h : PaneH) (w : World) (hl : ch.wsl ≤ 3) (hno : placeB ch.wsl win = false) :
    Calls Try.prog 139 #[.agg (Config.list c ch).toArray, .agg (Pane.list ⟨win, mask, start, key, A⟩ h).toArray] w fun e w' => e = .returned (.bool false) ∧ Below w.heap.size w w' := by
    have hq : decide (0 ≤ win ∧ win ≤ (ch.wsl : Int) - 1) = false := between_place.trans hno
    have w1 : IntKind.i64.wrap ((ch.wsl : Int) - 1) = (ch.wsl : Int) - 1 := IntWalk.i64_in _ (by omega)
    obtain ⟨q1, hq1⟩ : ∃ q, (ch.wsl : Int) - 1 = q := ⟨_, rfl⟩
    rw [hq1] at hq w1
    have HQ := Lib.hid hq
    clear hno hl hq
    simp only [Config.list, Pane.list]
    go_enter Try.func139, Try.ntmps139
    go_wp2_with fail
    refine wp_gen (fun W => Below w.heap.size w W ∧ Blk W w.heap.size 63 (Config.list c ch) ∧ Blk W (w.heap.size + 1) 144 (Pane.list ⟨win, mask, start, key, A⟩ h)) ⟨by repeat (first | exact Below.refl _ _ | refine Below.setCell ?_ (by first | omega | (simp; done) | (simp; omega)) _ | refine Below.alloc ?_ (by first | omega | (simp; done) | (simp; omega)) _ | apply Below.drew), by unfold Config.list; with_reducible (repeat (first | (refine blk_new_at _ _ _ _ ?_; first | rfl | (simp; done)) | refine Blk.alloc ?_ _ | apply Blk.drew | refine Blk.setOther ?_ (by first | (simp; done) | (simp; omega)) _)), by unfold Pane.list; with_reducible (repeat (first | (refine blk_new_at _ _ _ _ ?_; first | rfl | (simp; done)) | refine Blk.alloc ?_ _ | apply Blk.drew | refine Blk.setOther ?_ (by first | (simp; done) | (simp; omega)) _))⟩ ?_
    rintro W1 ⟨b1, k1, m1⟩
    have B1 := Lib.hid b1
    have K1 := Lib.hid k1
    have M1 := Lib.hid m1
    have c0 := k1.cell 0
    have c1 := k1.cell 1
    have c2 := k1.cell 2
    have c3 := k1.cell 3
    have c4 := k1.cell 4
    have d0 := m1.cell 0
    have d1 := m1.cell 1
    have d2 := m1.cell 2
    have d3 := m1.cell 3
    simp [Config.list, Pane.list] at c0 c1 c2 c3 c4 d0 d1 d2 d3
    refine mix.wp_region_mixh (fun w' => w'.cell? ⟨w.heap.size, 0, none⟩ = some (.int .i64 c.d) ∧ w'.cell? ⟨w.heap.size, 1, none⟩ = some (.slice ch.wsa ch.wsl ch.wsc) ∧ w'.cell? ⟨w.heap.size, 2, none⟩ = some (.slice ch.msa ch.msl ch.msc) ∧ w'.cell? ⟨w.heap.size, 3, none⟩ = some (.int .i64 c.dl) ∧ w'.cell? ⟨w.heap.size, 4, none⟩ = some (.int .i64 c.lt) ∧ w'.cell? ⟨w.heap.size + 1, 0, none⟩ = some (.int .i64 win) ∧ w'.cell? ⟨w.heap.size + 1, 1, none⟩ = some (.int .i64 mask) ∧ w'.cell? ⟨w.heap.size + 1, 2, none⟩ = some (.int .i64 start) ∧ w'.cell? ⟨w.heap.size + 1, 3, none⟩ = some (.slice h.keya h.keyl h.keyc)) [6,15,21,48] (by kernel_rfl) (by kernel_rfl) (fun _ _ d _ _ h => by cases d <;> exact h) ⟨c0, c1, c2, c3, c4, d0, d1, d2, d3⟩ ?_
    have HS : Hid ((fun w' => w'.cell? ⟨w.heap.size, 0, none⟩ = some (.int .i64 c.d) ∧ w'.cell? ⟨w.heap.size, 1, none⟩ = some (.slice ch.wsa ch.wsl ch.wsc) ∧ w'.cell? ⟨w.heap.size, 2, none⟩ = some (.slice ch.msa ch.msl ch.msc) ∧ w'.cell? ⟨w.heap.size, 3, none⟩ = some (.int .i64 c.dl) ∧ w'.cell? ⟨w.heap.size, 4, none⟩ = some (.int .i64 c.lt) ∧ w'.cell? ⟨w.heap.size + 1, 0, none⟩ = some (.int .i64 win) ∧ w'.cell? ⟨w.heap.size + 1, 1, none⟩ = some (.int .i64 mask) ∧ w'.cell? ⟨w.heap.size + 1, 2, none⟩ = some (.int .i64 start) ∧ w'.cell? ⟨w.heap.size + 1, 3, none⟩ = some (.slice h.keya h.keyl h.keyc)) W1.drew) := ⟨c0, c1, c2, c3, c4, d0, d1, d2, d3⟩
    clear c0 c1 c2 c3 c4 d0 d1 d2 d3 k1 m1 b1
    (repeat (first | (apply mix.held_take; (· rfl); (· rfl); (· (intro w' hSw; (try dsimp only at hSw); go_simp; try with_reducible rfl)); (try simp only [Act.put, List.setIfInBounds_toArray, List.set_cons_zero, List.set_cons_succ])) | ((refine mix.held_pass rfl (by rfl) ?_); (try simp only [Act.put, List.setIfInBounds_toArray, List.set_cons_zero, List.set_cons_succ]))))
    refine mix.held_hard rfl (fun K hK => ?_); go_simp
    refine (between_is (r := false) HQ.out _).mono ?_
    rintro e W2 ⟨rfl, rfl⟩
    refine hK.out _ _ (HS.out) (fun hSw => ?_); clear hK K hSw; (try simp only [Act.put, List.setIfInBounds_toArray, List.set_cons_zero, List.set_cons_succ])
    (repeat (first | (apply mix.held_take; (· rfl); (· rfl); (· (intro w' hSw; (try dsimp only at hSw); go_simp; try with_reducible rfl)); (try simp only [Act.put, List.setIfInBounds_toArray, List.set_cons_zero, List.set_cons_succ])) | ((refine mix.held_pass rfl (by rfl) ?_); (try simp only [Act.put, List.setIfInBounds_toArray, List.set_cons_zero, List.set_cons_succ]))))
    refine mix.held_hard rfl (fun K hK => ?_); go_simp
    refine hK.out _ _ (HS.out) (fun hSw => ?_); clear hK K hSw; (try simp only [Act.put, List.setIfInBounds_toArray, List.set_cons_zero, List.set_cons_succ])
    (repeat (first | (apply mix.held_take; (· rfl); (· rfl); (· (intro w' hSw; (try dsimp only at hSw); go_simp; try with_reducible rfl)); (try simp only [Act.put, List.setIfInBounds_toArray, List.set_cons_zero, List.set_cons_succ])) | ((refine mix.held_pass rfl (by rfl) ?_); (try simp only [Act.put, List.setIfInBounds_toArray, List.set_cons_zero, List.set_cons_succ]))))
    refine mix.held_hard rfl (fun K hK => ?_); go_simp
    refine hK.out _ _ (HS.out) (fun hSw => ?_); clear hK K hSw; (try simp only [Act.put, List.setIfInBounds_toArray, List.set_cons_zero, List.set_cons_succ])
    (repeat (first | (apply mix.held_take; (· rfl); (· rfl); (· (intro w' hSw; (try dsimp only at hSw); go_simp; try with_reducible rfl)); (try simp only [Act.put, List.setIfInBounds_toArray, List.set_cons_zero, List.set_cons_succ])) | ((refine mix.held_pass rfl (by rfl) ?_); (try simp only [Act.put, List.setIfInBounds_toArray, List.set_cons_zero, List.set_cons_succ]))))
    refine mix.held_hard rfl (fun K hK => ?_); go_simp
    refine hK.out _ _ (HS.out) (fun hSw => ?_); clear hK K hSw; (try simp only [Act.put, List.setIfInBounds_toArray, List.set_cons_zero, List.set_cons_succ])
    (repeat (first | (apply mix.held_take; (· rfl); (· rfl); (· (intro w' hSw; (try dsimp only at hSw); go_simp; try with_reducible rfl)); (try simp only [Act.put, List.setIfInBounds_toArray, List.set_cons_zero, List.set_cons_succ])) | ((refine mix.held_pass rfl (by rfl) ?_); (try simp only [Act.put, List.setIfInBounds_toArray, List.set_cons_zero, List.set_cons_succ]))))
    refine mix.held_end ?_
    go_wp2_with fail
    go_ret
    exact ⟨rfl, B1.out.drew⟩

set_option maxRecDepth 100000 in
set_option maxHeartbeats 8000000 in
theorem where_no2 (c : ConfD) (ch : ConfigH) (win mask start : Int) (key : List Int) (A : AggD) (h : PaneH) (w : World) (hl : ch.wsl ≤ 3) (hl2 : ch.msl ≤ 4) (hyes : placeB ch.wsl win = true) (hno : placeB ch.msl mask = false) :
    Calls Try.prog 139 #[.agg (Config.list c ch).toArray, .agg (Pane.list ⟨win, mask, start, key, A⟩ h).toArray] w fun e w' => e = .returned (.bool false) ∧ Below w.heap.size w w' := by
    have hq : decide (0 ≤ win ∧ win ≤ (ch.wsl : Int) - 1) = true := between_place.trans hyes
    have hr : decide (0 ≤ mask ∧ mask ≤ (ch.msl : Int) - 1) = false := between_place.trans hno
    have w1 : IntKind.i64.wrap ((ch.wsl : Int) - 1) = (ch.wsl : Int) - 1 := IntWalk.i64_in _ (by omega)
    have w2 : IntKind.i64.wrap ((ch.msl : Int) - 1) = (ch.msl : Int) - 1 := IntWalk.i64_in _ (by omega)
    obtain ⟨q1, hq1⟩ : ∃ q, (ch.wsl : Int) - 1 = q := ⟨_, rfl⟩
    obtain ⟨q2, hq2⟩ : ∃ q, (ch.msl : Int) - 1 = q := ⟨_, rfl⟩
    rw [hq1] at hq w1
    rw [hq2] at hr w2
    have HQ := Lib.hid hq
    have HR := Lib.hid hr
    clear hno hyes hl hl2 hq hr
    simp only [Config.list, Pane.list]
    go_enter Try.func139, Try.ntmps139
    go_wp2_with fail
    refine wp_gen (fun W => Below w.heap.size w W ∧ Blk W w.heap.size 63 (Config.list c ch) ∧ Blk W (w.heap.size + 1) 144 (Pane.list ⟨win, mask, start, key, A⟩ h)) ⟨by repeat (first | exact Below.refl _ _ | refine Below.setCell ?_ (by first | omega | (simp; done) | (simp; omega)) _ | refine Below.alloc ?_ (by first | omega | (simp; done) | (simp; omega)) _ | apply Below.drew), by unfold Config.list; with_reducible (repeat (first | (refine blk_new_at _ _ _ _ ?_; first | rfl | (simp; done)) | refine Blk.alloc ?_ _ | apply Blk.drew | refine Blk.setOther ?_ (by first | (simp; done) | (simp; omega)) _)), by unfold Pane.list; with_reducible (repeat (first | (refine blk_new_at _ _ _ _ ?_; first | rfl | (simp; done)) | refine Blk.alloc ?_ _ | apply Blk.drew | refine Blk.setOther ?_ (by first | (simp; done) | (simp; omega)) _))⟩ ?_
    rintro W1 ⟨b1, k1, m1⟩
    have B1 := Lib.hid b1
    have K1 := Lib.hid k1
    have M1 := Lib.hid m1
    have c0 := k1.cell 0
    have c1 := k1.cell 1
    have c2 := k1.cell 2
    have c3 := k1.cell 3
    have c4 := k1.cell 4
    have d0 := m1.cell 0
    have d1 := m1.cell 1
    have d2 := m1.cell 2
    have d3 := m1.cell 3
    simp [Config.list, Pane.list] at c0 c1 c2 c3 c4 d0 d1 d2 d3
    refine mix.wp_region_mixh (fun w' => w'.cell? ⟨w.heap.size, 0, none⟩ = some (.int .i64 c.d) ∧ w'.cell? ⟨w.heap.size, 1, none⟩ = some (.slice ch.wsa ch.wsl ch.wsc) ∧ w'.cell? ⟨w.heap.size, 2, none⟩ = some (.slice ch.msa ch.msl ch.msc) ∧ w'.cell? ⟨w.heap.size, 3, none⟩ = some (.int .i64 c.dl) ∧ w'.cell? ⟨w.heap.size, 4, none⟩ = some (.int .i64 c.lt) ∧ w'.cell? ⟨w.heap.size + 1, 0, none⟩ = some (.int .i64 win) ∧ w'.cell? ⟨w.heap.size + 1, 1, none⟩ = some (.int .i64 mask) ∧ w'.cell? ⟨w.heap.size + 1, 2, none⟩ = some (.int .i64 start) ∧ w'.cell? ⟨w.heap.size + 1, 3, none⟩ = some (.slice h.keya h.keyl h.keyc)) [6,15,21,48] (by kernel_rfl) (by kernel_rfl) (fun _ _ d _ _ h => by cases d <;> exact h) ⟨c0, c1, c2, c3, c4, d0, d1, d2, d3⟩ ?_
    have HS : Hid ((fun w' => w'.cell? ⟨w.heap.size, 0, none⟩ = some (.int .i64 c.d) ∧ w'.cell? ⟨w.heap.size, 1, none⟩ = some (.slice ch.wsa ch.wsl ch.wsc) ∧ w'.cell? ⟨w.heap.size, 2, none⟩ = some (.slice ch.msa ch.msl ch.msc) ∧ w'.cell? ⟨w.heap.size, 3, none⟩ = some (.int .i64 c.dl) ∧ w'.cell? ⟨w.heap.size, 4, none⟩ = some (.int .i64 c.lt) ∧ w'.cell? ⟨w.heap.size + 1, 0, none⟩ = some (.int .i64 win) ∧ w'.cell? ⟨w.heap.size + 1, 1, none⟩ = some (.int .i64 mask) ∧ w'.cell? ⟨w.heap.size + 1, 2, none⟩ = some (.int .i64 start) ∧ w'.cell? ⟨w.heap.size + 1, 3, none⟩ = some (.slice h.keya h.keyl h.keyc)) W1.drew) := ⟨c0, c1, c2, c3, c4, d0, d1, d2, d3⟩
    clear c0 c1 c2 c3 c4 d0 d1 d2 d3 k1 m1 b1
    (repeat (first | (apply mix.held_take; (· rfl); (· rfl); (· (intro w' hSw; (try dsimp only at hSw); go_simp; try with_reducible rfl)); (try simp only [Act.put, List.setIfInBounds_toArray, List.set_cons_zero, List.set_cons_succ])) | ((refine mix.held_pass rfl (by rfl) ?_); (try simp only [Act.put, List.setIfInBounds_toArray, List.set_cons_zero, List.set_cons_succ]))))
    refine mix.held_hard rfl (fun K hK => ?_); go_simp
    refine (between_is (r := true) HQ.out _).mono ?_
    rintro e W2 ⟨rfl, rfl⟩
    refine hK.out _ _ (HS.out) (fun hSw => ?_); clear hK K hSw; (try simp only [Act.put, List.setIfInBounds_toArray, List.set_cons_zero, List.set_cons_succ])
    (repeat (first | (apply mix.held_take; (· rfl); (· rfl); (· (intro w' hSw; (try dsimp only at hSw); go_simp; try with_reducible rfl)); (try simp only [Act.put, List.setIfInBounds_toArray, List.set_cons_zero, List.set_cons_succ])) | ((refine mix.held_pass rfl (by rfl) ?_); (try simp only [Act.put, List.setIfInBounds_toArray, List.set_cons_zero, List.set_cons_succ]))))
    refine mix.held_hard rfl (fun K hK => ?_); go_simp
    refine (between_is (r := false) HR.out _).mono ?_
    rintro e W2 ⟨rfl, rfl⟩
    refine hK.out _ _ (HS.out) (fun hSw => ?_); clear hK K hSw; (try simp only [Act.put, List.setIfInBounds_toArray, List.set_cons_zero, List.set_cons_succ])
    (repeat (first | (apply mix.held_take; (· rfl); (· rfl); (· (intro w' hSw; (try dsimp only at hSw); go_simp; try with_reducible rfl)); (try simp only [Act.put, List.setIfInBounds_toArray, List.set_cons_zero, List.set_cons_succ])) | ((refine mix.held_pass rfl (by rfl) ?_); (try simp only [Act.put, List.setIfInBounds_toArray, List.set_cons_zero, List.set_cons_succ]))))
    refine mix.held_hard rfl (fun K hK => ?_); go_simp
    refine hK.out _ _ (HS.out) (fun hSw => ?_); clear hK K hSw; (try simp only [Act.put, List.setIfInBounds_toArray, List.set_cons_zero, List.set_cons_succ])
    (repeat (first | (apply mix.held_take; (· rfl); (· rfl); (· (intro w' hSw; (try dsimp only at hSw); go_simp; try with_reducible rfl)); (try simp only [Act.put, List.setIfInBounds_toArray, List.set_cons_zero, List.set_cons_succ])) | ((refine mix.held_pass rfl (by rfl) ?_); (try simp only [Act.put, List.setIfInBounds_toArray, List.set_cons_zero, List.set_cons_succ]))))
    refine mix.held_hard rfl (fun K hK => ?_); go_simp
    refine hK.out _ _ (HS.out) (fun hSw => ?_); clear hK K hSw; (try simp only [Act.put, List.setIfInBounds_toArray, List.set_cons_zero, List.set_cons_succ])
    (repeat (first | (apply mix.held_take; (· rfl); (· rfl); (· (intro w' hSw; (try dsimp only at hSw); go_simp; try with_reducible rfl)); (try simp only [Act.put, List.setIfInBounds_toArray, List.set_cons_zero, List.set_cons_succ])) | ((refine mix.held_pass rfl (by rfl) ?_); (try simp only [Act.put, List.setIfInBounds_toArray, List.set_cons_zero, List.set_cons_succ]))))
    refine mix.held_end ?_
    go_wp2_with fail
    go_ret
    exact ⟨rfl, B1.out.drew⟩

end Go.Proofs.Ytoglclmaacjdaaa.dat
