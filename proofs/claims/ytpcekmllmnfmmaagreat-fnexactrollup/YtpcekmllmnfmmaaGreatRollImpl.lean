/-
  THE CONTRACTS OF rollsUp, RollUp of the program: what the map holds behind so many panes; what comes of it in new memory.
-/
import Derived.Test.YtpcekmllmnfmmaaGreatCubeDims
import Derived.Test.YtpcekmllmnfmmaaGreatCubeList
import Derived.Test.YtpcekmllmnfmmaaGreatCubeJoin
import Derived.Test.YtpcekmllmnfmmaaGreatMixHeld
namespace Go.Proofs.YtpcekmllmnfmmaaGreat.dat
open Go.RowKit Go.Proofs.YtpcekmllmnfmmaaGreat.win

def maskN (c : ConfD) (k : Int) : Int := (c.ms[k.toNat]?).getD 0
/-- rollsUp. -/
def rollsB (c : ConfD) (fr tt : Int) : Bool := placeB c.ms.length fr && placeB c.ms.length tt && maskB (maskN c tt) (maskN c fr)
theorem cell_mask {c : ConfD} {ch : ConfigH} {cf : List Nat} {w : World} (hc : Config.Is w c ch cf) {i : Nat} (hi : i < ch.msl) : ∃ b off, ch.msa = some ⟨b, off, none⟩ ∧ b < w.heap.size ∧ w.cell? ⟨b, off + i, none⟩ = some (.int .i64 (maskN c i)) ∧ c.ms[i]? = some (maskN c i) := by
  obtain ⟨f0, f1, rfl, r0, u0, v0, r1, u1, v1⟩ := hc
  obtain ⟨b, off, x, f, cs, ha, hbl, hx, hcl, hR, hcell⟩ := r1.at hi
  obtain ⟨rfl, rfl⟩ := hR
  have e : maskN c i = x := by unfold maskN; rw [Int.toNat_natCast, hx]; rfl
  rw [e]
  exact ⟨b, off, ha, hbl, by simpa using hcell 0 (by omega), hx⟩

theorem place_is {n : Nat} {k : Int} {r : Bool} (h : placeB n k = r) (a : Option Addr) (cap : Nat) (w : World) : Calls Tryz.prog 72 #[.slice a n cap, .int .i64 k] w fun e w' => e = .returned (.bool r) ∧ w' = w := (placeInt a n cap k w).mono fun _ _ ⟨x, y⟩ => ⟨by rw [x, h], y.symm⟩
set_option maxRecDepth 100000 in
set_option maxHeartbeats 1000000 in
theorem rollsUp (c : ConfD) (ch : ConfigH) (cf : List Nat) (fr tt : Int) (w : World) (hc : Config.Is w c ch cf) (hok : confD c = true) :
    Calls Tryz.prog 37 #[.agg (Config.list c ch).toArray, .int .i64 fr, .int .i64 tt] w fun e w' => e = .returned (.bool (rollsB c fr tt)) ∧ Below w.heap.size w w' := by
  have hml : c.ms.length = ch.msl := by obtain ⟨f0, f1, rfl, r0, u0, v0, r1, u1, v1⟩ := hc; exact r1.1
  unfold rollsB
  rw [hml]
  have HC := Lib.hid hc
  have HOK := Lib.hid hok
  clear hc hok hml
  simp only [Config.list]
  cases p1 : placeB ch.msl fr with
  | false =>
    have P1 := Lib.hid p1
    clear p1
    go_enter Tryz.func37, Tryz.ntmps37
    go_wp2_with fail
    refine wp_gen (fun W => Below w.heap.size w W ∧ Blk W w.heap.size 33 (Config.list c ch)) ⟨by repeat (first | exact Below.refl _ _ | refine Below.setCell ?_ (by first | omega | (simp; done) | (simp; omega)) _ | refine Below.alloc ?_ (by first | omega | (simp; done) | (simp; omega)) _ | apply Below.drew), by unfold Config.list; with_reducible (repeat (first | (refine blk_new_at _ _ _ _ ?_; first | rfl | (simp; done)) | refine Blk.alloc ?_ _ | apply Blk.drew | refine Blk.setOther ?_ (by first | (simp; done) | (simp; omega)) _))⟩ ?_
    rintro W1 ⟨b1, k1⟩
    have B1 := Lib.hid b1
    have c2 := k1.cell 2
    simp [Config.list] at c2
    clear k1 b1
    refine mix.wp_region_mixh (fun w' => w'.cell? ⟨w.heap.size, 2, none⟩ = some (.slice ch.msa ch.msl ch.msc)) [3,8,21] (by kernel_rfl) (by kernel_rfl) (fun _ _ d _ _ h => by cases d <;> exact h) c2 ?_
    (repeat (first | (apply mix.held_take; (· rfl); (· rfl); (· (intro w' hSw; (try dsimp only at hSw); go_simp; try with_reducible rfl)); (try simp only [Act.put, List.setIfInBounds_toArray, List.set_cons_zero, List.set_cons_succ])) | ((refine mix.held_pass rfl (by rfl) ?_); (try simp only [Act.put, List.setIfInBounds_toArray, List.set_cons_zero, List.set_cons_succ]))))
    refine mix.held_hard rfl (fun K hK => ?_); go_simp
    refine (place_is P1.out _ _ _).mono ?_
    rintro e W2 ⟨rfl, rfl⟩
    refine hK.out _ _ (c2) (fun hSw => ?_); clear hK K hSw; (try simp only [Act.put, List.setIfInBounds_toArray, List.set_cons_zero, List.set_cons_succ])
    (repeat (first | (apply mix.held_take; (· rfl); (· rfl); (· (intro w' hSw; (try dsimp only at hSw); go_simp; try with_reducible rfl)); (try simp only [Act.put, List.setIfInBounds_toArray, List.set_cons_zero, List.set_cons_succ])) | ((refine mix.held_pass rfl (by rfl) ?_); (try simp only [Act.put, List.setIfInBounds_toArray, List.set_cons_zero, List.set_cons_succ]))))
    refine mix.held_hard rfl (fun K hK => ?_); go_simp
    refine hK.out _ _ (c2) (fun hSw => ?_); clear hK K hSw; (try simp only [Act.put, List.setIfInBounds_toArray, List.set_cons_zero, List.set_cons_succ])
    (repeat (first | (apply mix.held_take; (· rfl); (· rfl); (· (intro w' hSw; (try dsimp only at hSw); go_simp; try with_reducible rfl)); (try simp only [Act.put, List.setIfInBounds_toArray, List.set_cons_zero, List.set_cons_succ])) | ((refine mix.held_pass rfl (by rfl) ?_); (try simp only [Act.put, List.setIfInBounds_toArray, List.set_cons_zero, List.set_cons_succ]))))
    refine mix.held_hard rfl (fun K hK => ?_); go_simp
    refine hK.out _ _ (c2) (fun hSw => ?_); clear hK K hSw; (try simp only [Act.put, List.setIfInBounds_toArray, List.set_cons_zero, List.set_cons_succ])
    (repeat (first | (apply mix.held_take; (· rfl); (· rfl); (· (intro w' hSw; (try dsimp only at hSw); go_simp; try with_reducible rfl)); (try simp only [Act.put, List.setIfInBounds_toArray, List.set_cons_zero, List.set_cons_succ])) | ((refine mix.held_pass rfl (by rfl) ?_); (try simp only [Act.put, List.setIfInBounds_toArray, List.set_cons_zero, List.set_cons_succ]))))
    refine mix.held_end ?_
    go_wp2_with fail
    go_ret
    exact ⟨rfl, by repeat (first | exact Below.refl _ _ | refine Below.setCell ?_ (by first | omega | (simp; done) | (simp; omega)) _ | refine Below.alloc ?_ (by first | omega | (simp; done) | (simp; omega)) _ | apply Below.drew | refine Below.trans ?_ (B1.out.mono (by first | omega | (simp; done) | (simp; omega))))⟩
  | true =>
  cases p2 : placeB ch.msl tt with
  | false =>
    have P1 := Lib.hid p1
    have P2 := Lib.hid p2
    clear p1 p2
    go_enter Tryz.func37, Tryz.ntmps37
    go_wp2_with fail
    refine wp_gen (fun W => Below w.heap.size w W ∧ Blk W w.heap.size 33 (Config.list c ch)) ⟨by repeat (first | exact Below.refl _ _ | refine Below.setCell ?_ (by first | omega | (simp; done) | (simp; omega)) _ | refine Below.alloc ?_ (by first | omega | (simp; done) | (simp; omega)) _ | apply Below.drew), by unfold Config.list; with_reducible (repeat (first | (refine blk_new_at _ _ _ _ ?_; first | rfl | (simp; done)) | refine Blk.alloc ?_ _ | apply Blk.drew | refine Blk.setOther ?_ (by first | (simp; done) | (simp; omega)) _))⟩ ?_
    rintro W1 ⟨b1, k1⟩
    have B1 := Lib.hid b1
    have c2 := k1.cell 2
    simp [Config.list] at c2
    clear k1 b1
    refine mix.wp_region_mixh (fun w' => w'.cell? ⟨w.heap.size, 2, none⟩ = some (.slice ch.msa ch.msl ch.msc)) [3,8,21] (by kernel_rfl) (by kernel_rfl) (fun _ _ d _ _ h => by cases d <;> exact h) c2 ?_
    (repeat (first | (apply mix.held_take; (· rfl); (· rfl); (· (intro w' hSw; (try dsimp only at hSw); go_simp; try with_reducible rfl)); (try simp only [Act.put, List.setIfInBounds_toArray, List.set_cons_zero, List.set_cons_succ])) | ((refine mix.held_pass rfl (by rfl) ?_); (try simp only [Act.put, List.setIfInBounds_toArray, List.set_cons_zero, List.set_cons_succ]))))
    refine mix.held_hard rfl (fun K hK => ?_); go_simp
    refine (place_is P1.out _ _ _).mono ?_
    rintro e W2 ⟨rfl, rfl⟩
    refine hK.out _ _ (c2) (fun hSw => ?_); clear hK K hSw; (try simp only [Act.put, List.setIfInBounds_toArray, List.set_cons_zero, List.set_cons_succ])
    (repeat (first | (apply mix.held_take; (· rfl); (· rfl); (· (intro w' hSw; (try dsimp only at hSw); go_simp; try with_reducible rfl)); (try simp only [Act.put, List.setIfInBounds_toArray, List.set_cons_zero, List.set_cons_succ])) | ((refine mix.held_pass rfl (by rfl) ?_); (try simp only [Act.put, List.setIfInBounds_toArray, List.set_cons_zero, List.set_cons_succ]))))
    refine mix.held_hard rfl (fun K hK => ?_); go_simp
    refine (place_is P2.out _ _ _).mono ?_
    rintro e W2 ⟨rfl, rfl⟩
    refine hK.out _ _ (c2) (fun hSw => ?_); clear hK K hSw; (try simp only [Act.put, List.setIfInBounds_toArray, List.set_cons_zero, List.set_cons_succ])
    (repeat (first | (apply mix.held_take; (· rfl); (· rfl); (· (intro w' hSw; (try dsimp only at hSw); go_simp; try with_reducible rfl)); (try simp only [Act.put, List.setIfInBounds_toArray, List.set_cons_zero, List.set_cons_succ])) | ((refine mix.held_pass rfl (by rfl) ?_); (try simp only [Act.put, List.setIfInBounds_toArray, List.set_cons_zero, List.set_cons_succ]))))
    refine mix.held_hard rfl (fun K hK => ?_); go_simp
    refine hK.out _ _ (c2) (fun hSw => ?_); clear hK K hSw; (try simp only [Act.put, List.setIfInBounds_toArray, List.set_cons_zero, List.set_cons_succ])
    (repeat (first | (apply mix.held_take; (· rfl); (· rfl); (· (intro w' hSw; (try dsimp only at hSw); go_simp; try with_reducible rfl)); (try simp only [Act.put, List.setIfInBounds_toArray, List.set_cons_zero, List.set_cons_succ])) | ((refine mix.held_pass rfl (by rfl) ?_); (try simp only [Act.put, List.setIfInBounds_toArray, List.set_cons_zero, List.set_cons_succ]))))
    refine mix.held_end ?_
    go_wp2_with fail
    go_ret
    exact ⟨rfl, by repeat (first | exact Below.refl _ _ | refine Below.setCell ?_ (by first | omega | (simp; done) | (simp; omega)) _ | refine Below.alloc ?_ (by first | omega | (simp; done) | (simp; omega)) _ | apply Below.drew | refine Below.trans ?_ (B1.out.mono (by first | omega | (simp; done) | (simp; omega))))⟩
  | true =>
  obtain ⟨i, rfl, hi⟩ := placeB_nat p1
  obtain ⟨j, rfl, hj⟩ := placeB_nat p2
  have P1 := Lib.hid p1
  have P2 := Lib.hid p2
  clear p1 p2
  obtain ⟨b, off, ha, hbl, ci, ui⟩ := cell_mask HC.out hi
  obtain ⟨b', off', ha', hbl', cj, uj⟩ := cell_mask HC.out hj
  rw [ha] at ha'
  cases ha'
  obtain ⟨mi, hmi⟩ : ∃ mi, maskN c i = mi := ⟨_, rfl⟩
  obtain ⟨mj, hmj⟩ : ∃ mj, maskN c j = mj := ⟨_, rfl⟩
  rw [hmi] at ci ui ⊢
  rw [hmj] at cj uj ⊢
  have hmm := conf_mask HOK.out uj
  have HMI := Lib.hid (fun w => flip_call (impl_MaskIn mj mi w (by omega)))
  have HA := Lib.hid ha
  have CI := Lib.hid ci
  have CJ := Lib.hid cj
  have hi2 : (i : Int) < (ch.msl : Int) := by omega
  have hi0 : (0 : Int) ≤ (i : Int) := by omega
  have hj2 : (j : Int) < (ch.msl : Int) := by omega
  have hj0 : (0 : Int) ≤ (j : Int) := by omega
  clear ui uj hmi hmj ha ci cj hmm
  go_enter Tryz.func37, Tryz.ntmps37
  go_wp2_with fail
  refine wp_gen (fun W => Below w.heap.size w W ∧ Blk W w.heap.size 33 (Config.list c ch)) ⟨by repeat (first | exact Below.refl _ _ | refine Below.setCell ?_ (by first | omega | (simp; done) | (simp; omega)) _ | refine Below.alloc ?_ (by first | omega | (simp; done) | (simp; omega)) _ | apply Below.drew), by unfold Config.list; with_reducible (repeat (first | (refine blk_new_at _ _ _ _ ?_; first | rfl | (simp; done)) | refine Blk.alloc ?_ _ | apply Blk.drew | refine Blk.setOther ?_ (by first | (simp; done) | (simp; omega)) _))⟩ ?_
  rintro W1 ⟨b1, k1⟩
  have B1 := Lib.hid b1
  have c2 := k1.cell 2
  simp [Config.list] at c2
  rw [HA.out] at c2
  have g0 : W1.cell? ⟨b, off + i, none⟩ = some (.int .i64 mi) := (b1.cell (p := ⟨b, off + i, none⟩) hbl).trans CI.out
  have g1 : W1.cell? ⟨b, off + j, none⟩ = some (.int .i64 mj) := (b1.cell (p := ⟨b, off + j, none⟩) hbl).trans CJ.out
  clear k1 b1
  refine mix.wp_region_mixh (fun w' => w'.cell? ⟨w.heap.size, 2, none⟩ = some (.slice (some ⟨b, off, none⟩) ch.msl ch.msc) ∧ w'.cell? ⟨b, off + i, none⟩ = some (.int .i64 mi) ∧ w'.cell? ⟨b, off + j, none⟩ = some (.int .i64 mj)) [3,8,21] (by kernel_rfl) (by kernel_rfl) (fun _ _ d _ _ h => by cases d <;> exact h) ⟨c2, g0, g1⟩ ?_
  (repeat (first | (apply mix.held_take; (· rfl); (· rfl); (· (intro w' hSw; (try dsimp only at hSw); go_simp; try with_reducible rfl)); (try simp only [Act.put, List.setIfInBounds_toArray, List.set_cons_zero, List.set_cons_succ])) | ((refine mix.held_pass rfl (by rfl) ?_); (try simp only [Act.put, List.setIfInBounds_toArray, List.set_cons_zero, List.set_cons_succ]))))
  refine mix.held_hard rfl (fun K hK => ?_); go_simp
  refine (place_is P1.out _ _ _).mono ?_
  rintro e W2 ⟨rfl, rfl⟩
  refine hK.out _ _ (⟨c2, g0, g1⟩) (fun hSw => ?_); clear hK K hSw; (try simp only [Act.put, List.setIfInBounds_toArray, List.set_cons_zero, List.set_cons_succ])
  (repeat (first | (apply mix.held_take; (· rfl); (· rfl); (· (intro w' hSw; (try dsimp only at hSw); go_simp; try with_reducible rfl)); (try simp only [Act.put, List.setIfInBounds_toArray, List.set_cons_zero, List.set_cons_succ])) | ((refine mix.held_pass rfl (by rfl) ?_); (try simp only [Act.put, List.setIfInBounds_toArray, List.set_cons_zero, List.set_cons_succ]))))
  refine mix.held_hard rfl (fun K hK => ?_); go_simp
  refine (place_is P2.out _ _ _).mono ?_
  rintro e W2 ⟨rfl, rfl⟩
  refine hK.out _ _ (⟨c2, g0, g1⟩) (fun hSw => ?_); clear hK K hSw; (try simp only [Act.put, List.setIfInBounds_toArray, List.set_cons_zero, List.set_cons_succ])
  (repeat (first | (apply mix.held_take; (· rfl); (· rfl); (· (intro w' hSw; (try dsimp only at hSw); go_simp; try with_reducible rfl)); (try simp only [Act.put, List.setIfInBounds_toArray, List.set_cons_zero, List.set_cons_succ])) | ((refine mix.held_pass rfl (by rfl) ?_); (try simp only [Act.put, List.setIfInBounds_toArray, List.set_cons_zero, List.set_cons_succ]))))
  refine mix.held_hard rfl (fun K hK => ?_); go_simp
  refine (HMI.out _).mono ?_
  rintro e W2 ⟨rfl, rfl⟩
  refine hK.out _ _ (⟨c2, g0, g1⟩) (fun hSw => ?_); clear hK K hSw; (try simp only [Act.put, List.setIfInBounds_toArray, List.set_cons_zero, List.set_cons_succ])
  (repeat (first | (apply mix.held_take; (· rfl); (· rfl); (· (intro w' hSw; (try dsimp only at hSw); go_simp; try with_reducible rfl)); (try simp only [Act.put, List.setIfInBounds_toArray, List.set_cons_zero, List.set_cons_succ])) | ((refine mix.held_pass rfl (by rfl) ?_); (try simp only [Act.put, List.setIfInBounds_toArray, List.set_cons_zero, List.set_cons_succ]))))
  refine mix.held_end ?_
  go_wp2_with fail
  go_ret
  exact ⟨rfl, by repeat (first | exact Below.refl _ _ | refine Below.setCell ?_ (by first | omega | (simp; done) | (simp; omega)) _ | refine Below.alloc ?_ (by first | omega | (simp; done) | (simp; omega)) _ | apply Below.drew | refine Below.trans ?_ (B1.out.mono (by first | omega | (simp; done) | (simp; omega))))⟩
end Go.Proofs.YtpcekmllmnfmmaaGreat.dat
