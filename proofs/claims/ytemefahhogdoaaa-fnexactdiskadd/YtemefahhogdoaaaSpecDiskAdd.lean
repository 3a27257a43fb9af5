/-
  THE CONTRACT OF DiskAdd of the model.
-/
import Derived.Test.YtemefahhogdoaaaDiskAdd
namespace Go.Proofs.Ytemefahhogdoaaa.dat
open Go.RowKit Go.Proofs.Ytemefahhogdoaaa.win

theorem readD_size (l : List FileD) (name : ByteArray) : (readD l name).size ≤ 200000 := by
  unfold readD
  split
  · rename_i h
    unfold atF
    cases hf : l.find? (fun f => decide (f.name = name)) with
    | none => simp
    | some f => exact (diskP_sizes ((diskB_iff _).1 h) f (List.mem_of_find?_eq_some hf)).2.2
  · simp
set_option maxRecDepth 100000 in
set_option maxHeartbeats 4000000 in
theorem spec_DiskAdd (x : DiskD) (h : DiskH) (fp : List Nat) (name s : ByteArray) (w : World) (hin : Disk.Is w x h fp) (hs1 : name.size ≤ 9223372036854775807) (hs2 : s.size ≤ 9223372036854775807) (hmax : Disk.sz x ≤ 2000000) :
    Calls Try.prog 24 #[.agg (Disk.list x h).toArray, .string name, .string s] w (CopiedDiskB w ⟨(addD x.files name s).1⟩ (addD x.files name s).2) := by
  have HI := Lib.hid hin
  have HM := Lib.hid hmax
  have HS1 := Lib.hid hs1
  have HS2 := Lib.hid hs2
  clear hin hmax hs1 hs2
  obtain ⟨ls, hls⟩ : ∃ ls, addD x.files name s = ls := ⟨_, rfl⟩
  rw [hls]
  have HLS := Lib.hid hls
  clear hls
  obtain ⟨fa, fl, fc⟩ := h
  simp only [Disk.list]
  go_enter Try.func24, Try.ntmps24
  by_cases hs : s.size ≤ 200000
  case neg =>
    have E := Lib.hid (show ls = ([], false) by rw [← HLS.out]; unfold addD; rw [if_neg hs])
    have hs3 : (200000 : Int) < (s.size : Int) := by omega
    clear hs
    go_wp2_with fail
    refine body_gen (fun W => Below w.heap.size w W ∧ Blk W (w.heap.size + 1) 29 [.slice none 0 0]) ⟨?_, ?_⟩ ?_
    · repeat (first | exact Below.refl _ _ | refine Below.setCell ?_ (by first | omega | (simp; done) | (simp; omega)) _ | refine Below.alloc ?_ (by first | omega | (simp; done) | (simp; omega)) _ | apply Below.drew)
    · have k1 : Blk ((w.alloc (.cells #[.slice fa fl fc] 29)).alloc (.cells #[.slice none 0 0] 29)) (w.heap.size + 1) 29 [.slice none 0 0] := by with_reducible (repeat (first | (refine blk_new_at _ _ _ _ ?_; first | rfl | (simp; done)) | refine Blk.alloc ?_ _ | apply Blk.drew | refine Blk.setOther ?_ (by first | (simp; done) | (simp; omega)) _))
      (apply Blk.of_eq; (repeat (first | (with_reducible exact k1) | (with_reducible apply Blk.set) | ((with_reducible apply Blk.other); · first | (simp; done) | (simp; omega)) | (with_reducible apply Blk.drew))); rfl)
    rintro W' ⟨bw, kw⟩
    have e0 := kw.cell 0
    simp at e0
    refine bodyPost_ret (v := .tuple #[.agg (Disk.list ⟨ls.1⟩ ⟨none, 0, 0⟩).toArray, .bool ls.2]) (by rw [E.out]; simp [results, Try.results24, go_sem, e0, Disk.list]) rfl ?_
    rw [E.out]
    exact ⟨⟨none, 0, 0⟩, [], rfl, ⟨[], rfl, GRow.nil, Nat.le_refl _, Nat.zero_le _⟩, Own.nil, bw⟩
  have hs3 : ¬ (200000 : Int) < (s.size : Int) := by omega
  obtain ⟨rd, hrd⟩ : ∃ rd, readD x.files name = rd := ⟨_, rfl⟩
  have HRS := Lib.hid (show (rd ++ s).size ≤ 9223372036854775807 by have := readD_size x.files name; rw [hrd] at this; rw [ByteArray.size_append]; omega)
  have E := Lib.hid (show putD x.files name (rd ++ s) = ls by rw [← HLS.out]; unfold addD; rw [if_pos hs, hrd])
  have HRD := Lib.hid hrd
  clear hs hrd
  go_wp2_with fail
  refine wp_gen (fun W => Below w.heap.size w W ∧ Blk W w.heap.size 29 [.slice fa fl fc] ∧ Blk W (w.heap.size + 1) 29 [.slice none 0 0]) ⟨by repeat (first | exact Below.refl _ _ | refine Below.setCell ?_ (by first | omega | (simp; done) | (simp; omega)) _ | refine Below.alloc ?_ (by first | omega | (simp; done) | (simp; omega)) _ | apply Below.drew), by with_reducible (repeat (first | (refine blk_new_at _ _ _ _ ?_; first | rfl | (simp; done)) | refine Blk.alloc ?_ _ | apply Blk.drew | refine Blk.setOther ?_ (by first | (simp; done) | (simp; omega)) _)), by with_reducible (repeat (first | (refine blk_new_at _ _ _ _ ?_; first | rfl | (simp; done)) | refine Blk.alloc ?_ _ | apply Blk.drew | refine Blk.setOther ?_ (by first | (simp; done) | (simp; omega)) _))⟩ ?_
  rintro W ⟨bw, k0, k1⟩
  have B := Lib.hid bw
  have K0 := Lib.hid k0
  have K1 := Lib.hid k1
  have c0 : W.cell? ⟨w.heap.size, 0, none⟩ = some (.slice fa fl fc) := by have := k0.cell 0; simpa using this
  clear bw k0 k1 hs3
  have hcat : ¬ 9223372036854775807 < rd.size + s.size := by have := HRS.out; rw [ByteArray.size_append] at this; omega
  refine mix.wp_region_ord (fun w' => w'.cell? ⟨w.heap.size, 0, none⟩ = some (.slice fa fl fc)) [4,7,10] [0,1,2,3,5,4,6,7,8,9,10,11] (by kernel_rfl) (by kernel_rfl) (fun _ _ d _ _ h => by cases d <;> exact h) c0 ?_
  simp only [List.filterMap_cons, List.filterMap_nil, List.getElem?_cons_zero, List.getElem?_cons_succ, Option.map_some]
  (repeat (first | (apply mix.ord_take; (· rfl); (· rfl); (· (intro w' hSw; (try dsimp only at hSw); go_simp; try with_reducible rfl)); (try simp only [Act.put, List.setIfInBounds_toArray, List.set_cons_zero, List.set_cons_succ])) | ((refine mix.ord_pass rfl (by rfl) ?_); (try simp only [Act.put, List.setIfInBounds_toArray, List.set_cons_zero, List.set_cons_succ]))))
  refine mix.ord_hard rfl (fun K hK => ?_); go_simp
  have b1 : Below W.heap.size W W.drew := by repeat (first | exact Below.refl _ _ | refine Below.setCell ?_ (by first | omega | (simp; done) | (simp; omega)) _ | refine Below.alloc ?_ (by first | omega | (simp; done) | (simp; omega)) _ | apply Below.drew)
  refine (spec_DiskRead x ⟨fa, fl, fc⟩ fp name W.drew (HI.out.below (B.out.trans (b1.mono B.out.size))) HS1.out HM.out).mono ?_
  rintro e W2 ⟨rfl, b2⟩
  rw [HRD.out]
  have B2 := Lib.hid ((B.out.trans (b1.mono B.out.size)).trans (b2.mono B.out.size))
  have k02 : Blk W2 w.heap.size 29 [.slice fa fl fc] := (K0.out.drew).below b2 K0.out.lt
  have K12 := Lib.hid (show Blk W2 (w.heap.size + 1) 29 [.slice none 0 0] from (K1.out.drew).below b2 K1.out.lt)
  have c2 : W2.cell? ⟨w.heap.size, 0, none⟩ = some (.slice fa fl fc) := by have := k02.cell 0; simpa using this
  have K02 := Lib.hid k02
  clear k02 b1 b2 c0
  refine hK.out _ _ (c2) (fun hSw => ?_); clear hK K hSw; (try simp only [Act.put, List.setIfInBounds_toArray, List.set_cons_zero, List.set_cons_succ])
  (repeat (first | (apply mix.ord_take; (· rfl); (· rfl); (· (intro w' hSw; (try dsimp only at hSw); go_simp; try with_reducible rfl)); (try simp only [Act.put, List.setIfInBounds_toArray, List.set_cons_zero, List.set_cons_succ])) | ((refine mix.ord_pass rfl (by rfl) ?_); (try simp only [Act.put, List.setIfInBounds_toArray, List.set_cons_zero, List.set_cons_succ]))))
  refine mix.ord_hard rfl (fun K hK => ?_); go_simp
  refine (spec_DiskPut x ⟨fa, fl, fc⟩ fp name (rd ++ s) W2 (HI.out.below B2.out) HS1.out HRS.out HM.out).mono ?_
  rintro e W3 ⟨h', fp', rfl, hi', how, b3⟩
  rw [E.out] at hi' ⊢
  have B3 := Lib.hid (B2.out.trans (b3.mono B2.out.size))
  have k03 := K02.out.below b3 K02.out.lt
  have K13 := Lib.hid (K12.out.below b3 K12.out.lt)
  have c3 : W3.cell? ⟨w.heap.size, 0, none⟩ = some (.slice fa fl fc) := by have := k03.cell 0; simpa using this
  have HH := Lib.hid (And.intro hi' (how.mono B2.out.size))
  have HW := Lib.hid (show ∀ b ∈ fp', W2.heap.size ≤ b from fun b hb => (how.2 b hb).1)
  have r0 := K13.out.cell 0
  have rf := K13.out.frozen
  simp at r0
  have hk12 := K12.out.lt
  clear hi' how b3 k03 c2
  obtain ⟨fa', fl', fc'⟩ := h'
  simp only [Disk.list]
  refine hK.out _ _ (c3) (fun hSw => ?_); clear hK K hSw; (try simp only [Act.put, List.setIfInBounds_toArray, List.set_cons_zero, List.set_cons_succ])
  (repeat (first | (apply mix.ord_take; (· rfl); (· rfl); (· (intro w' hSw; (try dsimp only at hSw); go_simp; try with_reducible rfl)); (try simp only [Act.put, List.setIfInBounds_toArray, List.set_cons_zero, List.set_cons_succ])) | ((refine mix.ord_pass rfl (by rfl) ?_); (try simp only [Act.put, List.setIfInBounds_toArray, List.set_cons_zero, List.set_cons_succ]))))
  refine mix.ord_hard rfl (fun K hK => ?_); go_simp
  have c4 : (W3.setCell ⟨w.heap.size + 1, 0, none⟩ (.slice fa' fl' fc')).cell? ⟨w.heap.size, 0, none⟩ = some (.slice fa fl fc) := (World.cell?_setCell_other _ _ _ _ (by intro e; have := congrArg Addr.block e; simp at this)).trans c3
  refine hK.out _ _ (c4) (fun hSw => ?_); clear hK K hSw; (try simp only [Act.put, List.setIfInBounds_toArray, List.set_cons_zero, List.set_cons_succ])
  (repeat (first | (apply mix.ord_take; (· rfl); (· rfl); (· (intro w' hSw; (try dsimp only at hSw); go_simp; try with_reducible rfl)); (try simp only [Act.put, List.setIfInBounds_toArray, List.set_cons_zero, List.set_cons_succ])) | ((refine mix.ord_pass rfl (by rfl) ?_); (try simp only [Act.put, List.setIfInBounds_toArray, List.set_cons_zero, List.set_cons_succ]))))
  refine mix.ord_end ?_
  go_wp2_with fail
  refine body_gen (fun W => Below w.heap.size w W ∧ Blk W (w.heap.size + 1) 29 [.slice fa' fl' fc'] ∧ Disk.Is W ⟨ls.1⟩ ⟨fa', fl', fc'⟩ fp' ∧ Own w.heap.size W fp') ⟨?_, ?_, ?_, ?_⟩ ?_
  · have hb := B3.out
    have hbs := hb.size
    repeat (first | exact Below.refl _ _ | refine Below.setCell ?_ (by first | omega | (simp; done) | (simp; omega)) _ | refine Below.alloc ?_ (by first | omega | (simp; done) | (simp; omega)) _ | apply Below.drew | refine Below.trans ?_ (hb.mono (by first | omega | (simp; done) | (simp; omega))))
  · (apply Blk.of_eq; (repeat (first | (with_reducible exact K13.out) | (with_reducible apply Blk.set) | ((with_reducible apply Blk.other); · first | (simp; done) | (simp; omega)) | (with_reducible apply Blk.drew))); rfl)
  · refine HH.out.1.keep (fun q hq => ?_)
    have := HW.out q hq
    rw [Below.heap_setCell _ _ _ q (by simp; omega)]
  · refine HH.out.2.keep (fun q hq => ?_)
    have := HW.out q hq
    rw [Below.heap_setCell _ _ _ q (by simp; omega)]
  clear r0 rf c3 c4
  rintro W4 ⟨bw, kw, iw, ow⟩
  have e0 := kw.cell 0
  simp at e0
  refine bodyPost_ret (v := .tuple #[.agg (Disk.list ⟨ls.1⟩ ⟨fa', fl', fc'⟩).toArray, .bool ls.2]) (by simp [results, Try.results24, go_sem, e0, Disk.list]) rfl ?_
  exact ⟨⟨fa', fl', fc'⟩, fp', rfl, iw, ow, bw⟩
end Go.Proofs.Ytemefahhogdoaaa.dat
