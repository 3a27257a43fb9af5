/-
  A DISK AT WORK (program): mountOf, disk.
-/
import Derived.Test.YtoglclmaacjdaaaMount
import Derived.Test.YtoglclmaacjdaaaMixOrd
import Derived.Test.YtoglclmaacjdaaaMixTail
namespace Go.Proofs.Ytoglclmaacjdaaa.dat
open Go.RowKit Go.Proofs.Ytoglclmaacjdaaa.win

theorem info_named : (Try.prog.info? 90).map (fun i => (i.zero, i.size, i.bytes)) = some (some (.pointer none), 1, 8) := by kernel_rfl
theorem file_sizes {w : World} {a : Option Addr} {len : Nat} {l : List FileD} {fp : List Nat} (h : GRow 3 RFile w a len l fp) {j : Nat} {x : FileD} (hx : l[j]? = some x) : x.name.size ≤ 9223372036854775807 ∧ x.safe.size ≤ 9223372036854775807 ∧ x.now.size ≤ 9223372036854775807 := by
  have hj : j < len := by rw [← h.1]; exact (List.getElem?_eq_some_iff.1 hx).1
  obtain ⟨b, off, y, f, cs, ha, hbl, hy, hcl, hR, hc⟩ := h.at hj
  rw [hx] at hy
  cases hy
  exact ⟨hR.2.1, hR.2.2.1, hR.2.2.2.1⟩

set_option maxRecDepth 100000 in
set_option maxHeartbeats 2000000 in
theorem mountOf_ (x : DiskD) (h : DiskH) (fp : List Nat) (w : World) (hin : Disk.Is w x h fp) (hmax : Disk.sz x ≤ 2000000) :
    Calls Try.prog 51 #[.agg (Disk.list x h).toArray] w fun e w' => ∃ v, e = .returned v ∧ Grows 1 RNamed 90 w.heap.size w' v (if diskB x.files then x.files else []) ∧ Below w.heap.size w w' := by
  obtain ⟨lx, hlx⟩ : ∃ lx, (if diskB x.files then x.files else []) = lx := ⟨_, rfl⟩
  rw [hlx]
  have HLX := Lib.hid hlx
  clear hlx
  have HI := Lib.hid hin
  have HM := Lib.hid hmax
  have HX := Lib.hid (Disk.row hin).1
  clear hin hmax
  obtain ⟨fa, fl, fc⟩ := h
  dsimp only at *
  have HX : Hid (GRow 3 RFile w fa fl x.files fp) := HX
  simp only [Disk.list]
  go_enter Try.func51, Try.ntmps51
  go_wp2_with fail
  refine calls_gen (fun W => Below w.heap.size w W ∧ Blk W w.heap.size 26 [.slice fa fl fc]) ⟨by repeat (first | exact Below.refl _ _ | refine Below.setCell ?_ (by first | omega | (simp; done) | (simp; omega)) _ | refine Below.alloc ?_ (by first | omega | (simp; done) | (simp; omega)) _ | apply Below.drew), by with_reducible (repeat (first | (refine blk_new_at _ _ _ _ ?_; first | rfl | (simp; done)) | refine Blk.alloc ?_ _ | apply Blk.drew | refine Blk.setOther ?_ (by first | (simp; done) | (simp; omega)) _))⟩ ?_
  rintro W ⟨b0, k0⟩
  refine (impl_DiskOk x ⟨fa, fl, fc⟩ fp W (HI.out.below b0) HM.out).mono ?_
  rintro e w1 ⟨rfl, b1⟩
  have B1 := Lib.hid (b0.trans (b1.mono b0.size))
  have K1 := k0.below b1 k0.lt
  have c0 := K1.cell 0
  simp at c0
  clear b0 k0 b1 K1 HI HM
  cases hd : diskB x.files with
  | false =>
    have E := Lib.hid (show lx = [] by rw [← HLX.out, hd]; rfl)
    clear hd
    go_wp2_with fail
    go_ret
    exact ⟨_, rfl, by rw [E.out]; exact Grows.nil, B1.out⟩
  | true =>
  have E := Lib.hid (show lx = x.files by rw [← HLX.out, hd]; rfl)
  have h4 : fl ≤ 4 := by rw [← HX.out.1]; exact ((diskB_iff _).1 hd).len
  clear hd
  go_wp2_with fail
  go_loopg [3, 13] fl (fun k v iv wr => ∃ j : Nat, j + k = fl ∧ iv = .int .i64 j ∧ Grows 1 RNamed 90 w.heap.size wr v (x.files.take j) ∧ Below w.heap.size w wr)
  case atStart => exact ⟨0, by omega, rfl, by simpa using Grows.nil, B1.out⟩
  case round =>
    obtain ⟨j, hj, rfl, hG, hB⟩ := hrel
    have HG := Lib.hid hG
    have HB := Lib.hid hB
    clear c0
    by_cases hlt : j < fl
    case neg =>
      obtain rfl : j = fl := by omega
      clear hG hB
      go_wp2_with fail
      go_ret
      refine ⟨_, rfl, ?_, HB.out⟩
      have := HG.out
      rw [List.take_of_length_le (by rw [HX.out.1]; exact Nat.le_refl _)] at this
      rw [E.out]
      exact this
    have hlt2 : (j : Int) < (fl : Int) := by omega
    have h02 : (0 : Int) ≤ (j : Int) := by omega
    obtain ⟨b, off, y, f, cs, rfl, hbl, hy, hcl, hR, hc⟩ := HX.out.at hlt
    obtain ⟨rfl, s0, s1, s2, rfl⟩ := hR
    have d0 := (hB.cell (p := ⟨b, off + j * 3 + 0, none⟩) hbl).trans (hc 0 (by omega))
    have d1 := (hB.cell (p := ⟨b, off + j * 3 + 1, none⟩) hbl).trans (hc 1 (by omega))
    have d2 := (hB.cell (p := ⟨b, off + j * 3 + 2, none⟩) hbl).trans (hc 2 (by omega))
    simp [File.list] at d0 d1 d2
    have HE := Lib.hid (show x.files.take (j + 1) = x.files.take j ++ [y] by rw [List.take_add_one, hy]; rfl)
    have hwl : (x.files.take j).length ≤ j := by simp; omega
    have hsz := hB.size
    obtain ⟨i0, hi, hi2⟩ := Option.map_eq_some_iff.1 info_named
    simp only [Prod.mk.injEq] at hi2
    obtain ⟨hz0, hz1, hz2⟩ := hi2
    have HI0 := Lib.hid (And.intro hi (And.intro hz0 (And.intro hz1 hz2)))
    clear hG hB hc hy hi hz0 hz1 hz2
    go_wp2_with (at_builtin; refine push local_Named rfl _ _ 86 rfl i0 (.pointer none) 8 Try.underlying86 HI0.out.1 HI0.out.2.1 HI0.out.2.2.1 HI0.out.2.2.2 rfl (by decide) rfl HG.out (show Below wr.heap.size wr _ by repeat (first | exact Below.refl _ _ | refine Below.setCell ?_ (by first | omega | (simp; done) | (simp; omega)) _ | refine Below.alloc ?_ (by first | omega | (simp; done) | (simp; omega)) _ | apply Below.drew)) (wr.heap.size + 1 + 1) 1 rfl [.pointer (some ⟨wr.heap.size + 1, 0, none⟩)] rfl (fun u hu => by simp at hu; subst hu; rfl) ?_ y [wr.heap.size + 1] ⟨_, rfl, ?_, rfl⟩ ⟨by simp, ?_⟩ (by omega) (by unfold maxLen; omega) (by omega) ?_)
    · intro q u hq
      exact ((blk_new_at _ _ _ _ (by simp)).cell q).trans hq
    · unfold Named.list
      with_reducible (repeat (first | (refine blk_new_at _ _ _ _ ?_; first | rfl | (simp; done)) | refine Blk.alloc ?_ _ | apply Blk.drew | refine Blk.setOther ?_ (by first | (simp; done) | (simp; omega)) _))
    · intro c hc
      simp at hc
      subst hc
      refine ⟨by omega, Blk.wr (t := 101) (vs := Named.list y) ?_⟩
      unfold Named.list
      with_reducible (repeat (first | (refine blk_new_at _ _ _ _ ?_; first | rfl | (simp; done)) | refine Blk.alloc ?_ _ | apply Blk.drew | refine Blk.setOther ?_ (by first | (simp; done) | (simp; omega)) _))
    intro v' w4 hG4 hb4
    go_wp2_with fail
    go_roundg (fl - (j + 1))
    case measure => omega
    case rel =>
      refine ⟨j + 1, by omega, by go_num, by rw [HE.out]; exact hG4, ?_⟩
      have hb := HB.out
      refine Below.trans ?_ hb4
      repeat (first | exact Below.refl _ _ | refine Below.setCell ?_ (by first | omega | (simp; done) | (simp; omega)) _ | refine Below.alloc ?_ (by first | omega | (simp; done) | (simp; omega)) _ | apply Below.drew | refine Below.trans ?_ (hb.mono (by first | omega | (simp; done) | (simp; omega))))
end Go.Proofs.Ytoglclmaacjdaaa.dat
