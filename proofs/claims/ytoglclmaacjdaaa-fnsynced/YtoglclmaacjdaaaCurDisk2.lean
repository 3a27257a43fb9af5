/-
  THE DRAW OF A DISK.
-/
import Derived.Test.YtoglclmaacjdaaaCurDisk
import Derived.Test.YtoglclmaacjdaaaSpecSyncOwn
import Derived.Test.YtoglclmaacjdaaaDiskPutC
namespace Go.Proofs.Ytoglclmaacjdaaa.dat
open Go.RowKit Go.Proofs.Ytoglclmaacjdaaa.win Go.Proofs.Ytoglclmaacjdaaa.cur

/-- Texts of at most n bytes, names of at most 20. -/
def SizeTo (n : Nat) (l : List FileD) : Prop := ∀ x ∈ l, x.name.size ≤ 20 ∧ x.safe.size ≤ n ∧ x.now.size ≤ n
theorem putF_sizeTo {n : Nat} {name s : ByteArray} (hn : name.size ≤ 20) (hs : s.size ≤ n) : ∀ {l : List FileD}, SizeTo n l → SizeTo n (putF name s l)
  | [], _, x, hx => by
    simp [putF] at hx
    subst hx
    exact ⟨hn, by simp, hs⟩
  | f :: r, h, x, hx => by
    have hf := h f (by simp)
    have hr := putF_sizeTo (l := r) hn hs (fun y hy => h y (List.mem_cons_of_mem _ hy))
    simp only [putF] at hx
    split at hx
    · rcases List.mem_cons.1 hx with rfl | hx
      · exact ⟨hf.1, hf.2.1, hs⟩
      · exact h x (by simp [hx])
    · split at hx
      · rcases List.mem_cons.1 hx with rfl | hx
        · exact ⟨hn, by simp, hs⟩
        · exact h x hx
      · rcases List.mem_cons.1 hx with rfl | hx
        · exact hf
        · exact hr x hx
/-- At most four files, all small. -/
def Tiny (l : List FileD) : Prop := l.length ≤ 4 ∧ SizeTo 100 l
theorem Tiny.small {l : List FileD} (h : l.length ≤ 5 ∧ SizeTo 100 l) : Disk.sz ⟨l⟩ ≤ 2000000 := by
  have h1 := szL_files (l := l) (n := 220) (fun x hx => by have := h.2 x hx; unfold File.sz; omega)
  have h2 : l.length * (220 + 1) ≤ 5 * (220 + 1) := Nat.mul_le_mul_right _ h.1
  show szL File.sz l ≤ 2000000
  omega
theorem Tiny.nil : Tiny [] := ⟨by simp, fun x hx => by simp at hx⟩
theorem Tiny.put {l : List FileD} (h : Tiny l) {name s : ByteArray} (hn : name.size ≤ 20) (hs : s.size ≤ 100) : Tiny (putD l name s).1 := by
  unfold putD
  split
  · split
    · rename_i h4
      exact ⟨h4, putF_sizeTo hn hs h.2⟩
    · exact Tiny.nil
  · exact Tiny.nil
theorem Tiny.sync {l : List FileD} (h : Tiny l) (name : ByteArray) : Tiny (syncD l name) := by
  unfold syncD
  split
  · refine ⟨by simpa using h.1, fun x hx => ?_⟩
    obtain ⟨y, hy, rfl⟩ := List.mem_map.1 hx
    have := h.2 y hy
    unfold syncF
    split
    · exact ⟨this.1, this.2.2, this.2.2⟩
    · exact this
  · exact Tiny.nil
theorem grows_is {base : Nat} {w : World} {a : Option Addr} {n c : Nat} {l : List FileD} (h : Grows 3 RFile 40 base w (.slice a n c) l) : ∃ fp, Disk.Is w ⟨l⟩ ⟨a, n, c⟩ fp ∧ ∀ b ∈ fp, base ≤ b := by
  obtain ⟨a', c', fp, e, hg, h1, h2, ho⟩ := h.done
  simp only [Value.slice.injEq] at e
  obtain ⟨rfl, rfl, rfl⟩ := e
  exact ⟨fp, ⟨fp, rfl, hg, h1, h2⟩, fun b hb => (ho.2 b hb).1⟩

/-- What a round keeps. -/
structure DEnv (g : Nat) (a : Option Addr) (len cap m : Nat) (w : World) (fb : Nat) (f : FileD) (W : World) : Prop where
  k0 : Blk W w.heap.size 26 [.slice none 0 0]
  kf : Blk W fb 40 [.string f.name, .string f.safe, .string f.now]
  cur : Curs g a len cap m W
  only : Only g w W
theorem DEnv.below {g : Nat} {a : Option Addr} {len cap m : Nat} {w : World} {fb : Nat} {f : FileD} {W W' : World} (h : DEnv g a len cap m w fb f W) (b : Below W.heap.size W W') : DEnv g a len cap m w fb f W' :=
  ⟨h.k0.below b h.k0.lt, h.kf.below b h.kf.lt, h.cur.below b, h.only.trans (Only.of_below b)⟩
theorem DEnv.setq {g : Nat} {a : Option Addr} {len cap m : Nat} {w : World} {fb : Nat} {f : FileD} {W : World} (h : DEnv g a len cap m w fb f W) {q : Nat} (hq : w.heap.size < q) (hf : fb ≠ q) (hg : g < w.heap.size) (v : Value) : DEnv g a len cap m w fb f (W.setCell ⟨q, 0, none⟩ v) :=
  have hb : Below q W (W.setCell ⟨q, 0, none⟩ v) := (Below.refl q W).setCell (p := ⟨q, 0, none⟩) (Nat.le_refl q) v
  ⟨Blk.setOther h.k0 (by simp; omega) _, Blk.setOther h.kf (by simpa using hf) _, h.cur.belowB hb (by omega), h.only.then_below hb (by omega)⟩

set_option maxRecDepth 100000 in
set_option maxHeartbeats 8000000 in
theorem disk_any (g : Nat) (a : Option Addr) (len cap m : Nat) (w : World) (hm : m ≤ 900000) (hc : Curs g a len cap m w) :
    Calls Try.prog 47 #[.pointer (some ⟨g, 0, none⟩)] w fun e w' => ∃ (x : DiskD) (h : DiskH) (fp : List Nat), e = .returned (.agg (Disk.list x h).toArray) ∧ Disk.Is w' x h fp ∧ (∀ b ∈ fp, w.heap.size ≤ b) ∧ x.files.length ≤ 5 ∧ SizeTo 100 x.files ∧ Curs g a len cap (m + 300) w' ∧ Only g w w' := by
  have hg := hc.lt
  have H := Lib.hid hc
  clear hc
  go_enter Try.func47, Try.ntmps47
  go_wp2_with fail
  refine calls_gen (fun W => Below w.heap.size w W ∧ Blk W w.heap.size 26 [.slice none 0 0] ∧ Blk W (w.heap.size + 1) 26 [.slice none 0 0]) ⟨by repeat (first | exact Below.refl _ _ | refine Below.setCell ?_ (by first | omega | (simp; done) | (simp; omega)) _ | refine Below.alloc ?_ (by first | omega | (simp; done) | (simp; omega)) _ | apply Below.drew), by with_reducible (repeat (first | (refine blk_new_at _ _ _ _ ?_; first | rfl | (simp; done)) | refine Blk.alloc ?_ _ | apply Blk.drew | refine Blk.setOther ?_ (by first | (simp; done) | (simp; omega)) _)), by with_reducible (repeat (first | (refine blk_new_at _ _ _ _ ?_; first | rfl | (simp; done)) | refine Blk.alloc ?_ _ | apply Blk.drew | refine Blk.setOther ?_ (by first | (simp; done) | (simp; omega)) _))⟩ ?_
  rintro W ⟨b0, k0, k1⟩
  refine (pick_any g a len cap m 4 W (by omega) (H.out.below b0)).mono ?_
  rintro e W1 ⟨r, rfl, r0, r1, hc1, ho1⟩
  obtain ⟨i, rfl⟩ := Int.eq_ofNat_of_zero_le r0
  have hi : i ≤ 3 := by omega
  have hk1 := k1.lt
  have K0 := Lib.hid (show Blk W1 w.heap.size 26 [.slice none 0 0] from (ho1.block _ k0.lt (by omega)).trans k0)
  have K1 := Lib.hid (show Blk W1 (w.heap.size + 1) 26 [.slice none 0 0] from (ho1.block _ k1.lt (by omega)).trans k1)
  have C1 := Lib.hid hc1
  have O1 := Lib.hid ((Only.of_below b0).trans ho1)
  have hz1 : w.heap.size + 2 ≤ W1.heap.size := Nat.le_trans hk1 ho1.size
  clear b0 k0 k1 hc1 ho1 r0 r1 hk1
  go_wp2_with fail
  obtain ⟨q, hq⟩ : ∃ q, w.heap.size + 1 = q := ⟨_, rfl⟩
  rw [hq] at K1 ⊢
  have hwq : w.heap.size < q := by omega
  have hqz : q + 1 ≤ W1.heap.size := by omega
  clear hq hz1
  go_loopg [4] i (fun k iv wr => ∃ (v : Value) (l : List FileD), k ≤ 3 ∧ iv = .int .i64 (k : Int) ∧ Blk wr w.heap.size 26 [.slice none 0 0] ∧ Blk wr q 26 [v] ∧ Grows 3 RFile 40 (q + 1) wr v l ∧ Tiny l ∧ q + 1 ≤ wr.heap.size ∧ Curs g a len cap (m + 1 + 30 * (3 - k)) wr ∧ Only g w wr)
  case atStart => exact ⟨.slice none 0 0, [], hi, rfl, K0.out, K1.out, Grows.nil, Tiny.nil, hqz, C1.out.more (by omega), O1.out⟩
  case round =>
    obtain ⟨v, l, hk3, rfl, hk0, hkq, hG, hT, hsz, hC, hO⟩ := hrel
    have HK0 := Lib.hid hk0
    have HKQ := Lib.hid hkq
    have HG := Lib.hid hG
    have HT := Lib.hid hT
    have HC := Lib.hid hC
    have HO := Lib.hid hO
    clear hk0 hkq hG hT hC hO K0 K1 C1 O1
    by_cases hpos : 0 < gk
    case neg =>
      obtain rfl : gk = 0 := by omega
      have hp : ¬ (0 : Int) < ((0 : Nat) : Int) := by omega
      go_wp2_with fail
      refine (once_any g a len cap (m + 1 + 30 * (3 - 0)) 16 wr (by omega) HC.out).mono ?_
      rintro e W2 ⟨t, rfl, hc2, ho2⟩
      obtain ⟨a0, c0, hv⟩ := HG.out.slice
      subst hv
      have hqg : q ≠ g := by omega
      have KW := Lib.hid (show Blk W2 w.heap.size 26 [.slice none 0 0] from (ho2.block _ HK0.out.lt (by omega)).trans HK0.out)
      have KQ := Lib.hid (show Blk W2 q 26 [.slice a0 l.length c0] from (ho2.block _ HKQ.out.lt hqg).trans HKQ.out)
      have GW := Lib.hid (HG.out.keep local_File (fun p hp1 hp2 => ho2.block p hp2 (by omega)))
      have CW := Lib.hid hc2
      have OW := Lib.hid (HO.out.trans ho2)
      have hz2 : q + 1 ≤ W2.heap.size := Nat.le_trans hsz ho2.size
      have q0 := KQ.out.cell 0
      have qf := KQ.out.frozen
      simp at q0
      clear hc2 ho2 HK0 HKQ HG HC HO hsz
      cases t with
      | false =>
        have p0 := KW.out.cell 0
        have pf := KW.out.frozen
        simp at p0
        go_wp2_with fail
        refine body_gen (fun W => Blk W w.heap.size 26 [.slice a0 l.length c0] ∧ Grows 3 RFile 40 (q + 1) W (.slice a0 l.length c0) l ∧ Curs g a len cap (m + 300) W ∧ Only g w W) ⟨?_, ?_, ?_, ?_⟩ ?_
        · (apply Blk.of_eq; (repeat (first | (with_reducible exact KW.out) | (with_reducible apply Blk.set) | ((with_reducible apply Blk.other); · first | (simp; done) | (simp; omega)) | (with_reducible apply Blk.drew))); rfl)
        · exact GW.out.keep local_File (fun p hp _ => Below.heap_setCell _ ⟨w.heap.size, 0, none⟩ _ p (by simp; omega))
        · exact (CW.out.belowB (B := w.heap.size) (by repeat (first | exact Below.refl _ _ | refine Below.setCell ?_ (by first | omega | (simp; done) | (simp; omega)) _ | refine Below.alloc ?_ (by first | omega | (simp; done) | (simp; omega)) _ | apply Below.drew)) hg).more (by omega)
        · exact OW.out.then_below (B := w.heap.size) (by repeat (first | exact Below.refl _ _ | refine Below.setCell ?_ (by first | omega | (simp; done) | (simp; omega)) _ | refine Below.alloc ?_ (by first | omega | (simp; done) | (simp; omega)) _ | apply Below.drew)) (Nat.le_refl _)
        clear p0 pf q0 qf
        rintro W ⟨kw, gw, cw, ow⟩
        have e0 := kw.cell 0
        simp at e0
        obtain ⟨fp, hi, hfp⟩ := grows_is gw
        refine bodyPost_ret (v := .agg (Disk.list ⟨l⟩ ⟨a0, l.length, c0⟩).toArray) (by simp [results, Try.results47, go_sem, e0, Disk.list]) rfl ?_
        exact ⟨⟨l⟩, ⟨a0, l.length, c0⟩, fp, rfl, hi, fun b hb => by have := hfp b hb; omega, by have := HT.out.1; show l.length ≤ 5; omega, HT.out.2, cw, ow⟩
      | true =>
        go_wp2_with fail
        refine mix.wp_region_tail (fun w' => w'.cell? ⟨q, 0, none⟩ = some (.slice a0 l.length c0)) [3,4,5] [0,1,2,3,4,5,6] (by kernel_rfl) (by kernel_rfl) (fun _ _ d _ _ h => by cases d <;> exact h) q0 ?_
        simp only [List.filterMap_cons, List.filterMap_nil, List.getElem?_cons_zero, List.getElem?_cons_succ, Option.map_some]
        (repeat (apply mix.ordt_take; (· rfl); (· rfl); (· (intro w' hSw; (try dsimp only at hSw); go_simp; try with_reducible rfl)); (try simp only [Act.put, List.setIfInBounds_toArray, List.set_cons_zero, List.set_cons_succ])))
        refine mix.ordt_hard rfl (fun K hK => ?_); go_simp
        refine (file_any g a len cap (m + 1 + 30 * (3 - 0) + 1) W2.drew (by omega) (CW.out.below (Below.refl _ _).drew)).mono ?_
        rintro e W6 ⟨f, rfl, n1, n2, n3, hc6, ho6⟩
        have X6 := Lib.hid (show Blk W6 q 26 [.slice a0 l.length c0] from (ho6.block q KQ.out.lt hqg).trans KQ.out)
        have K6 := Lib.hid (show Blk W6 w.heap.size 26 [.slice none 0 0] from (ho6.block _ KW.out.lt (by omega)).trans KW.out)
        have G6 := Lib.hid (show Grows 3 RFile 40 (q + 1) W6 (.slice a0 l.length c0) l from GW.out.keep local_File (fun p hp1 hp2 => ho6.block p hp2 (by omega)))
        have C6 := Lib.hid hc6
        have O6 := Lib.hid ((OW.out.drew).trans ho6)
        have hz6 : q + 1 ≤ W6.heap.size := Nat.le_trans hz2 ho6.size
        have d1 := X6.out.cell 0
        simp at d1
        have x6 := X6.out.lt
        have HN := Lib.hid (And.intro n1 (And.intro n2 n3))
        have hl4 := HT.out.1
        clear hc6 ho6 q0 qf KW KQ GW CW OW n1 n2 n3
        simp only [File.list]
        refine hK.out _ _ (by exact d1) (fun hSw => ?_); clear hK K hSw; (try simp only [Act.put, List.setIfInBounds_toArray, List.set_cons_zero, List.set_cons_succ])
        refine mix.ordt_hard rfl (fun K hK => ?_); go_simp
        have hb7 : Below W6.heap.size W6 (W6.alloc (.cells #[.string f.name, .string f.safe, .string f.now] 40)) := (Below.refl _ _).alloc (Nat.le_refl _) _
        have d2 : (W6.alloc (.cells #[.string f.name, .string f.safe, .string f.now] 40)).cell? ⟨q, 0, none⟩ = some (.slice a0 l.length c0) := (hb7.cell (p := ⟨q, 0, none⟩) x6).trans d1
        refine hK.out _ _ (by exact d2) (fun hSw => ?_); clear hK K hSw; (try simp only [Act.put, List.setIfInBounds_toArray, List.set_cons_zero, List.set_cons_succ])
        obtain ⟨i0, hi', hi2⟩ := Option.map_eq_some_iff.1 info_File
        simp only [Prod.mk.injEq] at hi2
        obtain ⟨hz0, hz1, hz2'⟩ := hi2
        refine mix.ordt_hardb rfl rfl (fun K hK => ?_)
        refine push_wp (v := .slice a0 l.length c0) local_File _ _ 24 rfl i0 _ 48 Try.underlying24 hi' hz0 hz1 hz2' rfl (by decide) rfl G6.out hb7 W6.heap.size 1 rfl [.string f.name, .string f.safe, .string f.now] rfl (fun u hu => by simp at hu; rcases hu with rfl | rfl | rfl <;> rfl) (fun j u hj => ?_) f [] ⟨rfl, by have := HN.out; omega, by have := HN.out; omega, by have := HN.out; omega, rfl⟩ Own.nil (by omega) (by unfold maxLen; omega) hz6 ?_
        · exact ((blk_new W6 40 [.string f.name, .string f.safe, .string f.now]).cell j).trans hj
        intro v8 W8 hG8 hb8 hk8 hw8
        obtain ⟨a8, cap8, hv8⟩ := hG8.slice
        subst hv8
        have hB8 : Below (q + 1) W6 W8 := ((Below.refl _ _).alloc hz6 _).trans hb8
        have HT8 := Lib.hid (show (l ++ [f]).length ≤ 5 ∧ SizeTo 100 (l ++ [f]) from ⟨by simp; omega, fun y hy => by
          rcases List.mem_append.1 hy with hy | hy
          · exact HT.out.2 y hy
          · simp at hy; subst hy; exact HN.out⟩)
        generalize hn8 : (l ++ [f]).length = n8 at *
        have KW := Lib.hid (show Blk W8 w.heap.size 26 [.slice none 0 0] from (hB8.block _ (by omega)).trans K6.out)
        have KQ := Lib.hid (show Blk W8 q 26 [.slice a0 l.length c0] from (hB8.block _ (by omega)).trans X6.out)
        have GW := Lib.hid hG8
        have CW := Lib.hid (C6.out.belowB hB8 (by omega))
        have OW := Lib.hid (O6.out.then_below (B := w.heap.size) (hB8.mono (by omega)) (Nat.le_refl _))
        have q0 := KQ.out.cell 0
        have qf := KQ.out.frozen
        have p0 := KW.out.cell 0
        have pf := KW.out.frozen
        simp at q0 p0
        clear hG8 hb8 hk8 hw8 hB8 d1 d2 hb7 K6 X6 G6 C6 O6 hi' hz0 hz1 hz2'
        refine hK.out _ _ (by exact q0) (fun hSw => ?_); clear hK K hSw; (try simp only [Act.put, List.setIfInBounds_toArray, List.set_cons_zero, List.set_cons_succ])
        (repeat (apply mix.ordt_take; (· rfl); (· rfl); (· (intro w' hSw; (try dsimp only at hSw); go_simp; try with_reducible rfl)); (try simp only [Act.put, List.setIfInBounds_toArray, List.set_cons_zero, List.set_cons_succ])))
        refine mix.ordt_end ?_; refine mix.last_step (fun K hK => ?_); go_simp
        refine hK _ _ ?_
        clear hK K
        have hqn : q ≠ w.heap.size := by omega
        go_wp2_with fail
        refine body_gen (fun W => Blk W w.heap.size 26 [.slice a8 n8 cap8] ∧ Grows 3 RFile 40 (q + 1) W (.slice a8 n8 cap8) (l ++ [f]) ∧ Curs g a len cap (m + 300) W ∧ Only g w W) ⟨?_, ?_, ?_, ?_⟩ ?_
        · (apply Blk.of_eq; (repeat (first | (with_reducible exact KW.out) | (with_reducible apply Blk.set) | ((with_reducible apply Blk.other); · first | (simp; done) | (simp; omega)) | (with_reducible apply Blk.drew))); rfl)
        · exact GW.out.keep local_File (fun p hp _ => (Below.heap_setCell _ ⟨w.heap.size, 0, none⟩ _ p (by simp; omega)).trans (Below.heap_setCell _ ⟨q, 0, none⟩ _ p (by simp; omega)))
        · exact (CW.out.belowB (B := w.heap.size) (by repeat (first | exact Below.refl _ _ | refine Below.setCell ?_ (by first | omega | (simp; done) | (simp; omega)) _ | refine Below.alloc ?_ (by first | omega | (simp; done) | (simp; omega)) _ | apply Below.drew)) hg).more (by omega)
        · exact OW.out.then_below (B := w.heap.size) (by repeat (first | exact Below.refl _ _ | refine Below.setCell ?_ (by first | omega | (simp; done) | (simp; omega)) _ | refine Below.alloc ?_ (by first | omega | (simp; done) | (simp; omega)) _ | apply Below.drew)) (Nat.le_refl _)
        clear p0 pf q0 qf
        rintro W ⟨kw, gw, cw, ow⟩
        have e0 := kw.cell 0
        simp at e0
        obtain ⟨fp, hi, hfp⟩ := grows_is gw
        refine bodyPost_ret (v := .agg (Disk.list ⟨(l ++ [f])⟩ ⟨a8, n8, cap8⟩).toArray) (by simp [results, Try.results47, go_sem, e0, Disk.list]) rfl ?_
        exact ⟨⟨(l ++ [f])⟩, ⟨a8, n8, cap8⟩, fp, rfl, hi, fun b hb => by have := hfp b hb; omega, by have := HT8.out.1; show (l ++ [f]).length ≤ 5; omega, HT8.out.2, cw, ow⟩
    have hp : (0 : Int) < (gk : Int) := by omega
    go_wp2_with fail
    refine (file_any g a len cap (m + 1 + 30 * (3 - gk)) wr (by omega) HC.out).mono ?_
    rintro e W2 ⟨f, rfl, n1, n2, n3, hc2, ho2⟩
    obtain ⟨a0, c0, hv⟩ := HG.out.slice
    subst hv
    have hqg : q ≠ g := by omega
    have K02 := Lib.hid (show Blk W2 w.heap.size 26 [.slice none 0 0] from (ho2.block _ HK0.out.lt (by omega)).trans HK0.out)
    have KQ2 := Lib.hid (show Blk W2 q 26 [.slice a0 l.length c0] from (ho2.block _ HKQ.out.lt hqg).trans HKQ.out)
    have G2 := Lib.hid (HG.out.keep local_File (fun p hp1 hp2 => ho2.block p hp2 (by omega)))
    have C2 := Lib.hid hc2
    have O2 := Lib.hid (HO.out.trans ho2)
    have hz2 : q + 1 ≤ W2.heap.size := Nat.le_trans hsz ho2.size
    have hq2 : q < W2.heap.size := hz2
    have HN := Lib.hid (And.intro n1 (And.intro n2 n3))
    have q0 := KQ2.out.cell 0
    simp at q0
    simp only [File.list]
    clear hc2 ho2 n1 n2 n3 HK0 HKQ HG HC HO hsz
    go_wp2_with fail
    refine calls_gen (fun W => Below W2.heap.size W2 W ∧ Blk W W2.heap.size 40 [.string f.name, .string f.safe, .string f.now]) ⟨by repeat (first | exact Below.refl _ _ | refine Below.setCell ?_ (by first | omega | (simp; done) | (simp; omega)) _ | refine Below.alloc ?_ (by first | omega | (simp; done) | (simp; omega)) _ | apply Below.drew), by with_reducible (repeat (first | (refine blk_new_at _ _ _ _ ?_; first | rfl | (simp; done)) | refine Blk.alloc ?_ _ | apply Blk.drew | refine Blk.setOther ?_ (by first | (simp; done) | (simp; omega)) _))⟩ ?_
    rintro W3 ⟨b3, kf⟩
    have E3 : DEnv g a len cap (m + 1 + 30 * (3 - gk) + 30) w W2.heap.size f W3 := ⟨K02.out.below b3 K02.out.lt, kf, C2.out.below b3, O2.out.trans (Only.of_below b3)⟩
    have G3 := G2.out.below local_File b3
    have KQ3 := KQ2.out.below b3 KQ2.out.lt
    obtain ⟨fp, his, _⟩ := grows_is G3
    refine (spec_DiskPut_own ⟨l⟩ ⟨a0, l.length, c0⟩ fp f.name f.safe W3 his (by have := HN.out; omega) (by have := HN.out; omega) (Tiny.small ⟨by have := HT.out.1; omega, HT.out.2⟩)).mono ?_
    rintro e W4 ⟨h4, fp4, rfl, i4, _, b4, g4⟩
    have hT4 := HT.out.put HN.out.1 HN.out.2.1
    have HE4 := Lib.hid (E3.below b4)
    have HG4 := Lib.hid (G3.below local_File b4)
    have HKQ4 := Lib.hid (KQ3.below b4 KQ3.lt)
    have hz4 : q + 1 ≤ W4.heap.size := Nat.le_trans hz2 (Nat.le_trans b3.size b4.size)
    have hfb : W2.heap.size < W4.heap.size := HE4.out.kf.lt
    dsimp only at i4 g4 hT4 ⊢
    generalize (putD l f.name f.safe).1 = x4 at *
    generalize (putD l f.name f.safe).2 = t4 at *
    obtain ⟨fa, fl, fc⟩ := h4
    have HR4 := Lib.hid (And.intro g4 hT4)
    simp only [Disk.list]
    clear i4 g4 hT4 b3 b4 kf E3 G3 KQ3 his q0 K02 KQ2 G2 C2 O2
    generalize W2.heap.size = fb at *
    have y4 := HE4.out.kf.cell 0
    simp at y4
    cases t4 with
    | false =>
      go_wp2_with fail
      go_roundg (gk - 1)
      case measure => omega
      case rel =>
        have hb5 : Below W4.heap.size W4 (W4.alloc (.cells #[.slice fa fl fc] 26)) := by repeat (first | exact Below.refl _ _ | refine Below.setCell ?_ (by first | omega | (simp; done) | (simp; omega)) _ | refine Below.alloc ?_ (by first | omega | (simp; done) | (simp; omega)) _ | apply Below.drew)
        have HE5 := HE4.out.below hb5
        refine ⟨_, l, by omega, by go_num, HE5.k0, HKQ4.out.below hb5 HKQ4.out.lt, HG4.out.below local_File hb5, HT.out, by simp; omega, HE5.cur.more (by omega), HE5.only⟩
    | true =>
      go_wp2_with fail
      refine calls_gen (fun W => Below W4.heap.size W4 W) (by repeat (first | exact Below.refl _ _ | refine Below.setCell ?_ (by first | omega | (simp; done) | (simp; omega)) _ | refine Below.alloc ?_ (by first | omega | (simp; done) | (simp; omega)) _ | apply Below.drew)) ?_
      rintro W5 b5
      have HE5 := Lib.hid (HE4.out.below b5)
      have HG5 := HR4.out.1.below local_File b5
      have KQ5 := HKQ4.out.below b5 HKQ4.out.lt
      obtain ⟨fp5, his5, _⟩ := grows_is HG5
      refine (spec_DiskSync_own ⟨x4⟩ ⟨fa, fl, fc⟩ fp5 f.name W5 his5 (by have := HN.out; omega) (Tiny.small ⟨by have := HR4.out.2.1; omega, HR4.out.2.2⟩)).mono ?_
      rintro e W6 ⟨h6, fp6, rfl, i6, _, b6, g6⟩
      have hT6 := HR4.out.2.sync f.name
      have HE6 := Lib.hid (HE5.out.below b6)
      have HKQ6 := Lib.hid (KQ5.below b6 KQ5.lt)
      have hz6 : q + 1 ≤ W6.heap.size := Nat.le_trans hz4 (Nat.le_trans b5.size b6.size)
      dsimp only at i6 g6 hT6 ⊢
      generalize syncD x4 f.name = x6 at *
      obtain ⟨fa6, fl6, fc6⟩ := h6
      have HR6 := Lib.hid (And.intro (g6.lower (show q + 1 ≤ W5.heap.size from Nat.le_trans hz4 b5.size)) hT6)
      have q6 := HKQ6.out.cell 0
      have qf := HKQ6.out.frozen
      have y0 := HE6.out.kf.cell 0
      have y2 := HE6.out.kf.cell 2
      simp at q6 y0 y2
      have hq6 : q < W6.heap.size := hz6
      have hfq : fb ≠ q := by omega
      have hfb6 : fb < W6.heap.size := HE6.out.kf.lt
      simp only [Disk.list]
      clear y4 i6 g6 hT6 b5 b6 HG5 KQ5 his5 HE5 HE4 HG4 HKQ4
      go_wp2_with fail
      refine calls_gen (fun W => DEnv g a len cap (m + 1 + 30 * (3 - gk) + 30) w fb f W ∧ Blk W q 26 [.slice fa6 fl6 fc6] ∧ Grows 3 RFile 40 (q + 1) W (.slice fa6 fl6 fc6) x6 ∧ q + 1 ≤ W.heap.size) ⟨HE6.out.setq hwq hfq hg _, HKQ6.out.set 0 _, HR6.out.1.keep local_File (fun p hp _ => Below.heap_setCell _ ⟨q, 0, none⟩ _ p (by simp; omega)), by simpa using hz6⟩ ?_
      rintro W7 ⟨e7, k7, g7, z7⟩
      obtain ⟨fp7, his7, _⟩ := grows_is g7
      refine (spec_DiskPut_own ⟨x6⟩ ⟨fa6, fl6, fc6⟩ fp7 f.name f.now W7 his7 (by have := HN.out; omega) (by have := HN.out; omega) (Tiny.small ⟨by have := HR6.out.2.1; omega, HR6.out.2.2⟩)).mono ?_
      rintro e W8 ⟨h8, fp8, rfl, i8, _, b8, g8⟩
      have hT8 := HR6.out.2.put HN.out.1 HN.out.2.2
      have HE8 := Lib.hid (e7.below b8)
      have HKQ8 := Lib.hid (k7.below b8 k7.lt)
      have hz8 : q + 1 ≤ W8.heap.size := Nat.le_trans z7 b8.size
      dsimp only at i8 g8 hT8 ⊢
      generalize (putD x6 f.name f.now).1 = x8 at *
      generalize (putD x6 f.name f.now).2 = t8 at *
      obtain ⟨fa8, fl8, fc8⟩ := h8
      have HR8 := Lib.hid (And.intro (g8.lower z7) hT8)
      have q8 := HKQ8.out.cell 0
      have qf8 := HKQ8.out.frozen
      simp at q8
      simp only [Disk.list]
      clear i8 g8 hT8 b8 e7 k7 g7 his7 q6 qf y0 y2
      go_wp2_with fail
      go_roundg (gk - 1)
      case measure => omega
      case rel =>
        have HE9 := HE8.out.setq hwq hfq hg (.slice fa8 fl8 fc8)
        exact ⟨_, x8, by omega, by go_num, HE9.k0, HKQ8.out.set 0 _, HR8.out.1.keep local_File (fun p hp _ => Below.heap_setCell _ ⟨q, 0, none⟩ _ p (by simp; omega)), HR8.out.2, by simpa using hz8, HE9.cur.more (by omega), HE9.only⟩
end Go.Proofs.Ytoglclmaacjdaaa.dat
