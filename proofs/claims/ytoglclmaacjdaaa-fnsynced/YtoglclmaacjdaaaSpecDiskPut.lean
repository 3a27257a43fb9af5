/-
  THE CONTRACT OF DiskPut of the model.
-/
import Derived.Test.YtoglclmaacjdaaaOpened
import Derived.Test.YtoglclmaacjdaaaGrow2
namespace Go.Proofs.Ytoglclmaacjdaaa.dat
open Go.RowKit Go.Proofs.Ytoglclmaacjdaaa.win

/-- A walk that halts at an append. -/
def Halt (p : Prop) : Prop := p
theorem halt_append {P : Program} {ops : Array Oper} {rest : List Oper} {o : Oper} {a : Act} {w : World} {Q : Exit → Act → World → Prop} (s x : Operand) (t t' : TypeId) (_ : o.op = .call { callee := .builtin .append, args := #[s, x], argTypes := #[t, t'] }) (h : Halt (wpList P ops Q (o :: rest) a w)) : wpList P ops Q (o :: rest) a w := h
/-- A disk of its own whose row may be appended to, and whether. -/
def CopiedDiskG (w : World) (x : DiskD) (t : Bool) (e : Ending) (w' : World) : Prop := ∃ (h : DiskH) (fp : List Nat), e = .returned (.tuple #[.agg (Disk.list x h).toArray, .bool t]) ∧ Disk.Is w' x h fp ∧ Own w.heap.size w' fp ∧ Below w.heap.size w w' ∧ Grows 3 RFile 40 w.heap.size w' (.slice h.filesa h.filesl h.filesc) x.files
theorem putF_len (name s : ByteArray) : ∀ l, (putF name s l).length ≤ l.length + 1
  | [] => by simp [putF]
  | f :: r => by
    have := putF_len name s r
    simp only [putF]
    split
    · simp
    · split
      · simp
      · simp; omega
def PutInv (l : List FileD) (name s : ByteArray) (j : Nat) (p : Bool) (lo : List FileD) : Prop :=
  (p = false ∧ lo = l.take j ∧ Ahead l name j) ∨ (p = true ∧ lo ++ l.drop j = putF name s l ∧ ∀ (i : Nat) f, j ≤ i → l[i]? = some f → ltB name f.name = true)
theorem PutInv.len {l : List FileD} {name s : ByteArray} {j : Nat} {p : Bool} {lo : List FileD} (h : PutInv l name s j p lo) (hl : l.length ≤ 4) : lo.length ≤ 5 := by
  rcases h with ⟨_, rfl, _⟩ | ⟨_, h, _⟩
  · simp; omega
  · have h1 := congrArg List.length h
    have h2 := putF_len name s l
    simp at h1
    omega
theorem drop_at {α : Type} {l : List α} {j : Nat} {y : α} (hy : l[j]? = some y) : l.drop j = y :: l.drop (j + 1) := by
  obtain ⟨hj, rfl⟩ := List.getElem?_eq_some_iff.1 hy
  exact List.drop_eq_getElem_cons hj
theorem take_at {α : Type} {l : List α} {j : Nat} {y : α} (hy : l[j]? = some y) : l.take (j + 1) = l.take j ++ [y] := by
  rw [List.take_add_one, hy]
  rfl
theorem PutInv.same {l : List FileD} {name s : ByteArray} {j : Nat} {p : Bool} {lo : List FileD} {y : FileD} (hd : DiskP l) (h : PutInv l name s j p lo) (hy : l[j]? = some y) (e : y.name = name) : PutInv l name s (j + 1) true (lo ++ [⟨y.name, y.safe, s⟩]) := by
  rcases h with ⟨_, rfl, ha⟩ | ⟨_, _, h⟩
  · refine .inr ⟨rfl, ?_, fun i f hi hf => ?_⟩
    · rw [putF_there e ha hy]; simp
    · rw [← e]; exact hd.lt (by omega) hy hf
  · have := h j y (Nat.le_refl _) hy
    rw [e, ltB_irrefl] at this
    cases this
theorem PutInv.new {l : List FileD} {name s : ByteArray} {j : Nat} {lo : List FileD} {y : FileD} (hd : DiskP l) (h : PutInv l name s j false lo) (hy : l[j]? = some y) (hlt : ltB name y.name = true) : PutInv l name s (j + 1) true ((lo ++ [⟨name, ByteArray.empty, s⟩]) ++ [y]) := by
  rcases h with ⟨_, rfl, ha⟩ | ⟨h, _⟩
  · refine .inr ⟨rfl, ?_, fun i f hi hf => ltB_trans hlt (hd.lt (by omega) hy hf)⟩
    have hj : j ≤ l.length := Nat.le_of_lt (List.getElem?_eq_some_iff.1 hy).1
    rw [putF_new ha hj (fun f hf => by rw [hy] at hf; cases hf; exact hlt), drop_at hy]
    simp
  · cases h
theorem PutInv.pass {l : List FileD} {name s : ByteArray} {j : Nat} {lo : List FileD} {y : FileD} (h : PutInv l name s j false lo) (hy : l[j]? = some y) (hlt : ltB y.name name = true) : PutInv l name s (j + 1) false (lo ++ [y]) := by
  rcases h with ⟨_, rfl, ha⟩ | ⟨h, _⟩
  · exact .inl ⟨rfl, (take_at hy).symm, ha.succ hy hlt⟩
  · cases h
theorem PutInv.on {l : List FileD} {name s : ByteArray} {j : Nat} {lo : List FileD} {y : FileD} (h : PutInv l name s j true lo) (hy : l[j]? = some y) : ltB name y.name = true ∧ PutInv l name s (j + 1) true (lo ++ [y]) := by
  rcases h with ⟨h, _⟩ | ⟨_, he, h⟩
  · cases h
  · exact ⟨h j y (Nat.le_refl _) hy, .inr ⟨rfl, by rw [← he, drop_at hy]; simp, fun i f hi hf => h i f (by omega) hf⟩⟩
theorem PutInv.end_yes {l : List FileD} {name s : ByteArray} {lo : List FileD} (h : PutInv l name s l.length true lo) : lo = putF name s l := by
  rcases h with ⟨h, _⟩ | ⟨_, he, _⟩
  · cases h
  · simpa using he
theorem PutInv.end_no {l : List FileD} {name s : ByteArray} {lo : List FileD} (h : PutInv l name s l.length false lo) : lo ++ [⟨name, ByteArray.empty, s⟩] = putF name s l := by
  rcases h with ⟨_, rfl, ha⟩ | ⟨h, _⟩
  · rw [putF_new ha (Nat.le_refl _) (fun f hf => by simp at hf)]
    simp
  · cases h

set_option maxRecDepth 100000 in
set_option maxHeartbeats 8000000 in
theorem spec_DiskPut_own (x : DiskD) (h : DiskH) (fp : List Nat) (name s : ByteArray) (w : World) (hin : Disk.Is w x h fp) (hs1 : name.size ≤ 9223372036854775807) (hs2 : s.size ≤ 9223372036854775807) (hmax : Disk.sz x ≤ 2000000) :
    Calls Try.prog 22 #[.agg (Disk.list x h).toArray, .string name, .string s] w (CopiedDiskG w ⟨(putD x.files name s).1⟩ (putD x.files name s).2) := by
  have HI := Lib.hid hin
  have HM := Lib.hid hmax
  have HX := Lib.hid (Disk.row hin)
  clear hin hmax
  obtain ⟨ls, hls⟩ : ∃ ls, putD x.files name s = ls := ⟨_, rfl⟩
  rw [hls]
  have HLS := Lib.hid hls
  clear hls
  obtain ⟨fa, fl, fc⟩ := h
  dsimp only at *
  have HX : Hid (GRow 3 RFile w fa fl x.files fp ∧ fl ≤ fc ∧ fc ≤ 9223372036854775807) := HX
  simp only [Disk.list]
  go_enter Try.func22, Try.ntmps22
  go_wp2_with fail
  refine calls_gen (fun W => Below w.heap.size w W ∧ Blk W w.heap.size 26 [.slice fa fl fc] ∧ Blk W (w.heap.size + 1) 26 [.slice none 0 0]) ⟨by repeat (first | exact Below.refl _ _ | refine Below.setCell ?_ (by first | omega | (simp; done) | (simp; omega)) _ | refine Below.alloc ?_ (by first | omega | (simp; done) | (simp; omega)) _ | apply Below.drew), by with_reducible (repeat (first | (refine blk_new_at _ _ _ _ ?_; first | rfl | (simp; done)) | refine Blk.alloc ?_ _ | apply Blk.drew | refine Blk.setOther ?_ (by first | (simp; done) | (simp; omega)) _)), by with_reducible (repeat (first | (refine blk_new_at _ _ _ _ ?_; first | rfl | (simp; done)) | refine Blk.alloc ?_ _ | apply Blk.drew | refine Blk.setOther ?_ (by first | (simp; done) | (simp; omega)) _))⟩ ?_
  rintro W ⟨b0, k0, k1⟩
  refine (spec_DiskOk x ⟨fa, fl, fc⟩ fp W (HI.out.below b0) HM.out).mono ?_
  rintro e w1 ⟨rfl, b1⟩
  have B1 := Lib.hid (b0.trans (b1.mono b0.size))
  have K0 := Lib.hid (k0.below b1 k0.lt)
  have K1 := Lib.hid (k1.below b1 k1.lt)
  have c0 := K0.out.cell 0
  have r0 := K1.out.cell 0
  have rf := K1.out.frozen
  simp at c0 r0
  clear b0 k0 k1 b1
  have hk1 := K1.out.lt
  have hk0 := K0.out.lt
  cases hd : diskB x.files with
  | false =>
    have E := Lib.hid (show ls = ([], false) by rw [← HLS.out]; exact putD_bad (by rw [hd]; rfl))
    clear hd
    go_wp2_with fail
    refine body_gen (fun W => Below w.heap.size w W ∧ Blk W (w.heap.size + 1) 26 [.slice none 0 0]) ⟨?_, ?_⟩ ?_
    · have hb := B1.out
      have hbs := hb.size
      repeat (first | exact Below.refl _ _ | refine Below.setCell ?_ (by first | omega | (simp; done) | (simp; omega)) _ | refine Below.alloc ?_ (by first | omega | (simp; done) | (simp; omega)) _ | apply Below.drew | refine Below.trans ?_ (hb.mono (by first | omega | (simp; done) | (simp; omega))))
    · (apply Blk.of_eq; (repeat (first | (with_reducible exact K1.out) | (with_reducible apply Blk.set) | ((with_reducible apply Blk.other); · first | (simp; done) | (simp; omega)) | (with_reducible apply Blk.drew))); rfl)
    rintro W' ⟨bw, kw⟩
    have e0 := kw.cell 0
    simp at e0
    refine bodyPost_ret (v := .tuple #[.agg (Disk.list ⟨ls.1⟩ ⟨none, 0, 0⟩).toArray, .bool ls.2]) (by rw [E.out]; simp [results, Try.results22, go_sem, e0, Disk.list]) rfl ?_
    rw [E.out]
    exact ⟨⟨none, 0, 0⟩, [], rfl, ⟨[], rfl, GRow.nil, Nat.le_refl _, Nat.zero_le _⟩, Own.nil, bw, Grows.nil⟩
  | true =>
  have HD := Lib.hid hd
  have hfl : fl ≤ 4 := by rw [← HX.out.1.1]; exact ((diskB_iff _).1 hd).len
  have HP := Lib.hid ((diskB_iff _).1 hd)
  clear hd
  obtain ⟨r, hr⟩ : ∃ r, decide ((1 : Int) ≤ (name.size : Int) ∧ (name.size : Int) ≤ 20) = r := ⟨_, rfl⟩
  have HR := Lib.hid hr
  clear hr
  go_wp2_with fail
  refine (between_at HR.out w1).mono ?_
  rintro e w1' ⟨rfl, rfl⟩
  cases r with
  | false =>
    have E := Lib.hid (show ls = ([], false) by
      rw [← HLS.out]
      have := HR.out
      refine putD_bad ?_
      unfold nameB
      rw [HD.out]
      simp at this ⊢
      omega)
    go_wp2_with fail
    refine body_gen (fun W => Below w.heap.size w W ∧ Blk W (w.heap.size + 1) 26 [.slice none 0 0]) ⟨?_, ?_⟩ ?_
    · have hb := B1.out
      have hbs := hb.size
      repeat (first | exact Below.refl _ _ | refine Below.setCell ?_ (by first | omega | (simp; done) | (simp; omega)) _ | refine Below.alloc ?_ (by first | omega | (simp; done) | (simp; omega)) _ | apply Below.drew | refine Below.trans ?_ (hb.mono (by first | omega | (simp; done) | (simp; omega))))
    · (apply Blk.of_eq; (repeat (first | (with_reducible exact K1.out) | (with_reducible apply Blk.set) | ((with_reducible apply Blk.other); · first | (simp; done) | (simp; omega)) | (with_reducible apply Blk.drew))); rfl)
    rintro W' ⟨bw, kw⟩
    have e0 := kw.cell 0
    simp at e0
    refine bodyPost_ret (v := .tuple #[.agg (Disk.list ⟨ls.1⟩ ⟨none, 0, 0⟩).toArray, .bool ls.2]) (by rw [E.out]; simp [results, Try.results22, go_sem, e0, Disk.list]) rfl ?_
    rw [E.out]
    exact ⟨⟨none, 0, 0⟩, [], rfl, ⟨[], rfl, GRow.nil, Nat.le_refl _, Nat.zero_le _⟩, Own.nil, bw, Grows.nil⟩
  | true =>
  have HN := Lib.hid (show (diskB x.files && nameB name) = true by
    have := HR.out
    unfold nameB
    rw [HD.out]
    simp at this ⊢
    omega)
  by_cases hs : s.size ≤ 200000
  case neg =>
    have E := Lib.hid (show ls = ([], false) by rw [← HLS.out]; exact putD_long hs)
    have hs3 : (200000 : Int) < (s.size : Int) := by omega
    clear hs
    go_wp2_with fail
    refine body_gen (fun W => Below w.heap.size w W ∧ Blk W (w.heap.size + 1) 26 [.slice none 0 0]) ⟨?_, ?_⟩ ?_
    · have hb := B1.out
      have hbs := hb.size
      repeat (first | exact Below.refl _ _ | refine Below.setCell ?_ (by first | omega | (simp; done) | (simp; omega)) _ | refine Below.alloc ?_ (by first | omega | (simp; done) | (simp; omega)) _ | apply Below.drew | refine Below.trans ?_ (hb.mono (by first | omega | (simp; done) | (simp; omega))))
    · (apply Blk.of_eq; (repeat (first | (with_reducible exact K1.out) | (with_reducible apply Blk.set) | ((with_reducible apply Blk.other); · first | (simp; done) | (simp; omega)) | (with_reducible apply Blk.drew))); rfl)
    rintro W' ⟨bw, kw⟩
    have e0 := kw.cell 0
    simp at e0
    refine bodyPost_ret (v := .tuple #[.agg (Disk.list ⟨ls.1⟩ ⟨none, 0, 0⟩).toArray, .bool ls.2]) (by rw [E.out]; simp [results, Try.results22, go_sem, e0, Disk.list]) rfl ?_
    rw [E.out]
    exact ⟨⟨none, 0, 0⟩, [], rfl, ⟨[], rfl, GRow.nil, Nat.le_refl _, Nat.zero_le _⟩, Own.nil, bw, Grows.nil⟩
  have hs3 : ¬ (200000 : Int) < (s.size : Int) := by omega
  have HSS := Lib.hid hs
  have HSN := Lib.hid (And.intro hs1 hs2)
  clear hs c0 r0 rf hs1 hs2
  go_wp2_with fail
  refine wp_gen (fun W => Below w.heap.size w W ∧ Blk W w.heap.size 26 [.slice fa fl fc] ∧ Blk W (w.heap.size + 1) 26 [.slice none 0 0] ∧ Blk W w1'.heap.size 26 [.slice none 0 0] ∧ w1'.heap.size + 1 ≤ W.heap.size) ⟨?_, ?_, ?_, by with_reducible (repeat (first | (refine blk_new_at _ _ _ _ ?_; first | rfl | (simp; done)) | refine Blk.alloc ?_ _ | apply Blk.drew | refine Blk.setOther ?_ (by first | (simp; done) | (simp; omega)) _)), by simp⟩ ?_
  · have hb := B1.out
    have hbs := hb.size
    repeat (first | exact Below.refl _ _ | refine Below.setCell ?_ (by first | omega | (simp; done) | (simp; omega)) _ | refine Below.alloc ?_ (by first | omega | (simp; done) | (simp; omega)) _ | apply Below.drew | refine Below.trans ?_ (hb.mono (by first | omega | (simp; done) | (simp; omega))))
  · with_reducible (repeat (first | exact K0.out | (refine blk_new_at _ _ _ _ ?_; first | rfl | (simp; done)) | refine Blk.alloc ?_ _ | apply Blk.drew | refine Blk.setOther ?_ (by first | (simp; done) | (simp; omega)) _))
  · with_reducible (repeat (first | exact K1.out | (refine blk_new_at _ _ _ _ ?_; first | rfl | (simp; done)) | refine Blk.alloc ?_ _ | apply Blk.drew | refine Blk.setOther ?_ (by first | (simp; done) | (simp; omega)) _))
  clear B1 K0 K1 hs3
  rintro W2 ⟨bW, kW0, kW1, kWq, hsq⟩
  generalize w1'.heap.size = q at *
  have BW := Lib.hid bW
  have KW := Lib.hid (And.intro kW0 (And.intro kW1 kWq))
  clear bW kW0 kW1 kWq
  obtain ⟨i0, hi, hi2⟩ := Option.map_eq_some_iff.1 info_File
  simp only [Prod.mk.injEq] at hi2
  obtain ⟨hz0, hz1, hz2⟩ := hi2
  have HZ := Lib.hid (And.intro hi (And.intro hz0 (And.intro hz1 hz2)))
  clear hi hz0 hz1 hz2
  go_loopg [9, 10] fl (fun k pv iv wr => ∃ (j : Nat) (v : Value) (p : Bool) (lo : List FileD), j + k = fl ∧ pv = .bool p ∧ iv = .int .i64 j ∧ Blk wr w.heap.size 26 [.slice fa fl fc] ∧ Blk wr (w.heap.size + 1) 26 [.slice none 0 0] ∧ Blk wr q 26 [v] ∧ Grows 3 RFile 40 (q + 1) wr v lo ∧ q + 1 ≤ wr.heap.size ∧ Below w.heap.size w wr ∧ PutInv x.files name s j p lo)
  case atStart => exact ⟨0, .slice none 0 0, false, [], by omega, rfl, rfl, KW.out.1, KW.out.2.1, KW.out.2.2, Grows.nil, hsq, BW.out, .inl ⟨rfl, by simp, Ahead.zero _ _⟩⟩
  case round =>
    obtain ⟨j, v, p, lo, hj, rfl, rfl, hk0', hk1', hkq, hG, hsz, hB, hinv⟩ := hrel
    clear KW BW hsq
    have HB := Lib.hid hB
    have c0 := hk0'.cell 0
    simp at c0
    have hlo := hinv.len (by rw [HX.out.1.1]; exact hfl)
    by_cases hlt : j < fl
    case neg =>
      obtain rfl : j = fl := by omega
      have hxl := HX.out.1.1
      have HK1 := Lib.hid hk1'
      have HKQ := Lib.hid hkq
      have HG := Lib.hid hG
      have HSZ := Lib.hid hsz
      have q0 := hkq.cell 0
      have qf := hkq.frozen
      have r0 := hk1'.cell 0
      have rf := hk1'.frozen
      simp at q0 r0
      have hkql := hkq.lt
      cases p with
      | true =>
        have hlo2 : lo = putF name s x.files := PutInv.end_yes (by rw [hxl]; exact hinv)
        have BX := Lib.hid HB.out
        have KX := Lib.hid HK1.out
        obtain ⟨a', cap', fp', hv, hg, hc1, hc2, ho⟩ := hG.done
        obtain ⟨nn, hnn⟩ : ∃ nn, lo.length = nn := ⟨_, rfl⟩
        rw [hnn] at hv hg hc1
        subst hv
        have HGR := Lib.hid hG
        have HD' := Lib.hid (And.intro hg ho)
        have HCC := Lib.hid (And.intro hc1 hc2)
        clear hG hg hc1 hc2 ho hB hk0' hk1' hkq hinv
        by_cases hm : lo.length ≤ 4
        case neg =>
          have E := Lib.hid (show ls = ([], false) by rw [← HLS.out]; exact putD_many (by rw [← hlo2]; exact hm))
          have hni : (4 : Int) < (nn : Int) := by omega
          clear hm hlo2 hnn
          go_wp2_with fail
          refine body_gen (fun W => Below w.heap.size w W ∧ Blk W (w.heap.size + 1) 26 [.slice none 0 0]) ⟨?_, ?_⟩ ?_
          · have hb := BX.out
            have hbs := hb.size
            repeat (first | exact Below.refl _ _ | refine Below.setCell ?_ (by first | omega | (simp; done) | (simp; omega)) _ | refine Below.alloc ?_ (by first | omega | (simp; done) | (simp; omega)) _ | apply Below.drew | refine Below.trans ?_ (hb.mono (by first | omega | (simp; done) | (simp; omega))))
          · (apply Blk.of_eq; (repeat (first | (with_reducible exact KX.out) | (with_reducible apply Blk.set) | ((with_reducible apply Blk.other); · first | (simp; done) | (simp; omega)) | (with_reducible apply Blk.drew))); rfl)
          rintro W' ⟨bw, kw⟩
          have e0 := kw.cell 0
          simp at e0
          refine bodyPost_ret (v := .tuple #[.agg (Disk.list ⟨ls.1⟩ ⟨none, 0, 0⟩).toArray, .bool ls.2]) (by rw [E.out]; simp [results, Try.results22, go_sem, e0, Disk.list]) rfl ?_
          rw [E.out]
          exact ⟨⟨none, 0, 0⟩, [], rfl, ⟨[], rfl, GRow.nil, Nat.le_refl _, Nat.zero_le _⟩, Own.nil, bw, Grows.nil⟩
        have E := Lib.hid (show ls = (lo, true) by rw [← HLS.out, putD_yes HN.out HSS.out (by rw [← hlo2]; exact hm), hlo2])
        have hni : ¬ (4 : Int) < (nn : Int) := by omega
        clear hm hlo2 hnn
        go_wp2_with fail
        refine body_gen (fun W => Below w.heap.size w W ∧ Blk W (w.heap.size + 1) 26 [.slice a' nn cap'] ∧ GRow 3 RFile W a' nn ls.1 fp' ∧ Own (q + 1) W fp' ∧ Grows 3 RFile 40 (q + 1) W (.slice a' nn cap') ls.1) ⟨?_, ?_, ?_, ?_, ?_⟩ ?_
        · have hb := BX.out
          have hbs := hb.size
          repeat (first | exact Below.refl _ _ | refine Below.setCell ?_ (by first | omega | (simp; done) | (simp; omega)) _ | refine Below.alloc ?_ (by first | omega | (simp; done) | (simp; omega)) _ | apply Below.drew | refine Below.trans ?_ (hb.mono (by first | omega | (simp; done) | (simp; omega))))
        · (apply Blk.of_eq; (repeat (first | (with_reducible exact KX.out) | (with_reducible apply Blk.set) | ((with_reducible apply Blk.other); · first | (simp; done) | (simp; omega)) | (with_reducible apply Blk.drew))); rfl)
        · rw [E.out]
          refine HD'.out.1.keep local_File (fun p hp => ?_)
          have := (HD'.out.2.2 p hp).1
          exact Below.heap_setCell _ ⟨w.heap.size + 1, 0, none⟩ _ p (by simp; omega)
        · refine HD'.out.2.keep (fun p hp => ?_)
          have := (HD'.out.2.2 p hp).1
          exact Below.heap_setCell _ ⟨w.heap.size + 1, 0, none⟩ _ p (by simp; omega)
        · rw [E.out]
          exact HGR.out.keep local_File (fun p hp _ => Below.heap_setCell _ ⟨w.heap.size + 1, 0, none⟩ _ p (by simp; omega))
        clear c0
        rintro W ⟨bw, kw, gw, ow, rw'⟩
        have e0 := kw.cell 0
        simp at e0
        refine bodyPost_ret (v := .tuple #[.agg (Disk.list ⟨ls.1⟩ ⟨a', nn, cap'⟩).toArray, .bool ls.2]) (by rw [E.out]; simp [results, Try.results22, go_sem, e0, Disk.list]) rfl ?_
        exact ⟨⟨a', nn, cap'⟩, fp', rfl, ⟨fp', rfl, gw, HCC.out.1, HCC.out.2⟩, ow.mono (by omega), bw, rw'.lower (by omega)⟩
      | false =>
        have hlo2 : lo ++ [⟨name, ByteArray.empty, s⟩] = putF name s x.files := PutInv.end_no (by rw [hxl]; exact hinv)
        clear hG hB hk0' hk1' hkq hinv
        by_cases hm : lo.length + 1 ≤ 4
        case neg =>
          have E := Lib.hid (show ls = ([], false) by rw [← HLS.out]; exact putD_many (by rw [← hlo2]; simp; omega))
          clear hlo2
          go_wp2_with (at_builtin; refine halt_append _ _ _ _ rfl ?_)
          unfold Halt
          refine push2 (v := v) local_File rfl _ _ 24 rfl i0 _ 48 Try.underlying24 HZ.out.1 HZ.out.2.1 HZ.out.2.2.1 HZ.out.2.2.2 rfl (by decide) rfl HG.out (show Below wr.heap.size wr _ by repeat (first | exact Below.refl _ _ | refine Below.setCell ?_ (by first | omega | (simp; done) | (simp; omega)) _ | refine Below.alloc ?_ (by first | omega | (simp; done) | (simp; omega)) _ | apply Below.drew)) _ 1 rfl [.string name, .string ⟨#[]⟩, .string s] rfl (fun u hu => by simp at hu; rcases hu with rfl | rfl | rfl <;> rfl) (fun j u hj => ((show Blk _ _ 40 [.string name, .string ⟨#[]⟩, .string s] by with_reducible (repeat (first | (refine blk_new_at _ _ _ _ ?_; first | rfl | (simp; done)) | refine Blk.alloc ?_ _ | apply Blk.drew | refine Blk.setOther ?_ (by first | (simp; done) | (simp; omega)) _))).cell j).trans hj) (⟨name, ByteArray.empty, s⟩ : FileD) [] ⟨rfl, HSN.out.1, by simp, HSN.out.2, rfl⟩ Own.nil (by (try simp only [List.length_append, List.length_singleton] at *); omega) (by unfold maxLen; (try simp only [List.length_append, List.length_singleton] at *); omega) HSZ.out ?_
          intro v8 W8 hG8 hb8 hk8 hw8
          obtain ⟨a8, cap8, hv8⟩ := hG8.slice
          subst hv8
          generalize hn8 : (lo ++ [(⟨name, ByteArray.empty, s⟩ : FileD)]).length = n8 at *
          have XB8 : Below (q + 1) wr W8 := ((show Below wr.heap.size wr _ by repeat (first | exact Below.refl _ _ | refine Below.setCell ?_ (by first | omega | (simp; done) | (simp; omega)) _ | refine Below.alloc ?_ (by first | omega | (simp; done) | (simp; omega)) _ | apply Below.drew)).mono HSZ.out).trans hb8
          have XQ8 : Blk W8 q 26 [_] := (XB8.block q (by omega)).trans HKQ.out
          have q8 := XQ8.cell 0
          have qf8 := XQ8.frozen
          simp at q8
          have kr8 : Blk W8 (w.heap.size + 1) 26 [.slice none 0 0] := (XB8.block (w.heap.size + 1) (by omega)).trans HK1.out
          have r8 := kr8.cell 0
          have rf8 := kr8.frozen
          simp at r8
          have hni : (4 : Int) < (n8 : Int) := by rw [← hn8, List.length_append, List.length_singleton]; omega
          go_wp2_with fail
          have BX := Lib.hid (HB.out.trans (XB8.mono (by omega)))
          have KX := Lib.hid (show Blk W8 (w.heap.size + 1) 26 [.slice none 0 0] from (XB8.block _ (by omega)).trans HK1.out)
          clear XB8 hb8 hk8 hw8
          refine body_gen (fun W => Below w.heap.size w W ∧ Blk W (w.heap.size + 1) 26 [.slice none 0 0]) ⟨?_, ?_⟩ ?_
          · have hb := BX.out
            have hbs := hb.size
            repeat (first | exact Below.refl _ _ | refine Below.setCell ?_ (by first | omega | (simp; done) | (simp; omega)) _ | refine Below.alloc ?_ (by first | omega | (simp; done) | (simp; omega)) _ | apply Below.drew | refine Below.trans ?_ (hb.mono (by first | omega | (simp; done) | (simp; omega))))
          · (apply Blk.of_eq; (repeat (first | (with_reducible exact KX.out) | (with_reducible apply Blk.set) | ((with_reducible apply Blk.other); · first | (simp; done) | (simp; omega)) | (with_reducible apply Blk.drew))); rfl)
          rintro W' ⟨bw, kw⟩
          have e0 := kw.cell 0
          simp at e0
          refine bodyPost_ret (v := .tuple #[.agg (Disk.list ⟨ls.1⟩ ⟨none, 0, 0⟩).toArray, .bool ls.2]) (by rw [E.out]; simp [results, Try.results22, go_sem, e0, Disk.list]) rfl ?_
          rw [E.out]
          exact ⟨⟨none, 0, 0⟩, [], rfl, ⟨[], rfl, GRow.nil, Nat.le_refl _, Nat.zero_le _⟩, Own.nil, bw, Grows.nil⟩
        have E := Lib.hid (show ls = (lo ++ [⟨name, ByteArray.empty, s⟩], true) by rw [← HLS.out, putD_yes HN.out HSS.out (by rw [← hlo2]; simp; omega), hlo2])
        clear hlo2
        go_wp2_with (at_builtin; refine halt_append _ _ _ _ rfl ?_)
        unfold Halt
        refine push2 (v := v) local_File rfl _ _ 24 rfl i0 _ 48 Try.underlying24 HZ.out.1 HZ.out.2.1 HZ.out.2.2.1 HZ.out.2.2.2 rfl (by decide) rfl HG.out (show Below wr.heap.size wr _ by repeat (first | exact Below.refl _ _ | refine Below.setCell ?_ (by first | omega | (simp; done) | (simp; omega)) _ | refine Below.alloc ?_ (by first | omega | (simp; done) | (simp; omega)) _ | apply Below.drew)) _ 1 rfl [.string name, .string ⟨#[]⟩, .string s] rfl (fun u hu => by simp at hu; rcases hu with rfl | rfl | rfl <;> rfl) (fun j u hj => ((show Blk _ _ 40 [.string name, .string ⟨#[]⟩, .string s] by with_reducible (repeat (first | (refine blk_new_at _ _ _ _ ?_; first | rfl | (simp; done)) | refine Blk.alloc ?_ _ | apply Blk.drew | refine Blk.setOther ?_ (by first | (simp; done) | (simp; omega)) _))).cell j).trans hj) (⟨name, ByteArray.empty, s⟩ : FileD) [] ⟨rfl, HSN.out.1, by simp, HSN.out.2, rfl⟩ Own.nil (by (try simp only [List.length_append, List.length_singleton] at *); omega) (by unfold maxLen; (try simp only [List.length_append, List.length_singleton] at *); omega) HSZ.out ?_
        intro v8 W8 hG8 hb8 hk8 hw8
        obtain ⟨a8, cap8, hv8⟩ := hG8.slice
        subst hv8
        generalize hn8 : (lo ++ [(⟨name, ByteArray.empty, s⟩ : FileD)]).length = n8 at *
        have XB8 : Below (q + 1) wr W8 := ((show Below wr.heap.size wr _ by repeat (first | exact Below.refl _ _ | refine Below.setCell ?_ (by first | omega | (simp; done) | (simp; omega)) _ | refine Below.alloc ?_ (by first | omega | (simp; done) | (simp; omega)) _ | apply Below.drew)).mono HSZ.out).trans hb8
        have XQ8 : Blk W8 q 26 [_] := (XB8.block q (by omega)).trans HKQ.out
        have q8 := XQ8.cell 0
        have qf8 := XQ8.frozen
        simp at q8
        have kr8 : Blk W8 (w.heap.size + 1) 26 [.slice none 0 0] := (XB8.block (w.heap.size + 1) (by omega)).trans HK1.out
        have r8 := kr8.cell 0
        have rf8 := kr8.frozen
        simp at r8
        have hni : ¬ (4 : Int) < (n8 : Int) := by rw [← hn8, List.length_append, List.length_singleton]; omega
        go_wp2_with fail
        have BX := Lib.hid (HB.out.trans (XB8.mono (by omega)))
        have KX := Lib.hid (show Blk W8 (w.heap.size + 1) 26 [.slice none 0 0] from (XB8.block _ (by omega)).trans HK1.out)
        obtain ⟨a', cap', fp', hv, hg, hc1, hc2, ho⟩ := hG8.done
        rw [hn8] at hv hg hc1
        simp only [Value.slice.injEq] at hv
        obtain ⟨rfl, -, rfl⟩ := hv
        have HGR := Lib.hid hG8
        have HD' := Lib.hid (And.intro hg ho)
        have HCC := Lib.hid (And.intro hc1 hc2)
        clear XB8 hb8 hk8 hw8 hG8 hg hc1 hc2 ho
        refine body_gen (fun W => Below w.heap.size w W ∧ Blk W (w.heap.size + 1) 26 [.slice a8 n8 cap8] ∧ GRow 3 RFile W a8 n8 ls.1 fp' ∧ Own (q + 1) W fp' ∧ Grows 3 RFile 40 (q + 1) W (.slice a8 n8 cap8) ls.1) ⟨?_, ?_, ?_, ?_, ?_⟩ ?_
        · have hb := BX.out
          have hbs := hb.size
          repeat (first | exact Below.refl _ _ | refine Below.setCell ?_ (by first | omega | (simp; done) | (simp; omega)) _ | refine Below.alloc ?_ (by first | omega | (simp; done) | (simp; omega)) _ | apply Below.drew | refine Below.trans ?_ (hb.mono (by first | omega | (simp; done) | (simp; omega))))
        · (apply Blk.of_eq; (repeat (first | (with_reducible exact KX.out) | (with_reducible apply Blk.set) | ((with_reducible apply Blk.other); · first | (simp; done) | (simp; omega)) | (with_reducible apply Blk.drew))); rfl)
        · rw [E.out]
          refine HD'.out.1.keep local_File (fun p hp => ?_)
          have := (HD'.out.2.2 p hp).1
          exact (Below.heap_setCell _ ⟨w.heap.size + 1, 0, none⟩ _ p (by simp; omega)).trans (Below.heap_setCell _ ⟨q, 0, none⟩ _ p (by simp; omega))
        · refine HD'.out.2.keep (fun p hp => ?_)
          have := (HD'.out.2.2 p hp).1
          exact (Below.heap_setCell _ ⟨w.heap.size + 1, 0, none⟩ _ p (by simp; omega)).trans (Below.heap_setCell _ ⟨q, 0, none⟩ _ p (by simp; omega))
        · rw [E.out]
          exact HGR.out.keep local_File (fun p hp _ => (Below.heap_setCell _ ⟨w.heap.size + 1, 0, none⟩ _ p (by simp; omega)).trans (Below.heap_setCell _ ⟨q, 0, none⟩ _ p (by simp; omega)))
        clear c0
        rintro W ⟨bw, kw, gw, ow, rw'⟩
        have e0 := kw.cell 0
        simp at e0
        refine bodyPost_ret (v := .tuple #[.agg (Disk.list ⟨ls.1⟩ ⟨a8, n8, cap8⟩).toArray, .bool ls.2]) (by rw [E.out]; simp [results, Try.results22, go_sem, e0, Disk.list]) rfl ?_
        exact ⟨⟨a8, n8, cap8⟩, fp', rfl, ⟨fp', rfl, gw, HCC.out.1, HCC.out.2⟩, ow.mono (by omega), bw, rw'.lower (by omega)⟩
    have hlt2 : (j : Int) < (fl : Int) := by omega
    have h02 : (0 : Int) ≤ (j : Int) := by omega
    obtain ⟨b, off, y, f, cs, rfl, hbl, hy, hcl, hR, hc⟩ := HX.out.1.at hlt
    obtain ⟨rfl, s0, s1, s2, rfl⟩ := hR
    have d0 := (hB.cell (p := ⟨b, off + j * 3 + 0, none⟩) hbl).trans (hc 0 (by omega))
    have d1 := (hB.cell (p := ⟨b, off + j * 3 + 1, none⟩) hbl).trans (hc 1 (by omega))
    have d2 := (hB.cell (p := ⟨b, off + j * 3 + 2, none⟩) hbl).trans (hc 2 (by omega))
    simp [File.list] at d0 d1 d2
    have HYS := Lib.hid (And.intro s0 (And.intro s1 s2))
    have hbr := Nat.lt_of_lt_of_le hbl hB.size
    have HG := Lib.hid hG
    have HK0 := Lib.hid hk0'
    have HK1 := Lib.hid hk1'
    have HKQ := Lib.hid hkq
    have HY := Lib.hid hy
    have q0 := hkq.cell 0
    have qf := hkq.frozen
    simp at q0
    have hkql := hkq.lt
    have hk0l := hk0'.lt
    have HSZ := Lib.hid hsz
    clear hG hB hc hk0' hk1' hkq s0 s1 s2
    cases p with
    | true =>
      have hyn := (hinv.on hy).1
      have HE := Lib.hid (hinv.on hy).2
      have et : (y.name.toList == name.toList) = false := by
        cases hh : (y.name.toList == name.toList)
        · rfl
        · exact absurd (toList_inj.1 (by simpa using hh)) (fun e => ltB_ne hyn e.symm)
      clear hinv hy hyn
      go_wp2_with (at_builtin; refine halt_append _ _ _ _ rfl ?_)
      unfold Halt
      refine push2 (v := v) local_File rfl _ _ 24 rfl i0 _ 48 Try.underlying24 HZ.out.1 HZ.out.2.1 HZ.out.2.2.1 HZ.out.2.2.2 rfl (by decide) rfl HG.out (show Below wr.heap.size wr _ by repeat (first | exact Below.refl _ _ | refine Below.setCell ?_ (by first | omega | (simp; done) | (simp; omega)) _ | refine Below.alloc ?_ (by first | omega | (simp; done) | (simp; omega)) _ | apply Below.drew)) _ 1 rfl [.string y.name, .string y.safe, .string y.now] rfl (fun u hu => by simp at hu; rcases hu with rfl | rfl | rfl <;> rfl) (fun j u hj => ((show Blk _ _ 40 [.string y.name, .string y.safe, .string y.now] by with_reducible (repeat (first | (refine blk_new_at _ _ _ _ ?_; first | rfl | (simp; done)) | refine Blk.alloc ?_ _ | apply Blk.drew | refine Blk.setOther ?_ (by first | (simp; done) | (simp; omega)) _))).cell j).trans hj) y [] ⟨rfl, HYS.out.1, HYS.out.2.1, HYS.out.2.2, rfl⟩ Own.nil (by (try simp only [List.length_append, List.length_singleton] at *); omega) (by unfold maxLen; (try simp only [List.length_append, List.length_singleton] at *); omega) HSZ.out ?_
      intro v8 W8 hG8 hb8 hk8 hw8
      obtain ⟨a8, cap8, hv8⟩ := hG8.slice
      subst hv8
      generalize hn8 : (lo ++ [y]).length = n8 at *
      have XB8 : Below (q + 1) wr W8 := ((show Below wr.heap.size wr _ by repeat (first | exact Below.refl _ _ | refine Below.setCell ?_ (by first | omega | (simp; done) | (simp; omega)) _ | refine Below.alloc ?_ (by first | omega | (simp; done) | (simp; omega)) _ | apply Below.drew)).mono HSZ.out).trans hb8
      have XQ8 : Blk W8 q 26 [_] := (XB8.block q (by omega)).trans HKQ.out
      have q8 := XQ8.cell 0
      have qf8 := XQ8.frozen
      simp at q8
      go_wp2_with fail
      go_roundg (fl - (j + 1))
      case measure => omega
      case rel =>
        have hb9 := HB.out.trans (XB8.mono (by omega))
        have hz9 := XB8.size
        refine ⟨j + 1, _, _, lo ++ [y], by omega, rfl, by go_num, ?_, ?_, XQ8.set 0 _, ?_, ?_, ?_, HE.out⟩
        · have k0 : Blk W8 w.heap.size 26 [.slice (some ⟨b, off, none⟩) fl fc] := (XB8.block _ (by omega)).trans HK0.out
          with_reducible (repeat (first | exact k0 | (refine blk_new_at _ _ _ _ ?_; first | rfl | (simp; done)) | refine Blk.alloc ?_ _ | apply Blk.drew | refine Blk.setOther ?_ (by first | (simp; done) | (simp; omega)) _))
        · have k1 : Blk W8 (w.heap.size + 1) 26 [.slice none 0 0] := (XB8.block _ (by omega)).trans HK1.out
          with_reducible (repeat (first | exact k1 | (refine blk_new_at _ _ _ _ ?_; first | rfl | (simp; done)) | refine Blk.alloc ?_ _ | apply Blk.drew | refine Blk.setOther ?_ (by first | (simp; done) | (simp; omega)) _))
        · exact hG8.keep local_File (fun p hp1 hp2 => Below.heap_setCell _ ⟨q, 0, none⟩ _ p (by simp; omega))
        · simp; omega
        · repeat (first | exact Below.refl _ _ | refine Below.setCell ?_ (by first | omega | (simp; done) | (simp; omega)) _ | refine Below.alloc ?_ (by first | omega | (simp; done) | (simp; omega)) _ | apply Below.drew | refine Below.trans ?_ (hb9.mono (by first | omega | (simp; done) | (simp; omega))))
    | false =>
      by_cases e : y.name = name
      · have HE := Lib.hid (hinv.same HP.out hy e)
        have et : (y.name.toList == name.toList) = true := by rw [e]; simp
        clear hinv hy e
        go_wp2_with (at_builtin; refine halt_append _ _ _ _ rfl ?_)
        unfold Halt
        refine push2 (v := v) local_File rfl _ _ 24 rfl i0 _ 48 Try.underlying24 HZ.out.1 HZ.out.2.1 HZ.out.2.2.1 HZ.out.2.2.2 rfl (by decide) rfl HG.out (show Below wr.heap.size wr _ by repeat (first | exact Below.refl _ _ | refine Below.setCell ?_ (by first | omega | (simp; done) | (simp; omega)) _ | refine Below.alloc ?_ (by first | omega | (simp; done) | (simp; omega)) _ | apply Below.drew)) _ 1 rfl [.string y.name, .string y.safe, .string s] rfl (fun u hu => by simp at hu; rcases hu with rfl | rfl | rfl <;> rfl) (fun j u hj => ((show Blk _ _ 40 [.string y.name, .string y.safe, .string s] by with_reducible (repeat (first | (refine blk_new_at _ _ _ _ ?_; first | rfl | (simp; done)) | refine Blk.alloc ?_ _ | apply Blk.drew | refine Blk.setOther ?_ (by first | (simp; done) | (simp; omega)) _))).cell j).trans hj) (⟨y.name, y.safe, s⟩ : FileD) [] ⟨rfl, HYS.out.1, HYS.out.2.1, HSN.out.2, rfl⟩ Own.nil (by (try simp only [List.length_append, List.length_singleton] at *); omega) (by unfold maxLen; (try simp only [List.length_append, List.length_singleton] at *); omega) HSZ.out ?_
        intro v8 W8 hG8 hb8 hk8 hw8
        obtain ⟨a8, cap8, hv8⟩ := hG8.slice
        subst hv8
        generalize hn8 : (lo ++ [(⟨y.name, y.safe, s⟩ : FileD)]).length = n8 at *
        have XB8 : Below (q + 1) wr W8 := ((show Below wr.heap.size wr _ by repeat (first | exact Below.refl _ _ | refine Below.setCell ?_ (by first | omega | (simp; done) | (simp; omega)) _ | refine Below.alloc ?_ (by first | omega | (simp; done) | (simp; omega)) _ | apply Below.drew)).mono HSZ.out).trans hb8
        have XQ8 : Blk W8 q 26 [_] := (XB8.block q (by omega)).trans HKQ.out
        have q8 := XQ8.cell 0
        have qf8 := XQ8.frozen
        simp at q8
        go_wp2_with fail
        go_roundg (fl - (j + 1))
        case measure => omega
        case rel =>
          have hb9 := HB.out.trans (XB8.mono (by omega))
          have hz9 := XB8.size
          refine ⟨j + 1, _, _, lo ++ [(⟨y.name, y.safe, s⟩ : FileD)], by omega, rfl, by go_num, ?_, ?_, XQ8.set 0 _, ?_, ?_, ?_, HE.out⟩
          · have k0 : Blk W8 w.heap.size 26 [.slice (some ⟨b, off, none⟩) fl fc] := (XB8.block _ (by omega)).trans HK0.out
            with_reducible (repeat (first | exact k0 | (refine blk_new_at _ _ _ _ ?_; first | rfl | (simp; done)) | refine Blk.alloc ?_ _ | apply Blk.drew | refine Blk.setOther ?_ (by first | (simp; done) | (simp; omega)) _))
          · have k1 : Blk W8 (w.heap.size + 1) 26 [.slice none 0 0] := (XB8.block _ (by omega)).trans HK1.out
            with_reducible (repeat (first | exact k1 | (refine blk_new_at _ _ _ _ ?_; first | rfl | (simp; done)) | refine Blk.alloc ?_ _ | apply Blk.drew | refine Blk.setOther ?_ (by first | (simp; done) | (simp; omega)) _))
          · exact hG8.keep local_File (fun p hp1 hp2 => Below.heap_setCell _ ⟨q, 0, none⟩ _ p (by simp; omega))
          · simp; omega
          · repeat (first | exact Below.refl _ _ | refine Below.setCell ?_ (by first | omega | (simp; done) | (simp; omega)) _ | refine Below.alloc ?_ (by first | omega | (simp; done) | (simp; omega)) _ | apply Below.drew | refine Below.trans ?_ (hb9.mono (by first | omega | (simp; done) | (simp; omega))))
      · by_cases hl : ltB name y.name = true
        · have HE := Lib.hid (hinv.new HP.out hy hl)
          have et : (y.name.toList == name.toList) = false := by
            cases hh : (y.name.toList == name.toList)
            · rfl
            · exact absurd (toList_inj.1 (by simpa using hh)) e
          have eg : Op.bytesLess y.name.toList name.toList = false := ltB_asymm hl
          clear hinv hy e hl
          go_wp2_with (at_builtin; refine halt_append _ _ _ _ rfl ?_)
          unfold Halt
          refine push2 (v := v) local_File rfl _ _ 24 rfl i0 _ 48 Try.underlying24 HZ.out.1 HZ.out.2.1 HZ.out.2.2.1 HZ.out.2.2.2 rfl (by decide) rfl HG.out (show Below wr.heap.size wr _ by repeat (first | exact Below.refl _ _ | refine Below.setCell ?_ (by first | omega | (simp; done) | (simp; omega)) _ | refine Below.alloc ?_ (by first | omega | (simp; done) | (simp; omega)) _ | apply Below.drew)) _ 1 rfl [.string name, .string ⟨#[]⟩, .string s] rfl (fun u hu => by simp at hu; rcases hu with rfl | rfl | rfl <;> rfl) (fun j u hj => ((show Blk _ _ 40 [.string name, .string ⟨#[]⟩, .string s] by with_reducible (repeat (first | (refine blk_new_at _ _ _ _ ?_; first | rfl | (simp; done)) | refine Blk.alloc ?_ _ | apply Blk.drew | refine Blk.setOther ?_ (by first | (simp; done) | (simp; omega)) _))).cell j).trans hj) (⟨name, ByteArray.empty, s⟩ : FileD) [] ⟨rfl, HSN.out.1, by simp, HSN.out.2, rfl⟩ Own.nil (by (try simp only [List.length_append, List.length_singleton] at *); omega) (by unfold maxLen; (try simp only [List.length_append, List.length_singleton] at *); omega) HSZ.out ?_
          intro v8 W8 hG8 hb8 hk8 hw8
          obtain ⟨a8, cap8, hv8⟩ := hG8.slice
          subst hv8
          generalize hn8 : (lo ++ [(⟨name, ByteArray.empty, s⟩ : FileD)]).length = n8 at *
          have XB8 : Below (q + 1) wr W8 := ((show Below wr.heap.size wr _ by repeat (first | exact Below.refl _ _ | refine Below.setCell ?_ (by first | omega | (simp; done) | (simp; omega)) _ | refine Below.alloc ?_ (by first | omega | (simp; done) | (simp; omega)) _ | apply Below.drew)).mono HSZ.out).trans hb8
          have XQ8 : Blk W8 q 26 [_] := (XB8.block q (by omega)).trans HKQ.out
          have q8 := XQ8.cell 0
          have qf8 := XQ8.frozen
          simp at q8
          have KY8 : Blk W8 wr.heap.size 40 [.string y.name, .string y.safe, .string y.now] := Eq.trans (hk8 _ (by simp; omega) (fun e => by have := (HG.out.lt _ e).2; omega)) (show Blk _ wr.heap.size 40 [.string y.name, .string y.safe, .string y.now] by with_reducible (repeat (first | (refine blk_new_at _ _ _ _ ?_; first | rfl | (simp; done)) | refine Blk.alloc ?_ _ | apply Blk.drew | refine Blk.setOther ?_ (by first | (simp; done) | (simp; omega)) _)))
          have y0 := KY8.cell 0
          have y1 := KY8.cell 1
          have y2 := KY8.cell 2
          simp at y0 y1 y2
          have hy8 := KY8.lt
          go_wp2_with (at_builtin; refine halt_append _ _ _ _ rfl ?_)
          unfold Halt
          refine push2 (v := .slice a8 n8 cap8) local_File rfl _ _ 24 rfl i0 _ 48 Try.underlying24 HZ.out.1 HZ.out.2.1 HZ.out.2.2.1 HZ.out.2.2.2 rfl (by decide) rfl (hG8.keep local_File (fun p hp1 hp2 => Below.heap_setCell _ ⟨q, 0, none⟩ _ p (by simp; omega))) (show Below (W8.setCell ⟨q, 0, none⟩ (.slice a8 n8 cap8)).heap.size (W8.setCell ⟨q, 0, none⟩ (.slice a8 n8 cap8)) _ by repeat (first | exact Below.refl _ _ | refine Below.setCell ?_ (by first | omega | (simp; done) | (simp; omega)) _ | refine Below.alloc ?_ (by first | omega | (simp; done) | (simp; omega)) _ | apply Below.drew)) _ 1 rfl [.string y.name, .string y.safe, .string y.now] rfl (fun u hu => by simp at hu; rcases hu with rfl | rfl | rfl <;> rfl) (fun j u hj => ((show Blk _ _ 40 [.string y.name, .string y.safe, .string y.now] by with_reducible (repeat (first | (refine blk_new_at _ _ _ _ ?_; first | rfl | (simp; done)) | refine Blk.alloc ?_ _ | apply Blk.drew | refine Blk.setOther ?_ (by first | (simp; done) | (simp; omega)) _))).cell j).trans hj) y [] ⟨rfl, HYS.out.1, HYS.out.2.1, HYS.out.2.2, rfl⟩ Own.nil (by (try simp only [List.length_append, List.length_singleton] at *); omega) (by unfold maxLen; (try simp only [List.length_append, List.length_singleton] at *); omega) (by have := XB8.size; simp; omega) ?_
          intro v9 W9 hG9 hb9 hk9 hw9
          obtain ⟨a9, cap9, hv9⟩ := hG9.slice
          subst hv9
          generalize hn9 : ((lo ++ [(⟨name, ByteArray.empty, s⟩ : FileD)]) ++ [y]).length = n9 at *
          have XB9' : Below (q + 1) (W8.setCell ⟨q, 0, none⟩ (.slice a8 n8 cap8)) W9 := ((show Below (W8.setCell ⟨q, 0, none⟩ (.slice a8 n8 cap8)).heap.size (W8.setCell ⟨q, 0, none⟩ (.slice a8 n8 cap8)) _ by repeat (first | exact Below.refl _ _ | refine Below.setCell ?_ (by first | omega | (simp; done) | (simp; omega)) _ | refine Below.alloc ?_ (by first | omega | (simp; done) | (simp; omega)) _ | apply Below.drew)).mono (by have := XB8.size; simp; omega)).trans hb9; have XQ9 : Blk W9 q 26 [_] := (XB9'.block q (by omega)).trans (XQ8.set 0 _); have q9 := XQ9.cell 0; have qf9 := XQ9.frozen; simp at q9; have HX9 := Lib.hid XB9'
          go_wp2_with fail
          go_roundg (fl - (j + 1))
          case measure => omega
          case rel =>
            have XB9 : Below q wr W9 := (XB8.mono (Nat.le_succ q)).trans (((Below.refl q W8).setCell (p := ⟨q, 0, none⟩) (Nat.le_refl q) _).trans (XB9'.mono (Nat.le_succ q)))
            have hb9 := HB.out.trans (XB9.mono (by omega))
            have hz9 := XB9.size
            refine ⟨j + 1, _, _, (lo ++ [⟨name, ByteArray.empty, s⟩]) ++ [y], by omega, rfl, by go_num, ?_, ?_, XQ9.set 0 _, ?_, ?_, ?_, HE.out⟩
            · have k0 : Blk W9 w.heap.size 26 [.slice (some ⟨b, off, none⟩) fl fc] := (XB9.block _ (by omega)).trans HK0.out
              with_reducible (repeat (first | exact k0 | (refine blk_new_at _ _ _ _ ?_; first | rfl | (simp; done)) | refine Blk.alloc ?_ _ | apply Blk.drew | refine Blk.setOther ?_ (by first | (simp; done) | (simp; omega)) _))
            · have k1 : Blk W9 (w.heap.size + 1) 26 [.slice none 0 0] := (XB9.block _ (by omega)).trans HK1.out
              with_reducible (repeat (first | exact k1 | (refine blk_new_at _ _ _ _ ?_; first | rfl | (simp; done)) | refine Blk.alloc ?_ _ | apply Blk.drew | refine Blk.setOther ?_ (by first | (simp; done) | (simp; omega)) _))
            · exact hG9.keep local_File (fun p hp1 hp2 => Below.heap_setCell _ ⟨q, 0, none⟩ _ p (by simp; omega))
            · simp; omega
            · repeat (first | exact Below.refl _ _ | refine Below.setCell ?_ (by first | omega | (simp; done) | (simp; omega)) _ | refine Below.alloc ?_ (by first | omega | (simp; done) | (simp; omega)) _ | apply Below.drew | refine Below.trans ?_ (hb9.mono (by first | omega | (simp; done) | (simp; omega))))
        · have hl2 : ltB y.name name = true := by
            rcases ltB_tri y.name name with h | h | h
            · exact h
            · exact absurd h e
            · exact absurd h hl
          have HE := Lib.hid (hinv.pass hy hl2)
          have et : (y.name.toList == name.toList) = false := by
            cases hh : (y.name.toList == name.toList)
            · rfl
            · exact absurd (toList_inj.1 (by simpa using hh)) e
          have eg : Op.bytesLess y.name.toList name.toList = true := hl2
          clear hinv hy e hl hl2
          go_wp2_with (at_builtin; refine halt_append _ _ _ _ rfl ?_)
          unfold Halt
          refine push2 (v := v) local_File rfl _ _ 24 rfl i0 _ 48 Try.underlying24 HZ.out.1 HZ.out.2.1 HZ.out.2.2.1 HZ.out.2.2.2 rfl (by decide) rfl HG.out (show Below wr.heap.size wr _ by repeat (first | exact Below.refl _ _ | refine Below.setCell ?_ (by first | omega | (simp; done) | (simp; omega)) _ | refine Below.alloc ?_ (by first | omega | (simp; done) | (simp; omega)) _ | apply Below.drew)) _ 1 rfl [.string y.name, .string y.safe, .string y.now] rfl (fun u hu => by simp at hu; rcases hu with rfl | rfl | rfl <;> rfl) (fun j u hj => ((show Blk _ _ 40 [.string y.name, .string y.safe, .string y.now] by with_reducible (repeat (first | (refine blk_new_at _ _ _ _ ?_; first | rfl | (simp; done)) | refine Blk.alloc ?_ _ | apply Blk.drew | refine Blk.setOther ?_ (by first | (simp; done) | (simp; omega)) _))).cell j).trans hj) y [] ⟨rfl, HYS.out.1, HYS.out.2.1, HYS.out.2.2, rfl⟩ Own.nil (by (try simp only [List.length_append, List.length_singleton] at *); omega) (by unfold maxLen; (try simp only [List.length_append, List.length_singleton] at *); omega) HSZ.out ?_
          intro v8 W8 hG8 hb8 hk8 hw8
          obtain ⟨a8, cap8, hv8⟩ := hG8.slice
          subst hv8
          generalize hn8 : (lo ++ [y]).length = n8 at *
          have XB8 : Below (q + 1) wr W8 := ((show Below wr.heap.size wr _ by repeat (first | exact Below.refl _ _ | refine Below.setCell ?_ (by first | omega | (simp; done) | (simp; omega)) _ | refine Below.alloc ?_ (by first | omega | (simp; done) | (simp; omega)) _ | apply Below.drew)).mono HSZ.out).trans hb8
          have XQ8 : Blk W8 q 26 [_] := (XB8.block q (by omega)).trans HKQ.out
          have q8 := XQ8.cell 0
          have qf8 := XQ8.frozen
          simp at q8
          go_wp2_with fail
          go_roundg (fl - (j + 1))
          case measure => omega
          case rel =>
            have hb9 := HB.out.trans (XB8.mono (by omega))
            have hz9 := XB8.size
            refine ⟨j + 1, _, _, lo ++ [y], by omega, rfl, by go_num, ?_, ?_, XQ8.set 0 _, ?_, ?_, ?_, HE.out⟩
            · have k0 : Blk W8 w.heap.size 26 [.slice (some ⟨b, off, none⟩) fl fc] := (XB8.block _ (by omega)).trans HK0.out
              with_reducible (repeat (first | exact k0 | (refine blk_new_at _ _ _ _ ?_; first | rfl | (simp; done)) | refine Blk.alloc ?_ _ | apply Blk.drew | refine Blk.setOther ?_ (by first | (simp; done) | (simp; omega)) _))
            · have k1 : Blk W8 (w.heap.size + 1) 26 [.slice none 0 0] := (XB8.block _ (by omega)).trans HK1.out
              with_reducible (repeat (first | exact k1 | (refine blk_new_at _ _ _ _ ?_; first | rfl | (simp; done)) | refine Blk.alloc ?_ _ | apply Blk.drew | refine Blk.setOther ?_ (by first | (simp; done) | (simp; omega)) _))
            · exact hG8.keep local_File (fun p hp1 hp2 => Below.heap_setCell _ ⟨q, 0, none⟩ _ p (by simp; omega))
            · simp; omega
            · repeat (first | exact Below.refl _ _ | refine Below.setCell ?_ (by first | omega | (simp; done) | (simp; omega)) _ | refine Below.alloc ?_ (by first | omega | (simp; done) | (simp; omega)) _ | apply Below.drew | refine Below.trans ?_ (hb9.mono (by first | omega | (simp; done) | (simp; omega))))
theorem spec_DiskPut (x : DiskD) (h : DiskH) (fp : List Nat) (name s : ByteArray) (w : World) (hin : Disk.Is w x h fp) (hs1 : name.size ≤ 9223372036854775807) (hs2 : s.size ≤ 9223372036854775807) (hmax : Disk.sz x ≤ 2000000) :
    Calls Try.prog 22 #[.agg (Disk.list x h).toArray, .string name, .string s] w (CopiedDiskB w ⟨(putD x.files name s).1⟩ (putD x.files name s).2) :=
  (spec_DiskPut_own x h fp name s w hin hs1 hs2 hmax).mono fun _ _ ⟨h', fp', e, i, o, b, _⟩ => ⟨h', fp', e, i, o, b⟩
end Go.Proofs.Ytoglclmaacjdaaa.dat
