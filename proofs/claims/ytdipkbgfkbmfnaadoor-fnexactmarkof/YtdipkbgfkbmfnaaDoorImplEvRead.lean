/-
  THE CONTRACT OF EventRead of the program: the event whose text it is, in memory of its own, or none; nothing that was there is written.
-/
import Derived.Test.YtdipkbgfkbmfnaaDoorEvNums
import Derived.Test.YtdipkbgfkbmfnaaDoorSpecEvRead
namespace Go.Proofs.YtdipkbgfkbmfnaaDoor.dat
open Go.RowKit Go.Proofs.YtdipkbgfkbmfnaaDoor.win
open Go.Proofs.YtdipkbgfkbmfnaaDoor.num (Env Env.next numA numA_some numA_itoa words words_ne)

theorem mapM_itoa : ∀ {ns : List Int}, (∀ x ∈ ns, (Lib.itoa x).length ≤ 18) → (ns.map Lib.itoa).mapM numA = some ns
  | [], _ => by simp
  | x :: r, h => by
    rw [List.map_cons, List.mapM_cons, numA_itoa (h x (by simp)), mapM_itoa (fun y hy => h y (by simp [hy]))]
    rfl
theorem mapM_back : ∀ {ws : List (List UInt8)} {ns : List Int}, ws.mapM numA = some ns → ws = ns.map Lib.itoa
  | [], ns, h => by simp at h; subst h; rfl
  | y :: r, ns, h => by
    rw [List.mapM_cons] at h
    cases h1 : numA y with
    | none => rw [h1] at h; simp at h
    | some v =>
      cases h2 : r.mapM numA with
      | none => rw [h1, h2] at h; simp at h
      | some q =>
        rw [h1, h2] at h
        simp at h
        subst h
        rw [List.map_cons, numA_some h1, ← mapM_back h2]
theorem evNo_ev {c : ConfD} {e : EventD} (h : eventB c e = true) : evNo ((words (evText e)).take 7) = some (evNums e) := by
  have hl : (words (evText e)).length ≤ 7 := by
    rw [words_ev, evWords_nums]
    have := (ev_bounds h).2.1
    simp [evNums]
    omega
  rw [List.take_of_length_le hl, words_ev, evNo_cons, if_pos rfl, evWords_nums]
  refine mapM_itoa (fun x hx => ?_)
  have := ev_words_len h (Lib.itoa x) (by rw [evWords_nums]; exact List.mem_map.2 ⟨x, hx, rfl⟩)
  omega
theorem evNo_words {L : List (List UInt8)} {ns : List Int} (h : evNo L = some ns) : L = [101] :: ns.map Lib.itoa := by
  cases L with
  | nil => cases h
  | cons x ws =>
    rw [evNo_cons] at h
    split at h
    · rename_i hx
      rw [hx, mapM_back h]
    · cases h
/-- With few enough numbers it is the whole text. -/
theorem evNo_text {s : List UInt8} {ns : List Int} (h : evNo ((words s).take 7) = some ns) (h5 : ns.length ≤ 5) (h2 : 2 ≤ ns.length) : s = evText (numsEv ns) := by
  have hw := evNo_words h
  have hl : (words s).length ≤ 7 := by
    have := congrArg List.length hw
    simp at this
    omega
  rw [List.take_of_length_le hl] at hw
  exact ev_of_nums hw (numsEv_nums h2).symm
theorem evR_no_nums {c : ConfD} {s : List UInt8} (h : evNo ((words s).take 7) = none) : evR c s = none :=
  evR_none fun e h1 h2 => by rw [← h2, evNo_ev h1] at h; cases h
theorem evR_other {c : ConfD} {s : List UInt8} {ns : List Int} (h : evNo ((words s).take 7) = some ns) (hd : ¬ (confD c = true ∧ (ns.length : Int) = c.d + 2)) : evR c s = none :=
  evR_none fun e h1 h2 => by
    rw [← h2, evNo_ev h1] at h
    cases h
    apply hd
    unfold eventB at h1
    simp only [Bool.and_eq_true, beq_iff_eq] at h1
    refine ⟨h1.1.1.1.1, ?_⟩
    rw [evNums_len]
    have := h1.1.1.2
    omega
/-- A row of numbers that a library's call leaves. -/
theorem grows_owned {w : World} {base n : Nat} {v : Value} {l : List Int} (h : w.ownsRow base 3 1 v n (l.map (Value.int .i64))) (hn : n = l.length) : Grows 1 RInt 3 base w v l := by
  subst hn
  have hfl : (l.map fun z => [Value.int .i64 z]).flatten = l.map (Value.int .i64) := by
    clear h
    induction l with
    | nil => rfl
    | cons c r ih => simp [ih]
  have hF : (List.replicate l.length ([] : List Nat)).flatten = [] := by simp
  refine ⟨l.map (fun z => [Value.int .i64 z]), List.replicate l.length [], by simp, by simp, by simp, ?_, by rw [hF]; simp, by rw [hF]; simp, by rw [hfl]; exact h⟩
  intro i x c f hx hc hf
  rw [List.getElem?_map, hx] at hc
  simp at hc
  obtain rfl : f = [] := (List.mem_replicate.1 (List.mem_of_getElem? hf)).2
  exact ⟨hc.symm, rfl⟩
theorem cloneInts (b off n c : Nat) (l : List Int) (w : World) (hl : l.length = n) (hn : n ≤ 100000) (hc : ∀ (j : Nat) x, l[j]? = some x → w.cell? ⟨b, off + j, none⟩ = some (.int .i64 x)) :
    Calls Tryd.prog 39 #[.slice (some ⟨b, off, none⟩) n c] w fun e w' => ∃ a c' fp, e = .returned (.slice a n c') ∧ GRow 1 RInt w' a n l fp ∧ n ≤ c' ∧ c' ≤ 9223372036854775807 ∧ Own w.heap.size w' fp ∧ Below w.heap.size w w' := by
  obtain ⟨i, hi, h⟩ := Option.map_eq_some_iff.1 info_int
  simp only [Prod.mk.injEq] at h
  refine (AnyE.slices_Clone Tryd.laysSlE041_f39 i (.int .i64 0) 1 8 hi h.1 h.2.1 h.2.2 rfl (by decide) (fun w => Tryd.sizeOf3 w) b off n c (l.map (Value.int .i64)) w (by simp [hl]) (by unfold maxLen; omega) (by omega) ?_ ?_).mono ?_
  · intro j u hu
    rw [List.getElem?_map] at hu
    obtain ⟨x, hx, rfl⟩ := Option.map_eq_some_iff.1 hu
    exact hc j x hx
  · intro u hu
    obtain ⟨x, _, rfl⟩ := List.mem_map.1 hu
    rfl
  · rintro e w' ⟨v', rfl, hown, _, hb⟩
    obtain ⟨a, cap, fp, rfl, hg, h1, h2, ho⟩ := (grows_owned hown hl.symm).done
    rw [hl] at hg h1 ⊢
    exact ⟨a, cap, fp, rfl, hg, h1, h2, ho, hb⟩

/-- .. and two cells beside that stay as they were. -/
theorem cloneInts2 (b off n c : Nat) (l : List Int) (w : World) (hl : l.length = n) (hn : n ≤ 100000) (hc : ∀ (j : Nat) x, l[j]? = some x → w.cell? ⟨b, off + j, none⟩ = some (.int .i64 x)) (o0 o1 : Nat) (v0 v1 : Value) (g0 : w.cell? ⟨b, o0, none⟩ = some v0) (g1 : w.cell? ⟨b, o1, none⟩ = some v1) :
    Calls Tryd.prog 39 #[.slice (some ⟨b, off, none⟩) n c] w fun e w' => ∃ a c' fp, e = .returned (.slice a n c') ∧ GRow 1 RInt w' a n l fp ∧ n ≤ c' ∧ c' ≤ 9223372036854775807 ∧ Own w.heap.size w' fp ∧ Below w.heap.size w w' ∧ w'.cell? ⟨b, o0, none⟩ = some v0 ∧ w'.cell? ⟨b, o1, none⟩ = some v1 := by
  have hb := World.block_lt_of_cell? _ _ g0
  refine (cloneInts b off n c l w hl hn hc).mono ?_
  rintro e w' ⟨a, c', fp, h1, h2, h3, h4, h5, h6⟩
  exact ⟨a, c', fp, h1, h2, h3, h4, h5, h6, (h6.cell (p := ⟨b, o0, none⟩) hb).trans g0, (h6.cell (p := ⟨b, o1, none⟩) hb).trans g1⟩
theorem bcell_ {W w1 : World} (hb : Below W.heap.size W w1) : (∀ b o, b < W.heap.size → w1.cell? ⟨b, o, none⟩ = W.cell? ⟨b, o, none⟩) ∧ (∀ b o, b < W.heap.size → w1.frozen? ⟨b, o, none⟩ = W.frozen? ⟨b, o, none⟩) :=
  ⟨fun b o h => hb.cell (p := ⟨b, o, none⟩) h, fun b o h => hb.frozen (p := ⟨b, o, none⟩) h⟩
theorem ev_is {w : World} {x0 x1 : Int} {D : List Int} {az : Option Addr} {n cz : Nat} {fz : List Nat} (r : GRow 1 RInt w az n D fz) (h1 : n ≤ cz) (h2 : cz ≤ 9223372036854775807) : Event.Is w ⟨x0, D, x1⟩ ⟨az, n, cz⟩ fz := ⟨fz, rfl, r, h1, h2⟩
theorem made_after (wz : World) (t : TypeId) (u0 u1 u2 : Value) {vs : List Value} (e : [u0, u1, u2] = vs) : Blk (wz.alloc (.cells #[u0, u1, u2] t)) wz.heap.size t vs := e ▸ blk_new wz t [u0, u1, u2]
/-- The box made ahead of the copy: it is filled behind it. -/
theorem made_before (W3 wz : World) {x0 x1 : Int} {D : List Int} {t : TypeId} (az : Option Addr) {n : Nat} (cz : Nat) (fz : List Nat) (rz : GRow 1 RInt wz az n D fz) (z1 : n ≤ cz) (z2 : cz ≤ 9223372036854775807)
    (oz : Own (W3.drew.alloc (.cells #[.int .i64 0, .slice none 0 0, .int .i64 0] t)).heap.size wz fz) (hb : Below (W3.drew.alloc (.cells #[.int .i64 0, .slice none 0 0, .int .i64 0] t)).heap.size (W3.drew.alloc (.cells #[.int .i64 0, .slice none 0 0, .int .i64 0] t)) wz) :
    ∃ (bx : Nat) (eh : EventH) (f : List Nat), Value.pointer (some ⟨W3.heap.size, 0, none⟩) = .pointer (some ⟨bx, 0, none⟩) ∧ Blk (((wz.setCell ⟨W3.heap.size, 0, none⟩ (.int .i64 x0)).setCell ⟨W3.heap.size, 1, none⟩ (.slice az n cz)).setCell ⟨W3.heap.size, 2, none⟩ (.int .i64 x1)) bx t (Event.list ⟨x0, D, x1⟩ eh) ∧
      Event.Is (((wz.setCell ⟨W3.heap.size, 0, none⟩ (.int .i64 x0)).setCell ⟨W3.heap.size, 1, none⟩ (.slice az n cz)).setCell ⟨W3.heap.size, 2, none⟩ (.int .i64 x1)) ⟨x0, D, x1⟩ eh f ∧ Own W3.heap.size (((wz.setCell ⟨W3.heap.size, 0, none⟩ (.int .i64 x0)).setCell ⟨W3.heap.size, 1, none⟩ (.slice az n cz)).setCell ⟨W3.heap.size, 2, none⟩ (.int .i64 x1)) f ∧
      Below W3.heap.size W3 (((wz.setCell ⟨W3.heap.size, 0, none⟩ (.int .i64 x0)).setCell ⟨W3.heap.size, 1, none⟩ (.slice az n cz)).setCell ⟨W3.heap.size, 2, none⟩ (.int .i64 x1)) := by
  have hsz : (W3.drew.alloc (.cells #[.int .i64 0, .slice none 0 0, .int .i64 0] t)).heap.size = W3.heap.size + 1 := by simp
  have hk : Blk wz W3.heap.size t [.int .i64 0, .slice none 0 0, .int .i64 0] := (blk_new W3.drew t [.int .i64 0, .slice none 0 0, .int .i64 0]).below hb (by simp)
  have hne : ∀ b ∈ fz, b ≠ W3.heap.size := fun b h => by have := (oz.2 b h).1; omega
  refine ⟨W3.heap.size, ⟨az, n, cz⟩, fz, rfl, (((hk.set 0 _).set 1 _).set 2 _).of_eq rfl, ev_is (((rz.set local_int hne _ _).set local_int hne _ _).set local_int hne _ _) z1 z2, (((oz.set _ _ _).set _ _ _).set _ _ _).mono (by omega), ?_⟩
  refine ((Below.setCell ?_ (by simp) _).setCell (by simp) _).setCell (by simp) _
  exact ((Below.refl W3.heap.size W3).drew.alloc (show W3.heap.size ≤ W3.drew.heap.size from Nat.le_refl _) _).trans (hb.mono (by rw [hsz]; omega))
theorem conf_dims_ {c : ConfD} (h : confD c = true) : 0 ≤ c.d ∧ c.d ≤ 3 := by
  unfold confD at h
  simp only [Bool.and_eq_true] at h
  have := h.1.1.1.1
  unfold upB at this
  simpa using this
/-- What EventRead of the program answers: in memory of its own. -/
def EvReadI (c : ConfD) (s : List UInt8) (w : World) (r : Ending) (w' : World) : Prop :=
  ∃ (h : EventH) (f : List Nat), r = .returned (.tuple #[.agg (Event.list (evRD c s) h).toArray, .bool (evR c s).isSome]) ∧ Event.Is w' (evRD c s) h f ∧ Own w.heap.size w' f ∧ Below w.heap.size w w'
theorem evReadI_none {c : ConfD} {s : List UInt8} {w w' : World} (h : evR c s = none) (hb : Below w.heap.size w w') : EvReadI c s w (.returned (.tuple #[.agg #[.int .i64 0, .slice none 0 0, .int .i64 0], .bool false])) w' := by
  refine ⟨⟨none, 0, 0⟩, [], ?_, ?_, Own.nil, hb⟩
  · unfold evRD; rw [h]; rfl
  · unfold evRD; rw [h]
    exact ⟨[], rfl, GRow.nil, Nat.le_refl _, Nat.zero_le _⟩
theorem evReadI_some {c : ConfD} {s : List UInt8} {w w' : World} {e : EventD} (h : evR c s = some e) (eh : EventH) (f : List Nat) (hi : Event.Is w' e eh f) (ho : Own w.heap.size w' f) (hb : Below w.heap.size w w') : EvReadI c s w (.returned (.tuple #[.agg (Event.list e eh).toArray, .bool true])) w' := by
  refine ⟨eh, f, ?_, ?_, ho, hb⟩
  · unfold evRD; rw [h]; rfl
  · unfold evRD; rw [h]; exact hi

set_option maxRecDepth 100000 in
set_option maxHeartbeats 4000000 in
theorem impl_EventRead_any (c : ConfD) (ch : ConfigH) (cf : List Nat) (s : ByteArray) (w : World) (hc : Config.Is w c ch cf) (hs : s.size ≤ 2000000) (hE : Env w) :
    Calls Tryd.prog 31 #[.agg (Config.list c ch).toArray, .string s] w (EvReadI c s.data.toList w) := by
  have HC := Lib.hid hc
  have HE := Lib.hid hE
  have HO := Lib.hid (fun e eh ef w h1 h2 => impl_EventOk c ch cf e eh ef w h1 h2)
  have HK := Lib.hid (fun w h => impl_Conf c ch cf w h)
  have HN := Lib.hid (fun w h => eventNums s w hs h)
  clear hc hE
  simp only [Config.list] at *
  go_enter Tryd.func31, Tryd.ntmps31
  go_wp2_with fail
  refine calls_gen (fun W => Below w.heap.size w W ∧ Blk W w.heap.size 34 (Config.list c ch) ∧ Blk W (w.heap.size + 1) 46 [.int .i64 0, .slice none 0 0, .int .i64 0]) ⟨by repeat (first | exact Below.refl _ _ | refine Below.setCell ?_ (by first | omega | (simp; done) | (simp; omega)) _ | refine Below.alloc ?_ (by first | omega | (simp; done) | (simp; omega)) _ | apply Below.drew), by unfold Config.list; with_reducible (repeat (first | (refine blk_new_at _ _ _ _ ?_; first | rfl | (simp; done)) | refine Blk.alloc ?_ _ | apply Blk.drew | refine Blk.setOther ?_ (by first | (simp; done) | (simp; omega)) _)), by with_reducible (repeat (first | (refine blk_new_at _ _ _ _ ?_; first | rfl | (simp; done)) | refine Blk.alloc ?_ _ | apply Blk.drew | refine Blk.setOther ?_ (by first | (simp; done) | (simp; omega)) _))⟩ ?_
  rintro W1 ⟨b1, k1, m1⟩
  refine (HN.out W1 (HE.out.next b1)).mono ?_
  rintro e W2 ⟨a, n, cp, fp, rfl, hrow, hncp, hcpm, hfp, b2⟩
  have B2 := Lib.hid (b1.trans (b2.mono b1.size))
  have K2 := Lib.hid (k1.below b2 k1.lt)
  have M2 := Lib.hid (m1.below b2 m1.lt)
  have HFP := Lib.hid (show ∀ b ∈ fp, b ≠ w.heap.size + 1 from fun b hb e => by have := hfp b hb; have := m1.lt; omega)
  clear b1 k1 m1 b2 hfp
  have k0 := K2.out.cell 0
  have k1 := K2.out.cell 1
  have k2 := K2.out.cell 2
  have k3 := K2.out.cell 3
  have k4 := K2.out.cell 4
  have m0 := M2.out.cell 0
  have m1 := M2.out.cell 1
  have m2 := M2.out.cell 2
  have mf := M2.out.frozen
  simp [Config.list] at k0 k1 k2 k3 k4 m0 m1 m2
  cases hno : evNo ((words s.data.toList).take 7) with
  | none =>
    have HR := Lib.hid (evR_no_nums (c := c) hno)
    clear hno hrow
    simp only [Option.isSome_none]
    go_wp2_with fail
    refine body_gen (fun W => Below w.heap.size w W ∧ Blk W (w.heap.size + 1) 46 [.int .i64 0, .slice none 0 0, .int .i64 0]) ⟨?_, by (apply Blk.of_eq; (repeat (first | (with_reducible exact M2.out) | (with_reducible apply Blk.set) | ((with_reducible apply Blk.other); · first | (simp; done) | (simp; omega)) | (with_reducible apply Blk.drew))); rfl)⟩ ?_
    · repeat (first | (with_reducible exact B2.out) | refine Below.setCell ?_ (by simp) _)
    rintro W ⟨b, k⟩
    have c0 := k.cell 0
    have c1 := k.cell 1
    have c2 := k.cell 2
    simp at c0 c1 c2
    refine bodyPost_ret (v := .tuple #[.agg #[.int .i64 0, .slice none 0 0, .int .i64 0], .bool false]) (by simp [results, Tryd.results31, go_sem, c0, c1, c2]) rfl ?_
    exact evReadI_none HR.out b
  | some ns =>
  rw [hno] at hrow
  simp only [Option.getD_some] at hrow
  simp only [Option.isSome_some]
  have HNO := Lib.hid hno
  have HROW := Lib.hid hrow
  have HLN := Lib.hid hrow.1
  clear hno hrow
  go_wp2_with fail
  refine (HK.out W2 (HC.out.below B2.out)).mono ?_
  rintro e W3 ⟨rfl, b3⟩
  have B3 := Lib.hid (B2.out.trans (b3.mono B2.out.size))
  have K3 := Lib.hid (K2.out.below b3 K2.out.lt)
  have M3 := Lib.hid (M2.out.below b3 M2.out.lt)
  have R3 := Lib.hid (HROW.out.below local_int b3)
  clear b3 k0 k1 k2 k3 k4 m0 m1 m2 mf B2 K2 M2 HROW
  have k0 := K3.out.cell 0
  have m0 := M3.out.cell 0
  have m1 := M3.out.cell 1
  have m2 := M3.out.cell 2
  have mf := M3.out.frozen
  simp [Config.list] at k0 m0 m1 m2
  cases hcf : confD c with
  | false =>
    have HR := Lib.hid (evR_other (c := c) HNO.out (fun h => by rw [hcf] at h; cases h.1))
    clear hcf
    go_wp2_with fail
    refine body_gen (fun W => Below w.heap.size w W ∧ Blk W (w.heap.size + 1) 46 [.int .i64 0, .slice none 0 0, .int .i64 0]) ⟨?_, by (apply Blk.of_eq; (repeat (first | (with_reducible exact M3.out) | (with_reducible apply Blk.set) | ((with_reducible apply Blk.other); · first | (simp; done) | (simp; omega)) | (with_reducible apply Blk.drew))); rfl)⟩ ?_
    · repeat (first | (with_reducible exact B3.out) | refine Below.setCell ?_ (by simp) _)
    rintro W ⟨b, k⟩
    have c0 := k.cell 0
    have c1 := k.cell 1
    have c2 := k.cell 2
    simp at c0 c1 c2
    refine bodyPost_ret (v := .tuple #[.agg #[.int .i64 0, .slice none 0 0, .int .i64 0], .bool false]) (by simp [results, Tryd.results31, go_sem, c0, c1, c2]) rfl ?_
    exact evReadI_none HR.out b
  | true =>
  have hd := conf_dims_ hcf
  have hd0 := hd.1
  have hd3 := hd.2
  have HCF := Lib.hid hcf
  clear hcf hd
  by_cases hlen : (n : Int) = c.d + 2
  case neg =>
    have HR := Lib.hid (evR_other (c := c) HNO.out (fun h => hlen (by rw [← HLN.out]; exact h.2)))
    have hb1 : ((n : Int) == c.d + 2) = false := by simp; omega
    have hb2 : ((n : Int) != c.d + 2) = true := by simp [bne, hb1]
    go_wp2_with fail
    refine body_gen (fun W => Below w.heap.size w W ∧ Blk W (w.heap.size + 1) 46 [.int .i64 0, .slice none 0 0, .int .i64 0]) ⟨?_, by (apply Blk.of_eq; (repeat (first | (with_reducible exact M3.out) | (with_reducible apply Blk.set) | ((with_reducible apply Blk.other); · first | (simp; done) | (simp; omega)) | (with_reducible apply Blk.drew))); rfl)⟩ ?_
    · repeat (first | (with_reducible exact B3.out) | refine Below.setCell ?_ (by simp) _)
    rintro W ⟨b, k⟩
    have c0 := k.cell 0
    have c1 := k.cell 1
    have c2 := k.cell 2
    simp at c0 c1 c2
    refine bodyPost_ret (v := .tuple #[.agg #[.int .i64 0, .slice none 0 0, .int .i64 0], .bool false]) (by simp [results, Tryd.results31, go_sem, c0, c1, c2]) rfl ?_
    exact evReadI_none HR.out b
  have hb1 : ((n : Int) == c.d + 2) = true := by simp; omega
  have hb2 : ((n : Int) != c.d + 2) = false := by simp [bne, hb1]
  have HTX := Lib.hid (evNo_text HNO.out (by rw [HLN.out]; omega) (by rw [HLN.out]; omega))
  obtain ⟨q, hq⟩ : ∃ q, q + 1 = n := ⟨n - 1, by omega⟩
  obtain ⟨_, ⟨h0, _⟩ | ⟨b, off, F, rfl, hb, _, hF, hel⟩⟩ := R3.out
  · omega
  have hcells : ∀ (j : Nat) x, ns[j]? = some x → W3.cell? ⟨b, off + j, none⟩ = some (.int .i64 x) := by
    intro j x hx
    have hj : j < ns.length := (List.getElem?_eq_some_iff.1 hx).1
    obtain ⟨cs, _, ⟨rfl, _⟩, h4⟩ := hel j x F[j]! hx (by rw [getElem!_pos F j (by rw [hF, ← HLN.out]; exact hj)]; exact List.getElem?_eq_getElem _)
    have := h4 0 (by omega)
    simpa using this
  have HCL := Lib.hid hcells
  obtain ⟨x0, hx0⟩ : ∃ x, ns.getD 0 0 = x := ⟨_, rfl⟩
  obtain ⟨x1, hx1⟩ : ∃ x, ns.getD (ns.length - 1) 0 = x := ⟨_, rfl⟩
  have hlast : ns.length - 1 = q := by rw [HLN.out]; omega
  have g0 : W3.cell? ⟨b, off, none⟩ = some (.int .i64 x0) := by
    have := hcells 0 x0 (by rw [← hx0, List.getD_eq_getElem?_getD, List.getElem?_eq_getElem (by rw [HLN.out]; omega)]; rfl)
    simpa using this
  have g1 : W3.cell? ⟨b, off + q, none⟩ = some (.int .i64 x1) := hcells q x1 (by rw [← hx1, hlast, List.getD_eq_getElem?_getD, List.getElem?_eq_getElem (by rw [HLN.out]; omega)]; rfl)
  have HX0 := Lib.hid hx0
  have HX1 := Lib.hid hx1
  have HQ := Lib.hid hq
  have q1 : (n : Int) - 1 = (q : Int) := by omega
  have qw : IntKind.i64.wrap (q : Int) = (q : Int) := by rw [IntKind.wrap_i64]; omega
  have q2 : (0 : Int) < (n : Int) := by omega
  have q2n : 0 < n := by omega
  have q2z : ¬ n = 0 := by omega
  have q3 : (q : Int) < (n : Int) := by omega
  have q3n : q < n := by omega
  have q4 : (0 : Int) ≤ (q : Int) := by omega
  have q5 : (1 : Int) ≤ (q : Int) := by omega
  have q5n : 1 ≤ q := by omega
  have q5p : 0 < q := by omega
  have q6 : (q : Int) ≤ (cp : Int) := by omega
  have q6n : q ≤ cp := by omega
  have hcp1 : ¬ cp - 1 = 0 := by omega
  have hcp2 : 1 < cp := by omega
  have hcp3 : ¬ cp = 1 := by omega
  obtain ⟨D, hD⟩ : ∃ D, (ns.drop 1).take (ns.length - 2) = D := ⟨_, rfl⟩
  have hDl : D.length = q - 1 := by rw [← hD, List.length_take, List.length_drop, HLN.out]; omega
  have hDc : ∀ (j : Nat) x, D[j]? = some x → W3.cell? ⟨b, off + 1 + j, none⟩ = some (.int .i64 x) := by
    intro j x hx
    rw [← hD, List.getElem?_take] at hx
    split at hx
    · rw [List.getElem?_drop] at hx
      have := hcells (1 + j) x hx
      rwa [← Nat.add_assoc] at this
    · cases hx
  have hev : numsEv ns = ⟨x0, D, x1⟩ := by unfold numsEv; rw [hx0, hx1, hD]
  have HEV := Lib.hid hev
  have HDC := Lib.hid hDc
  have HB := Lib.hid hb
  have hneq : W3.heap.size ≠ b := by omega
  have hq1 : q - 1 ≤ 100000 := by omega
  have HDL := Lib.hid hDl
  have HLEN := Lib.hid hlen
  clear hx0 hx1 hcells hel hF hlast hq hD hDc hev hb hlen hDl
  go_wp2_with fail
  clear hb1 hb2
  go_cut [9] (fun v wx => ∃ (bx : Nat) (eh : EventH) (f : List Nat), v = .pointer (some ⟨bx, 0, none⟩) ∧ Blk wx bx 46 (Event.list ⟨x0, D, x1⟩ eh) ∧ Event.Is wx ⟨x0, D, x1⟩ eh f ∧ Own W3.heap.size wx f ∧ Below W3.heap.size W3 wx)
  case first =>
    go_region_held3 (fun w' => w'.cell? ⟨b, off, none⟩ = some (.int .i64 x0) ∧ w'.cell? ⟨b, off + q, none⟩ = some (.int .i64 x1))
      ((first | exact ⟨s0, s1⟩ | go_keep))
      (first | (go_at_call 39; refine (cloneInts2 b (off + 1) (q - 1) (cp - 1) D _ HDL.out hq1 (fun j x hx => by have h1 := HDC.out j x hx; have h2 := HB.out; simp [go_sem, h1, h2]) off (off + q) (.int .i64 x0) (.int .i64 x1) (by have h2 := HB.out; simp [go_sem, g0, h2]) (by have h2 := HB.out; simp [go_sem, g1, h2])).mono ?_; rintro e wz ⟨az, cz, fz, rfl, rz, z1, z2, oz, hbC, s0, s1⟩; have hne2 : wz.heap.size ≠ b := Nat.ne_of_gt (World.block_lt_of_cell? _ _ s0); have hBC := Lib.hid hbC; obtain ⟨kz, fzz⟩ := bcell_ hbC; clear hbC))
    all_goals (go_wp2_with fail; go_meet)
    all_goals first
      | exact ⟨wz.heap.size, ⟨az, q - 1, cz⟩, fz, rfl, made_after wz _ _ _ _ rfl, ev_is (rz.below local_int ((Below.refl _ _).alloc (Nat.le_refl _) _)) z1 z2, (oz.below ((Below.refl _ _).alloc (Nat.le_refl _) _)).mono (Nat.le_refl _), ((Below.refl _ _).drew.trans hBC.out).alloc hBC.out.size _⟩
      | exact made_before W3 wz az cz fz rz z1 z2 oz hBC.out
  case rest =>
    obtain ⟨bx, eh, f, rfl, hbx, hIs, hOw, hbw⟩ := hcut
    generalize wc = W4 at *
    have B4 := Lib.hid (B3.out.trans (hbw.mono B3.out.size))
    have K4 := Lib.hid (K3.out.below hbw K3.out.lt)
    have M4 := Lib.hid (M3.out.below hbw M3.out.lt)
    have X4 := Lib.hid hbx
    have I4 := Lib.hid hIs
    have O4 := Lib.hid hOw
    have hlt4 : w.heap.size + 1 < W3.heap.size := M3.out.lt
    obtain ⟨ev, hev⟩ : ∃ ev : EventD, ⟨x0, D, x1⟩ = ev := ⟨_, rfl⟩
    rw [hev] at X4 I4 HEV
    clear hev hbx hIs hOw hbw B3 K3 M3 R3 m0 m1 m2 mf k0 g0 g1 hneq HB HDC HDL HX0 HX1 HQ q1 qw q2 q2n q2z q3 q3n q4 q5 q5n q5p q6 q6n hcp1 hcp2 hcp3
    have k0 := K4.out.cell 0
    have k1 := K4.out.cell 1
    have k2 := K4.out.cell 2
    have k3 := K4.out.cell 3
    have k4 := K4.out.cell 4
    have e0 := X4.out.cell 0
    have e1 := X4.out.cell 1
    have e2 := X4.out.cell 2
    simp [Config.list, Event.list] at k0 k1 k2 k3 k4 e0 e1 e2
    go_wp2_with fail
    have hval : (Value.agg #[.int .i64 ev.t, .slice eh.dsa eh.dsl eh.dsc, .int .i64 ev.v]) = .agg (Event.list ev eh).toArray := rfl
    rw [hval]
    refine (HO.out ev eh f W4 (HC.out.below B4.out) I4.out).mono ?_
    rintro e W5 ⟨rfl, b5⟩
    have B5 := Lib.hid (B4.out.trans (b5.mono B4.out.size))
    have M5 := Lib.hid (M4.out.below b5 M4.out.lt)
    have X5 := Lib.hid (X4.out.below b5 X4.out.lt)
    have I5 := Lib.hid (I4.out.below b5)
    have O5 := Lib.hid (O4.out.below b5)
    clear b5 k0 k1 k2 k3 k4 e0 e1 e2 hval B4 K4 M4 X4 I4 O4
    have m0 := M5.out.cell 0
    have m1 := M5.out.cell 1
    have m2 := M5.out.cell 2
    have mf := M5.out.frozen
    have e0 := X5.out.cell 0
    have e1 := X5.out.cell 1
    have e2 := X5.out.cell 2
    simp [Event.list] at m0 m1 m2 e0 e1 e2
    simp only [Event.list]
    cases hp : eventB c ev with
    | false =>
      have HR := Lib.hid (show evR c s.data.toList = none from evR_none fun e h1 h2 => by
        rw [HTX.out, HEV.out] at h2
        rw [evText_inj h2, hp] at h1; cases h1)
      clear hp
      go_wp2_with fail
      refine body_gen (fun W => Below w.heap.size w W ∧ Blk W (w.heap.size + 1) 46 [.int .i64 0, .slice none 0 0, .int .i64 0]) ⟨?_, by (apply Blk.of_eq; (repeat (first | (with_reducible exact M5.out) | (with_reducible apply Blk.set) | ((with_reducible apply Blk.other); · first | (simp; done) | (simp; omega)) | (with_reducible apply Blk.drew))); rfl)⟩ ?_
      · repeat (first | (with_reducible exact B5.out) | refine Below.setCell ?_ (by simp) _)
      rintro W ⟨b, k⟩
      have c0 := k.cell 0
      have c1 := k.cell 1
      have c2 := k.cell 2
      simp at c0 c1 c2
      refine bodyPost_ret (v := .tuple #[.agg #[.int .i64 0, .slice none 0 0, .int .i64 0], .bool false]) (by simp [results, Tryd.results31, go_sem, c0, c1, c2]) rfl ?_
      exact evReadI_none HR.out b
    | true =>
      have HR := Lib.hid (show evR c s.data.toList = some ev from evR_some hp (by rw [HTX.out, HEV.out]))
      clear hp
      go_wp2_with fail
      refine body_gen (fun W => Below w.heap.size w W ∧ Blk W (w.heap.size + 1) 46 (Event.list ev eh) ∧ Event.Is W ev eh f ∧ Own W3.heap.size W f) ⟨?_, by (apply Blk.of_eq; (repeat (first | (with_reducible exact M5.out) | (with_reducible apply Blk.set) | ((with_reducible apply Blk.other); · first | (simp; done) | (simp; omega)) | (with_reducible apply Blk.drew))); rfl), ?_, ?_⟩ ?_
      · repeat (first | (with_reducible exact B5.out) | refine Below.setCell ?_ (by simp) _)
      · refine I5.out.keep (fun b hb => ?_)
        have := (O5.out.2 b hb).1
        repeat rw [Below.heap_setCell _ _ _ b (by simp; omega)]
      · with_reducible (repeat (first | exact O5.out | refine Own.set ?_ _ _ _))
      rintro W ⟨b, k, hi, ho⟩
      have c0 := k.cell 0
      have c1 := k.cell 1
      have c2 := k.cell 2
      simp [Event.list] at c0 c1 c2
      refine bodyPost_ret (v := .tuple #[.agg (Event.list ev eh).toArray, .bool true]) (by simp [results, Tryd.results31, go_sem, c0, c1, c2, Event.list]) rfl ?_
      exact evReadI_some HR.out _ _ hi (ho.mono (by omega)) b
end Go.Proofs.YtdipkbgfkbmfnaaDoor.dat
