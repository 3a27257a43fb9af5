/-
  THE CONTRACT OF EventRead of the model: the event whose text it is, or none; nothing that was there is written.
  Condition: the text has a length that a text can have.
-/
import Derived.Test.YtdipkbgfkbmfnaaDoorEvMath
import Derived.Test.YtdipkbgfkbmfnaaDoorSpecNums
import Derived.RegionTactic
namespace Go.Proofs.YtdipkbgfkbmfnaaDoor.dat
open Go.RowKit Go.Proofs.YtdipkbgfkbmfnaaDoor.win
open Go.Proofs.YtdipkbgfkbmfnaaDoor.num (words words_le words_word words_blank words_length strs str extract_str l01Words_any l01Nums_any cells_of_owns)

/-- What is read, or the zero event. -/
noncomputable def evRD (c : ConfD) (s : List UInt8) : EventD := (evR c s).getD ⟨0, [], 0⟩
/-- What EventRead answers, of whoever's memory. -/
def EvRead (c : ConfD) (s : List UInt8) (w : World) (r : Ending) (w' : World) : Prop :=
  ∃ (h : EventH) (f : List Nat), r = .returned (.tuple #[.agg (Event.list (evRD c s) h).toArray, .bool (evR c s).isSome]) ∧ Event.Is w' (evRD c s) h f ∧ Below w.heap.size w w'
theorem evRead_none {c : ConfD} {s : List UInt8} {w w' : World} (h : evR c s = none) (hb : Below w.heap.size w w') : EvRead c s w (.returned (.tuple #[.agg #[.int .i64 0, .slice none 0 0, .int .i64 0], .bool false])) w' := by
  refine ⟨⟨none, 0, 0⟩, [], ?_, ?_, hb⟩
  · unfold evRD; rw [h]; rfl
  · unfold evRD; rw [h]
    exact ⟨[], rfl, GRow.nil, Nat.le_refl _, Nat.zero_le _⟩

theorem ev_head (e : EventD) : ∃ r, evText e = 101 :: 32 :: r ∧ words r = evWords e := by
  have h := words_ev e
  have e1 : evText e = 101 :: 32 :: (Lib.itoa e.t ++ Lib.joinTail [32] (e.ds.map Lib.itoa ++ [Lib.itoa e.v])) := by
    unfold evText evWords
    simp [Lib.joinTail]
  refine ⟨_, e1, ?_⟩
  rw [e1, show (101 : UInt8) :: 32 :: (Lib.itoa e.t ++ Lib.joinTail [32] (e.ds.map Lib.itoa ++ [Lib.itoa e.v])) = [101] ++ 32 :: (Lib.itoa e.t ++ Lib.joinTail [32] (e.ds.map Lib.itoa ++ [Lib.itoa e.v])) from rfl, words_word (by decide)] at h
  exact (List.cons.inj h).2
theorem drop_two {s : List UInt8} {r : List UInt8} (h : s = 101 :: 32 :: r) : words s = [101] :: words r := by
  rw [h, show (101 : UInt8) :: 32 :: r = [101] ++ 32 :: r from rfl, words_word (by decide)]
/-- The numbers of a row as an event. -/
def numsEv (xs : List Int) : EventD := ⟨xs.getD 0 0, (xs.drop 1).take (xs.length - 2), xs.getD (xs.length - 1) 0⟩
theorem numsEv_nums {xs : List Int} (h : 2 ≤ xs.length) : evNums (numsEv xs) = xs := by
  match xs, h with
  | x :: y :: r, _ =>
    simp only [evNums, numsEv, List.getD_cons_zero, List.drop_succ_cons, List.drop_zero, List.length_cons]
    have h1 : r.length + 1 + 1 - 2 = r.length := by omega
    have h2 : r.length + 1 + 1 - 1 = r.length + 1 := by omega
    rw [h1, h2, List.getD_cons_succ]
    congr 1
    have h3 : r.length < (y :: r).length := by simp
    rw [List.getD_eq_getElem?_getD, List.getElem?_eq_getElem h3]
    have := List.take_append_getElem h3
    simp only [Option.getD_some]
    rw [this, List.take_of_length_le (by simp)]
theorem evNums_len (e : EventD) : (evNums e).length = e.ds.length + 2 := by simp [evNums]

/-- What follows for s = "e " and r: which numbers r holds decides. -/
theorem evR_nums {s r : List UInt8} {xs : List Int} (hs : s = 101 :: 32 :: r) (hx : xs.map Lib.itoa = words r) (h2 : 2 ≤ xs.length) : (∀ e, evText e = s → e = numsEv xs) ∧ evText (numsEv xs) = s := by
  have h1 : s = evText (numsEv xs) := ev_of_nums (by rw [drop_two hs, hx]) (numsEv_nums h2).symm
  exact ⟨fun e he => evText_inj (he.trans h1), h1.symm⟩
theorem evR_short {c : ConfD} {s r : List UInt8} {xs : List Int} (hs : s = 101 :: 32 :: r) (hx : xs.map Lib.itoa = words r) (h2 : xs.length < 2) : evR c s = none := by
  refine evR_none fun e _ he => ?_
  obtain ⟨r', h1, h3⟩ := ev_head e
  rw [he, hs] at h1
  cases h1
  rw [← hx, evWords_nums] at h3
  have := map_itoa_inj h3
  rw [this, evNums_len] at h2
  omega
theorem evR_bad {c : ConfD} {s r : List UInt8} (hs : s = 101 :: 32 :: r) (h : ¬ ∀ x ∈ words r, x.length ≤ 11 ∧ ∃ y, Lib.itoa y = x) : evR c s = none := by
  refine evR_none fun e h1 he => h ?_
  obtain ⟨r', h2, h3⟩ := ev_head e
  rw [he, hs] at h2
  cases h2
  rw [h3]
  intro x hx
  refine ⟨by have := ev_words_len h1 x hx; omega, ?_⟩
  rw [evWords_nums] at hx
  obtain ⟨n, _, rfl⟩ := List.mem_map.1 hx
  exact ⟨n, rfl⟩

/-- A row of numbers, out of its cells. -/
theorem row_plain {w : World} {b off len : Nat} {l : List Int} (hl : l.length = len) (hb : b < w.heap.size) (hc : ∀ (i : Nat) x, l[i]? = some x → w.cell? ⟨b, off + i, none⟩ = some (.int .i64 x)) : ∃ fp, (∀ c ∈ fp, c = b) ∧ GRow 1 RInt w (some ⟨b, off, none⟩) len l fp := by
  refine ⟨b :: (List.replicate len ([] : List Nat)).flatten, by simp, hl, .inr ⟨b, off, List.replicate len [], rfl, hb, rfl, by simp, fun i x f hx hf => ?_⟩⟩
  obtain rfl : f = [] := (List.mem_replicate.1 (List.mem_of_getElem? hf)).2
  refine ⟨[.int .i64 x], rfl, ⟨rfl, rfl⟩, fun j hj => ?_⟩
  obtain rfl : j = 0 := by omega
  have := hc i x hx
  simpa using this
theorem evRead_some {c : ConfD} {s : List UInt8} {w w' : World} {e : EventD} (h : evR c s = some e) (eh : EventH) (f : List Nat) (hi : Event.Is w' e eh f) (hb : Below w.heap.size w w') : EvRead c s w (.returned (.tuple #[.agg (Event.list e eh).toArray, .bool true])) w' := by
  refine ⟨eh, f, ?_, ?_, hb⟩
  · unfold evRD; rw [h]; rfl
  · unfold evRD; rw [h]; exact hi

set_option maxRecDepth 100000 in
set_option maxHeartbeats 4000000 in
theorem spec_EventRead_any (c : ConfD) (ch : ConfigH) (cf : List Nat) (s : ByteArray) (w : World) (hc : Config.Is w c ch cf) (hs : s.size ≤ 9223372036854775807) :
    Calls Tryd.prog 16 #[.agg (Config.list c ch).toArray, .string s] w (EvRead c s.data.toList w) := by
  have HC := Lib.hid hc
  have HO := Lib.hid (fun e eh ef w h1 h2 => spec_EventOk c ch cf e eh ef w h1 h2)
  have HS := Lib.hid (show s.data.toList.length = s.size from rfl)
  clear hc
  simp only [Config.list] at *
  by_cases h60 : (s.size : Int) ≤ 60
  case neg =>
    have HN := Lib.hid (show evR c s.data.toList = none from evR_none fun e h1 h2 => by have := ev_len60 h1; rw [h2, HS.out] at this; omega)
    go_enter Tryd.func16, Tryd.ntmps16
    go_wp2_with fail
    refine bodyPost_ret (v := .tuple #[.agg #[.int .i64 0, .slice none 0 0, .int .i64 0], .bool false]) (by simp [results, Tryd.results16, go_sem]) rfl ?_
    exact evRead_none HN.out (by repeat (first | exact Below.refl _ _ | refine Below.setCell ?_ (by first | omega | (simp; done) | (simp; omega)) _ | refine Below.alloc ?_ (by first | omega | (simp; done) | (simp; omega)) _ | apply Below.drew))
  by_cases h2 : (s.size : Int) < 2
  case pos =>
    have HN := Lib.hid (show evR c s.data.toList = none from evR_none fun e h1 h3 => by
      obtain ⟨r, e1, _⟩ := ev_head e
      have := congrArg List.length (h3.symm.trans e1)
      rw [HS.out] at this
      simp at this
      omega)
    go_enter Tryd.func16, Tryd.ntmps16
    go_wp2_with fail
    refine bodyPost_ret (v := .tuple #[.agg #[.int .i64 0, .slice none 0 0, .int .i64 0], .bool false]) (by simp [results, Tryd.results16, go_sem]) rfl ?_
    exact evRead_none HN.out (by repeat (first | exact Below.refl _ _ | refine Below.setCell ?_ (by first | omega | (simp; done) | (simp; omega)) _ | refine Below.alloc ?_ (by first | omega | (simp; done) | (simp; omega)) _ | apply Below.drew))
  have h2' : (2 : Int) ≤ (s.size : Int) := by omega
  have h2n : 2 ≤ s.size := by omega
  have hx2 : s.extract 0 2 = str (s.data.toList.take 2) := by rw [extract_str]; simp
  by_cases hp : s.data.toList.take 2 = [101, 32]
  case neg =>
    have hne : ((s.extract 0 2).toList == [101, 32]) = false := by
      rw [hx2, ByteArray.toList_eq, beq_eq_false_iff_ne]
      simpa [str] using hp
    have HN := Lib.hid (show evR c s.data.toList = none from evR_none fun e h1 h3 => by
      obtain ⟨r, e1, _⟩ := ev_head e
      apply hp
      rw [← h3, e1]
      rfl)
    clear hx2 hp
    go_enter Tryd.func16, Tryd.ntmps16
    go_wp2_with fail
    refine bodyPost_ret (v := .tuple #[.agg #[.int .i64 0, .slice none 0 0, .int .i64 0], .bool false]) (by simp [results, Tryd.results16, go_sem]) rfl ?_
    exact evRead_none HN.out (by repeat (first | exact Below.refl _ _ | refine Below.setCell ?_ (by first | omega | (simp; done) | (simp; omega)) _ | refine Below.alloc ?_ (by first | omega | (simp; done) | (simp; omega)) _ | apply Below.drew))
  have hne : ((s.extract 0 2).toList == [101, 32]) = true := by
    rw [hx2, hp, ByteArray.toList_eq]
    simp [str]
  have hsr : s.data.toList = 101 :: 32 :: s.data.toList.drop 2 := by
    conv => lhs; rw [← List.take_append_drop 2 s.data.toList, hp]
    rfl
  obtain ⟨u, hu⟩ : ∃ u, s.extract 2 s.size = u := ⟨_, rfl⟩
  have hul : u.data.toList = s.data.toList.drop 2 := by
    rw [← hu, extract_str, List.take_of_length_le (by rw [List.length_drop, HS.out]; omega)]
    simp [str]
  have hus : u.size ≤ 60 := by
    have : u.data.toList.length = u.size := rfl
    rw [← this, hul, List.length_drop, HS.out]
    omega
  rw [← hul] at hsr
  have HSR := Lib.hid hsr
  clear hx2 hp hsr hul
  go_enter Tryd.func16, Tryd.ntmps16
  go_wp2_with fail
  refine calls_gen (fun W => Below w.heap.size w W ∧ Blk W w.heap.size 34 (Config.list c ch) ∧ Blk W (w.heap.size + 1) 46 [.int .i64 0, .slice none 0 0, .int .i64 0]) ⟨by repeat (first | exact Below.refl _ _ | refine Below.setCell ?_ (by first | omega | (simp; done) | (simp; omega)) _ | refine Below.alloc ?_ (by first | omega | (simp; done) | (simp; omega)) _ | apply Below.drew), by unfold Config.list; with_reducible (repeat (first | (refine blk_new_at _ _ _ _ ?_; first | rfl | (simp; done)) | refine Blk.alloc ?_ _ | apply Blk.drew | refine Blk.setOther ?_ (by first | (simp; done) | (simp; omega)) _)), by with_reducible (repeat (first | (refine blk_new_at _ _ _ _ ?_; first | rfl | (simp; done)) | refine Blk.alloc ?_ _ | apply Blk.drew | refine Blk.setOther ?_ (by first | (simp; done) | (simp; omega)) _))⟩ ?_
  rintro W1 ⟨b1, k1, m1⟩
  refine (l01Words_any u W1 hus).mono ?_
  rintro e W2 ⟨v, rfl, own2, nn2, b2⟩
  obtain ⟨bk, cp, rfl, ⟨hbk, hcl⟩, hge⟩ := cells_of_owns own2 nn2
  have B2 := Lib.hid (b1.trans (b2.mono b1.size))
  have K2 := Lib.hid (k1.below b2 k1.lt)
  have M2 := Lib.hid (m1.below b2 m1.lt)
  have HCL := Lib.hid (And.intro hbk hcl)
  clear b1 k1 m1 b2 own2 nn2 hge hbk hcl
  go_wp2_with fail
  refine (l01Nums_any bk cp (words u.data.toList) W2 HCL.out.1 HCL.out.2 ?_ ?_).mono ?_
  · have := words_length u.data.toList
    have h : u.data.toList.length = u.size := rfl
    omega
  · intro x hx
    have := words_le u.data.toList x hx
    have h : u.data.toList.length = u.size := rfl
    omega
  rintro e W3 ⟨bn, cn, xs, t, rfl, hcell, ht1, ht2, b3, hc1, hc2, hge⟩
  have HGE := Lib.hid (show w.heap.size + 1 ≠ bn by have := M2.out.lt; omega)
  clear hge
  have B3 := Lib.hid (B2.out.trans (b3.mono B2.out.size))
  have K3 := Lib.hid (K2.out.below b3 K2.out.lt)
  have M3 := Lib.hid (M2.out.below b3 M2.out.lt)
  have HN := Lib.hid hcell
  have HT1 := Lib.hid ht1
  have HT2 := Lib.hid ht2
  clear b3 hcell ht1 ht2 HCL B2 K2 M2
  have m0 := M3.out.cell 0
  have m1 := M3.out.cell 1
  have m2 := M3.out.cell 2
  have mf := M3.out.frozen
  simp at m0 m1 m2
  obtain ⟨n, hn⟩ : ∃ n, xs.length = n := ⟨_, rfl⟩
  have HXL := Lib.hid hn
  rw [hn] at hc1 ⊢
  clear hn
  cases t with
  | false =>
    have HE := Lib.hid (show evR c s.data.toList = none from evR_bad HSR.out (fun h => by have := HT2.out h; cases this))
    go_wp2_with fail
    refine body_gen (fun W => Below w.heap.size w W ∧ Blk W (w.heap.size + 1) 46 [.int .i64 0, .slice none 0 0, .int .i64 0]) ⟨?_, by (apply Blk.of_eq; (repeat (first | (with_reducible exact M3.out) | (with_reducible apply Blk.set) | ((with_reducible apply Blk.other); · first | (simp; done) | (simp; omega)) | (with_reducible apply Blk.drew))); rfl)⟩ ?_
    · repeat (first | (with_reducible exact B3.out) | refine Below.setCell ?_ (by simp) _)
    rintro W ⟨b, k⟩
    have c0 := k.cell 0
    have c1 := k.cell 1
    have c2 := k.cell 2
    simp at c0 c1 c2
    refine bodyPost_ret (v := .tuple #[.agg #[.int .i64 0, .slice none 0 0, .int .i64 0], .bool false]) (by simp [results, Tryd.results16, go_sem, c0, c1, c2]) rfl ?_
    exact evRead_none HE.out b
  | true =>
  have HX := Lib.hid (HT1.out rfl)
  clear HT1 HT2
  by_cases hn2 : (n : Int) < 2
  case pos =>
    have HE := Lib.hid (show evR c s.data.toList = none from evR_short HSR.out HX.out (by rw [HXL.out]; omega))
    go_wp2_with fail
    refine body_gen (fun W => Below w.heap.size w W ∧ Blk W (w.heap.size + 1) 46 [.int .i64 0, .slice none 0 0, .int .i64 0]) ⟨?_, by (apply Blk.of_eq; (repeat (first | (with_reducible exact M3.out) | (with_reducible apply Blk.set) | ((with_reducible apply Blk.other); · first | (simp; done) | (simp; omega)) | (with_reducible apply Blk.drew))); rfl)⟩ ?_
    · repeat (first | (with_reducible exact B3.out) | refine Below.setCell ?_ (by simp) _)
    rintro W ⟨b, k⟩
    have c0 := k.cell 0
    have c1 := k.cell 1
    have c2 := k.cell 2
    simp at c0 c1 c2
    refine bodyPost_ret (v := .tuple #[.agg #[.int .i64 0, .slice none 0 0, .int .i64 0], .bool false]) (by simp [results, Tryd.results16, go_sem, c0, c1, c2]) rfl ?_
    exact evRead_none HE.out b
  have hnn : 2 ≤ n := by omega
  obtain ⟨q, hq⟩ : ∃ q, q + 1 = n := ⟨n - 1, by omega⟩
  have hEN := evR_nums HSR.out HX.out (by rw [HXL.out]; omega)
  have HEN := Lib.hid hEN
  have g0 : W3.cell? ⟨bn, 0, none⟩ = some (.int .i64 (xs.getD 0 0)) := HN.out.2 0 _ (by rw [num.ints, List.getElem?_map, List.getElem?_eq_getElem (by rw [HXL.out]; omega), List.getD_eq_getElem?_getD, List.getElem?_eq_getElem (by rw [HXL.out]; omega)]; rfl)
  have hlast : xs.length - 1 = q := by rw [HXL.out]; omega
  have g1 : W3.cell? ⟨bn, q, none⟩ = some (.int .i64 (xs.getD (xs.length - 1) 0)) := HN.out.2 q _ (by rw [hlast, num.ints, List.getElem?_map, List.getD_eq_getElem?_getD, List.getElem?_eq_getElem (by rw [HXL.out]; omega)]; rfl)
  obtain ⟨x0, hx0⟩ : ∃ x, xs.getD 0 0 = x := ⟨_, rfl⟩
  obtain ⟨x1, hx1⟩ : ∃ x, xs.getD (xs.length - 1) 0 = x := ⟨_, rfl⟩
  rw [hx0] at g0
  rw [hx1] at g1
  have HX0 := Lib.hid hx0
  have HX1 := Lib.hid hx1
  have HQ := Lib.hid hq
  have q1 : (n : Int) - 1 = (q : Int) := by omega
  have q2 : (0 : Int) < (n : Int) := by omega
  have q2n : 0 < n := by omega
  have q2z : ¬ n = 0 := by omega
  have q3 : (q : Int) < (n : Int) := by omega
  have q4 : (0 : Int) ≤ (q : Int) := by omega
  have q5 : (1 : Int) ≤ (q : Int) := by omega
  have q6 : (q : Int) ≤ (cn : Int) := by omega
  have qw : IntKind.i64.wrap (q : Int) = (q : Int) := by rw [IntKind.wrap_i64]; omega
  have q5n : 1 ≤ q := by omega
  have q5p : 0 < q := by omega
  have q6n : q ≤ cn := by omega
  have q3n : q < n := by omega
  clear hq
  clear hEN hn2 hnn hx0 hx1 hlast
  go_wp2_with fail
  have hneq : W3.heap.size ≠ bn := by have := HN.out.1; omega
  have hne1 : W3.heap.size ≠ w.heap.size := by have := K3.out.lt; omega
  have kl := K3.out.lt
  have k0 := K3.out.cell 0
  have k1 := K3.out.cell 1
  have k2 := K3.out.cell 2
  have k3 := K3.out.cell 3
  have k4 := K3.out.cell 4
  simp [Config.list] at k0 k1 k2 k3 k4
  go_region_held3 (fun w' => w'.cell? ⟨bn, 0, none⟩ = some (.int .i64 x0) ∧ w'.cell? ⟨bn, q, none⟩ = some (.int .i64 x1)) (go_keep) (fail)
  go_wp2_with fail
  clear k0 k1 k2 k3 k4 m0 m1 m2 mf g0 g1
  refine calls_gen (fun W => Below W3.heap.size W3 W ∧ Blk W W3.heap.size 46 (Event.list (numsEv xs) ⟨some ⟨bn, 1, none⟩, q - 1, cn - 1⟩)) ⟨?_, ?_⟩ ?_
  · repeat (first | exact Below.refl _ _ | refine Below.setCell ?_ (by first | omega | (simp; done) | (simp; omega)) _ | refine Below.alloc ?_ (by first | omega | (simp; done) | (simp; omega)) _ | apply Below.drew)
  · unfold Event.list numsEv
    rw [HX0.out, HX1.out]
    with_reducible (repeat (first | (refine blk_new_at _ _ _ _ ?_; first | rfl | (simp; done)) | refine Blk.alloc ?_ _ | apply Blk.drew | refine Blk.setOther ?_ (by first | (simp; done) | (simp; omega)) _))
  rintro W4 ⟨b4, m4⟩
  obtain ⟨fp, hfp, hrow⟩ : ∃ fp, (∀ c ∈ fp, c = bn) ∧ GRow 1 RInt W4 (some ⟨bn, 1, none⟩) (q - 1) (numsEv xs).ds fp := by
    refine row_plain ?_ (Nat.lt_of_lt_of_le HN.out.1 b4.size) ?_
    · simp only [numsEv, List.length_take, List.length_drop]
      have := HXL.out
      have := HQ.out
      omega
    · intro i x hx
      rw [b4.cell (p := ⟨bn, 1 + i, none⟩) HN.out.1]
      refine HN.out.2 (1 + i) _ ?_
      simp only [numsEv] at hx
      rw [List.getElem?_take] at hx
      split at hx
      · rw [List.getElem?_drop] at hx
        rw [num.ints, List.getElem?_map, hx]
        rfl
      · cases hx
  have hIs : Event.Is W4 (numsEv xs) ⟨some ⟨bn, 1, none⟩, q - 1, cn - 1⟩ fp := ⟨fp, rfl, hrow, by simp only; omega, by simp only; omega⟩
  have B4 := Lib.hid (B3.out.trans (b4.mono B3.out.size))
  have HFP := Lib.hid (show ∀ b ∈ fp, b ≠ w.heap.size + 1 from fun b hb e => HGE.out (by rw [← e]; exact hfp b hb))
  clear hfp
  have hval : (Value.agg #[.int .i64 x0, .slice (some ⟨bn, 1, none⟩) (q - 1) (cn - 1), .int .i64 x1]) = .agg (Event.list (numsEv xs) ⟨some ⟨bn, 1, none⟩, q - 1, cn - 1⟩).toArray := by
    unfold Event.list numsEv
    rw [HX0.out, HX1.out]
  have hEN := HEN.out
  obtain ⟨ev, hev⟩ : ∃ ev, numsEv xs = ev := ⟨_, rfl⟩
  obtain ⟨eh, heh⟩ : ∃ eh : EventH, ⟨some ⟨bn, 1, none⟩, q - 1, cn - 1⟩ = eh := ⟨_, rfl⟩
  rw [hev] at hIs m4 hval hEN
  rw [heh] at hIs m4 hval
  have HEV := Lib.hid hEN
  rw [hval]
  clear hval hEN hev heh hrow HEN HX0 HX1 HX HXL HQ q1 q2 q2n q2z q3 q4 q5 q6 qw q5n q5p q6n q3n
  refine (HO.out ev eh fp W4 (HC.out.below B4.out) hIs).mono ?_
  rintro e W5 ⟨rfl, b5⟩
  have B5 := Lib.hid (B4.out.trans (b5.mono B4.out.size))
  have M5 := Lib.hid (M3.out.below (b4.trans (b5.mono b4.size)) M3.out.lt)
  have E5 := Lib.hid (m4.below b5 m4.lt)
  have I5 := Lib.hid (hIs.below b5)
  have hlt5 : w.heap.size + 1 < W3.heap.size := M3.out.lt
  clear b4 m4 hIs b5 B3 K3 M3 HN B4 kl hneq hne1
  have m0 := M5.out.cell 0
  have m1 := M5.out.cell 1
  have m2 := M5.out.cell 2
  have mf := M5.out.frozen
  simp at m0 m1 m2
  simp only [Event.list]
  cases hp : eventB c ev with
  | false =>
    have HE := Lib.hid (show evR c s.data.toList = none from evR_none fun e h1 h2 => by rw [HEV.out.1 e h2, hp] at h1; cases h1)
    clear hp
    go_wp2_with fail
    refine body_gen (fun W => Below w.heap.size w W ∧ Blk W (w.heap.size + 1) 46 [.int .i64 0, .slice none 0 0, .int .i64 0]) ⟨?_, by (apply Blk.of_eq; (repeat (first | (with_reducible exact M5.out) | (with_reducible apply Blk.set) | ((with_reducible apply Blk.other); · first | (simp; done) | (simp; omega)) | (with_reducible apply Blk.drew))); rfl)⟩ ?_
    · repeat (first | (with_reducible exact B5.out) | refine Below.setCell ?_ (by simp) _)
    rintro W ⟨b, k⟩
    have c0 := k.cell 0
    have c1 := k.cell 1
    have c2 := k.cell 2
    simp at c0 c1 c2
    refine bodyPost_ret (v := .tuple #[.agg #[.int .i64 0, .slice none 0 0, .int .i64 0], .bool false]) (by simp [results, Tryd.results16, go_sem, c0, c1, c2]) rfl ?_
    exact evRead_none HE.out b
  | true =>
    have HE := Lib.hid (show evR c s.data.toList = some ev from evR_some hp HEV.out.2)
    clear hp
    have e0 := E5.out.cell 0
    have e1 := E5.out.cell 1
    have e2 := E5.out.cell 2
    simp [Event.list] at e0 e1 e2
    go_wp2_with fail
    refine body_gen (fun W => Below w.heap.size w W ∧ Blk W (w.heap.size + 1) 46 (Event.list ev eh) ∧ Event.Is W ev eh fp) ⟨?_, by (apply Blk.of_eq; (repeat (first | (with_reducible exact M5.out) | (with_reducible apply Blk.set) | ((with_reducible apply Blk.other); · first | (simp; done) | (simp; omega)) | (with_reducible apply Blk.drew))); rfl), ?_⟩ ?_
    · repeat (first | (with_reducible exact B5.out) | refine Below.setCell ?_ (by simp) _)
    · refine I5.out.keep (fun b hb => ?_)
      have := HFP.out b hb
      repeat rw [Below.heap_setCell _ _ _ b (by simpa using this)]
    rintro W ⟨b, k, hi⟩
    have c0 := k.cell 0
    have c1 := k.cell 1
    have c2 := k.cell 2
    simp [Event.list] at c0 c1 c2
    refine bodyPost_ret (v := .tuple #[.agg (Event.list ev eh).toArray, .bool true]) (by simp [results, Tryd.results16, go_sem, c0, c1, c2, Event.list]) rfl ?_
    exact evRead_some HE.out _ _ hi b
end Go.Proofs.YtdipkbgfkbmfnaaDoor.dat
