/-
  THE CONTRACT OF THE PROGRAM's AggRead: the aggregate of which this is the text, and whether there is one.
  Conditions: the library's variables hold what its text lays; the text is no longer than 2,000,000 bytes.
-/
import Derived.Test.YthldfaapckhcpaaDoorNumRead
import Derived.Test.YthldfaapckhcpaaDoorAggText
import Derived.Deep.LoopGhost
import Derived.Deep.OwnRows
namespace Go.Proofs.YthldfaapckhcpaaDoor.num
open Go.RowKit
open Go.Proofs.YthldfaapckhcpaaDoor.agg (okB okB_iff okB_not OkP ok_bds impl_AggOk)

/-- The number of the word at place i. -/
def numAt (W : List (List UInt8)) (i : Nat) : Option Int := numA (W.getD i [])
def valAt (W : List (List UInt8)) (i : Nat) : Int := (numAt W i).getD 0
/-- Are these the words of an aggregate's text? -/
def acc (W : List (List UInt8)) : Bool := decide (W.length = 4) && (numAt W 0).isSome && (numAt W 1).isSome && (numAt W 2).isSome && (numAt W 3).isSome && okB (valAt W 0) (valAt W 1) (valAt W 2) (valAt W 3)
def got (W : List (List UInt8)) (i : Nat) : Int := if acc W = true then valAt W i else 0

/-- What AggRead answers, and what it leaves. -/
def ReadD (W : List (List UInt8)) (w : World) (e : Ending) (w' : World) : Prop :=
  e = .returned (.tuple #[.agg #[.int .i64 (got W 0), .int .i64 (got W 1), .int .i64 (got W 2), .int .i64 (got W 3)], .bool (acc W)]) ∧ Below w.heap.size w w'

theorem readD_no {W : List (List UInt8)} {w w' : World} (h : acc W = false) (hb : Below w.heap.size w w') : ReadD W w (.returned (.tuple #[.agg #[.int .i64 0, .int .i64 0, .int .i64 0, .int .i64 0], .bool false])) w' := by
  refine ⟨?_, hb⟩
  simp [got, h]

theorem readD_yes {W : List (List UInt8)} {w w' : World} {a b c d : Int} (h : acc W = true) (v0 : valAt W 0 = a) (v1 : valAt W 1 = b) (v2 : valAt W 2 = c) (v3 : valAt W 3 = d) (hb : Below w.heap.size w w') : ReadD W w (.returned (.tuple #[.agg #[.int .i64 a, .int .i64 b, .int .i64 c, .int .i64 d], .bool true])) w' := by
  refine ⟨?_, hb⟩
  simp [got, h, v0, v1, v2, v3]

theorem acc_len {W : List (List UInt8)} (h : W.length ≠ 4) : acc W = false := by simp [acc, h]
theorem acc_none {W : List (List UInt8)} {i : Nat} (hi : i < 4) (h : (numAt W i).isSome = false) : acc W = false := by
  have : i = 0 ∨ i = 1 ∨ i = 2 ∨ i = 3 := by omega
  rcases this with rfl | rfl | rfl | rfl <;> simp [acc, h]

/-- The answer's block holds an aggregate that is none yet, and may be written. -/
def Zero4 (w : World) (g : Nat) : Prop :=
  (w.cell? ⟨g, 0, none⟩ = some (.int .i64 0) ∧ w.cell? ⟨g, 1, none⟩ = some (.int .i64 0) ∧ w.cell? ⟨g, 2, none⟩ = some (.int .i64 0) ∧ w.cell? ⟨g, 3, none⟩ = some (.int .i64 0)) ∧ ∀ j, w.frozen? ⟨g, j, none⟩ = false
theorem Zero4.below {B : Nat} {w w' : World} {g : Nat} (h : Zero4 w g) (hb : Below B w w') (hg : g < B) : Zero4 w' g :=
  ⟨⟨(hb.cell (p := ⟨g, 0, none⟩) hg).trans h.1.1, (hb.cell (p := ⟨g, 1, none⟩) hg).trans h.1.2.1, (hb.cell (p := ⟨g, 2, none⟩) hg).trans h.1.2.2.1, (hb.cell (p := ⟨g, 3, none⟩) hg).trans h.1.2.2.2⟩, fun j => (hb.frozen (p := ⟨g, j, none⟩) hg).trans (h.2 j)⟩
theorem zero4_alloc (w : World) (t : TypeId) : Zero4 (w.alloc (.cells #[.int .i64 0, .int .i64 0, .int .i64 0, .int .i64 0] t)) w.heap.size := by
  refine ⟨⟨?_, ?_, ?_, ?_⟩, fun j => ?_⟩ <;> simp [go_sem]

theorem below_four {w : World} {g : Nat} (a b c d : Value) : Below g w ((((w.setCell ⟨g, 0, none⟩ a).setCell ⟨g, 1, none⟩ b).setCell ⟨g, 2, none⟩ c).setCell ⟨g, 3, none⟩ d) :=
  Below.setCell (p := ⟨g, 3, none⟩) (Below.setCell (p := ⟨g, 2, none⟩) (Below.setCell (p := ⟨g, 1, none⟩) (Below.setCell (p := ⟨g, 0, none⟩) (Below.refl g w) (Nat.le_refl g) a) (Nat.le_refl g) b) (Nat.le_refl g) c) (Nat.le_refl g) d

def fill (W : List (List UInt8)) (j i : Nat) : Value := if i < j then .int .i64 (valAt W i) else .int .i64 0

/-- The pieces that SplitN lays. -/
theorem cell_piece (w : World) (P : List ByteArray) (N j : Nat) (t : TypeId) (hj : j < P.length) : (w.alloc (.cells (Lib.cellsOf P N) t)).cell? ⟨w.heap.size, j, none⟩ = some (.string (P.getD j ByteArray.empty)) := by
  have h : (w.alloc (.cells (Lib.cellsOf P N) t)).heap[w.heap.size]? = some (.cells (Lib.cellsOf P N) t) := (MapKept.heap_alloc w _).1
  have e : (Lib.cellsOf P N)[j]? = some (.string (P.getD j ByteArray.empty)) := by
    simp [Lib.cellsOf, List.getElem?_append, hj, List.getD_eq_getElem?_getD]
  unfold World.cell?
  rw [h]
  exact e

set_option maxHeartbeats 1000000 in
theorem AggRead_short (s : ByteArray) (m : Int) (w : World) (hs : s.size ≤ 2000000) (hE : Env w) (hm : w.cell? ⟨0, 0, none⟩ = some (.int .i64 m)) (hl : (words s.data.toList).length ≠ 4) :
    Calls Tryd.prog 11 #[.string s] w (ReadD (words s.data.toList) w) := by
  have hP : (Lib.splitB ⟨#[32]⟩ 0 (min 5 (s.size + 1) - 1) s).length ≠ 4 := by
    intro h
    have hd := Lib.splitB_data ⟨#[32]⟩ 0 (min 5 (s.size + 1) - 1) s
    have h2 := congrArg List.length hd
    rw [List.length_map, h] at h2
    exact hl ((split5 s.data.toList).1.1 (by
      rw [show s.data.toList.length = s.size from rfl]
      exact h2.symm))
  have HN := Lib.hid (acc_len hl)
  have HM := Lib.hid hm
  have HE := Lib.hid hE
  have mlt : 0 < w.heap.size := by have := hE.pow.2; omega
  clear hl hm hE
  go_enter Tryd.func11, Tryd.ntmps11
  go_wp2_with fail
  refine (Any.strings_SplitN Tryd.lays147 (by kernel_rfl) s ⟨#[32]⟩ 5 m _ (by omega) ?hm2 (by decide) (by omega) (by omega)).mono ?_
  case hm2 => exact (World.cell?_alloc_past (w := w) _ (n := 0) 0 mlt).trans HM.out
  rintro e w1 ⟨rfl, rfl⟩
  generalize hPn : (Lib.splitB ⟨#[32]⟩ 0 (min 5 (s.size + 1) - 1) s) = P at *
  have hne : ((P.length : Int) == 4) = false := by simp; omega
  have hZ : Zero4 ((w.alloc (.cells #[.int .i64 0, .int .i64 0, .int .i64 0, .int .i64 0] 25)).alloc (.cells (Lib.cellsOf P (min 5 (s.size + 1))) (Tryd.lays147_ren.t 9))) w.heap.size := (zero4_alloc w 25).below ((Below.refl (w.heap.size + 1) _).alloc (by simp) _) (by omega)
  have hB : Below w.heap.size w ((w.alloc (.cells #[.int .i64 0, .int .i64 0, .int .i64 0, .int .i64 0] 25)).alloc (.cells (Lib.cellsOf P (min 5 (s.size + 1))) (Tryd.lays147_ren.t 9))) := by repeat (first | exact Below.refl _ _ | refine Below.setCell ?_ (by first | omega | (simp; done) | (simp; omega)) _ | refine Below.alloc ?_ (by first | omega | (simp; done) | (simp; omega)) _ | apply Below.drew)
  generalize ((w.alloc (.cells #[.int .i64 0, .int .i64 0, .int .i64 0, .int .i64 0] 25)).alloc (.cells (Lib.cellsOf P (min 5 (s.size + 1))) (Tryd.lays147_ren.t 9))) = w1 at *
  have B1 := Lib.hid hB
  obtain ⟨⟨z0, z1, z2, z3⟩, zf⟩ := hZ
  clear hB hPn hP
  go_wp2_with fail
  refine bodyPost_ret (v := .tuple #[.agg #[.int .i64 0, .int .i64 0, .int .i64 0, .int .i64 0], .bool false]) (by simp [results, Tryd.results11, go_sem, z0, z1, z2, z3]) rfl (readD_no HN.out (B1.out.trans (below_four _ _ _ _)))

/-- The state behind SplitN, where there are four words: the answer's block, the words' block. -/
structure Split4 (W : List (List UInt8)) (P : List ByteArray) (w w1 : World) : Prop where
  size : w1.heap.size = w.heap.size + 2
  zero : Zero4 w1 w.heap.size
  word : ∀ i, i < 4 → w1.cell? ⟨w.heap.size + 1, i, none⟩ = some (.string (P.getD i ByteArray.empty))
  data : ∀ i, i < 4 → (P.getD i ByteArray.empty).data.toList = W.getD i [] ∧ (P.getD i ByteArray.empty).size ≤ 2000000
  below : Below w.heap.size w w1
  env : Env w1

theorem words_le (l : List UInt8) : ∀ x ∈ words l, x.length ≤ l.length := by
  induction l with
  | nil => simp [words]
  | cons c r ih =>
    by_cases hc : c = 32
    · subst hc; rw [words_blank]
      intro x hx
      rcases List.mem_cons.1 hx with rfl | hx
      · simp
      · have := ih x hx; simp; omega
    · cases h : words r with
      | nil => exact absurd h (words_ne r)
      | cons y ys =>
        rw [words_cons hc h]
        rw [h] at ih
        intro x hx
        rcases List.mem_cons.1 hx with rfl | hx
        · have := ih y (by simp); simp; omega
        · have := ih x (by simp [hx]); simp; omega

/-- At a round's head: the numbers of the words so far are laid. -/
structure ReadInv (W : List (List UInt8)) (w w1 : World) (j : Nat) (wr : World) : Prop where
  kept : Below (w.heap.size + 2) w1 wr
  size : w.heap.size + 2 < wr.heap.size
  nums : ∀ i, i < 4 → wr.cell? ⟨w.heap.size + 2, i, none⟩ = some (fill W j i)
  free : ∀ i, wr.frozen? ⟨w.heap.size + 2, i, none⟩ = false
  good : ∀ i, i < j → (numAt W i).isSome = true

theorem ReadInv.next {W : List (List UInt8)} {w w1 wr w2 : World} {j : Nat} (h : ReadInv W w w1 j wr) (hb : Below wr.heap.size wr w2) (hj : j < 4) (hs : (numAt W j).isSome = true) : ReadInv W w w1 (j + 1) (w2.setCell ⟨w.heap.size + 2, j, none⟩ (.int .i64 (valAt W j))) where
  kept := (h.kept.trans (hb.mono (Nat.le_of_lt h.size))).trans (set_below _)
  size := Nat.lt_of_lt_of_le h.size (Nat.le_trans hb.size (set_below (w := w2) (g := w.heap.size + 2) (o := j) (.int .i64 (valAt W j))).size)
  nums := by
    intro i hi
    have hc : w2.cell? ⟨w.heap.size + 2, i, none⟩ = some (fill W j i) := (hb.cell (p := ⟨w.heap.size + 2, i, none⟩) h.size).trans (h.nums i hi)
    by_cases e : i = j
    · subst e
      rw [World.cell?_setCell_same w2 ⟨w.heap.size + 2, i, none⟩ _ hc]
      simp [fill]
    · rw [World.cell?_setCell_other w2 ⟨w.heap.size + 2, j, none⟩ ⟨w.heap.size + 2, i, none⟩ _ (fun c => e (by injection c with _ c; exact c.symm)), hc]
      by_cases l : i < j
      · simp [fill, l, show i < j + 1 by omega]
      · simp [fill, l, show ¬ i < j + 1 by omega]
  free := fun i => by rw [World.frozen?_setCell]; exact (hb.frozen (p := ⟨w.heap.size + 2, i, none⟩) h.size).trans (h.free i)
  good := by
    intro i hi
    by_cases e : i = j
    · subst e; exact hs
    · exact h.good i (by omega)

theorem acc_okB {W : List (List UInt8)} (hl : W.length = 4) (h : ∀ i, i < 4 → (numAt W i).isSome = true) : acc W = okB (valAt W 0) (valAt W 1) (valAt W 2) (valAt W 3) := by
  simp [acc, hl, h 0, h 1, h 2, h 3]

set_option maxHeartbeats 1000000 in
theorem AggRead_four (s : ByteArray) (m : Int) (w : World) (hs : s.size ≤ 2000000) (hE : Env w) (hm : w.cell? ⟨0, 0, none⟩ = some (.int .i64 m)) (hl : (words s.data.toList).length = 4) :
    Calls Tryd.prog 11 #[.string s] w (ReadD (words s.data.toList) w) := by
  have hPm : (Lib.splitB ⟨#[32]⟩ 0 (min 5 (s.size + 1) - 1) s).map (fun b => b.data.toList) = words s.data.toList :=
    (Lib.splitB_data ⟨#[32]⟩ 0 (min 5 (s.size + 1) - 1) s).trans ((split5 s.data.toList).2 hl)
  have HM := Lib.hid hm
  have HE := Lib.hid hE
  have HL := Lib.hid hl
  have mlt : 0 < w.heap.size := by have := hE.pow.2; omega
  have hw := words_le s.data.toList
  generalize words s.data.toList = W at *
  clear hl hm hE
  go_enter Tryd.func11, Tryd.ntmps11
  go_wp2_with fail
  refine (Any.strings_SplitN Tryd.lays147 (by kernel_rfl) s ⟨#[32]⟩ 5 m _ (by omega) ?hm2 (by decide) (by omega) (by omega)).mono ?_
  case hm2 => exact (World.cell?_alloc_past (w := w) _ (n := 0) 0 mlt).trans HM.out
  rintro e w1 ⟨rfl, rfl⟩
  generalize hPn : (Lib.splitB ⟨#[32]⟩ 0 (min 5 (s.size + 1) - 1) s) = P at *
  have hlen : P.length = 4 := by rw [← List.length_map (f := fun b : ByteArray => b.data.toList), hPm]; exact HL.out
  have hS : Split4 W P w ((w.alloc (.cells #[.int .i64 0, .int .i64 0, .int .i64 0, .int .i64 0] 25)).alloc (.cells (Lib.cellsOf P (min 5 (s.size + 1))) (Tryd.lays147_ren.t 9))) := by
    have hB : Below w.heap.size w ((w.alloc (.cells #[.int .i64 0, .int .i64 0, .int .i64 0, .int .i64 0] 25)).alloc (.cells (Lib.cellsOf P (min 5 (s.size + 1))) (Tryd.lays147_ren.t 9))) := by repeat (first | exact Below.refl _ _ | refine Below.setCell ?_ (by first | omega | (simp; done) | (simp; omega)) _ | refine Below.alloc ?_ (by first | omega | (simp; done) | (simp; omega)) _ | apply Below.drew)
    refine ⟨by simp, (zero4_alloc w 25).below ((Below.refl (w.heap.size + 1) _).alloc (by simp) _) (by omega), ?_, ?_, hB, HE.out.next hB⟩
    · intro i hi
      have := cell_piece (w.alloc (.cells #[.int .i64 0, .int .i64 0, .int .i64 0, .int .i64 0] 25)) P (min 5 (s.size + 1)) i (Tryd.lays147_ren.t 9) (by omega)
      rw [World.size_alloc] at this
      exact this
    · intro i hi
      have e1 : (P.getD i ByteArray.empty).data.toList = W.getD i [] := by
        rw [← hPm]
        simp [List.getD_eq_getElem?_getD, hlen, hi]
      refine ⟨e1, ?_⟩
      have : W.getD i [] ∈ W := by
        have hWl := HL.out
        simp [List.getD_eq_getElem?_getD, hWl, hi]
      have h2 := hw _ this
      rw [← e1] at h2
      exact Nat.le_trans h2 hs
  generalize ((w.alloc (.cells #[.int .i64 0, .int .i64 0, .int .i64 0, .int .i64 0] 25)).alloc (.cells (Lib.cellsOf P (min 5 (s.size + 1))) (Tryd.lays147_ren.t 9))) = w1 at *
  have HS := Lib.hid hS
  have hsz1 := hS.size
  clear hPm hPn hw hS
  rw [hlen]
  go_wp2_with fail
  go_loopg [19] 4 (fun k i wr => ∃ j : Nat, j + k = 4 ∧ i = .int .i64 j ∧ ReadInv W w w1 j wr)
  case atStart =>
    refine ⟨0, by omega, rfl, ?_⟩
    obtain ⟨⟨c0, c1, c2, c3⟩, cf⟩ := zero4_alloc w1 47
    rw [hsz1] at c0 c1 c2 c3 cf
    refine ⟨(Below.refl _ _).alloc (by omega) _, by simp [hsz1], ?_, cf, by omega⟩
    intro i hi
    have : i = 0 ∨ i = 1 ∨ i = 2 ∨ i = 3 := by omega
    rcases this with rfl | rfl | rfl | rfl
    · exact c0
    · exact c1
    · exact c2
    · exact c3
  case round =>
    obtain ⟨j, hj, rfl, hinv⟩ := hrel
    have hsz := hinv.size
    obtain ⟨⟨r0, r1, r2, r3⟩, rf⟩ := HS.out.zero.below hinv.kept (by omega)
    have base : Below w.heap.size w wr := HS.out.below.trans (hinv.kept.mono (by omega))
    have henv : Env wr := HS.out.env.below hinv.kept ⟨by have := HE.out.top.1; omega, by have := HE.out.top.2; omega, by have := HE.out.pow.2; omega⟩
    have HV := Lib.hid henv
    have HB := Lib.hid base
    have HI := Lib.hid hinv
    clear henv base
    by_cases hlt : j < 4
    · have hcell : wr.cell? ⟨w.heap.size + 1, j, none⟩ = some (.string (P.getD j ByteArray.empty)) := (hinv.kept.cell (p := ⟨w.heap.size + 1, j, none⟩) (by show w.heap.size + 1 < w.heap.size + 2; omega)).trans (HS.out.word j hlt)
      have HD := Lib.hid (HS.out.data j hlt)
      generalize P.getD j ByteArray.empty = x at *
      clear hinv
      go_wp2_with fail
      refine (numRead_any _ _ HD.out.2 HV.out).mono ?_
      rintro e w2 ⟨rfl, hb2⟩
      have hx : numA x.data.toList = numAt W j := by rw [HD.out.1]; rfl
      have hd : (numA x.data.toList).getD 0 = valAt W j := by rw [hx]; rfl
      rw [hd, hx]
      have k0 := (hb2.cell (p := ⟨w.heap.size, 0, none⟩) (by show w.heap.size < wr.heap.size; omega)).trans r0
      have k1 := (hb2.cell (p := ⟨w.heap.size, 1, none⟩) (by show w.heap.size < wr.heap.size; omega)).trans r1
      have k2 := (hb2.cell (p := ⟨w.heap.size, 2, none⟩) (by show w.heap.size < wr.heap.size; omega)).trans r2
      have k3 := (hb2.cell (p := ⟨w.heap.size, 3, none⟩) (by show w.heap.size < wr.heap.size; omega)).trans r3
      have kf := fun j => (hb2.frozen (p := ⟨w.heap.size, j, none⟩) (by show w.heap.size < wr.heap.size; omega)).trans (rf j)
      have kn := (hb2.cell (p := ⟨w.heap.size + 2, j, none⟩) (by show w.heap.size + 2 < wr.heap.size; omega)).trans (HI.out.nums j hlt)
      have kg := (hb2.frozen (p := ⟨w.heap.size + 2, j, none⟩) (by show w.heap.size + 2 < wr.heap.size; omega)).trans (HI.out.free j)
      have HB2 := Lib.hid hb2
      clear hx hd hb2 hcell r0 r1 r2 r3 rf
      cases hS : (numAt W j).isSome with
      | true =>
        have HSm := Lib.hid hS
        clear hS
        go_wp2_with fail
        go_roundg (4 - (j + 1))
        case measure => omega
        case rel => exact ⟨j + 1, by omega, by go_num, HI.out.next HB2.out hlt HSm.out⟩
      | false =>
        have HA := Lib.hid (acc_none hlt hS)
        clear hS
        go_wp2_with fail
        refine bodyPost_ret (v := .tuple #[.agg #[.int .i64 0, .int .i64 0, .int .i64 0, .int .i64 0], .bool false]) (by simp [results, Tryd.results11, go_sem, k0, k1, k2, k3]) rfl (readD_no HA.out ((HB.out.trans (HB2.out.mono HB.out.size)).trans (below_four _ _ _ _)))
    · have hjl : j = 4 := by omega
      subst hjl
      have g := hinv.good
      have HA := Lib.hid (acc_okB HL.out g)
      have n0 : wr.cell? ⟨w.heap.size + 2, 0, none⟩ = some (.int .i64 (valAt W 0)) := hinv.nums 0 (by omega)
      have n1 : wr.cell? ⟨w.heap.size + 2, 1, none⟩ = some (.int .i64 (valAt W 1)) := hinv.nums 1 (by omega)
      have n2 : wr.cell? ⟨w.heap.size + 2, 2, none⟩ = some (.int .i64 (valAt W 2)) := hinv.nums 2 (by omega)
      have n3 : wr.cell? ⟨w.heap.size + 2, 3, none⟩ = some (.int .i64 (valAt W 3)) := hinv.nums 3 (by omega)
      clear g hinv
      obtain ⟨a, ha⟩ : ∃ a, valAt W 0 = a := ⟨_, rfl⟩
      obtain ⟨b, hb⟩ : ∃ a, valAt W 1 = a := ⟨_, rfl⟩
      obtain ⟨c, hc⟩ : ∃ a, valAt W 2 = a := ⟨_, rfl⟩
      obtain ⟨d, hd⟩ : ∃ a, valAt W 3 = a := ⟨_, rfl⟩
      have hA := HA.out
      clear HA
      rw [ha] at n0 hA
      rw [hb] at n1 hA
      rw [hc] at n2 hA
      rw [hd] at n3 hA
      have HA := Lib.hid hA
      have Ha := Lib.hid ha
      have Hb := Lib.hid hb
      have Hc := Lib.hid hc
      have Hd := Lib.hid hd
      clear hA ha hb hc hd
      go_wp2_with fail
      refine (impl_AggOk a b c d _).mono ?_
      rintro e w2 ⟨rfl, hb2⟩
      have hi := (ints4_alloc wr a b c d 25).below hb2 (by simp)
      rw [World.size_alloc] at hb2
      have hb3 : Below wr.heap.size wr w2 := ((Below.refl _ _).alloc (Nat.le_refl _) _).trans (hb2.mono (by omega))
      have k0 := (hb3.cell (p := ⟨w.heap.size, 0, none⟩) (by show w.heap.size < wr.heap.size; omega)).trans r0
      have k1 := (hb3.cell (p := ⟨w.heap.size, 1, none⟩) (by show w.heap.size < wr.heap.size; omega)).trans r1
      have k2 := (hb3.cell (p := ⟨w.heap.size, 2, none⟩) (by show w.heap.size < wr.heap.size; omega)).trans r2
      have k3 := (hb3.cell (p := ⟨w.heap.size, 3, none⟩) (by show w.heap.size < wr.heap.size; omega)).trans r3
      have kf := fun j => (hb3.frozen (p := ⟨w.heap.size, j, none⟩) (by show w.heap.size < wr.heap.size; omega)).trans (rf j)
      have HB2 := Lib.hid (HB.out.trans (hb3.mono HB.out.size))
      obtain ⟨-, i0, i1, i2, i3⟩ := hi
      have hne : w.heap.size ≠ wr.heap.size := by omega
      clear hb2 hb3 r0 r1 r2 r3 rf n0 n1 n2 n3
      cases ho : okB a b c d with
      | true =>
        rw [ho] at HA
        clear ho
        go_wp2_with fail
        refine bodyPost_ret (v := .tuple #[.agg #[.int .i64 a, .int .i64 b, .int .i64 c, .int .i64 d], .bool true]) (by simp [results, Tryd.results11, go_sem, k0, k1, k2, k3]) rfl (readD_yes HA.out Ha.out Hb.out Hc.out Hd.out (HB2.out.trans (below_four _ _ _ _)))
      | false =>
        rw [ho] at HA
        clear ho
        go_wp2_with fail
        refine bodyPost_ret (v := .tuple #[.agg #[.int .i64 0, .int .i64 0, .int .i64 0, .int .i64 0], .bool false]) (by simp [results, Tryd.results11, go_sem, k0, k1, k2, k3]) rfl (readD_no HA.out (HB2.out.trans (below_four _ _ _ _)))

theorem AggRead_impl (s : ByteArray) (m : Int) (w : World) (hs : s.size ≤ 2000000) (hE : Env w) (hm : w.cell? ⟨0, 0, none⟩ = some (.int .i64 m)) :
    Calls Tryd.prog 11 #[.string s] w (ReadD (words s.data.toList) w) := by
  by_cases h : (words s.data.toList).length = 4
  · exact AggRead_four s m w hs hE hm h
  · exact AggRead_short s m w hs hE hm h
end Go.Proofs.YthldfaapckhcpaaDoor.num
