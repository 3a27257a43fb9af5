/-
  THE CONTRACTS OF startFrom AND startsIn: the first start that is not below a moment; the function that is ranged over tells the starts, rising, and no other.
  Condition: a slide of 1 .. 20000, moments within a million of 0.
-/
import Derived.Test.YtpjimeanimghdaaWinOk
import Derived.Test.YtpjimeanimghdaaStartsMath
import Derived.RangeFuncBox
import Derived.RangeFuncNested
import Derived.RangeFuncBound
import Derived.RangeFuncCalls
import Derived.RangeFuncLeaves
import Derived.Shelf.Abstract
import Derived.Shelf.RegionOpen
import Derived.OwnWalkIn
import Derived.TacticsInMore
import Derived.LoopNIn
import Derived.LoopIn
import Derived.Maps.AppendAt
namespace Go.Proofs.Ytpjimeanimghdaa.win
open Go.RowKit Go.Shelf
attribute [local go_sem] Oper.semAt_some

set_option maxHeartbeats 400000 in
theorem startFrom (z l t : Int) (w : World) (h1 : 1 ≤ l) (h2 : l ≤ 20000) (t1 : -1000000 ≤ t) (t2 : t ≤ 1000000) :
    Calls Try.prog 117 #[.agg #[.int .i64 z, .int .i64 l], .int .i64 t] w fun e w' => e = .returned (.int .i64 (up l t)) ∧ w.alloc (.cells #[.int .i64 z, .int .i64 l] 25) = w' := by
  obtain ⟨d, hd, d1, d2, d0⟩ := tmod_small t h1 h2
  have hu := Lib.hid (up_rem h1 hd)
  have n1 : (l == 0) = false := by simp; omega
  have n2 : ¬ l = 0 := by omega
  by_cases hp : 0 < d
  · go_enter Try.func117, Try.ntmps117
    go_wp2
    go_ret
    exact ⟨by rw [hu.out.1 hp]; rfl, rfl⟩
  · go_enter Try.func117, Try.ntmps117
    go_wp2
    go_ret
    exact ⟨by rw [hu.out.2 (by omega)]; rfl, rfl⟩

/-- The blocks that the iterator reads between two rounds lie as they lay. -/
def Kept (lo hi : Nat) (W W' : World) : Prop := ∀ k, lo ≤ k → k < hi → W'.heap[k]? = W.heap[k]?
theorem Kept.refl (lo hi : Nat) (W : World) : Kept lo hi W W := fun _ _ _ => rfl
theorem keptK_t {lo hi : Nat} {A B C : World} (h : Kept lo hi A B) (k : Kept lo hi B C) : Kept lo hi A C := fun i h1 h2 => (k i h1 h2).trans (h i h1 h2)
theorem keptK_b {lo hi : Nat} {w : World} (hn : hi ≤ w.heap.size) (W : World) (l : Nat) (o o' : Obj) (hl : w.heap.size ≤ l) (_ : W.heap[l]? = some o) (_ : o.isCells = false) (_ : o.isWalk = false) : Kept lo hi W (W.putObj l o') :=
  fun k _ h2 => World.putObj_heap_other (by omega)
theorem Kept.cell {lo hi : Nat} {W W' : World} (h : Kept lo hi W W') {b o : Nat} (h1 : lo ≤ b) (h2 : b < hi) : W'.cell? ⟨b, o, none⟩ = W.cell? ⟨b, o, none⟩ := World.cell?_of_block (w := W) (a := ⟨b, o, none⟩) (h b h1 h2)

/-- What startsIn has captured: three blocks from lo on. -/
structure Caught (lo : Nat) (z l fr fin : Int) (W : World) : Prop where
  c0 : W.cell? ⟨lo, 0, none⟩ = some (.int .i64 z)
  c1 : W.cell? ⟨lo, 1, none⟩ = some (.int .i64 l)
  c2 : W.cell? ⟨lo + 1, 0, none⟩ = some (.int .i64 fr)
  c3 : W.cell? ⟨lo + 2, 0, none⟩ = some (.int .i64 fin)

theorem Caught.kept {lo : Nat} {z l fr fin : Int} {W W' : World} (h : Caught lo z l fr fin W) (hk : Kept lo (lo + 3) W W') : Caught lo z l fr fin W' :=
  ⟨(hk.cell (by omega) (by omega)).trans h.c0, (hk.cell (by omega) (by omega)).trans h.c1, (hk.cell (by omega) (by omega)).trans h.c2, (hk.cell (by omega) (by omega)).trans h.c3⟩

set_option maxRecDepth 100000 in
set_option maxHeartbeats 1000000 in
/-- The function that startsIn hands back: for every loop body that keeps the captured blocks. -/
theorem seq1_in (n : Nat) (hn : 1 ≤ n) (L lo : Nat) (z l fr fin : Int) (m : Nat) (h1 : 1 ≤ l) (h2 : l ≤ 20000) (f1 : -1000000 ≤ fr) (f2 : fr ≤ 1000000) (e1 : -1000000 ≤ fin) (e2 : fin ≤ 1000000) (hE : Ends (up l fr) l fin m)
    (J Jx : List Int → World → Prop)
    (W : World) (hJ : AbidesFrom W.heap.size J)
    (hY : ∀ pre x W, J pre W → pre.length < m → YieldAt Fence.wide (n - 1) Try.prog L #[.int .i64 x] W fun e W' =>
      (e = .returned (.bool true) ∧ J (pre ++ [x]) W' ∧ Kept lo (lo + 3) W W') ∨ (e = .returned (.bool false) ∧ Jx (pre ++ [x]) W'))
    (lt : lo + 3 ≤ W.heap.size) (hC : Caught lo z l fr fin W) (h0 : J [] W) :
    CallsIn Fence.wide n Try.prog 116 #[.func (.yield L) #[] #[], .pointer (some ⟨lo, 0, none⟩), .pointer (some ⟨lo + 1, 0, none⟩), .pointer (some ⟨lo + 2, 0, none⟩)] W fun e W' => (∃ v, e = .returned v) ∧
      ((∃ ys, ys = ap (up l fr) l m ∧ J ys W') ∨ (∃ pre, pre <+: ap (up l fr) l m ∧ Jx pre W')) := by
  have HC := Lib.hid hC
  have HE := Lib.hid hE
  obtain ⟨c0, c1, c2, c3⟩ := hC
  clear hE
  refine callsIn_of_wp Try.func116 rfl trivial ?_ rfl
  simp only [Try.ntmps116, List.size_toArray, List.length_cons, List.length_nil, Nat.reduceAdd, Nat.reduceSub, Array.replicate_succ, Array.replicate_zero, List.push_toArray, List.append_toArray, List.nil_append, List.cons_append]
  gi_wp2_with (refine ⟨trivial, ?_⟩; gi_at_call 117; refine (callsIn_wide.2 (startFrom _ _ _ _ h1 h2 f1 f2)).mono ?_; rintro e w' ⟨rfl, rfl⟩)
  gi_loopw [5] (fun i wr => ∃ j : Nat, j ≤ m ∧ i = .int .i64 (up l fr + l * (j : Int)) ∧ J (ap (up l fr) l j) wr ∧ Caught lo z l fr fin wr)
    (fun i _ => (fin - intOf i).toNat)
  case atStart =>
    refine ⟨0, by omega, by simp, hJ _ _ _ none h0 (World.grownBy_alloc W _ none) (fun r e => by cases e), ?_⟩
    exact HC.out.kept (fun k k1 k2 => Below.heap_alloc _ _ _ (by omega))
  case round =>
    obtain ⟨j, hj, rfl, hJs, hCs⟩ := hrel
    obtain ⟨x, hx⟩ : ∃ x, up l fr + l * (j : Int) = x := ⟨_, rfl⟩
    have hx1 : x < fin ↔ j < m := by rw [← hx]; exact HE.out.iff h1 j
    have hx0 : -1000000 ≤ x := by
      have := up_bd fr h1
      have := mul_le h1 (Nat.zero_le j)
      simp at this
      omega
    have hxs : up l fr + l * ((j + 1 : Nat) : Int) = x + l := by rw [← hx, Int.natCast_add, Int.mul_add]; simp; omega
    have hap := ap_succ (up l fr) l j
    rw [hx] at hap
    have HS := Lib.hid hxs
    have HA := Lib.hid hap
    have HX := Lib.hid hx
    have HCs := Lib.hid hCs
    obtain ⟨d0, d1, d2, d3⟩ := hCs
    clear c0 c1 c2 c3 hxs hap
    rw [hx]
    clear hx
    by_cases hlt : j < m
    · have hxf : x < fin := hx1.2 hlt
      clear hx1
      obtain ⟨fn, tmps, assign, body, hy, hR⟩ := hY _ x wr hJs (by rw [ap_length]; exact hlt)
      gi_wp2
      refine hR.mono ?_
      rintro e W3 (⟨rfl, hJ3, hk3⟩ | ⟨rfl, hJx3⟩)
      · obtain ⟨g0, g1, g2, g3⟩ := HCs.out.kept hk3
        gi_wp2
        go_roundw
        case rel => exact ⟨j + 1, by omega, by rw [HS.out], by rw [HA.out]; exact hJ3, HCs.out.kept hk3⟩
        case measure => simp [intOf]; omega
      · gi_wp2
        refine bodyPost_ret (results_none rfl _ _ _) rfl ?_
        exact ⟨⟨_, rfl⟩, .inr ⟨_, by rw [← HA.out]; exact ap_prefix _ _ hlt, hJx3⟩⟩
    · obtain rfl : j = m := by omega
      have hxf : ¬ x < fin := fun h => hlt (hx1.1 h)
      clear hx1
      gi_wp2
      go_end0
      exact ⟨⟨_, rfl⟩, .inl hJs⟩

set_option maxHeartbeats 1000000 in
/-- startsIn: its three parameters are boxed; the function value captures the boxes. -/
theorem startsIn (z l fr fin : Int) (w : World) :
    Calls Try.prog 91 #[.agg #[.int .i64 z, .int .i64 l], .int .i64 fr, .int .i64 fin] w fun e w' => e = .returned (.func (.func 116) #[] #[.pointer (some ⟨w.heap.size, 0, none⟩), .pointer (some ⟨w.heap.size + 1, 0, none⟩), .pointer (some ⟨w.heap.size + 2, 0, none⟩)]) ∧
      ((w.alloc (.cells #[.int .i64 z, .int .i64 l] 25)).alloc (.cells #[.int .i64 fr] 3)).alloc (.cells #[.int .i64 fin] 3) = w' := by
  go_enter Try.func91, Try.ntmps91
  go_wp2
  go_ret
  exact ⟨rfl, rfl⟩

set_option maxHeartbeats 1000000 in
theorem startsOver (z l t : Int) (w : World) (hz1 : 1 ≤ z) (hz2 : z ≤ 20000) (ht1 : -300000 ≤ t) (ht2 : t ≤ 300000) :
    Calls Try.prog 56 #[.agg #[.int .i64 z, .int .i64 l], .int .i64 t] w fun e w' => e = .returned (.func (.func 116) #[] #[.pointer (some ⟨w.heap.size + 1, 0, none⟩), .pointer (some ⟨w.heap.size + 1 + 1, 0, none⟩), .pointer (some ⟨w.heap.size + 1 + 2, 0, none⟩)]) ∧
      (((w.alloc (.cells #[.int .i64 z, .int .i64 l] 25)).alloc (.cells #[.int .i64 z, .int .i64 l] 25)).alloc (.cells #[.int .i64 (t - z + 1)] 3)).alloc (.cells #[.int .i64 (t + 1)] 3) = w' := by
  go_enter Try.func56, Try.ntmps56
  go_wp2_with (go_at_call 91; refine (startsIn _ _ _ _ _).mono ?_; rintro e w' ⟨rfl, rfl⟩)
  go_ret
  exact ⟨by simp, rfl⟩

/-- What startsIn hands back 'SeqStopsK': all starts, in their order; or a part of them, where a round has said 'no more'. -/
theorem seq_stops (n : Nat) (hn : 1 ≤ n) (lo : Nat) (z l fr fin : Int) (m : Nat) (h1 : 1 ≤ l) (h2 : l ≤ 20000) (f1 : -1000000 ≤ fr) (f2 : fr ≤ 1000000) (e1 : -1000000 ≤ fin) (e2 : fin ≤ 1000000) (hE : Ends (up l fr) l fin m)
    (w : World) (lt : lo + 3 ≤ w.heap.size) (hC : Caught lo z l fr fin w) :
    SeqStopsK Fence.wide n Try.prog 116 #[.pointer (some ⟨lo, 0, none⟩), .pointer (some ⟨lo + 1, 0, none⟩), .pointer (some ⟨lo + 2, 0, none⟩)] (fun x : Int => #[Value.int .i64 x]) (Kept lo (lo + 3)) (fun ys => ys = ap (up l fr) l m) (fun pre => pre <+: ap (up l fr) l m) m w := fun L J Jx W hW hJ _ hY h0 =>
  seq1_in n hn L lo z l fr fin m h1 h2 f1 f2 e1 e2 hE J Jx W hJ hY (Nat.le_trans lt hW.size) (hC.kept (fun k _ k2 => hW.block k (by omega))) h0
end Go.Proofs.Ytpjimeanimghdaa.win
