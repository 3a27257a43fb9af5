/-
  A HEAP OF READERS THAT GROWS: the method Push and container/heap.Push.
-/
import Derived.Test.YtpoojmodebgioaaGreatDoorHeapM
import Derived.Test.YtpoojmodebgioaaGreatDoorGrow2
import Derived.Test.YtpoojmodebgioaaGreatDoorMixTail
namespace Go.Proofs.YtpoojmodebgioaaGreatDoor.dat
open Go.RowKit Go.Proofs.YtpoojmodebgioaaGreatDoor.win

def RRd : Rel RdD := fun _ cs x f => cs = RdD.list x ∧ f = []
theorem local_rd : Local RRd := ⟨fun h _ => h, fun h b hb => by rw [h.2] at hb; simp at hb⟩
/-- The heap under way: its slice in box q, its row behind the box. -/
def HeapAt (q : Nat) (l : List RdD) (w : World) : Prop := ∃ v, Blk w q 64 [v] ∧ Grows 4 RRd 99 (q + 1) w v l
theorem info_reader : (Tryz.prog.info? 99).map (fun i => (i.zero, i.size, i.bytes)) = some (some (.agg #[.int .i64 0, .slice none 0 0, .int .i64 0, .int .i64 0]), 4, 48) := by kernel_rfl
theorem assert_rd (v : Value) (w : World) : (Instr.typeAssert (.iface 99 v) 20 99 false).run Tryz.prog w = .ok v w := by kernel_rfl

set_option maxRecDepth 100000 in
set_option maxHeartbeats 1000000 in
theorem rd_push (q : Nat) (l : List RdD) (x : RdD) (w : World) (h : HeapAt q l w) (h2 : l.length ≤ 2) :
    Calls Tryz.prog 163 #[.pointer (some ⟨q, 0, none⟩), .iface 99 (.agg (RdD.list x).toArray)] w fun e w' => e = .returned (.tuple #[]) ∧ HeapAt q (l ++ [x]) w' ∧ Below q w w' := by
  obtain ⟨v, hb, hG⟩ := h
  obtain ⟨a, cap, rfl⟩ := hG.slice
  have c0 := hb.cell 0
  have ql := hb.lt
  simp at c0
  have HB := Lib.hid hb
  have HG := Lib.hid hG
  clear hb hG
  simp only [RdD.list]
  go_enter Tryz.func163, Tryz.ntmps163
  go_wp2_with fail
  refine mix.wp_region_tail (fun w' => w'.cell? ⟨q, 0, none⟩ = some (.slice a l.length cap)) [6,7] [0,1,2,3,4,5,6,7,8] (by kernel_rfl) (by kernel_rfl) (fun _ _ d _ _ h => by cases d <;> exact h) c0 ?_
  simp only [List.filterMap_cons, List.filterMap_nil, List.getElem?_cons_zero, List.getElem?_cons_succ, Option.map_some]
  have as1 := assert_rd
  (repeat (apply mix.ordt_take; (· rfl); (· rfl); (· (intro w' hSw; (try dsimp only at hSw); go_simp; try with_reducible rfl)); (try simp only [Act.put, List.setIfInBounds_toArray, List.set_cons_zero, List.set_cons_succ])))
  clear as1
  refine mix.ordt_hard rfl (fun K hK => ?_); go_simp
  have hb7 : Below w.drew.heap.size w.drew (w.drew.alloc (.cells #[.int .i64 x.part, .slice x.a x.n x.c, .int .i64 x.read, .int .i64 x.mark] 99)) := (Below.refl _ _).alloc (Nat.le_refl _) _
  have d2 : (w.drew.alloc (.cells #[.int .i64 x.part, .slice x.a x.n x.c, .int .i64 x.read, .int .i64 x.mark] 99)).cell? ⟨q, 0, none⟩ = some (.slice a l.length cap) := (hb7.cell (p := ⟨q, 0, none⟩) ql).trans c0
  refine hK.out _ _ (by exact d2) (fun hSw => ?_); clear hK K hSw; (try simp only [Act.put, List.setIfInBounds_toArray, List.set_cons_zero, List.set_cons_succ])
  obtain ⟨i0, hi, hi2⟩ := Option.map_eq_some_iff.1 info_reader
  simp only [Prod.mk.injEq] at hi2
  obtain ⟨hz0, hz1, hz2⟩ := hi2
  refine mix.ordt_hardb rfl rfl (fun K hK => ?_)
  refine push_wp (v := .slice a l.length cap) local_rd _ _ 64 rfl i0 (.agg #[.int .i64 0, .slice none 0 0, .int .i64 0, .int .i64 0]) 48 Tryz.underlying64 hi hz0 hz1 hz2 rfl (by decide) rfl (HG.out.below local_rd (Below.refl _ _).drew) hb7 w.drew.heap.size 1 rfl (RdD.list x) rfl (fun u hu => by simp [RdD.list] at hu; rcases hu with rfl | rfl | rfl | rfl <;> rfl) (fun j u hj => ?_) x [] ⟨rfl, rfl⟩ Own.nil (by omega) (by unfold maxLen; omega) (Nat.succ_le_of_lt ql) ?_
  · exact ((blk_new w.drew 99 (RdD.list x)).cell j).trans hj
  intro v8 W8 hG8 hb8 hk8 hw8
  obtain ⟨a8, cap8, hv8⟩ := hG8.slice
  subst hv8
  generalize hn8 : (l ++ [x]).length = n8 at *
  have hBl : Below (q + 1) w W8 := (((Below.refl _ _).drew).alloc (Nat.succ_le_of_lt ql) _).trans hb8
  have X8 := Lib.hid (HB.out.below hBl (Nat.lt_succ_self q))
  have G8 := Lib.hid hG8
  have B8 := Lib.hid (hBl.mono (Nat.le_succ q))
  have d8 := X8.out.cell 0
  have f8 := X8.out.frozen
  simp at d8
  clear hk8 hw8 hb8 hG8 hBl hb7 d2 c0 HB HG
  refine hK.out _ _ (by exact d8) (fun hSw => ?_); clear hK K hSw; (try simp only [Act.put, List.setIfInBounds_toArray, List.set_cons_zero, List.set_cons_succ])
  (repeat (apply mix.ordt_take; (· rfl); (· rfl); (· (intro w' hSw; (try dsimp only at hSw); go_simp; try with_reducible rfl)); (try simp only [Act.put, List.setIfInBounds_toArray, List.set_cons_zero, List.set_cons_succ])))
  refine mix.ordt_end ?_; refine mix.last_step (fun K hK => ?_); go_simp
  refine hK _ _ ?_
  clear hK K
  go_wp2_with fail
  go_end0
  refine ⟨rfl, ⟨_, (X8.out.set 0 _).of_eq rfl, G8.out.keep local_rd (fun b h1 _ => Below.heap_setCell _ _ _ b (by show b ≠ q; omega))⟩, B8.out.setCell (Nat.le_refl _) _⟩

theorem rdFlat_len (l : List RdD) : (rdFlat l).length = l.length * 4 := by
  unfold rdFlat
  induction l with
  | nil => rfl
  | cons x r ih => rw [List.map_cons, List.flatten_cons, List.length_append, ih]; simp [RdD.list]; omega
theorem rd_css {w : World} : ∀ {l : List RdD} {css : List (List Value)} {F : List (List Nat)}, css.length = l.length → F.length = l.length → (∀ (i : Nat) x c f, l[i]? = some x → css[i]? = some c → F[i]? = some f → RRd w c x f) → css.flatten = rdFlat l
  | [], css, F, h1, _, _ => by
    obtain rfl : css = [] := List.length_eq_zero_iff.1 h1
    rfl
  | x :: l, [], _, h1, _, _ => by simp at h1
  | x :: l, c :: css, [], _, h2, _ => by simp at h2
  | x :: l, c :: css, f :: F, h1, h2, h => by
    have e := (h 0 x c f rfl rfl rfl).1
    have r := rd_css (l := l) (css := css) (F := F) (by simpa using h1) (by simpa using h2) (fun i x c f a b d => h (i + 1) x c f (by simpa using a) (by simpa using b) (by simpa using d))
    rw [List.flatten_cons, e, r]
    simp [rdFlat]
/-- The heap's blocks written out. -/
structure HB (w : World) (q g cap : Nat) (l : List RdD) (rest : List Value) : Prop where
  box : Blk w q 64 [.slice (some ⟨g, 0, none⟩) l.length cap]
  row : Blk w g 99 (rdFlat l ++ rest)
  ne : q ≠ g
  le : l.length ≤ cap
  mx : cap ≤ maxLen
  sz : (rdFlat l ++ rest).length = cap * 4
theorem HeapAt.blk {q : Nat} {l : List RdD} {w : World} (h : HeapAt q l w) (hl : 0 < l.length) : ∃ g cap rest, HB w q g cap l rest ∧ q < g := by
  obtain ⟨v, hb, hG⟩ := h
  obtain ⟨css, F, h1, h2, h3, h4, h5, h6, ho⟩ := hG.ex
  rcases ho.2 with ⟨_, h0⟩ | ⟨g, cap, cur, rfl, hbg, hg, hnc, hcm, hcs, htake⟩
  · omega
  · have e := rd_css h1 h2 h4
    have hd : cur.toList = rdFlat l ++ cur.toList.drop (l.length * 4) := by
      conv => lhs; rw [← List.take_append_drop (l.length * 4) cur.toList]
      rw [htake, e]
    refine ⟨g, cap, cur.toList.drop (l.length * 4), ⟨hb, ?_, by omega, hnc, hcm, by rw [← hd]; simpa using hcs⟩, by omega⟩
    show w.heap[g]? = some (.cells (rdFlat l ++ cur.toList.drop (l.length * 4)).toArray _ (0, 0))
    rw [← hd]
    simpa using hg
theorem HB.at {q g cap : Nat} {l : List RdD} {rest : List Value} {w : World} (h : HB w q g cap l rest) (hq : q < g) : HeapAt q l w := by
  refine ⟨_, h.box, ⟨l.map RdD.list, List.replicate l.length [], by simp, by simp, ?_, ?_, ?_, ?_, ?_⟩⟩
  · intro c hc
    obtain ⟨x, _, rfl⟩ := List.mem_map.1 hc
    rfl
  · intro i x c f hx hc hf
    rw [List.getElem?_map, hx] at hc
    simp at hc
    exact ⟨hc.symm, (List.mem_replicate.1 (List.mem_of_getElem? hf)).2⟩
  · simp
  · intro b hb'
    simp at hb'
  · refine ⟨by show (rdFlat l).length = _; exact rdFlat_len l, .inr ⟨g, cap, (rdFlat l ++ rest).toArray, rfl, by omega, h.row, h.le, h.mx, by simpa using h.sz, ?_⟩⟩
    show (rdFlat l ++ rest).take _ = rdFlat l
    rw [← rdFlat_len, List.take_left]

/-- up, from the last on. -/
theorem up_any {q g cap : Nat} {l : List RdD} {rest : List Value} {w : World} (h : HB w q g cap l rest) (h0 : 0 < l.length) (h3 : l.length ≤ 3) :
    Calls Tryz.prog 85 #[.iface 97 (.pointer (some ⟨q, 0, none⟩)), .int .i64 ((l.length : Int) - 1)] w fun e w' => e = .returned (.tuple #[]) ∧ HB w' q g cap (upL l) rest ∧ Apart [g] w w' := by
  match l, h, h0, h3 with
  | [x], h, _, _ =>
    refine (up0 _ w).mono ?_
    rintro e w' ⟨rfl, rfl⟩
    exact ⟨rfl, h, Apart.refl _ _⟩
  | [x, y], h, _, _ =>
    refine (up2 q g cap x y rest w h.box h.row).mono ?_
    rintro e w' ⟨rfl, k, a⟩
    have hl : (upL [x, y]).length = 2 := by simp only [upL]; split <;> rfl
    exact ⟨rfl, ⟨by rw [hl]; exact (a.block q h.box.lt (by simpa using h.ne)).trans h.box, k, h.ne, by rw [hl]; exact h.le, h.mx, by have := h.sz; rw [List.length_append, rdFlat_len] at this ⊢; rw [hl]; exact this⟩, a⟩
  | [x, y, z], h, _, _ =>
    refine (up3 q g cap x y z rest w h.box h.row).mono ?_
    rintro e w' ⟨rfl, k, a⟩
    have hl : (upL [x, y, z]).length = 3 := by simp only [upL]; split <;> rfl
    exact ⟨rfl, ⟨by rw [hl]; exact (a.block q h.box.lt (by simpa using h.ne)).trans h.box, k, h.ne, by rw [hl]; exact h.le, h.mx, by have := h.sz; rw [List.length_append, rdFlat_len] at this ⊢; rw [hl]; exact this⟩, a⟩
theorem rd_len (a : Option Addr) (n c : Nat) (w : World) : Calls Tryz.prog 158 #[.slice a n c] w fun e w' => e = .returned (.int .i64 n) ∧ w' = w := by
  go_enter Tryz.func158, Tryz.ntmps158
  go_wp2_with fail
  go_ret
  exact ⟨rfl, rfl⟩

set_option maxRecDepth 100000 in
set_option maxHeartbeats 1000000 in
theorem heap_Push (q : Nat) (l : List RdD) (x : RdD) (w : World) (h : HeapAt q l w) (h2 : l.length ≤ 2) :
    Calls Tryz.prog 65 #[.iface 97 (.pointer (some ⟨q, 0, none⟩)), .iface 99 (.agg (RdD.list x).toArray)] w fun e w' => e = .returned (.tuple #[]) ∧ HeapAt q (upL (l ++ [x])) w' ∧ Below q w w' := by
  have m0 := meth_Push q w
  have HP := Lib.hid (rd_push q l x w h h2)
  clear h
  simp only [RdD.list] at HP ⊢
  go_enter Tryz.func65, Tryz.ntmps65
  go_wp2_with fail
  refine HP.out.mono ?_
  rintro e w1 ⟨rfl, h1, b1⟩
  obtain ⟨g, cap, rest, hB, hqg⟩ := h1.blk (by simp)
  have hl1 : (l ++ [x]).length ≤ 3 := by simp; omega
  have hl0 : 0 < (l ++ [x]).length := by simp
  obtain ⟨L, hL⟩ : ∃ L, l ++ [x] = L := ⟨_, rfl⟩
  rw [hL] at hB hl1 hl0
  have HL := Lib.hid hL
  clear hL
  have q0 := hB.box.cell 0
  simp at q0
  have m1 := meth_Len q _ _ _ _ q0
  have HH := Lib.hid hB
  have B1 := Lib.hid b1
  clear hB b1 h1 m0 HP
  go_wp2_with fail
  refine (rd_len _ _ _ _).mono ?_
  rintro e w2 ⟨rfl, rfl⟩
  have hw : IntKind.i64.wrap ((L.length : Int) - 1) = (L.length : Int) - 1 := by rw [IntKind.wrap_i64]; omega
  clear m1 q0
  go_wp2_with fail
  refine (up_any HH.out hl0 hl1).mono ?_
  rintro e w3 ⟨rfl, h3, a3⟩
  have H3 := Lib.hid (h3.at hqg)
  have A3 := Lib.hid (B1.out.trans (a3.below (lo := q) (by simp; omega) (by have := HH.out.box.lt; omega)))
  clear h3 a3
  go_wp2_with fail
  go_end0
  exact ⟨rfl, by rw [HL.out]; exact H3.out, A3.out⟩
end Go.Proofs.YtpoojmodebgioaaGreatDoor.dat
