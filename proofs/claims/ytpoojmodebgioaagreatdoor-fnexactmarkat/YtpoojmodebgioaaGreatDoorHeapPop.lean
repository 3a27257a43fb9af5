/-
  A HEAP OF READERS THAT SHRINKS: the method Pop, container/heap.Pop and Fix, over at most three.
-/
import Derived.Test.YtpoojmodebgioaaGreatDoorHeapPush
namespace Go.Proofs.YtpoojmodebgioaaGreatDoor.dat
open Go.RowKit Go.Proofs.YtpoojmodebgioaaGreatDoor.win

theorem rdFlat_snoc (l : List RdD) (x : RdD) (rest : List Value) : rdFlat (l ++ [x]) ++ rest = rdFlat l ++ (RdD.list x ++ rest) := by simp [rdFlat]
theorem HB.short {w w' : World} {q g cap : Nat} {l : List RdD} {x : RdD} {rest : List Value} (h : HB w q g cap (l ++ [x]) rest) (hq : Blk w' q 64 [.slice (some ⟨g, 0, none⟩) l.length cap]) (a : Apart [q] w w') : HB w' q g cap l (RdD.list x ++ rest) :=
  ⟨hq, by rw [← rdFlat_snoc]; exact (a.block g h.row.lt (by simpa using h.ne.symm)).trans h.row, h.ne, by have := h.le; simp at this; omega, h.mx, by rw [← rdFlat_snoc]; exact h.sz⟩
theorem HB.other {w w' : World} {q g cap : Nat} {l l' : List RdD} {rest : List Value} (h : HB w q g cap l rest) (k : Blk w' g 99 (rdFlat l' ++ rest)) (hl : l'.length = l.length) (a : Apart [g] w w') : HB w' q g cap l' rest :=
  ⟨by rw [hl]; exact (a.block q h.box.lt (by simpa using h.ne)).trans h.box, k, h.ne, by rw [hl]; exact h.le, h.mx, by have := h.sz; rw [List.length_append, rdFlat_len] at this ⊢; rw [hl]; exact this⟩

set_option maxRecDepth 100000 in
set_option maxHeartbeats 1000000 in
theorem rd_pop1 {q g cap : Nat} {x : RdD} {rest : List Value} {w : World} (h : HB w q g cap [x] rest) :
    Calls Tryz.prog 162 #[.pointer (some ⟨q, 0, none⟩)] w fun e w' => (∃ v, e = .returned v) ∧ Blk w' q 64 [.slice (some ⟨g, 0, none⟩) 0 cap] ∧ Apart [q] w w' := by
  have q0 := h.box.cell 0
  have ql := h.box.lt
  have qf := h.box.frozen
  have hc := h.le
  have hne := h.ne
  simp at q0 hc
  have hc2 : (1 : Int) ≤ (cap : Int) := by omega
  have hc3 : (0 : Int) ≤ (cap : Int) := by omega
  have hc4 : 0 ≤ cap := by omega
  have hc5 : ¬ cap = 0 := by omega
  have hgl := h.row.lt
  have HQ := Lib.hid h.box
  have c0 := h.row.cell 0
  have c1 := h.row.cell 1
  have c2 := h.row.cell 2
  have c3 := h.row.cell 3
  simp [rdFlat, RdD.list] at c0 c1 c2 c3
  clear h
  go_enter Tryz.func162, Tryz.ntmps162
  go_wp2_with fail
  go_ret
  refine ⟨⟨_, rfl⟩, ?_, ?_⟩
  · exact ((HQ.out.set 0 _).alloc _).of_eq rfl
  · with_reducible (repeat (first | exact Apart.refl _ _ | apply Apart.drew | refine Apart.alloc ?_ _ | refine Apart.setCell ?_ (List.mem_singleton.2 rfl) _ _))

set_option maxRecDepth 100000 in
set_option maxHeartbeats 1000000 in
theorem rd_pop2 {q g cap : Nat} {x y : RdD} {rest : List Value} {w : World} (h : HB w q g cap [x, y] rest) :
    Calls Tryz.prog 162 #[.pointer (some ⟨q, 0, none⟩)] w fun e w' => (∃ v, e = .returned v) ∧ Blk w' q 64 [.slice (some ⟨g, 0, none⟩) 1 cap] ∧ Apart [q] w w' := by
  have q0 := h.box.cell 0
  have ql := h.box.lt
  have qf := h.box.frozen
  have hc := h.le
  have hne := h.ne
  simp at q0 hc
  have hc2 : (2 : Int) ≤ (cap : Int) := by omega
  have hc3 : (1 : Int) ≤ (cap : Int) := by omega
  have hc4 : 1 ≤ cap := by omega
  have hc5 : ¬ cap = 0 := by omega
  have hgl := h.row.lt
  have HQ := Lib.hid h.box
  have c4 := h.row.cell 4
  have c5 := h.row.cell 5
  have c6 := h.row.cell 6
  have c7 := h.row.cell 7
  simp [rdFlat, RdD.list] at c4 c5 c6 c7
  clear h
  go_enter Tryz.func162, Tryz.ntmps162
  go_wp2_with fail
  go_ret
  refine ⟨⟨_, rfl⟩, ?_, ?_⟩
  · exact ((HQ.out.set 0 _).alloc _).of_eq rfl
  · with_reducible (repeat (first | exact Apart.refl _ _ | apply Apart.drew | refine Apart.alloc ?_ _ | refine Apart.setCell ?_ (List.mem_singleton.2 rfl) _ _))

set_option maxRecDepth 100000 in
set_option maxHeartbeats 1000000 in
theorem rd_pop3 {q g cap : Nat} {x y z : RdD} {rest : List Value} {w : World} (h : HB w q g cap [x, y, z] rest) :
    Calls Tryz.prog 162 #[.pointer (some ⟨q, 0, none⟩)] w fun e w' => (∃ v, e = .returned v) ∧ Blk w' q 64 [.slice (some ⟨g, 0, none⟩) 2 cap] ∧ Apart [q] w w' := by
  have q0 := h.box.cell 0
  have ql := h.box.lt
  have qf := h.box.frozen
  have hc := h.le
  have hne := h.ne
  simp at q0 hc
  have hc2 : (3 : Int) ≤ (cap : Int) := by omega
  have hc3 : (2 : Int) ≤ (cap : Int) := by omega
  have hc4 : 2 ≤ cap := by omega
  have hc5 : ¬ cap = 0 := by omega
  have hgl := h.row.lt
  have HQ := Lib.hid h.box
  have c8 := h.row.cell 8
  have c9 := h.row.cell 9
  have c10 := h.row.cell 10
  have c11 := h.row.cell 11
  simp [rdFlat, RdD.list] at c8 c9 c10 c11
  clear h
  go_enter Tryz.func162, Tryz.ntmps162
  go_wp2_with fail
  go_ret
  refine ⟨⟨_, rfl⟩, ?_, ?_⟩
  · exact ((HQ.out.set 0 _).alloc _).of_eq rfl
  · with_reducible (repeat (first | exact Apart.refl _ _ | apply Apart.drew | refine Apart.alloc ?_ _ | refine Apart.setCell ?_ (List.mem_singleton.2 rfl) _ _))

set_option maxRecDepth 100000 in
set_option maxHeartbeats 1000000 in
theorem heap_Pop1 {q g cap : Nat} {x : RdD} {rest : List Value} {w : World} (h : HB w q g cap [x] rest) :
    Calls Tryz.prog 67 #[.iface 97 (.pointer (some ⟨q, 0, none⟩))] w fun e w' => (∃ v, e = .returned v) ∧ (∃ rest', HB w' q g cap (popL [x]) rest') ∧ Apart [q, g] w w' := by
  have q0 := h.box.cell 0
  simp at q0
  have m0 := meth_Len q _ _ _ _ q0
  have m1 := meth_Swap q _ _ _ _ q0
  have HH := Lib.hid h
  clear h
  go_enter Tryz.func67, Tryz.ntmps67
  go_wp2_with fail
  refine (rd_len _ _ _ _).mono ?_
  rintro e w0 ⟨rfl, rfl⟩
  go_wp2_with fail
  refine (rd_swap10 g 1 cap x rest w0 (by omega) HH.out.row).mono ?_
  rintro e w1 ⟨rfl, k1, a1⟩
  have H1 := Lib.hid (HH.out.other k1 rfl a1)
  have A1 := Lib.hid (a1.mono (fp' := [q, g]) (by simp))
  clear k1 a1 m0 m1 q0 HH
  go_wp2_with fail
  refine (down0 _ _).mono ?_
  rintro e w2 ⟨⟨r, rfl⟩, rfl⟩
  have m2 := meth_Pop q w2
  go_wp2_with fail
  refine (rd_pop1 H1.out).mono ?_
  rintro e w9 ⟨⟨v, rfl⟩, k9, a9⟩
  have H9 := Lib.hid (HB.short (l := []) H1.out k9 a9)
  have A9 := Lib.hid (A1.out.trans (a9.mono (fp' := [q, g]) (by simp)))
  clear k9 a9
  go_wp2_with fail
  go_ret
  exact ⟨⟨_, rfl⟩, ⟨_, H9.out⟩, A9.out⟩

set_option maxRecDepth 100000 in
set_option maxHeartbeats 1000000 in
theorem heap_Pop2 {q g cap : Nat} {x y : RdD} {rest : List Value} {w : World} (h : HB w q g cap [x, y] rest) :
    Calls Tryz.prog 67 #[.iface 97 (.pointer (some ⟨q, 0, none⟩))] w fun e w' => (∃ v, e = .returned v) ∧ (∃ rest', HB w' q g cap (popL [x, y]) rest') ∧ Apart [q, g] w w' := by
  have q0 := h.box.cell 0
  simp at q0
  have m0 := meth_Len q _ _ _ _ q0
  have m1 := meth_Swap q _ _ _ _ q0
  have HH := Lib.hid h
  clear h
  go_enter Tryz.func67, Tryz.ntmps67
  go_wp2_with fail
  refine (rd_len _ _ _ _).mono ?_
  rintro e w0 ⟨rfl, rfl⟩
  go_wp2_with fail
  refine (rd_swap21 g 2 cap x y rest w0 (by omega) HH.out.row).mono ?_
  rintro e w1 ⟨rfl, k1, a1⟩
  have H1 := Lib.hid (HH.out.other k1 rfl a1)
  have A1 := Lib.hid (a1.mono (fp' := [q, g]) (by simp))
  clear k1 a1 m0 m1 q0 HH
  go_wp2_with fail
  refine (down1 _ _).mono ?_
  rintro e w2 ⟨⟨r, rfl⟩, rfl⟩
  have m2 := meth_Pop q w2
  go_wp2_with fail
  refine (rd_pop2 H1.out).mono ?_
  rintro e w9 ⟨⟨v, rfl⟩, k9, a9⟩
  have H9 := Lib.hid (HB.short (l := [y]) H1.out k9 a9)
  have A9 := Lib.hid (A1.out.trans (a9.mono (fp' := [q, g]) (by simp)))
  clear k9 a9
  go_wp2_with fail
  go_ret
  exact ⟨⟨_, rfl⟩, ⟨_, H9.out⟩, A9.out⟩

set_option maxRecDepth 100000 in
set_option maxHeartbeats 1000000 in
theorem heap_Pop3 {q g cap : Nat} {x y z : RdD} {rest : List Value} {w : World} (h : HB w q g cap [x, y, z] rest) :
    Calls Tryz.prog 67 #[.iface 97 (.pointer (some ⟨q, 0, none⟩))] w fun e w' => (∃ v, e = .returned v) ∧ (∃ rest', HB w' q g cap (popL [x, y, z]) rest') ∧ Apart [q, g] w w' := by
  have q0 := h.box.cell 0
  simp at q0
  have m0 := meth_Len q _ _ _ _ q0
  have m1 := meth_Swap q _ _ _ _ q0
  have HH := Lib.hid h
  clear h
  go_enter Tryz.func67, Tryz.ntmps67
  go_wp2_with fail
  refine (rd_len _ _ _ _).mono ?_
  rintro e w0 ⟨rfl, rfl⟩
  go_wp2_with fail
  refine (rd_swap32 g 3 cap x y z rest w0 (by omega) HH.out.row).mono ?_
  rintro e w1 ⟨rfl, k1, a1⟩
  have H1 := Lib.hid (HH.out.other k1 rfl a1)
  have A1 := Lib.hid (a1.mono (fp' := [q, g]) (by simp))
  clear k1 a1 m0 m1 q0 HH
  go_wp2_with fail
  refine (down23 q g cap z y x rest w1 H1.out.box H1.out.row).mono ?_
  rintro e w2 ⟨⟨r, rfl⟩, k2, a2⟩
  have A2 := Lib.hid (A1.out.trans (a2.mono (fp' := [q, g]) (by simp)))
  cases hp : lessB y z with
  | false =>
    have hd : downL [z, y] = [z, y] := by simp [downL, hp]
    have HU := Lib.hid (show popL [x, y, z] = [z, y] by simp [popL, hp])
    rw [hd] at k2
    have H2 := Lib.hid (H1.out.other k2 rfl a2)
    clear hp hd k2 a2
    have m2 := meth_Pop q w2
    go_wp2_with fail
    refine (rd_pop3 H2.out).mono ?_
    rintro e w9 ⟨⟨v, rfl⟩, k9, a9⟩
    have H9 := Lib.hid (HB.short (l := [z, y]) H2.out k9 a9)
    have A9 := Lib.hid (A2.out.trans (a9.mono (fp' := [q, g]) (by simp)))
    clear k9 a9
    go_wp2_with fail
    go_ret
    exact ⟨⟨_, rfl⟩, ⟨_, by rw [HU.out]; exact H9.out⟩, A9.out⟩
  | true =>
    have hd : downL [z, y] = [y, z] := by simp [downL, hp]
    have HU := Lib.hid (show popL [x, y, z] = [y, z] by simp [popL, hp])
    rw [hd] at k2
    have H2 := Lib.hid (H1.out.other (l' := [y, z, x]) k2 rfl a2)
    clear hp hd k2 a2
    have m2 := meth_Pop q w2
    go_wp2_with fail
    refine (rd_pop3 H2.out).mono ?_
    rintro e w9 ⟨⟨v, rfl⟩, k9, a9⟩
    have H9 := Lib.hid (HB.short (l := [y, z]) H2.out k9 a9)
    have A9 := Lib.hid (A2.out.trans (a9.mono (fp' := [q, g]) (by simp)))
    clear k9 a9
    go_wp2_with fail
    go_ret
    exact ⟨⟨_, rfl⟩, ⟨_, by rw [HU.out]; exact H9.out⟩, A9.out⟩

set_option maxRecDepth 100000 in
set_option maxHeartbeats 1000000 in
theorem heap_Fix1 {q g cap : Nat} {x : RdD} {rest : List Value} {w : World} (h : HB w q g cap [x] rest) :
    Calls Tryz.prog 68 #[.iface 97 (.pointer (some ⟨q, 0, none⟩)), .int .i64 0] w fun e w' => e = .returned (.tuple #[]) ∧ (∃ rest', HB w' q g cap (downL [x]) rest') ∧ Apart [q, g] w w' := by
  have q0 := h.box.cell 0
  simp at q0
  have m0 := meth_Len q _ _ _ _ q0
  have HH := Lib.hid h
  clear h
  go_enter Tryz.func68, Tryz.ntmps68
  go_wp2_with fail
  refine (rd_len _ _ _ _).mono ?_
  rintro e w0 ⟨rfl, rfl⟩
  go_wp2_with fail
  refine (down1 _ _).mono ?_
  rintro e w2 ⟨⟨r, rfl⟩, rfl⟩
  have H2 := Lib.hid (show HB w2 q g cap (downL [x]) rest from HH.out)
  have A2 := Lib.hid (Apart.refl [q, g] w2)
  clear HH m0 q0
  cases r with
  | true =>
    go_wp2_with fail
    go_end0
    exact ⟨rfl, ⟨_, H2.out⟩, A2.out⟩
  | false =>
    go_wp2_with fail
    refine (up0 _ _).mono ?_
    rintro e w3 ⟨rfl, rfl⟩
    go_wp2_with fail
    go_end0
    exact ⟨rfl, ⟨_, H2.out⟩, A2.out⟩

set_option maxRecDepth 100000 in
set_option maxHeartbeats 1000000 in
theorem heap_Fix2 {q g cap : Nat} {x y : RdD} {rest : List Value} {w : World} (h : HB w q g cap [x, y] rest) :
    Calls Tryz.prog 68 #[.iface 97 (.pointer (some ⟨q, 0, none⟩)), .int .i64 0] w fun e w' => e = .returned (.tuple #[]) ∧ (∃ rest', HB w' q g cap (downL [x, y]) rest') ∧ Apart [q, g] w w' := by
  have q0 := h.box.cell 0
  simp at q0
  have m0 := meth_Len q _ _ _ _ q0
  have HH := Lib.hid h
  clear h
  go_enter Tryz.func68, Tryz.ntmps68
  go_wp2_with fail
  refine (rd_len _ _ _ _).mono ?_
  rintro e w0 ⟨rfl, rfl⟩
  go_wp2_with fail
  refine (down2 q g cap x y rest w0 HH.out.box HH.out.row).mono ?_
  rintro e w2 ⟨⟨r, rfl⟩, k2, a2⟩
  have hl : (downL [x, y]).length = 2 := by simp only [downL]; (repeat' split) <;> rfl
  have H2 := Lib.hid (HH.out.other k2 hl a2)
  have A2 := Lib.hid (a2.mono (fp' := [q, g]) (by simp))
  clear k2 a2 hl
  clear HH m0 q0
  cases r with
  | true =>
    go_wp2_with fail
    go_end0
    exact ⟨rfl, ⟨_, H2.out⟩, A2.out⟩
  | false =>
    go_wp2_with fail
    refine (up0 _ _).mono ?_
    rintro e w3 ⟨rfl, rfl⟩
    go_wp2_with fail
    go_end0
    exact ⟨rfl, ⟨_, H2.out⟩, A2.out⟩

set_option maxRecDepth 100000 in
set_option maxHeartbeats 1000000 in
theorem heap_Fix3 {q g cap : Nat} {x y z : RdD} {rest : List Value} {w : World} (h : HB w q g cap [x, y, z] rest) :
    Calls Tryz.prog 68 #[.iface 97 (.pointer (some ⟨q, 0, none⟩)), .int .i64 0] w fun e w' => e = .returned (.tuple #[]) ∧ (∃ rest', HB w' q g cap (downL [x, y, z]) rest') ∧ Apart [q, g] w w' := by
  have q0 := h.box.cell 0
  simp at q0
  have m0 := meth_Len q _ _ _ _ q0
  have HH := Lib.hid h
  clear h
  go_enter Tryz.func68, Tryz.ntmps68
  go_wp2_with fail
  refine (rd_len _ _ _ _).mono ?_
  rintro e w0 ⟨rfl, rfl⟩
  go_wp2_with fail
  refine (down3 q g cap x y z rest w0 HH.out.box HH.out.row).mono ?_
  rintro e w2 ⟨⟨r, rfl⟩, k2, a2⟩
  have hl : (downL [x, y, z]).length = 3 := by simp only [downL]; (repeat' split) <;> rfl
  have H2 := Lib.hid (HH.out.other k2 hl a2)
  have A2 := Lib.hid (a2.mono (fp' := [q, g]) (by simp))
  clear k2 a2 hl
  clear HH m0 q0
  cases r with
  | true =>
    go_wp2_with fail
    go_end0
    exact ⟨rfl, ⟨_, H2.out⟩, A2.out⟩
  | false =>
    go_wp2_with fail
    refine (up0 _ _).mono ?_
    rintro e w3 ⟨rfl, rfl⟩
    go_wp2_with fail
    go_end0
    exact ⟨rfl, ⟨_, H2.out⟩, A2.out⟩

/-- container/heap.Pop. -/
theorem heap_Pop {q g cap : Nat} {x : RdD} {r : List RdD} {rest : List Value} {w : World} (h : HB w q g cap (x :: r) rest) (hr : r.length ≤ 2) :
    Calls Tryz.prog 67 #[.iface 97 (.pointer (some ⟨q, 0, none⟩))] w fun e w' => (∃ v, e = .returned v) ∧ (∃ rest', HB w' q g cap (popL (x :: r)) rest') ∧ Apart [q, g] w w' := by
  match r, h, hr with
  | [], h, _ => exact heap_Pop1 h
  | [y], h, _ => exact heap_Pop2 h
  | [y, z], h, _ => exact heap_Pop3 h
/-- container/heap.Fix at the first place. -/
theorem heap_Fix {q g cap : Nat} {x : RdD} {r : List RdD} {rest : List Value} {w : World} (h : HB w q g cap (x :: r) rest) (hr : r.length ≤ 2) :
    Calls Tryz.prog 68 #[.iface 97 (.pointer (some ⟨q, 0, none⟩)), .int .i64 0] w fun e w' => e = .returned (.tuple #[]) ∧ (∃ rest', HB w' q g cap (downL (x :: r)) rest') ∧ Apart [q, g] w w' := by
  match r, h, hr with
  | [], h, _ => exact heap_Fix1 h
  | [y], h, _ => exact heap_Fix2 h
  | [y, z], h, _ => exact heap_Fix3 h
end Go.Proofs.YtpoojmodebgioaaGreatDoor.dat
