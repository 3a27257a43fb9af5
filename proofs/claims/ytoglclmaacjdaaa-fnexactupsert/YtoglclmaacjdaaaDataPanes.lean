/-
  DATA: Agg, Pane, []Pane: the notions; THE CONTRACTS OF the laws' own functions (copies, sizes, equality) over them. Written by tools/gendata.py.
-/
import Derived.Test.YtoglclmaacjdaaaDataEvents
namespace Go.Proofs.Ytoglclmaacjdaaa.dat
open Go.RowKit Go.Proofs.Ytoglclmaacjdaaa.win
set_option linter.unusedVariables false

structure AggD where
  n : Int
  sm : Int
  mn : Int
  mx : Int
def Agg.list (x : AggD) : List Value := [.int .i64 x.n, .int .i64 x.sm, .int .i64 x.mn, .int .i64 x.mx]
def RAgg : Rel AggD := fun _ cs x fp => cs = Agg.list x ∧ fp = []
theorem local_Agg : Local RAgg := ⟨fun h _ => h, fun h b hb => by rw [h.2] at hb; simp at hb⟩

set_option maxRecDepth 100000 in
set_option maxHeartbeats 2000000 in
theorem to_Agg (x : AggD) (w : World) : Calls Try.prog 122 #[.agg (Agg.list x).toArray] w fun e w' => e = .returned (.agg (Agg.list x).toArray) ∧ Below w.heap.size w w' := by
  simp only [Agg.list]
  go_enter Try.func122, Try.ntmps122
  go_wp2
  refine bodyPost_ret (v := .agg #[.int .i64 x.n, .int .i64 x.sm, .int .i64 x.mn, .int .i64 x.mx]) (by simp [results, Try.results122, go_sem]) rfl ⟨rfl, ?_⟩
  exact (((Below.refl _ _).alloc (Nat.le_refl _) _).alloc (by simp) _).alloc (by simp; omega) _

set_option maxRecDepth 100000 in
set_option maxHeartbeats 2000000 in
theorem eq_Agg (x : AggD) (w : World) : Calls Try.prog 123 #[.agg (Agg.list x).toArray, .agg (Agg.list x).toArray] w fun e w' => e = .returned (.bool true) ∧ Below w.heap.size w w' := by
  simp only [Agg.list]
  go_enter Try.func123, Try.ntmps123
  go_wp2_with fail
  go_ret
  exact ⟨rfl, by repeat (first | exact Below.refl _ _ | (refine Below.alloc ?_ (by simp; try omega) _))⟩

structure PaneD where
  win : Int
  mask : Int
  start : Int
  key : List Int
  a : AggD
/-- The slices' own cells. -/
structure PaneH where
  keya : Option Addr
  keyl : Nat
  keyc : Nat
def Pane.list (x : PaneD) (h : PaneH) : List Value := [.int .i64 x.win, .int .i64 x.mask, .int .i64 x.start, .slice h.keya h.keyl h.keyc, .int .i64 x.a.n, .int .i64 x.a.sm, .int .i64 x.a.mn, .int .i64 x.a.mx]
def Pane.Is (w : World) (x : PaneD) (h : PaneH) (fp : List Nat) : Prop := ∃ f0 : List Nat, fp = f0 ∧ GRow 1 RInt w h.keya h.keyl x.key f0 ∧ h.keyl ≤ h.keyc ∧ h.keyc ≤ 9223372036854775807
def RPane : Rel PaneD := fun w cs x fp => ∃ h : PaneH, cs = Pane.list x h ∧ Pane.Is w x h fp
theorem Pane.Is.keep {w w' : World} {x : PaneD} {h : PaneH} {fp : List Nat} (hi : Pane.Is w x h fp) (hf : ∀ b ∈ fp, w'.heap[b]? = w.heap[b]?) : Pane.Is w' x h fp := by
  obtain ⟨f0, rfl, r0, u0, v0⟩ := hi
  exact ⟨_, rfl, r0.keep local_int (fun b hb => hf b (by simp [hb])), u0, v0⟩
theorem Pane.Is.lt {w : World} {x : PaneD} {h : PaneH} {fp : List Nat} (hi : Pane.Is w x h fp) : ∀ b ∈ fp, b < w.heap.size := by
  obtain ⟨f0, rfl, r0, u0, v0⟩ := hi
  intro b hb
  exact r0.lt local_int b hb
theorem Pane.Is.below {w w' : World} {x : PaneD} {h : PaneH} {fp : List Nat} (hi : Pane.Is w x h fp) (hb : Below w.heap.size w w') : Pane.Is w' x h fp := hi.keep fun b hb' => hb.block b (hi.lt b hb')
theorem local_Pane : Local RPane := ⟨fun ⟨h, e, hi⟩ hf => ⟨h, e, hi.keep hf⟩, fun ⟨_, _, hi⟩ => hi.lt⟩
def Pane.sz (x : PaneD) : Nat := x.key.length

def CopiedPane (w : World) (x : PaneD) (e : Ending) (w' : World) : Prop := ∃ (h : PaneH) (fp : List Nat), e = .returned (.agg (Pane.list x h).toArray) ∧ Pane.Is w' x h fp ∧ Own w.heap.size w' fp ∧ Below w.heap.size w w'
theorem info_Pane : (Try.prog.info? 144).map (fun i => (i.zero, i.size, i.bytes)) = some (some (.agg #[.int .i64 0, .int .i64 0, .int .i64 0, .slice none 0 0, .int .i64 0, .int .i64 0, .int .i64 0, .int .i64 0]), 8, 80) := by kernel_rfl
end Go.Proofs.Ytoglclmaacjdaaa.dat
