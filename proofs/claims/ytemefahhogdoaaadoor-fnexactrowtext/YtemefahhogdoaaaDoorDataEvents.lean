/-
  DATA: Config, Event, Part, []Part: the notions; THE CONTRACTS OF the laws' own functions (copies, sizes, equality) over them. Written by tools/gendata.py.
-/
import Derived.Test.YtemefahhogdoaaaDoorDataInts
namespace Go.Proofs.YtemefahhogdoaaaDoor.dat
open Go.RowKit Go.Proofs.YtemefahhogdoaaaDoor.win
set_option linter.unusedVariables false

structure ConfD where
  d : Int
  ws : List (Int × Int)
  ms : List Int
  dl : Int
  lt : Int
/-- The slices' own cells. -/
structure ConfigH where
  wsa : Option Addr
  wsl : Nat
  wsc : Nat
  msa : Option Addr
  msl : Nat
  msc : Nat
def Config.list (x : ConfD) (h : ConfigH) : List Value := [.int .i64 x.d, .slice h.wsa h.wsl h.wsc, .slice h.msa h.msl h.msc, .int .i64 x.dl, .int .i64 x.lt]
def Config.Is (w : World) (x : ConfD) (h : ConfigH) (fp : List Nat) : Prop := ∃ f0 f1 : List Nat, fp = f0 ++ f1 ∧ GRow 2 RWin w h.wsa h.wsl x.ws f0 ∧ h.wsl ≤ h.wsc ∧ h.wsc ≤ 9223372036854775807 ∧ GRow 1 RInt w h.msa h.msl x.ms f1 ∧ h.msl ≤ h.msc ∧ h.msc ≤ 9223372036854775807
def RConfig : Rel ConfD := fun w cs x fp => ∃ h : ConfigH, cs = Config.list x h ∧ Config.Is w x h fp
theorem Config.Is.keep {w w' : World} {x : ConfD} {h : ConfigH} {fp : List Nat} (hi : Config.Is w x h fp) (hf : ∀ b ∈ fp, w'.heap[b]? = w.heap[b]?) : Config.Is w' x h fp := by
  obtain ⟨f0, f1, rfl, r0, u0, v0, r1, u1, v1⟩ := hi
  exact ⟨f0, f1, rfl, r0.keep local_Win (fun b hb => hf b (by simp [hb])), u0, v0, r1.keep local_int (fun b hb => hf b (by simp [hb])), u1, v1⟩
theorem Config.Is.lt {w : World} {x : ConfD} {h : ConfigH} {fp : List Nat} (hi : Config.Is w x h fp) : ∀ b ∈ fp, b < w.heap.size := by
  obtain ⟨f0, f1, rfl, r0, u0, v0, r1, u1, v1⟩ := hi
  intro b hb
  simp only [List.mem_append] at hb
  rcases hb with hb | hb
  · exact r0.lt local_Win b hb
  · exact r1.lt local_int b hb
theorem Config.Is.below {w w' : World} {x : ConfD} {h : ConfigH} {fp : List Nat} (hi : Config.Is w x h fp) (hb : Below w.heap.size w w') : Config.Is w' x h fp := hi.keep fun b hb' => hb.block b (hi.lt b hb')
theorem local_Config : Local RConfig := ⟨fun ⟨h, e, hi⟩ hf => ⟨h, e, hi.keep hf⟩, fun ⟨_, _, hi⟩ => hi.lt⟩
def Config.sz (x : ConfD) : Nat := x.ws.length + x.ms.length

def CopiedConfig (w : World) (x : ConfD) (e : Ending) (w' : World) : Prop := ∃ (h : ConfigH) (fp : List Nat), e = .returned (.agg (Config.list x h).toArray) ∧ Config.Is w' x h fp ∧ Own w.heap.size w' fp ∧ Below w.heap.size w w'
structure EventD where
  t : Int
  ds : List Int
  v : Int
/-- The slices' own cells. -/
structure EventH where
  dsa : Option Addr
  dsl : Nat
  dsc : Nat
def Event.list (x : EventD) (h : EventH) : List Value := [.int .i64 x.t, .slice h.dsa h.dsl h.dsc, .int .i64 x.v]
def Event.Is (w : World) (x : EventD) (h : EventH) (fp : List Nat) : Prop := ∃ f0 : List Nat, fp = f0 ∧ GRow 1 RInt w h.dsa h.dsl x.ds f0 ∧ h.dsl ≤ h.dsc ∧ h.dsc ≤ 9223372036854775807
def REvent : Rel EventD := fun w cs x fp => ∃ h : EventH, cs = Event.list x h ∧ Event.Is w x h fp
theorem Event.Is.keep {w w' : World} {x : EventD} {h : EventH} {fp : List Nat} (hi : Event.Is w x h fp) (hf : ∀ b ∈ fp, w'.heap[b]? = w.heap[b]?) : Event.Is w' x h fp := by
  obtain ⟨f0, rfl, r0, u0, v0⟩ := hi
  exact ⟨_, rfl, r0.keep local_int (fun b hb => hf b (by simp [hb])), u0, v0⟩
theorem Event.Is.lt {w : World} {x : EventD} {h : EventH} {fp : List Nat} (hi : Event.Is w x h fp) : ∀ b ∈ fp, b < w.heap.size := by
  obtain ⟨f0, rfl, r0, u0, v0⟩ := hi
  intro b hb
  exact r0.lt local_int b hb
theorem Event.Is.below {w w' : World} {x : EventD} {h : EventH} {fp : List Nat} (hi : Event.Is w x h fp) (hb : Below w.heap.size w w') : Event.Is w' x h fp := hi.keep fun b hb' => hb.block b (hi.lt b hb')
theorem local_Event : Local REvent := ⟨fun ⟨h, e, hi⟩ hf => ⟨h, e, hi.keep hf⟩, fun ⟨_, _, hi⟩ => hi.lt⟩
def Event.sz (x : EventD) : Nat := x.ds.length

def CopiedEvent (w : World) (x : EventD) (e : Ending) (w' : World) : Prop := ∃ (h : EventH) (fp : List Nat), e = .returned (.agg (Event.list x h).toArray) ∧ Event.Is w' x h fp ∧ Own w.heap.size w' fp ∧ Below w.heap.size w w'
structure PartD where
  recs : List ByteArray
/-- The slices' own cells. -/
structure PartH where
  recsa : Option Addr
  recsl : Nat
  recsc : Nat
def Part.list (x : PartD) (h : PartH) : List Value := [.slice h.recsa h.recsl h.recsc]
def Part.Is (w : World) (x : PartD) (h : PartH) (fp : List Nat) : Prop := ∃ f0 : List Nat, fp = f0 ∧ GRow 1 RStr w h.recsa h.recsl x.recs f0 ∧ h.recsl ≤ h.recsc ∧ h.recsc ≤ 9223372036854775807
def RPart : Rel PartD := fun w cs x fp => ∃ h : PartH, cs = Part.list x h ∧ Part.Is w x h fp
theorem Part.Is.keep {w w' : World} {x : PartD} {h : PartH} {fp : List Nat} (hi : Part.Is w x h fp) (hf : ∀ b ∈ fp, w'.heap[b]? = w.heap[b]?) : Part.Is w' x h fp := by
  obtain ⟨f0, rfl, r0, u0, v0⟩ := hi
  exact ⟨_, rfl, r0.keep local_str (fun b hb => hf b (by simp [hb])), u0, v0⟩
theorem Part.Is.lt {w : World} {x : PartD} {h : PartH} {fp : List Nat} (hi : Part.Is w x h fp) : ∀ b ∈ fp, b < w.heap.size := by
  obtain ⟨f0, rfl, r0, u0, v0⟩ := hi
  intro b hb
  exact r0.lt local_str b hb
theorem Part.Is.below {w w' : World} {x : PartD} {h : PartH} {fp : List Nat} (hi : Part.Is w x h fp) (hb : Below w.heap.size w w') : Part.Is w' x h fp := hi.keep fun b hb' => hb.block b (hi.lt b hb')
theorem local_Part : Local RPart := ⟨fun ⟨h, e, hi⟩ hf => ⟨h, e, hi.keep hf⟩, fun ⟨_, _, hi⟩ => hi.lt⟩
def Part.sz (x : PartD) : Nat := szL ByteArray.size x.recs

def CopiedPart (w : World) (x : PartD) (e : Ending) (w' : World) : Prop := ∃ (h : PartH) (fp : List Nat), e = .returned (.agg (Part.list x h).toArray) ∧ Part.Is w' x h fp ∧ Own w.heap.size w' fp ∧ Below w.heap.size w w'
end Go.Proofs.YtemefahhogdoaaaDoor.dat
