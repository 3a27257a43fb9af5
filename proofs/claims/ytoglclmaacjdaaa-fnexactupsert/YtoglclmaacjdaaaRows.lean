/-
  No cell of these rows narrows 'for every input' (looked for: loops, veiled, ifaces, maps, wideKeys, modest, calm, conditions, laid).
  DERIVED. THE GIVEN ROWS OF THIS SEAT. 6 by the template 'for every input the law returns true; each argument reads behind the call as it read before'; 0 by the template 'total and deterministic' (their statements: YtoglclmaacjdaaaTotals.lean).
  GIVEN WITH THE SEED: the statements are not yours to turn. If you find one false, say at which input.
  Laid BY PROGRAM, IN A SANDBOX (cutbox-rows.mjs): the forced cells as the released guide's own fill.sh prints them over the translation 3c28add806c6e819… (all of the seat's roots in one cut). By AI agents, Wed Nov 11 2026. No macro, syntax, notation, axiom, sorry.
-/
import Derived.Test.YtoglclmaacjdaaaChecked
import GoSem.Claim
import GoSem.ClaimJoined
import GoSem.ClaimMapViews
import Derived.JoinedTies
import Derived.KernelRfl
namespace Go.Proofs.Ytoglclmaacjdaaa
/- THE CELL 'sum', in the pinned program and in every row, IS THE sha256 OF THE DUMP (.gsa) THAT YtoglclmaacjdaaaProg.lean LOADS. Nothing in Lean hashes anything: it is a label: what it is worth is what the hold of that sum in a sandbox is worth. -/
noncomputable def Try.pinned : Pinned := { name := "ytoglclmaacjdaaa", sum := "3c28add806c6e8191c1040b28be8eb3d899dea1ef6cab33a50ffbdba64c97705", checked := Try.checked }
namespace Rows
def none {H : Type} : Left H := { results := [], args := [] }

/-- 'laws.FnSynced': WHATEVER THE INPUT: true; the input reads as it did. -/
def fnSyncedSpec : ChangeSpec := { name := "fnSynced", fn := fun _ => fun
  | [d1, d2] => { results := [.lit (.bool true)], args := [d1, d2] }
  | _ => none }
def fnSyncedRow : OpenClaim := { program := "ytoglclmaacjdaaa", sum := "3c28add806c6e8191c1040b28be8eb3d899dea1ef6cab33a50ffbdba64c97705", func := "loop.example/g00552/laws.FnSynced", spec := "fnSynced", inPlace := ["internal/bytealg.abigen_runtime_cmpstring", "(*internal/sync.Mutex).Lock", "internal/race.Disable", "sync/atomic.CompareAndSwapInt32", "internal/race.Enable", "internal/race.Acquire", "(*internal/sync.Mutex).lockSlow", "internal/sync.runtime_canSpin", "internal/sync.runtime_doSpin", "internal/sync.throw", "internal/sync.runtime_nanotime", "internal/sync.runtime_SemacquireMutex", "sync/atomic.AddInt32", "(*internal/sync.Mutex).Unlock", "internal/race.ReleaseMerge", "(*internal/sync.Mutex).unlockSlow", "internal/sync.fatal", "internal/sync.runtime_Semrelease", "slices.overlaps[*loop.example/g00552/impl.named]"], unfollowed := true, recurses := true, apart := false }
def FnSyncedSaid : Prop := fnSyncedRow.holds Try.pinned (OpenSpec.ofChange fnSyncedSpec)

/-- ITS FALSE NEIGHBOUR: 'it returns false'. Refute it at one input. -/
def fnSyncedWrong : ChangeSpec := { name := "fnSynced", fn := fun _ => fun
  | [d1, d2] => { results := [.lit (.bool false)], args := [d1, d2] }
  | _ => none }
def FnSyncedWrongFalsely : Prop := fnSyncedRow.holds Try.pinned (OpenSpec.ofChange fnSyncedWrong)

/-- 'laws.FnDiskKept': WHATEVER THE INPUT: true; the input reads as it did. -/
def fnDiskKeptSpec : ChangeSpec := { name := "fnDiskKept", fn := fun _ => fun
  | [d] => { results := [.lit (.bool true)], args := [d] }
  | _ => none }
def fnDiskKeptRow : OpenClaim := { program := "ytoglclmaacjdaaa", sum := "3c28add806c6e8191c1040b28be8eb3d899dea1ef6cab33a50ffbdba64c97705", func := "loop.example/g00552/laws.FnDiskKept", spec := "fnDiskKept", inPlace := ["internal/bytealg.abigen_runtime_cmpstring", "slices.overlaps[*loop.example/g00552/impl.named]", "(*internal/sync.Mutex).Lock", "internal/race.Disable", "sync/atomic.CompareAndSwapInt32", "internal/race.Enable", "internal/race.Acquire", "(*internal/sync.Mutex).lockSlow", "internal/sync.runtime_canSpin", "internal/sync.runtime_doSpin", "internal/sync.throw", "internal/sync.runtime_nanotime", "internal/sync.runtime_SemacquireMutex", "sync/atomic.AddInt32", "(*internal/sync.Mutex).Unlock", "internal/race.ReleaseMerge", "(*internal/sync.Mutex).unlockSlow", "internal/sync.fatal", "internal/sync.runtime_Semrelease"], unfollowed := true, recurses := true, apart := false }
def FnDiskKeptSaid : Prop := fnDiskKeptRow.holds Try.pinned (OpenSpec.ofChange fnDiskKeptSpec)

/-- ITS FALSE NEIGHBOUR: 'it returns false'. Refute it at one input. -/
def fnDiskKeptWrong : ChangeSpec := { name := "fnDiskKept", fn := fun _ => fun
  | [d] => { results := [.lit (.bool false)], args := [d] }
  | _ => none }
def FnDiskKeptWrongFalsely : Prop := fnDiskKeptRow.holds Try.pinned (OpenSpec.ofChange fnDiskKeptWrong)

/-- 'laws.FnSink': WHATEVER THE INPUT: true; the input reads as it did. -/
def fnSinkSpec : ChangeSpec := { name := "fnSink", fn := fun _ => fun
  | [d] => { results := [.lit (.bool true)], args := [d] }
  | _ => none }
def fnSinkRow : OpenClaim := { program := "ytoglclmaacjdaaa", sum := "3c28add806c6e8191c1040b28be8eb3d899dea1ef6cab33a50ffbdba64c97705", func := "loop.example/g00552/laws.FnSink", spec := "fnSink", inPlace := ["slices.overlaps[loop.example/g00552/impl.Row]"], apart := false }
def FnSinkSaid : Prop := fnSinkRow.holds Try.pinned (OpenSpec.ofChange fnSinkSpec)

/-- ITS FALSE NEIGHBOUR: 'it returns false'. Refute it at one input. -/
def fnSinkWrong : ChangeSpec := { name := "fnSink", fn := fun _ => fun
  | [d] => { results := [.lit (.bool false)], args := [d] }
  | _ => none }
def FnSinkWrongFalsely : Prop := fnSinkRow.holds Try.pinned (OpenSpec.ofChange fnSinkWrong)

/-- 'laws.FnExactFrameOk': WHATEVER THE INPUT: true; the input reads as it did. -/
def fnExactFrameOkSpec : ChangeSpec := { name := "fnExactFrameOk", fn := fun _ => fun
  | [d1, d2] => { results := [.lit (.bool true)], args := [d1, d2] }
  | _ => none }
def fnExactFrameOkRow : OpenClaim := { program := "ytoglclmaacjdaaa", sum := "3c28add806c6e8191c1040b28be8eb3d899dea1ef6cab33a50ffbdba64c97705", func := "loop.example/g00552/laws.FnExactFrameOk", spec := "fnExactFrameOk", unfollowed := true, recurses := true, apart := false }
def FnExactFrameOkSaid : Prop := fnExactFrameOkRow.holds Try.pinned (OpenSpec.ofChange fnExactFrameOkSpec)

/-- ITS FALSE NEIGHBOUR: 'it returns false'. Refute it at one input. -/
def fnExactFrameOkWrong : ChangeSpec := { name := "fnExactFrameOk", fn := fun _ => fun
  | [d1, d2] => { results := [.lit (.bool false)], args := [d1, d2] }
  | _ => none }
def FnExactFrameOkWrongFalsely : Prop := fnExactFrameOkRow.holds Try.pinned (OpenSpec.ofChange fnExactFrameOkWrong)

/-- 'laws.FnExactUpsert': WHATEVER THE INPUT: true; the input reads as it did. -/
def fnExactUpsertSpec : ChangeSpec := { name := "fnExactUpsert", fn := fun _ => fun
  | [d1, d2] => { results := [.lit (.bool true)], args := [d1, d2] }
  | _ => none }
def fnExactUpsertRow : OpenClaim := { program := "ytoglclmaacjdaaa", sum := "3c28add806c6e8191c1040b28be8eb3d899dea1ef6cab33a50ffbdba64c97705", func := "loop.example/g00552/laws.FnExactUpsert", spec := "fnExactUpsert", inPlace := ["slices.overlaps[loop.example/g00552/impl.Row]"], apart := false }
def FnExactUpsertSaid : Prop := fnExactUpsertRow.holds Try.pinned (OpenSpec.ofChange fnExactUpsertSpec)

/-- ITS FALSE NEIGHBOUR: 'it returns false'. Refute it at one input. -/
def fnExactUpsertWrong : ChangeSpec := { name := "fnExactUpsert", fn := fun _ => fun
  | [d1, d2] => { results := [.lit (.bool false)], args := [d1, d2] }
  | _ => none }
def FnExactUpsertWrongFalsely : Prop := fnExactUpsertRow.holds Try.pinned (OpenSpec.ofChange fnExactUpsertWrong)

/-- 'laws.FnExactSinkOf': WHATEVER THE INPUT: true; the input reads as it did. -/
def fnExactSinkOfSpec : ChangeSpec := { name := "fnExactSinkOf", fn := fun _ => fun
  | [d] => { results := [.lit (.bool true)], args := [d] }
  | _ => none }
def fnExactSinkOfRow : OpenClaim := { program := "ytoglclmaacjdaaa", sum := "3c28add806c6e8191c1040b28be8eb3d899dea1ef6cab33a50ffbdba64c97705", func := "loop.example/g00552/laws.FnExactSinkOf", spec := "fnExactSinkOf", inPlace := ["slices.overlaps[loop.example/g00552/impl.Row]"], apart := false }
def FnExactSinkOfSaid : Prop := fnExactSinkOfRow.holds Try.pinned (OpenSpec.ofChange fnExactSinkOfSpec)

/-- ITS FALSE NEIGHBOUR: 'it returns false'. Refute it at one input. -/
def fnExactSinkOfWrong : ChangeSpec := { name := "fnExactSinkOf", fn := fun _ => fun
  | [d] => { results := [.lit (.bool false)], args := [d] }
  | _ => none }
def FnExactSinkOfWrongFalsely : Prop := fnExactSinkOfRow.holds Try.pinned (OpenSpec.ofChange fnExactSinkOfWrong)

/- THE SECOND FORM. 'bulk': how many values and letters a reading holds, each counted each time it is reached (what is shared counts as often as it is met; a slice's spare places count too). A statement '..UptoSaid' is the law's where the arguments, and the package variables that the reading takes, are together of bulk at most 1048576: NARROWER than '..Said'. Prove '..Said' where nothing that the law and all that it calls make is longer than what came in: it says more and counts as full. Else prove '..UptoSaid'. A law counts once. -/
mutual
def uptoBulk {H : Type} : DataW H → Nat
  | .lit (.string bytes) => bytes.length + 1
  | .lit _ => 1
  | .nil => 1
  | .ptr d => uptoBulk d + 1
  | .slice elems spare => uptoBulkAll elems + uptoBulkAll spare + 1
  | .agg parts => uptoBulkAll parts + 1
  | .iface _ d => uptoBulk d + 1
  | .map entries => uptoBulkEntries entries + 1
  | .held _ => 1
def uptoBulkAll {H : Type} : List (DataW H) → Nat
  | [] => 0
  | d :: r => uptoBulk d + uptoBulkAll r
def uptoBulkEntries {H : Type} : List (Lit × DataW H) → Nat
  | [] => 0
  | x :: r => uptoBulkEntry x + uptoBulkEntries r
def uptoBulkEntry {H : Type} : Lit × DataW H → Nat
  | (.string bytes, d) => bytes.length + uptoBulk d + 1
  | (_, d) => uptoBulk d + 1
 end
def uptoSmall : (H : Type) → List (DataW H) → Bool := fun _ ds => decide (uptoBulkAll ds ≤ 1048576)
def OpenSpec.upto (s : _root_.Go.ChangeSpec) : _root_.Go.OpenSpec := { _root_.Go.OpenSpec.ofChange s with cond := some uptoSmall }

/-- 'laws.FnSynced', WHERE WHAT IT READS IS OF BULK AT MOST 1048576: true; the input reads as it did. -/
def fnSyncedUptoRow : OpenClaim := { program := "ytoglclmaacjdaaa", sum := "3c28add806c6e8191c1040b28be8eb3d899dea1ef6cab33a50ffbdba64c97705", func := "loop.example/g00552/laws.FnSynced", spec := "fnSynced", inPlace := ["internal/bytealg.abigen_runtime_cmpstring", "(*internal/sync.Mutex).Lock", "internal/race.Disable", "sync/atomic.CompareAndSwapInt32", "internal/race.Enable", "internal/race.Acquire", "(*internal/sync.Mutex).lockSlow", "internal/sync.runtime_canSpin", "internal/sync.runtime_doSpin", "internal/sync.throw", "internal/sync.runtime_nanotime", "internal/sync.runtime_SemacquireMutex", "sync/atomic.AddInt32", "(*internal/sync.Mutex).Unlock", "internal/race.ReleaseMerge", "(*internal/sync.Mutex).unlockSlow", "internal/sync.fatal", "internal/sync.runtime_Semrelease", "slices.overlaps[*loop.example/g00552/impl.named]"], unfollowed := true, recurses := true, apart := false, narrowed := true }
def FnSyncedUptoSaid : Prop := fnSyncedUptoRow.holds Try.pinned (OpenSpec.upto fnSyncedSpec)

/-- 'laws.FnDiskKept', WHERE WHAT IT READS IS OF BULK AT MOST 1048576: true; the input reads as it did. -/
def fnDiskKeptUptoRow : OpenClaim := { program := "ytoglclmaacjdaaa", sum := "3c28add806c6e8191c1040b28be8eb3d899dea1ef6cab33a50ffbdba64c97705", func := "loop.example/g00552/laws.FnDiskKept", spec := "fnDiskKept", inPlace := ["internal/bytealg.abigen_runtime_cmpstring", "slices.overlaps[*loop.example/g00552/impl.named]", "(*internal/sync.Mutex).Lock", "internal/race.Disable", "sync/atomic.CompareAndSwapInt32", "internal/race.Enable", "internal/race.Acquire", "(*internal/sync.Mutex).lockSlow", "internal/sync.runtime_canSpin", "internal/sync.runtime_doSpin", "internal/sync.throw", "internal/sync.runtime_nanotime", "internal/sync.runtime_SemacquireMutex", "sync/atomic.AddInt32", "(*internal/sync.Mutex).Unlock", "internal/race.ReleaseMerge", "(*internal/sync.Mutex).unlockSlow", "internal/sync.fatal", "internal/sync.runtime_Semrelease"], unfollowed := true, recurses := true, apart := false, narrowed := true }
def FnDiskKeptUptoSaid : Prop := fnDiskKeptUptoRow.holds Try.pinned (OpenSpec.upto fnDiskKeptSpec)

/-- 'laws.FnSink', WHERE WHAT IT READS IS OF BULK AT MOST 1048576: true; the input reads as it did. -/
def fnSinkUptoRow : OpenClaim := { program := "ytoglclmaacjdaaa", sum := "3c28add806c6e8191c1040b28be8eb3d899dea1ef6cab33a50ffbdba64c97705", func := "loop.example/g00552/laws.FnSink", spec := "fnSink", inPlace := ["slices.overlaps[loop.example/g00552/impl.Row]"], apart := false, narrowed := true }
def FnSinkUptoSaid : Prop := fnSinkUptoRow.holds Try.pinned (OpenSpec.upto fnSinkSpec)

/-- 'laws.FnExactFrameOk', WHERE WHAT IT READS IS OF BULK AT MOST 1048576: true; the input reads as it did. -/
def fnExactFrameOkUptoRow : OpenClaim := { program := "ytoglclmaacjdaaa", sum := "3c28add806c6e8191c1040b28be8eb3d899dea1ef6cab33a50ffbdba64c97705", func := "loop.example/g00552/laws.FnExactFrameOk", spec := "fnExactFrameOk", unfollowed := true, recurses := true, apart := false, narrowed := true }
def FnExactFrameOkUptoSaid : Prop := fnExactFrameOkUptoRow.holds Try.pinned (OpenSpec.upto fnExactFrameOkSpec)

/-- 'laws.FnExactUpsert', WHERE WHAT IT READS IS OF BULK AT MOST 1048576: true; the input reads as it did. -/
def fnExactUpsertUptoRow : OpenClaim := { program := "ytoglclmaacjdaaa", sum := "3c28add806c6e8191c1040b28be8eb3d899dea1ef6cab33a50ffbdba64c97705", func := "loop.example/g00552/laws.FnExactUpsert", spec := "fnExactUpsert", inPlace := ["slices.overlaps[loop.example/g00552/impl.Row]"], apart := false, narrowed := true }
def FnExactUpsertUptoSaid : Prop := fnExactUpsertUptoRow.holds Try.pinned (OpenSpec.upto fnExactUpsertSpec)

/-- 'laws.FnExactSinkOf', WHERE WHAT IT READS IS OF BULK AT MOST 1048576: true; the input reads as it did. -/
def fnExactSinkOfUptoRow : OpenClaim := { program := "ytoglclmaacjdaaa", sum := "3c28add806c6e8191c1040b28be8eb3d899dea1ef6cab33a50ffbdba64c97705", func := "loop.example/g00552/laws.FnExactSinkOf", spec := "fnExactSinkOf", inPlace := ["slices.overlaps[loop.example/g00552/impl.Row]"], apart := false, narrowed := true }
def FnExactSinkOfUptoSaid : Prop := fnExactSinkOfUptoRow.holds Try.pinned (OpenSpec.upto fnExactSinkOfSpec)

end Rows
end Go.Proofs.Ytoglclmaacjdaaa
