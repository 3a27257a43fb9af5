/-
  No cell of these rows narrows 'for every input' (looked for: loops, veiled, ifaces, maps, wideKeys, modest, calm, conditions, laid).
  DERIVED. THE GIVEN ROWS OF THIS SEAT. 7 by the template 'for every input the law returns true; each argument reads behind the call as it read before'; 0 by the template 'total and deterministic' (their statements: YtpjimeanimghdaaTotals.lean).
  GIVEN WITH THE SEED: the statements are not yours to turn. If you find one false, say at which input.
  Laid BY PROGRAM, IN A SANDBOX (cutbox-rows.mjs): the forced cells as the released guide's own fill.sh prints them over the translation 37f4361d514fa998… (all of the seat's roots in one cut). By AI agents, Wed Nov 11 2026. No macro, syntax, notation, axiom, sorry.
-/
import Derived.Test.YtpjimeanimghdaaChecked
import GoSem.Claim
import GoSem.ClaimJoined
import GoSem.ClaimMapViews
import Derived.JoinedTies
import Derived.KernelRfl
namespace Go.Proofs.Ytpjimeanimghdaa
/- THE CELL 'sum', in the pinned program and in every row, IS THE sha256 OF THE DUMP (.gsa) THAT YtpjimeanimghdaaProg.lean LOADS. Nothing in Lean hashes anything: it is a label: what it is worth is what the hold of that sum in a sandbox is worth. -/
noncomputable def Try.pinned : Pinned := { name := "ytpjimeanimghdaa", sum := "37f4361d514fa99876b2551c9b338ffb7bcbe0c49cb8f4d8ee6fa5dfff0b0f29", checked := Try.checked }
namespace Rows
def none {H : Type} : Left H := { results := [], args := [] }

/-- 'laws.FnStarts': WHATEVER THE INPUT: true; the input reads as it did. -/
def fnStartsSpec : ChangeSpec := { name := "fnStarts", fn := fun _ => fun
  | [d] => { results := [.lit (.bool true)], args := [d] }
  | _ => none }
def fnStartsRow : OpenClaim := { program := "ytpjimeanimghdaa", sum := "37f4361d514fa99876b2551c9b338ffb7bcbe0c49cb8f4d8ee6fa5dfff0b0f29", func := "loop.example/g00552/laws.FnStarts", spec := "fnStarts", unfollowed := true, recurses := true, plainKeys := false, apart := false }
def FnStartsSaid : Prop := fnStartsRow.holds Try.pinned (OpenSpec.ofChange fnStartsSpec)

/-- ITS FALSE NEIGHBOUR: 'it returns false'. Refute it at one input. -/
def fnStartsWrong : ChangeSpec := { name := "fnStarts", fn := fun _ => fun
  | [d] => { results := [.lit (.bool false)], args := [d] }
  | _ => none }
def FnStartsWrongFalsely : Prop := fnStartsRow.holds Try.pinned (OpenSpec.ofChange fnStartsWrong)

/-- 'laws.FnKeys': WHATEVER THE INPUT: true; the input reads as it did. -/
def fnKeysSpec : ChangeSpec := { name := "fnKeys", fn := fun _ => fun
  | [d1, d2] => { results := [.lit (.bool true)], args := [d1, d2] }
  | _ => none }
def fnKeysRow : OpenClaim := { program := "ytpjimeanimghdaa", sum := "37f4361d514fa99876b2551c9b338ffb7bcbe0c49cb8f4d8ee6fa5dfff0b0f29", func := "loop.example/g00552/laws.FnKeys", spec := "fnKeys", unfollowed := true, recurses := true, plainKeys := false, apart := false }
def FnKeysSaid : Prop := fnKeysRow.holds Try.pinned (OpenSpec.ofChange fnKeysSpec)

/-- ITS FALSE NEIGHBOUR: 'it returns false'. Refute it at one input. -/
def fnKeysWrong : ChangeSpec := { name := "fnKeys", fn := fun _ => fun
  | [d1, d2] => { results := [.lit (.bool false)], args := [d1, d2] }
  | _ => none }
def FnKeysWrongFalsely : Prop := fnKeysRow.holds Try.pinned (OpenSpec.ofChange fnKeysWrong)

/-- 'laws.FnPanesAnyOrder': WHATEVER THE INPUT: true; the input reads as it did. -/
def fnPanesAnyOrderSpec : ChangeSpec := { name := "fnPanesAnyOrder", fn := fun _ => fun
  | [d1, d2] => { results := [.lit (.bool true)], args := [d1, d2] }
  | _ => none }
def fnPanesAnyOrderRow : OpenClaim := { program := "ytpjimeanimghdaa", sum := "37f4361d514fa99876b2551c9b338ffb7bcbe0c49cb8f4d8ee6fa5dfff0b0f29", func := "loop.example/g00552/laws.FnPanesAnyOrder", spec := "fnPanesAnyOrder", unfollowed := true, recurses := true, plainKeys := false, apart := false }
def FnPanesAnyOrderSaid : Prop := fnPanesAnyOrderRow.holds Try.pinned (OpenSpec.ofChange fnPanesAnyOrderSpec)

/-- ITS FALSE NEIGHBOUR: 'it returns false'. Refute it at one input. -/
def fnPanesAnyOrderWrong : ChangeSpec := { name := "fnPanesAnyOrder", fn := fun _ => fun
  | [d1, d2] => { results := [.lit (.bool false)], args := [d1, d2] }
  | _ => none }
def FnPanesAnyOrderWrongFalsely : Prop := fnPanesAnyOrderRow.holds Try.pinned (OpenSpec.ofChange fnPanesAnyOrderWrong)

/-- 'laws.FnExactStarts': WHATEVER THE INPUT: true; the input reads as it did. -/
def fnExactStartsSpec : ChangeSpec := { name := "fnExactStarts", fn := fun _ => fun
  | [d1, d2] => { results := [.lit (.bool true)], args := [d1, d2] }
  | _ => none }
def fnExactStartsRow : OpenClaim := { program := "ytpjimeanimghdaa", sum := "37f4361d514fa99876b2551c9b338ffb7bcbe0c49cb8f4d8ee6fa5dfff0b0f29", func := "loop.example/g00552/laws.FnExactStarts", spec := "fnExactStarts", unfollowed := true, recurses := true, plainKeys := false, apart := false }
def FnExactStartsSaid : Prop := fnExactStartsRow.holds Try.pinned (OpenSpec.ofChange fnExactStartsSpec)

/-- ITS FALSE NEIGHBOUR: 'it returns false'. Refute it at one input. -/
def fnExactStartsWrong : ChangeSpec := { name := "fnExactStarts", fn := fun _ => fun
  | [d1, d2] => { results := [.lit (.bool false)], args := [d1, d2] }
  | _ => none }
def FnExactStartsWrongFalsely : Prop := fnExactStartsRow.holds Try.pinned (OpenSpec.ofChange fnExactStartsWrong)

/-- 'laws.FnExactPaneCmp': WHATEVER THE INPUT: true; the input reads as it did. -/
def fnExactPaneCmpSpec : ChangeSpec := { name := "fnExactPaneCmp", fn := fun _ => fun
  | [d1, d2] => { results := [.lit (.bool true)], args := [d1, d2] }
  | _ => none }
def fnExactPaneCmpRow : OpenClaim := { program := "ytpjimeanimghdaa", sum := "37f4361d514fa99876b2551c9b338ffb7bcbe0c49cb8f4d8ee6fa5dfff0b0f29", func := "loop.example/g00552/laws.FnExactPaneCmp", spec := "fnExactPaneCmp", plainKeys := false, apart := false }
def FnExactPaneCmpSaid : Prop := fnExactPaneCmpRow.holds Try.pinned (OpenSpec.ofChange fnExactPaneCmpSpec)

/-- ITS FALSE NEIGHBOUR: 'it returns false'. Refute it at one input. -/
def fnExactPaneCmpWrong : ChangeSpec := { name := "fnExactPaneCmp", fn := fun _ => fun
  | [d1, d2] => { results := [.lit (.bool false)], args := [d1, d2] }
  | _ => none }
def FnExactPaneCmpWrongFalsely : Prop := fnExactPaneCmpRow.holds Try.pinned (OpenSpec.ofChange fnExactPaneCmpWrong)

/-- 'laws.FnExactPanesOk': WHATEVER THE INPUT: true; the input reads as it did. -/
def fnExactPanesOkSpec : ChangeSpec := { name := "fnExactPanesOk", fn := fun _ => fun
  | [d1, d2] => { results := [.lit (.bool true)], args := [d1, d2] }
  | _ => none }
def fnExactPanesOkRow : OpenClaim := { program := "ytpjimeanimghdaa", sum := "37f4361d514fa99876b2551c9b338ffb7bcbe0c49cb8f4d8ee6fa5dfff0b0f29", func := "loop.example/g00552/laws.FnExactPanesOk", spec := "fnExactPanesOk", unfollowed := true, recurses := true, plainKeys := false, apart := false }
def FnExactPanesOkSaid : Prop := fnExactPanesOkRow.holds Try.pinned (OpenSpec.ofChange fnExactPanesOkSpec)

/-- ITS FALSE NEIGHBOUR: 'it returns false'. Refute it at one input. -/
def fnExactPanesOkWrong : ChangeSpec := { name := "fnExactPanesOk", fn := fun _ => fun
  | [d1, d2] => { results := [.lit (.bool false)], args := [d1, d2] }
  | _ => none }
def FnExactPanesOkWrongFalsely : Prop := fnExactPanesOkRow.holds Try.pinned (OpenSpec.ofChange fnExactPanesOkWrong)

/-- 'laws.FnExactPaneAt': WHATEVER THE INPUT: true; the input reads as it did. -/
def fnExactPaneAtSpec : ChangeSpec := { name := "fnExactPaneAt", fn := fun _ => fun
  | [d1, d2, d3, d4, d5] => { results := [.lit (.bool true)], args := [d1, d2, d3, d4, d5] }
  | _ => none }
def fnExactPaneAtRow : OpenClaim := { program := "ytpjimeanimghdaa", sum := "37f4361d514fa99876b2551c9b338ffb7bcbe0c49cb8f4d8ee6fa5dfff0b0f29", func := "loop.example/g00552/laws.FnExactPaneAt", spec := "fnExactPaneAt", unfollowed := true, recurses := true, plainKeys := false, apart := false }
def FnExactPaneAtSaid : Prop := fnExactPaneAtRow.holds Try.pinned (OpenSpec.ofChange fnExactPaneAtSpec)

/-- ITS FALSE NEIGHBOUR: 'it returns false'. Refute it at one input. -/
def fnExactPaneAtWrong : ChangeSpec := { name := "fnExactPaneAt", fn := fun _ => fun
  | [d1, d2, d3, d4, d5] => { results := [.lit (.bool false)], args := [d1, d2, d3, d4, d5] }
  | _ => none }
def FnExactPaneAtWrongFalsely : Prop := fnExactPaneAtRow.holds Try.pinned (OpenSpec.ofChange fnExactPaneAtWrong)

/- THE SECOND FORM. 'bulk': how many values and letters a reading holds, each counted each time it is reached (what is shared counts as often as it is met; a slice's spare places count too). A statement '..UptoSaid' is the law's where the arguments, and the package variables that the reading takes, are together of bulk at most 1048576: NARROWER than '..Said'. Prove '..Said' where nothing that the law and all that it calls make is longer than what came in: it says more and counts as full. Else prove '..UptoSaid'. A law counts once. -/
mutual
def uptoBulk {H : Type} : DataW H → Nat
  | .lit (.string bytes) => bytes.length + 1
  | .lit _ => 1
  | .nil => 1
  | .ptr d => uptoBulk d + 1
  | .slice elems spare => uptoBulkAll elems + uptoBulkAll spare + 1
  | .agg parts => uptoBulkAll parts + 1
  | .iface _ d => uptoBulk d + 1
  | .map entries => uptoBulkEntries entries + 1
  | .held _ => 1
def uptoBulkAll {H : Type} : List (DataW H) → Nat
  | [] => 0
  | d :: r => uptoBulk d + uptoBulkAll r
def uptoBulkEntries {H : Type} : List (Lit × DataW H) → Nat
  | [] => 0
  | x :: r => uptoBulkEntry x + uptoBulkEntries r
def uptoBulkEntry {H : Type} : Lit × DataW H → Nat
  | (.string bytes, d) => bytes.length + uptoBulk d + 1
  | (_, d) => uptoBulk d + 1
 end
def uptoSmall : (H : Type) → List (DataW H) → Bool := fun _ ds => decide (uptoBulkAll ds ≤ 1048576)
def OpenSpec.upto (s : _root_.Go.ChangeSpec) : _root_.Go.OpenSpec := { _root_.Go.OpenSpec.ofChange s with cond := some uptoSmall }

/-- 'laws.FnStarts', WHERE WHAT IT READS IS OF BULK AT MOST 1048576: true; the input reads as it did. -/
def fnStartsUptoRow : OpenClaim := { program := "ytpjimeanimghdaa", sum := "37f4361d514fa99876b2551c9b338ffb7bcbe0c49cb8f4d8ee6fa5dfff0b0f29", func := "loop.example/g00552/laws.FnStarts", spec := "fnStarts", unfollowed := true, recurses := true, plainKeys := false, apart := false, narrowed := true }
def FnStartsUptoSaid : Prop := fnStartsUptoRow.holds Try.pinned (OpenSpec.upto fnStartsSpec)

/-- 'laws.FnKeys', WHERE WHAT IT READS IS OF BULK AT MOST 1048576: true; the input reads as it did. -/
def fnKeysUptoRow : OpenClaim := { program := "ytpjimeanimghdaa", sum := "37f4361d514fa99876b2551c9b338ffb7bcbe0c49cb8f4d8ee6fa5dfff0b0f29", func := "loop.example/g00552/laws.FnKeys", spec := "fnKeys", unfollowed := true, recurses := true, plainKeys := false, apart := false, narrowed := true }
def FnKeysUptoSaid : Prop := fnKeysUptoRow.holds Try.pinned (OpenSpec.upto fnKeysSpec)

/-- 'laws.FnPanesAnyOrder', WHERE WHAT IT READS IS OF BULK AT MOST 1048576: true; the input reads as it did. -/
def fnPanesAnyOrderUptoRow : OpenClaim := { program := "ytpjimeanimghdaa", sum := "37f4361d514fa99876b2551c9b338ffb7bcbe0c49cb8f4d8ee6fa5dfff0b0f29", func := "loop.example/g00552/laws.FnPanesAnyOrder", spec := "fnPanesAnyOrder", unfollowed := true, recurses := true, plainKeys := false, apart := false, narrowed := true }
def FnPanesAnyOrderUptoSaid : Prop := fnPanesAnyOrderUptoRow.holds Try.pinned (OpenSpec.upto fnPanesAnyOrderSpec)

/-- 'laws.FnExactStarts', WHERE WHAT IT READS IS OF BULK AT MOST 1048576: true; the input reads as it did. -/
def fnExactStartsUptoRow : OpenClaim := { program := "ytpjimeanimghdaa", sum := "37f4361d514fa99876b2551c9b338ffb7bcbe0c49cb8f4d8ee6fa5dfff0b0f29", func := "loop.example/g00552/laws.FnExactStarts", spec := "fnExactStarts", unfollowed := true, recurses := true, plainKeys := false, apart := false, narrowed := true }
def FnExactStartsUptoSaid : Prop := fnExactStartsUptoRow.holds Try.pinned (OpenSpec.upto fnExactStartsSpec)

/-- 'laws.FnExactPaneCmp', WHERE WHAT IT READS IS OF BULK AT MOST 1048576: true; the input reads as it did. -/
def fnExactPaneCmpUptoRow : OpenClaim := { program := "ytpjimeanimghdaa", sum := "37f4361d514fa99876b2551c9b338ffb7bcbe0c49cb8f4d8ee6fa5dfff0b0f29", func := "loop.example/g00552/laws.FnExactPaneCmp", spec := "fnExactPaneCmp", plainKeys := false, apart := false, narrowed := true }
def FnExactPaneCmpUptoSaid : Prop := fnExactPaneCmpUptoRow.holds Try.pinned (OpenSpec.upto fnExactPaneCmpSpec)

/-- 'laws.FnExactPanesOk', WHERE WHAT IT READS IS OF BULK AT MOST 1048576: true; the input reads as it did. -/
def fnExactPanesOkUptoRow : OpenClaim := { program := "ytpjimeanimghdaa", sum := "37f4361d514fa99876b2551c9b338ffb7bcbe0c49cb8f4d8ee6fa5dfff0b0f29", func := "loop.example/g00552/laws.FnExactPanesOk", spec := "fnExactPanesOk", unfollowed := true, recurses := true, plainKeys := false, apart := false, narrowed := true }
def FnExactPanesOkUptoSaid : Prop := fnExactPanesOkUptoRow.holds Try.pinned (OpenSpec.upto fnExactPanesOkSpec)

/-- 'laws.FnExactPaneAt', WHERE WHAT IT READS IS OF BULK AT MOST 1048576: true; the input reads as it did. -/
def fnExactPaneAtUptoRow : OpenClaim := { program := "ytpjimeanimghdaa", sum := "37f4361d514fa99876b2551c9b338ffb7bcbe0c49cb8f4d8ee6fa5dfff0b0f29", func := "loop.example/g00552/laws.FnExactPaneAt", spec := "fnExactPaneAt", unfollowed := true, recurses := true, plainKeys := false, apart := false, narrowed := true }
def FnExactPaneAtUptoSaid : Prop := fnExactPaneAtUptoRow.holds Try.pinned (OpenSpec.upto fnExactPaneAtSpec)

end Rows
end Go.Proofs.Ytpjimeanimghdaa
