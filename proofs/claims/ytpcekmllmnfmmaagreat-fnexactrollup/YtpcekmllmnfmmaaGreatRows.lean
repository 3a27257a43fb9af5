/-
  No cell of these rows narrows 'for every input' (looked for: loops, veiled, ifaces, maps, wideKeys, modest, calm, conditions, laid).
  DERIVED. THE GIVEN ROWS OF THIS SEAT. 3 by the template 'for every input the law returns true; each argument reads behind the call as it read before'; 0 by the template 'total and deterministic' (their statements: YtpcekmllmnfmmaaGreatTotals.lean).
  GIVEN WITH THE SEED: the statements are not yours to turn. If you find one false, say at which input.
  Laid BY PROGRAM, IN A SANDBOX (cutbox-rows.mjs): the forced cells as the released guide's own fill.sh prints them over the translation 91a02fba4a2131e1… (all of the seat's roots in one cut). By AI agents, Wed Nov 11 2026. No macro, syntax, notation, axiom, sorry.
-/
import Derived.Test.YtpcekmllmnfmmaaGreatChecked
import GoSem.Claim
import GoSem.ClaimJoined
import GoSem.ClaimMapViews
import Derived.JoinedTies
import Derived.KernelRfl
namespace Go.Proofs.YtpcekmllmnfmmaaGreat
/- THE CELL 'sum', in the pinned program and in every row, IS THE sha256 OF THE DUMP (.gsa) THAT YtpcekmllmnfmmaaGreatProg.lean LOADS. Nothing in Lean hashes anything: it is a label: what it is worth is what the hold of that sum in a sandbox is worth. -/
noncomputable def Tryz.pinned : Pinned := { name := "ytpcekmllmnfmmaagreat", sum := "91a02fba4a2131e18738e17c35681629aa4e497c6e072d622a6d2f863aaa34c7", checked := Tryz.checked }
namespace Rows
def none {H : Type} : Left H := { results := [], args := [] }

/-- 'laws.FnExactRollUp': WHATEVER THE INPUT: true; the input reads as it did. -/
def fnExactRollUpSpec : ChangeSpec := { name := "fnExactRollUp", fn := fun _ => fun
  | [d1, d2, d3, d4] => { results := [.lit (.bool true)], args := [d1, d2, d3, d4] }
  | _ => none }
def fnExactRollUpRow : OpenClaim := { program := "ytpcekmllmnfmmaagreat", sum := "91a02fba4a2131e18738e17c35681629aa4e497c6e072d622a6d2f863aaa34c7", func := "loop.example/g00552/laws.FnExactRollUp", spec := "fnExactRollUp", unfollowed := true, recurses := true, plainKeys := false, apart := false }
def FnExactRollUpSaid : Prop := fnExactRollUpRow.holds Tryz.pinned (OpenSpec.ofChange fnExactRollUpSpec)

/-- ITS FALSE NEIGHBOUR: 'it returns false'. Refute it at one input. -/
def fnExactRollUpWrong : ChangeSpec := { name := "fnExactRollUp", fn := fun _ => fun
  | [d1, d2, d3, d4] => { results := [.lit (.bool false)], args := [d1, d2, d3, d4] }
  | _ => none }
def FnExactRollUpWrongFalsely : Prop := fnExactRollUpRow.holds Tryz.pinned (OpenSpec.ofChange fnExactRollUpWrong)

/-- 'laws.FnExactWiden': WHATEVER THE INPUT: true; the input reads as it did. -/
def fnExactWidenSpec : ChangeSpec := { name := "fnExactWiden", fn := fun _ => fun
  | [d1, d2, d3, d4] => { results := [.lit (.bool true)], args := [d1, d2, d3, d4] }
  | _ => none }
def fnExactWidenRow : OpenClaim := { program := "ytpcekmllmnfmmaagreat", sum := "91a02fba4a2131e18738e17c35681629aa4e497c6e072d622a6d2f863aaa34c7", func := "loop.example/g00552/laws.FnExactWiden", spec := "fnExactWiden", unfollowed := true, recurses := true, plainKeys := false, apart := false }
def FnExactWidenSaid : Prop := fnExactWidenRow.holds Tryz.pinned (OpenSpec.ofChange fnExactWidenSpec)

/-- ITS FALSE NEIGHBOUR: 'it returns false'. Refute it at one input. -/
def fnExactWidenWrong : ChangeSpec := { name := "fnExactWiden", fn := fun _ => fun
  | [d1, d2, d3, d4] => { results := [.lit (.bool false)], args := [d1, d2, d3, d4] }
  | _ => none }
def FnExactWidenWrongFalsely : Prop := fnExactWidenRow.holds Tryz.pinned (OpenSpec.ofChange fnExactWidenWrong)

/-- 'laws.FnExactPanesOf': WHATEVER THE INPUT: true; the input reads as it did. -/
def fnExactPanesOfSpec : ChangeSpec := { name := "fnExactPanesOf", fn := fun _ => fun
  | [d1, d2] => { results := [.lit (.bool true)], args := [d1, d2] }
  | _ => none }
def fnExactPanesOfRow : OpenClaim := { program := "ytpcekmllmnfmmaagreat", sum := "91a02fba4a2131e18738e17c35681629aa4e497c6e072d622a6d2f863aaa34c7", func := "loop.example/g00552/laws.FnExactPanesOf", spec := "fnExactPanesOf", unfollowed := true, recurses := true, plainKeys := false, apart := false }
def FnExactPanesOfSaid : Prop := fnExactPanesOfRow.holds Tryz.pinned (OpenSpec.ofChange fnExactPanesOfSpec)

/-- ITS FALSE NEIGHBOUR: 'it returns false'. Refute it at one input. -/
def fnExactPanesOfWrong : ChangeSpec := { name := "fnExactPanesOf", fn := fun _ => fun
  | [d1, d2] => { results := [.lit (.bool false)], args := [d1, d2] }
  | _ => none }
def FnExactPanesOfWrongFalsely : Prop := fnExactPanesOfRow.holds Tryz.pinned (OpenSpec.ofChange fnExactPanesOfWrong)

/- THE SECOND FORM. 'bulk': how many values and letters a reading holds, each counted each time it is reached (what is shared counts as often as it is met; a slice's spare places count too). A statement '..UptoSaid' is the law's where the arguments, and the package variables that the reading takes, are together of bulk at most 1048576: NARROWER than '..Said'. Prove '..Said' where nothing that the law and all that it calls make is longer than what came in: it says more and counts as full. Else prove '..UptoSaid'. A law counts once. -/
mutual
def uptoBulk {H : Type} : DataW H → Nat
  | .lit (.string bytes) => bytes.length + 1
  | .lit _ => 1
  | .nil => 1
  | .ptr d => uptoBulk d + 1
  | .slice elems spare => uptoBulkAll elems + uptoBulkAll spare + 1
  | .agg parts => uptoBulkAll parts + 1
  | .iface _ d => uptoBulk d + 1
  | .map entries => uptoBulkEntries entries + 1
  | .held _ => 1
def uptoBulkAll {H : Type} : List (DataW H) → Nat
  | [] => 0
  | d :: r => uptoBulk d + uptoBulkAll r
def uptoBulkEntries {H : Type} : List (Lit × DataW H) → Nat
  | [] => 0
  | x :: r => uptoBulkEntry x + uptoBulkEntries r
def uptoBulkEntry {H : Type} : Lit × DataW H → Nat
  | (.string bytes, d) => bytes.length + uptoBulk d + 1
  | (_, d) => uptoBulk d + 1
 end
def uptoSmall : (H : Type) → List (DataW H) → Bool := fun _ ds => decide (uptoBulkAll ds ≤ 1048576)
def OpenSpec.upto (s : _root_.Go.ChangeSpec) : _root_.Go.OpenSpec := { _root_.Go.OpenSpec.ofChange s with cond := some uptoSmall }

/-- 'laws.FnExactRollUp', WHERE WHAT IT READS IS OF BULK AT MOST 1048576: true; the input reads as it did. -/
def fnExactRollUpUptoRow : OpenClaim := { program := "ytpcekmllmnfmmaagreat", sum := "91a02fba4a2131e18738e17c35681629aa4e497c6e072d622a6d2f863aaa34c7", func := "loop.example/g00552/laws.FnExactRollUp", spec := "fnExactRollUp", unfollowed := true, recurses := true, plainKeys := false, apart := false, narrowed := true }
def FnExactRollUpUptoSaid : Prop := fnExactRollUpUptoRow.holds Tryz.pinned (OpenSpec.upto fnExactRollUpSpec)

/-- 'laws.FnExactWiden', WHERE WHAT IT READS IS OF BULK AT MOST 1048576: true; the input reads as it did. -/
def fnExactWidenUptoRow : OpenClaim := { program := "ytpcekmllmnfmmaagreat", sum := "91a02fba4a2131e18738e17c35681629aa4e497c6e072d622a6d2f863aaa34c7", func := "loop.example/g00552/laws.FnExactWiden", spec := "fnExactWiden", unfollowed := true, recurses := true, plainKeys := false, apart := false, narrowed := true }
def FnExactWidenUptoSaid : Prop := fnExactWidenUptoRow.holds Tryz.pinned (OpenSpec.upto fnExactWidenSpec)

/-- 'laws.FnExactPanesOf', WHERE WHAT IT READS IS OF BULK AT MOST 1048576: true; the input reads as it did. -/
def fnExactPanesOfUptoRow : OpenClaim := { program := "ytpcekmllmnfmmaagreat", sum := "91a02fba4a2131e18738e17c35681629aa4e497c6e072d622a6d2f863aaa34c7", func := "loop.example/g00552/laws.FnExactPanesOf", spec := "fnExactPanesOf", unfollowed := true, recurses := true, plainKeys := false, apart := false, narrowed := true }
def FnExactPanesOfUptoSaid : Prop := fnExactPanesOfUptoRow.holds Tryz.pinned (OpenSpec.upto fnExactPanesOfSpec)

end Rows
end Go.Proofs.YtpcekmllmnfmmaaGreat
