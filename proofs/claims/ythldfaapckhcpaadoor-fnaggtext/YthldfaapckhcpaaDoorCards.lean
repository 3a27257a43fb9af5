/-
  DERIVED. GIVEN WITH THE SEED: THE CARDS: each row of YthldfaapckhcpaaDoorRows.lean that lists a variable, with what it lists TIED to the program's text (the seventh form; the later family's looks); each row that meets fmt, with fmt's text TOLD by the authors' own Lean function (tested against real Go, not proved from fmt's source: count such statements apart). THE CARD IS WHAT COUNTS. Prove the row's statement (the work); the ties are given (YthldfaapckhcpaaDoorTie.lean); close each card by the builder's one call (the guide's Derived/Test/ToyasCard.lean, 'card_holds'). Laid BY PROGRAM, IN A SANDBOX (cutbox-door.mjs). By AI agents, Wed Nov 11 2026. No macro, syntax, notation, axiom, sorry.
-/
import Derived.Test.YthldfaapckhcpaaDoorRows
import GoSem.ClaimSeven
namespace Go.Proofs.YthldfaapckhcpaaDoor
namespace Rows

/-- THE TIED CARD OF 'laws.FnAggText'. -/
def fnAggTextCard : Claim7 := { stood := { row := fnAggTextRow, standIns := [], harness := (true, "480f7f4a4fc66d52507a6dc1846adfb269501e23a7fd1c3c5f9b859b43567083"), looks := true }, kinds := [], alts := [], laidByText := true, laidKinds := [.data, .data, .data, .data, .sentinel, .sentinel, .pinned], laidTests := true, laidLooks := .later }
def FnAggTextCardSaid : Prop := Claim7.holds Tryd.pinned (.plain (OpenSpec.ofChange fnAggTextSpec)) fnAggTextCard

/-- THE TIED CARD OF 'laws.FnExactAggText'. -/
def fnExactAggTextCard : Claim7 := { stood := { row := fnExactAggTextRow, standIns := [], harness := (true, "480f7f4a4fc66d52507a6dc1846adfb269501e23a7fd1c3c5f9b859b43567083"), looks := true }, kinds := [], alts := [], laidByText := true, laidKinds := [.data, .data, .data], laidTests := true, laidLooks := .later }
def FnExactAggTextCardSaid : Prop := Claim7.holds Tryd.pinned (.plain (OpenSpec.ofChange fnExactAggTextSpec)) fnExactAggTextCard

/-- THE TIED CARD OF 'laws.FnExactAggRead'. -/
def fnExactAggReadCard : Claim7 := { stood := { row := fnExactAggReadRow, standIns := [], harness := (true, "480f7f4a4fc66d52507a6dc1846adfb269501e23a7fd1c3c5f9b859b43567083"), looks := true }, kinds := [], alts := [], laidByText := true, laidKinds := [.data, .data, .data, .data, .sentinel, .sentinel, .pinned], laidTests := true, laidLooks := .later }
def FnExactAggReadCardSaid : Prop := Claim7.holds Tryd.pinned (.plain (OpenSpec.ofChange fnExactAggReadSpec)) fnExactAggReadCard

/-- THE TIED CARD OF 'laws.FnExactNumText'. -/
def fnExactNumTextCard : Claim7 := { stood := { row := fnExactNumTextRow, standIns := [], harness := (true, "480f7f4a4fc66d52507a6dc1846adfb269501e23a7fd1c3c5f9b859b43567083"), looks := true }, kinds := [], alts := [], laidByText := true, laidKinds := [.data, .data, .data], laidTests := true, laidLooks := .later }
def FnExactNumTextCardSaid : Prop := Claim7.holds Tryd.pinned (.plain (OpenSpec.ofChange fnExactNumTextSpec)) fnExactNumTextCard

/-- THE SECOND FORM's CARD OF 'laws.FnAggText'. -/
def fnAggTextUptoCard : Claim7 := { stood := { row := fnAggTextUptoRow, standIns := [], harness := (true, "480f7f4a4fc66d52507a6dc1846adfb269501e23a7fd1c3c5f9b859b43567083"), looks := true }, kinds := [], alts := [], laidByText := true, laidKinds := [.data, .data, .data, .data, .sentinel, .sentinel, .pinned], laidTests := true, laidLooks := .later }
def FnAggTextUptoCardSaid : Prop := Claim7.holds Tryd.pinned (.plain (OpenSpec.upto fnAggTextSpec)) fnAggTextUptoCard

/-- THE SECOND FORM's CARD OF 'laws.FnExactAggText'. -/
def fnExactAggTextUptoCard : Claim7 := { stood := { row := fnExactAggTextUptoRow, standIns := [], harness := (true, "480f7f4a4fc66d52507a6dc1846adfb269501e23a7fd1c3c5f9b859b43567083"), looks := true }, kinds := [], alts := [], laidByText := true, laidKinds := [.data, .data, .data], laidTests := true, laidLooks := .later }
def FnExactAggTextUptoCardSaid : Prop := Claim7.holds Tryd.pinned (.plain (OpenSpec.upto fnExactAggTextSpec)) fnExactAggTextUptoCard

/-- THE SECOND FORM's CARD OF 'laws.FnExactAggRead'. -/
def fnExactAggReadUptoCard : Claim7 := { stood := { row := fnExactAggReadUptoRow, standIns := [], harness := (true, "480f7f4a4fc66d52507a6dc1846adfb269501e23a7fd1c3c5f9b859b43567083"), looks := true }, kinds := [], alts := [], laidByText := true, laidKinds := [.data, .data, .data, .data, .sentinel, .sentinel, .pinned], laidTests := true, laidLooks := .later }
def FnExactAggReadUptoCardSaid : Prop := Claim7.holds Tryd.pinned (.plain (OpenSpec.upto fnExactAggReadSpec)) fnExactAggReadUptoCard

/-- THE SECOND FORM's CARD OF 'laws.FnExactNumText'. -/
def fnExactNumTextUptoCard : Claim7 := { stood := { row := fnExactNumTextUptoRow, standIns := [], harness := (true, "480f7f4a4fc66d52507a6dc1846adfb269501e23a7fd1c3c5f9b859b43567083"), looks := true }, kinds := [], alts := [], laidByText := true, laidKinds := [.data, .data, .data], laidTests := true, laidLooks := .later }
def FnExactNumTextUptoCardSaid : Prop := Claim7.holds Tryd.pinned (.plain (OpenSpec.upto fnExactNumTextSpec)) fnExactNumTextUptoCard
end Rows
end Go.Proofs.YthldfaapckhcpaaDoor
