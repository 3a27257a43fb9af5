/-
  DERIVED. GIVEN WITH THE SEED: THE CARDS: each row of YtdipkbgfkbmfnaaGreatDoorRows.lean that lists a variable, with what it lists TIED to the program's text (the seventh form; the later family's looks); each row that meets fmt, with fmt's text TOLD by the authors' own Lean function (tested against real Go, not proved from fmt's source: count such statements apart). THE CARD IS WHAT COUNTS. Prove the row's statement (the work); the ties are given (YtdipkbgfkbmfnaaGreatDoorTie.lean); close each card by the builder's one call (the guide's Derived/Test/ToyasCard.lean, 'card_holds'). Laid BY PROGRAM, IN A SANDBOX (cutbox-door.mjs). By AI agents, Wed Nov 11 2026. No macro, syntax, notation, axiom, sorry.
-/
import Derived.Test.YtdipkbgfkbmfnaaGreatDoorRows
import GoSem.ClaimSeven
namespace Go.Proofs.YtdipkbgfkbmfnaaGreatDoor
namespace Rows

/-- THE TIED CARD OF 'laws.FnExactMergeOrder'. -/
def fnExactMergeOrderCard : Claim7 := { stood := { row := fnExactMergeOrderRow, standIns := [], harness := (true, "1fe14b433c648b6c19803a1e9adf6d17150888535f17d222768819f80a7d4542"), looks := true }, kinds := [], alts := [], laidByText := true, laidKinds := [.data, .data, .data, .sentinel, .sentinel], laidTests := true, laidLooks := .later }
def FnExactMergeOrderCardSaid : Prop := Claim7.holds Tryz.pinned (.plain (OpenSpec.ofChange fnExactMergeOrderSpec)) fnExactMergeOrderCard

/-- THE TIED CARD OF 'laws.FnExactOffsets'. -/
def fnExactOffsetsCard : Claim7 := { stood := { row := fnExactOffsetsRow, standIns := [], harness := (true, "1fe14b433c648b6c19803a1e9adf6d17150888535f17d222768819f80a7d4542"), looks := true }, kinds := [], alts := [], laidByText := true, laidKinds := [.data, .data, .data, .sentinel, .sentinel], laidTests := true, laidLooks := .later }
def FnExactOffsetsCardSaid : Prop := Claim7.holds Tryz.pinned (.plain (OpenSpec.ofChange fnExactOffsetsSpec)) fnExactOffsetsCard

/-- THE TIED CARD OF 'laws.FnExactMarkAt'. -/
def fnExactMarkAtCard : Claim7 := { stood := { row := fnExactMarkAtRow, standIns := [], harness := (true, "1fe14b433c648b6c19803a1e9adf6d17150888535f17d222768819f80a7d4542"), looks := true }, kinds := [], alts := [], laidByText := true, laidKinds := [.data, .data, .data, .sentinel, .sentinel], laidTests := true, laidLooks := .later }
def FnExactMarkAtCardSaid : Prop := Claim7.holds Tryz.pinned (.plain (OpenSpec.ofChange fnExactMarkAtSpec)) fnExactMarkAtCard

/-- THE TIED CARD OF 'laws.FnMerged'. -/
def fnMergedCard : Claim7 := { stood := { row := fnMergedRow, standIns := [], harness := (true, "1fe14b433c648b6c19803a1e9adf6d17150888535f17d222768819f80a7d4542"), looks := true }, kinds := [], alts := [], laidByText := true, laidKinds := [.data, .data, .data, .sentinel, .sentinel], laidTests := true, laidLooks := .later }
def FnMergedCardSaid : Prop := Claim7.holds Tryz.pinned (.plain (OpenSpec.ofChange fnMergedSpec)) fnMergedCard

/-- THE SECOND FORM's CARD OF 'laws.FnExactMergeOrder'. -/
def fnExactMergeOrderUptoCard : Claim7 := { stood := { row := fnExactMergeOrderUptoRow, standIns := [], harness := (true, "1fe14b433c648b6c19803a1e9adf6d17150888535f17d222768819f80a7d4542"), looks := true }, kinds := [], alts := [], laidByText := true, laidKinds := [.data, .data, .data, .sentinel, .sentinel], laidTests := true, laidLooks := .later }
def FnExactMergeOrderUptoCardSaid : Prop := Claim7.holds Tryz.pinned (.plain (OpenSpec.upto fnExactMergeOrderSpec)) fnExactMergeOrderUptoCard

/-- THE SECOND FORM's CARD OF 'laws.FnExactOffsets'. -/
def fnExactOffsetsUptoCard : Claim7 := { stood := { row := fnExactOffsetsUptoRow, standIns := [], harness := (true, "1fe14b433c648b6c19803a1e9adf6d17150888535f17d222768819f80a7d4542"), looks := true }, kinds := [], alts := [], laidByText := true, laidKinds := [.data, .data, .data, .sentinel, .sentinel], laidTests := true, laidLooks := .later }
def FnExactOffsetsUptoCardSaid : Prop := Claim7.holds Tryz.pinned (.plain (OpenSpec.upto fnExactOffsetsSpec)) fnExactOffsetsUptoCard

/-- THE SECOND FORM's CARD OF 'laws.FnExactMarkAt'. -/
def fnExactMarkAtUptoCard : Claim7 := { stood := { row := fnExactMarkAtUptoRow, standIns := [], harness := (true, "1fe14b433c648b6c19803a1e9adf6d17150888535f17d222768819f80a7d4542"), looks := true }, kinds := [], alts := [], laidByText := true, laidKinds := [.data, .data, .data, .sentinel, .sentinel], laidTests := true, laidLooks := .later }
def FnExactMarkAtUptoCardSaid : Prop := Claim7.holds Tryz.pinned (.plain (OpenSpec.upto fnExactMarkAtSpec)) fnExactMarkAtUptoCard

/-- THE SECOND FORM's CARD OF 'laws.FnMerged'. -/
def fnMergedUptoCard : Claim7 := { stood := { row := fnMergedUptoRow, standIns := [], harness := (true, "1fe14b433c648b6c19803a1e9adf6d17150888535f17d222768819f80a7d4542"), looks := true }, kinds := [], alts := [], laidByText := true, laidKinds := [.data, .data, .data, .sentinel, .sentinel], laidTests := true, laidLooks := .later }
def FnMergedUptoCardSaid : Prop := Claim7.holds Tryz.pinned (.plain (OpenSpec.upto fnMergedSpec)) fnMergedUptoCard
end Rows
end Go.Proofs.YtdipkbgfkbmfnaaGreatDoor
