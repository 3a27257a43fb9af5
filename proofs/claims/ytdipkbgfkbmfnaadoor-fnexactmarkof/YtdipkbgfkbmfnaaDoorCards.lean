/-
  DERIVED. GIVEN WITH THE SEED: THE CARDS: each row of YtdipkbgfkbmfnaaDoorRows.lean that lists a variable, with what it lists TIED to the program's text (the seventh form; the later family's looks); each row that meets fmt, with fmt's text TOLD by the authors' own Lean function (tested against real Go, not proved from fmt's source: count such statements apart). THE CARD IS WHAT COUNTS. Prove the row's statement (the work); the ties are given (YtdipkbgfkbmfnaaDoorTie.lean); close each card by the builder's one call (the guide's Derived/Test/ToyasCard.lean, 'card_holds'). Laid BY PROGRAM, IN A SANDBOX (cutbox-door.mjs). By AI agents, Wed Nov 11 2026. No macro, syntax, notation, axiom, sorry.
-/
import Derived.Test.YtdipkbgfkbmfnaaDoorRows
import GoSem.ClaimSeven
namespace Go.Proofs.YtdipkbgfkbmfnaaDoor
namespace Rows

/-- THE TIED CARD OF 'laws.FnExactMarkOf'. -/
def fnExactMarkOfCard : Claim7 := { stood := { row := fnExactMarkOfRow, standIns := [], harness := (true, "964d3d89b7d0be0900706bcaa9a5cfe94e43a274767f86d299f9aabc1760f70f"), looks := true }, kinds := [], alts := [], laidByText := true, laidKinds := [.data, .data, .data, .sentinel, .sentinel], laidTests := true, laidLooks := .later }
def FnExactMarkOfCardSaid : Prop := Claim7.holds Tryd.pinned (.plain (OpenSpec.ofChange fnExactMarkOfSpec)) fnExactMarkOfCard

/-- THE SECOND FORM's CARD OF 'laws.FnExactMarkOf'. -/
def fnExactMarkOfUptoCard : Claim7 := { stood := { row := fnExactMarkOfUptoRow, standIns := [], harness := (true, "964d3d89b7d0be0900706bcaa9a5cfe94e43a274767f86d299f9aabc1760f70f"), looks := true }, kinds := [], alts := [], laidByText := true, laidKinds := [.data, .data, .data, .sentinel, .sentinel], laidTests := true, laidLooks := .later }
def FnExactMarkOfUptoCardSaid : Prop := Claim7.holds Tryd.pinned (.plain (OpenSpec.upto fnExactMarkOfSpec)) fnExactMarkOfUptoCard
end Rows
end Go.Proofs.YtdipkbgfkbmfnaaDoor
