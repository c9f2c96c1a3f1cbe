/-
  DERIVED. GIVEN WITH THE SEED: THE CARDS: each row of YtboeaeoefoabdaaDoorRows.lean that lists a variable, with what it lists TIED to the program's text (the seventh form; the later family's looks); each row that meets fmt, with fmt's text TOLD by the authors' own Lean function (tested against real Go, not proved from fmt's source: count such statements apart). THE CARD IS WHAT COUNTS. Prove the row's statement (the work); the ties are given (YtboeaeoefoabdaaDoorTie.lean); close each card by the builder's one call (the guide's Derived/Test/ToyasCard.lean, 'card_holds'). Laid BY PROGRAM, IN A SANDBOX (cutbox-door.mjs). By AI agents, Wed Nov 11 2026. No macro, syntax, notation, axiom, sorry.
-/
import Derived.Test.YtboeaeoefoabdaaDoorRows
import GoSem.ClaimSeven
namespace Go.Proofs.YtboeaeoefoabdaaDoor
namespace Rows

/-- THE TIED CARD OF 'laws.FnPins'. -/
def fnPinsCard : Claim7 := { stood := { row := fnPinsRow, standIns := [], harness := (true, "ea5a80880051e18a4186f727bbeb03bb33e20a5a5283f80c9435c1c7c6b1eabd"), looks := true }, kinds := [], alts := [], laidByText := true, laidKinds := [.data, .data, .data, .sentinel, .sentinel], laidTests := true, laidLooks := .later }
def FnPinsCardSaid : Prop := Claim7.holds Tryd.pinned (.plain (OpenSpec.ofChange fnPinsSpec)) fnPinsCard

/-- THE TIED CARD OF 'laws.FnExactReadPins'. -/
def fnExactReadPinsCard : Claim7 := { stood := { row := fnExactReadPinsRow, standIns := [], harness := (true, "ea5a80880051e18a4186f727bbeb03bb33e20a5a5283f80c9435c1c7c6b1eabd"), looks := true }, kinds := [], alts := [], laidByText := true, laidKinds := [.data, .data, .data, .sentinel, .sentinel], laidTests := true, laidLooks := .later }
def FnExactReadPinsCardSaid : Prop := Claim7.holds Tryd.pinned (.plain (OpenSpec.ofChange fnExactReadPinsSpec)) fnExactReadPinsCard

/-- THE SECOND FORM's CARD OF 'laws.FnPins'. -/
def fnPinsUptoCard : Claim7 := { stood := { row := fnPinsUptoRow, standIns := [], harness := (true, "ea5a80880051e18a4186f727bbeb03bb33e20a5a5283f80c9435c1c7c6b1eabd"), looks := true }, kinds := [], alts := [], laidByText := true, laidKinds := [.data, .data, .data, .sentinel, .sentinel], laidTests := true, laidLooks := .later }
def FnPinsUptoCardSaid : Prop := Claim7.holds Tryd.pinned (.plain (OpenSpec.upto fnPinsSpec)) fnPinsUptoCard

/-- THE SECOND FORM's CARD OF 'laws.FnExactReadPins'. -/
def fnExactReadPinsUptoCard : Claim7 := { stood := { row := fnExactReadPinsUptoRow, standIns := [], harness := (true, "ea5a80880051e18a4186f727bbeb03bb33e20a5a5283f80c9435c1c7c6b1eabd"), looks := true }, kinds := [], alts := [], laidByText := true, laidKinds := [.data, .data, .data, .sentinel, .sentinel], laidTests := true, laidLooks := .later }
def FnExactReadPinsUptoCardSaid : Prop := Claim7.holds Tryd.pinned (.plain (OpenSpec.upto fnExactReadPinsSpec)) fnExactReadPinsUptoCard
end Rows
end Go.Proofs.YtboeaeoefoabdaaDoor
