/-
  DERIVED. GIVEN WITH THE SEED: THE CARDS: each row of YtboeaeoefoabdaaGreatDoorRows.lean that lists a variable, with what it lists TIED to the program's text (the seventh form; the later family's looks); each row that meets fmt, with fmt's text TOLD by the authors' own Lean function (tested against real Go, not proved from fmt's source: count such statements apart). THE CARD IS WHAT COUNTS. Prove the row's statement (the work); the ties are given (YtboeaeoefoabdaaGreatDoorTie.lean); close each card by the builder's one call (the guide's Derived/Test/ToyasCard.lean, 'card_holds'). Laid BY PROGRAM, IN A SANDBOX (cutbox-door.mjs). By AI agents, Wed Nov 11 2026. No macro, syntax, notation, axiom, sorry.
-/
import Derived.Test.YtboeaeoefoabdaaGreatDoorRows
import GoSem.ClaimSeven
namespace Go.Proofs.YtboeaeoefoabdaaGreatDoor
namespace Rows

/-- THE TIED CARD OF 'laws.FnStory'. -/
def fnStoryCard : Claim7 := { stood := { row := fnStoryRow, standIns := [], harness := (true, "617c69ae3b0099d0d109d1fcd71da4b372753862b16d0398559d178ec522fcff"), looks := true }, kinds := [], alts := [], laidByText := true, laidKinds := [.data, .data, .data, .data, .handle, .sentinel, .sentinel, .pinned], laidTests := true, laidLooks := .later }
def FnStoryCardSaid : Prop := Claim7.holds Tryz.pinned (.plain (OpenSpec.ofChange fnStorySpec)) fnStoryCard

/-- THE TIED CARD OF 'laws.FnAsm'. -/
def fnAsmCard : Claim7 := { stood := { row := fnAsmRow, standIns := [], harness := (true, "617c69ae3b0099d0d109d1fcd71da4b372753862b16d0398559d178ec522fcff"), looks := true }, kinds := [], alts := [], laidByText := true, laidKinds := [.data, .data, .data, .data, .sentinel, .sentinel, .pinned], laidTests := true, laidLooks := .later }
def FnAsmCardSaid : Prop := Claim7.holds Tryz.pinned (.plain (OpenSpec.ofChange fnAsmSpec)) fnAsmCard

/-- THE TIED CARD OF 'laws.FnProgram'. -/
def fnProgramCard : Claim7 := { stood := { row := fnProgramRow, standIns := [], harness := (true, "617c69ae3b0099d0d109d1fcd71da4b372753862b16d0398559d178ec522fcff"), looks := true }, kinds := [], alts := [], laidByText := true, laidKinds := [.data, .data, .data, .data, .sentinel, .sentinel, .pinned], laidTests := true, laidLooks := .later }
def FnProgramCardSaid : Prop := Claim7.holds Tryz.pinned (.plain (OpenSpec.ofChange fnProgramSpec)) fnProgramCard

/-- THE TIED CARD OF 'laws.FnExactReadStory'. -/
def fnExactReadStoryCard : Claim7 := { stood := { row := fnExactReadStoryRow, standIns := [], harness := (true, "617c69ae3b0099d0d109d1fcd71da4b372753862b16d0398559d178ec522fcff"), looks := true }, kinds := [], alts := [], laidByText := true, laidKinds := [.data, .data, .data, .data, .handle, .sentinel, .sentinel, .pinned], laidTests := true, laidLooks := .later }
def FnExactReadStoryCardSaid : Prop := Claim7.holds Tryz.pinned (.plain (OpenSpec.ofChange fnExactReadStorySpec)) fnExactReadStoryCard

/-- THE TIED CARD OF 'laws.FnExactAsm'. -/
def fnExactAsmCard : Claim7 := { stood := { row := fnExactAsmRow, standIns := [], harness := (true, "617c69ae3b0099d0d109d1fcd71da4b372753862b16d0398559d178ec522fcff"), looks := true }, kinds := [], alts := [], laidByText := true, laidKinds := [.data, .data, .data, .data, .sentinel, .sentinel, .pinned], laidTests := true, laidLooks := .later }
def FnExactAsmCardSaid : Prop := Claim7.holds Tryz.pinned (.plain (OpenSpec.ofChange fnExactAsmSpec)) fnExactAsmCard

/-- THE TIED CARD OF 'laws.FnExactProgram'. -/
def fnExactProgramCard : Claim7 := { stood := { row := fnExactProgramRow, standIns := [], harness := (true, "617c69ae3b0099d0d109d1fcd71da4b372753862b16d0398559d178ec522fcff"), looks := true }, kinds := [], alts := [], laidByText := true, laidKinds := [.data, .data, .data, .data, .sentinel, .sentinel, .pinned], laidTests := true, laidLooks := .later }
def FnExactProgramCardSaid : Prop := Claim7.holds Tryz.pinned (.plain (OpenSpec.ofChange fnExactProgramSpec)) fnExactProgramCard

/-- THE SECOND FORM's CARD OF 'laws.FnStory'. -/
def fnStoryUptoCard : Claim7 := { stood := { row := fnStoryUptoRow, standIns := [], harness := (true, "617c69ae3b0099d0d109d1fcd71da4b372753862b16d0398559d178ec522fcff"), looks := true }, kinds := [], alts := [], laidByText := true, laidKinds := [.data, .data, .data, .data, .handle, .sentinel, .sentinel, .pinned], laidTests := true, laidLooks := .later }
def FnStoryUptoCardSaid : Prop := Claim7.holds Tryz.pinned (.plain (OpenSpec.upto fnStorySpec)) fnStoryUptoCard

/-- THE SECOND FORM's CARD OF 'laws.FnAsm'. -/
def fnAsmUptoCard : Claim7 := { stood := { row := fnAsmUptoRow, standIns := [], harness := (true, "617c69ae3b0099d0d109d1fcd71da4b372753862b16d0398559d178ec522fcff"), looks := true }, kinds := [], alts := [], laidByText := true, laidKinds := [.data, .data, .data, .data, .sentinel, .sentinel, .pinned], laidTests := true, laidLooks := .later }
def FnAsmUptoCardSaid : Prop := Claim7.holds Tryz.pinned (.plain (OpenSpec.upto fnAsmSpec)) fnAsmUptoCard

/-- THE SECOND FORM's CARD OF 'laws.FnProgram'. -/
def fnProgramUptoCard : Claim7 := { stood := { row := fnProgramUptoRow, standIns := [], harness := (true, "617c69ae3b0099d0d109d1fcd71da4b372753862b16d0398559d178ec522fcff"), looks := true }, kinds := [], alts := [], laidByText := true, laidKinds := [.data, .data, .data, .data, .sentinel, .sentinel, .pinned], laidTests := true, laidLooks := .later }
def FnProgramUptoCardSaid : Prop := Claim7.holds Tryz.pinned (.plain (OpenSpec.upto fnProgramSpec)) fnProgramUptoCard

/-- THE SECOND FORM's CARD OF 'laws.FnExactReadStory'. -/
def fnExactReadStoryUptoCard : Claim7 := { stood := { row := fnExactReadStoryUptoRow, standIns := [], harness := (true, "617c69ae3b0099d0d109d1fcd71da4b372753862b16d0398559d178ec522fcff"), looks := true }, kinds := [], alts := [], laidByText := true, laidKinds := [.data, .data, .data, .data, .handle, .sentinel, .sentinel, .pinned], laidTests := true, laidLooks := .later }
def FnExactReadStoryUptoCardSaid : Prop := Claim7.holds Tryz.pinned (.plain (OpenSpec.upto fnExactReadStorySpec)) fnExactReadStoryUptoCard

/-- THE SECOND FORM's CARD OF 'laws.FnExactAsm'. -/
def fnExactAsmUptoCard : Claim7 := { stood := { row := fnExactAsmUptoRow, standIns := [], harness := (true, "617c69ae3b0099d0d109d1fcd71da4b372753862b16d0398559d178ec522fcff"), looks := true }, kinds := [], alts := [], laidByText := true, laidKinds := [.data, .data, .data, .data, .sentinel, .sentinel, .pinned], laidTests := true, laidLooks := .later }
def FnExactAsmUptoCardSaid : Prop := Claim7.holds Tryz.pinned (.plain (OpenSpec.upto fnExactAsmSpec)) fnExactAsmUptoCard

/-- THE SECOND FORM's CARD OF 'laws.FnExactProgram'. -/
def fnExactProgramUptoCard : Claim7 := { stood := { row := fnExactProgramUptoRow, standIns := [], harness := (true, "617c69ae3b0099d0d109d1fcd71da4b372753862b16d0398559d178ec522fcff"), looks := true }, kinds := [], alts := [], laidByText := true, laidKinds := [.data, .data, .data, .data, .sentinel, .sentinel, .pinned], laidTests := true, laidLooks := .later }
def FnExactProgramUptoCardSaid : Prop := Claim7.holds Tryz.pinned (.plain (OpenSpec.upto fnExactProgramSpec)) fnExactProgramUptoCard
end Rows
end Go.Proofs.YtboeaeoefoabdaaGreatDoor
