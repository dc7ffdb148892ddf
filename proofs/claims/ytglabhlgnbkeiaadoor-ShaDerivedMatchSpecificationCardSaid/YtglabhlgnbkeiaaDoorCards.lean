/-
  DERIVED. GIVEN WITH THE SEED: THE CARDS: each row of YtglabhlgnbkeiaaDoorRows.lean that lists a variable, with what it lists TIED to the program's text (the seventh form; the later family's looks); each row that meets fmt, with fmt's text TOLD by the authors' own Lean function (tested against real Go, not proved from fmt's source: count such statements apart). THE CARD IS WHAT COUNTS. Prove the row's statement (the work); the ties are given (YtglabhlgnbkeiaaDoorTie.lean); close each card by the builder's one call (the guide's Derived/Test/ToyasCard.lean, 'card_holds'). Laid BY PROGRAM, IN A SANDBOX (cutbox-door.mjs). By AI agents, Wed Nov 11 2026. No macro, syntax, notation, axiom, sorry.
-/
import Derived.Test.YtglabhlgnbkeiaaDoorRows
import GoSem.ClaimSeven
namespace Go.Proofs.YtglabhlgnbkeiaaDoor
namespace Rows

/-- THE TIED CARD OF 'crossbarlaw03.ShaMatchesSpecification'. -/
def shaMatchesSpecificationCard : Claim7 := { stood := { row := shaMatchesSpecificationRow, standIns := [], harness := (true, "25a679fbdc025138fbc82fa9b1e4c5ccb0c53a6d290a99cb15f6bed7412382ac"), looks := false }, kinds := [], alts := [], laidByText := true, laidKinds := [.data, .data, .data], laidTests := true, laidLooks := .later }
def ShaMatchesSpecificationCardSaid : Prop := Claim7.holds Tryd.pinned (.plain (OpenSpec.ofChange shaMatchesSpecificationSpec)) shaMatchesSpecificationCard

/-- THE TIED CARD OF 'crossbarlaw03.ShaDerivedMatchSpecification'. -/
def shaDerivedMatchSpecificationCard : Claim7 := { stood := { row := shaDerivedMatchSpecificationRow, standIns := [], harness := (true, "25a679fbdc025138fbc82fa9b1e4c5ccb0c53a6d290a99cb15f6bed7412382ac"), looks := false }, kinds := [], alts := [], laidByText := true, laidKinds := [.data, .data, .data], laidTests := true, laidLooks := .later }
def ShaDerivedMatchSpecificationCardSaid : Prop := Claim7.holds Tryd.pinned (.plain (OpenSpec.ofChange shaDerivedMatchSpecificationSpec)) shaDerivedMatchSpecificationCard

/-- THE TIED CARD OF 'crossbarlaw03.ShaLengthExtension'. -/
def shaLengthExtensionCard : Claim7 := { stood := { row := shaLengthExtensionRow, standIns := [], harness := (true, "25a679fbdc025138fbc82fa9b1e4c5ccb0c53a6d290a99cb15f6bed7412382ac"), looks := false }, kinds := [], alts := [], laidByText := true, laidKinds := [.data, .data], laidTests := true, laidLooks := .later }
def ShaLengthExtensionCardSaid : Prop := Claim7.holds Tryd.pinned (.plain (OpenSpec.ofChange shaLengthExtensionSpec)) shaLengthExtensionCard

/-- THE TIED CARD OF 'crossbarlaw03.ShaTaggedIsPrefixedSum'. -/
def shaTaggedIsPrefixedSumCard : Claim7 := { stood := { row := shaTaggedIsPrefixedSumRow, standIns := [], harness := (true, "25a679fbdc025138fbc82fa9b1e4c5ccb0c53a6d290a99cb15f6bed7412382ac"), looks := false }, kinds := [], alts := [], laidByText := true, laidKinds := [.data], laidTests := true, laidLooks := .later }
def ShaTaggedIsPrefixedSumCardSaid : Prop := Claim7.holds Tryd.pinned (.plain (OpenSpec.ofChange shaTaggedIsPrefixedSumSpec)) shaTaggedIsPrefixedSumCard

/-- THE TIED CARD OF 'crossbarlaw03.ShaTagIsTruncated'. -/
def shaTagIsTruncatedCard : Claim7 := { stood := { row := shaTagIsTruncatedRow, standIns := [], harness := (true, "25a679fbdc025138fbc82fa9b1e4c5ccb0c53a6d290a99cb15f6bed7412382ac"), looks := false }, kinds := [], alts := [], laidByText := true, laidKinds := [.data], laidTests := true, laidLooks := .later }
def ShaTagIsTruncatedCardSaid : Prop := Claim7.holds Tryd.pinned (.plain (OpenSpec.ofChange shaTagIsTruncatedSpec)) shaTagIsTruncatedCard

/-- THE TIED CARD OF 'crossbarlaw03.ShaPairIsTagged'. -/
def shaPairIsTaggedCard : Claim7 := { stood := { row := shaPairIsTaggedRow, standIns := [], harness := (true, "25a679fbdc025138fbc82fa9b1e4c5ccb0c53a6d290a99cb15f6bed7412382ac"), looks := false }, kinds := [], alts := [], laidByText := true, laidKinds := [.data], laidTests := true, laidLooks := .later }
def ShaPairIsTaggedCardSaid : Prop := Claim7.holds Tryd.pinned (.plain (OpenSpec.ofChange shaPairIsTaggedSpec)) shaPairIsTaggedCard

/-- THE TIED CARD OF 'crossbarlaw03.ShaChainsCompose'. -/
def shaChainsComposeCard : Claim7 := { stood := { row := shaChainsComposeRow, standIns := [], harness := (true, "25a679fbdc025138fbc82fa9b1e4c5ccb0c53a6d290a99cb15f6bed7412382ac"), looks := false }, kinds := [], alts := [], laidByText := true, laidKinds := [.data], laidTests := true, laidLooks := .later }
def ShaChainsComposeCardSaid : Prop := Claim7.holds Tryd.pinned (.plain (OpenSpec.ofChange shaChainsComposeSpec)) shaChainsComposeCard

/-- THE TIED CARD OF 'crossbarlaw03.ShaChainSteps'. -/
def shaChainStepsCard : Claim7 := { stood := { row := shaChainStepsRow, standIns := [], harness := (true, "25a679fbdc025138fbc82fa9b1e4c5ccb0c53a6d290a99cb15f6bed7412382ac"), looks := false }, kinds := [], alts := [], laidByText := true, laidKinds := [.data], laidTests := true, laidLooks := .later }
def ShaChainStepsCardSaid : Prop := Claim7.holds Tryd.pinned (.plain (OpenSpec.ofChange shaChainStepsSpec)) shaChainStepsCard

/-- THE SECOND FORM's CARD OF 'crossbarlaw03.ShaMatchesSpecification'. -/
def shaMatchesSpecificationUptoCard : Claim7 := { stood := { row := shaMatchesSpecificationUptoRow, standIns := [], harness := (true, "25a679fbdc025138fbc82fa9b1e4c5ccb0c53a6d290a99cb15f6bed7412382ac"), looks := false }, kinds := [], alts := [], laidByText := true, laidKinds := [.data, .data, .data], laidTests := true, laidLooks := .later }
def ShaMatchesSpecificationUptoCardSaid : Prop := Claim7.holds Tryd.pinned (.plain (OpenSpec.upto shaMatchesSpecificationSpec)) shaMatchesSpecificationUptoCard

/-- THE SECOND FORM's CARD OF 'crossbarlaw03.ShaDerivedMatchSpecification'. -/
def shaDerivedMatchSpecificationUptoCard : Claim7 := { stood := { row := shaDerivedMatchSpecificationUptoRow, standIns := [], harness := (true, "25a679fbdc025138fbc82fa9b1e4c5ccb0c53a6d290a99cb15f6bed7412382ac"), looks := false }, kinds := [], alts := [], laidByText := true, laidKinds := [.data, .data, .data], laidTests := true, laidLooks := .later }
def ShaDerivedMatchSpecificationUptoCardSaid : Prop := Claim7.holds Tryd.pinned (.plain (OpenSpec.upto shaDerivedMatchSpecificationSpec)) shaDerivedMatchSpecificationUptoCard

/-- THE SECOND FORM's CARD OF 'crossbarlaw03.ShaLengthExtension'. -/
def shaLengthExtensionUptoCard : Claim7 := { stood := { row := shaLengthExtensionUptoRow, standIns := [], harness := (true, "25a679fbdc025138fbc82fa9b1e4c5ccb0c53a6d290a99cb15f6bed7412382ac"), looks := false }, kinds := [], alts := [], laidByText := true, laidKinds := [.data, .data], laidTests := true, laidLooks := .later }
def ShaLengthExtensionUptoCardSaid : Prop := Claim7.holds Tryd.pinned (.plain (OpenSpec.upto shaLengthExtensionSpec)) shaLengthExtensionUptoCard

/-- THE SECOND FORM's CARD OF 'crossbarlaw03.ShaTaggedIsPrefixedSum'. -/
def shaTaggedIsPrefixedSumUptoCard : Claim7 := { stood := { row := shaTaggedIsPrefixedSumUptoRow, standIns := [], harness := (true, "25a679fbdc025138fbc82fa9b1e4c5ccb0c53a6d290a99cb15f6bed7412382ac"), looks := false }, kinds := [], alts := [], laidByText := true, laidKinds := [.data], laidTests := true, laidLooks := .later }
def ShaTaggedIsPrefixedSumUptoCardSaid : Prop := Claim7.holds Tryd.pinned (.plain (OpenSpec.upto shaTaggedIsPrefixedSumSpec)) shaTaggedIsPrefixedSumUptoCard

/-- THE SECOND FORM's CARD OF 'crossbarlaw03.ShaTagIsTruncated'. -/
def shaTagIsTruncatedUptoCard : Claim7 := { stood := { row := shaTagIsTruncatedUptoRow, standIns := [], harness := (true, "25a679fbdc025138fbc82fa9b1e4c5ccb0c53a6d290a99cb15f6bed7412382ac"), looks := false }, kinds := [], alts := [], laidByText := true, laidKinds := [.data], laidTests := true, laidLooks := .later }
def ShaTagIsTruncatedUptoCardSaid : Prop := Claim7.holds Tryd.pinned (.plain (OpenSpec.upto shaTagIsTruncatedSpec)) shaTagIsTruncatedUptoCard

/-- THE SECOND FORM's CARD OF 'crossbarlaw03.ShaPairIsTagged'. -/
def shaPairIsTaggedUptoCard : Claim7 := { stood := { row := shaPairIsTaggedUptoRow, standIns := [], harness := (true, "25a679fbdc025138fbc82fa9b1e4c5ccb0c53a6d290a99cb15f6bed7412382ac"), looks := false }, kinds := [], alts := [], laidByText := true, laidKinds := [.data], laidTests := true, laidLooks := .later }
def ShaPairIsTaggedUptoCardSaid : Prop := Claim7.holds Tryd.pinned (.plain (OpenSpec.upto shaPairIsTaggedSpec)) shaPairIsTaggedUptoCard

/-- THE SECOND FORM's CARD OF 'crossbarlaw03.ShaChainsCompose'. -/
def shaChainsComposeUptoCard : Claim7 := { stood := { row := shaChainsComposeUptoRow, standIns := [], harness := (true, "25a679fbdc025138fbc82fa9b1e4c5ccb0c53a6d290a99cb15f6bed7412382ac"), looks := false }, kinds := [], alts := [], laidByText := true, laidKinds := [.data], laidTests := true, laidLooks := .later }
def ShaChainsComposeUptoCardSaid : Prop := Claim7.holds Tryd.pinned (.plain (OpenSpec.upto shaChainsComposeSpec)) shaChainsComposeUptoCard

/-- THE SECOND FORM's CARD OF 'crossbarlaw03.ShaChainSteps'. -/
def shaChainStepsUptoCard : Claim7 := { stood := { row := shaChainStepsUptoRow, standIns := [], harness := (true, "25a679fbdc025138fbc82fa9b1e4c5ccb0c53a6d290a99cb15f6bed7412382ac"), looks := false }, kinds := [], alts := [], laidByText := true, laidKinds := [.data], laidTests := true, laidLooks := .later }
def ShaChainStepsUptoCardSaid : Prop := Claim7.holds Tryd.pinned (.plain (OpenSpec.upto shaChainStepsSpec)) shaChainStepsUptoCard
end Rows
end Go.Proofs.YtglabhlgnbkeiaaDoor
