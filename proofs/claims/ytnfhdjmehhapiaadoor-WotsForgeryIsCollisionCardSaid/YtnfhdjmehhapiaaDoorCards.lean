/-
  DERIVED. GIVEN WITH THE SEED: THE CARDS: each row of YtnfhdjmehhapiaaDoorRows.lean that lists a variable, with what it lists TIED to the program's text (the seventh form; the later family's looks); each row that meets fmt, with fmt's text TOLD by the authors' own Lean function (tested against real Go, not proved from fmt's source: count such statements apart). THE CARD IS WHAT COUNTS. Prove the row's statement (the work); the ties are given (YtnfhdjmehhapiaaDoorTie.lean); close each card by the builder's one call (the guide's Derived/Test/ToyasCard.lean, 'card_holds'). Laid BY PROGRAM, IN A SANDBOX (cutbox-door.mjs). By AI agents, Wed Nov 11 2026. No macro, syntax, notation, axiom, sorry.
-/
import Derived.Test.YtnfhdjmehhapiaaDoorRows
import GoSem.ClaimSeven
namespace Go.Proofs.YtnfhdjmehhapiaaDoor
namespace Rows

/-- THE TIED CARD OF 'crossbarlaw04.WotsMatchesNibbles'. -/
def wotsMatchesNibblesCard : Claim7 := { stood := { row := wotsMatchesNibblesRow, standIns := [], harness := (true, "b16441c46b8c71f6d4e3d2da5a76408a9a9d64e410eab9460e51d9016e9a312e"), looks := false }, kinds := [], alts := [], laidByText := true, laidKinds := [.data], laidTests := true, laidLooks := .later }
def WotsMatchesNibblesCardSaid : Prop := Claim7.holds Tryd.pinned (.plain (OpenSpec.ofChange wotsMatchesNibblesSpec)) wotsMatchesNibblesCard

/-- THE TIED CARD OF 'crossbarlaw04.WotsMatchesKeys'. -/
def wotsMatchesKeysCard : Claim7 := { stood := { row := wotsMatchesKeysRow, standIns := [], harness := (true, "b16441c46b8c71f6d4e3d2da5a76408a9a9d64e410eab9460e51d9016e9a312e"), looks := false }, kinds := [], alts := [], laidByText := true, laidKinds := [.data, .data, .data], laidTests := true, laidLooks := .later }
def WotsMatchesKeysCardSaid : Prop := Claim7.holds Tryd.pinned (.plain (OpenSpec.ofChange wotsMatchesKeysSpec)) wotsMatchesKeysCard

/-- THE TIED CARD OF 'crossbarlaw04.WotsMatchesRecovery'. -/
def wotsMatchesRecoveryCard : Claim7 := { stood := { row := wotsMatchesRecoveryRow, standIns := [], harness := (true, "b16441c46b8c71f6d4e3d2da5a76408a9a9d64e410eab9460e51d9016e9a312e"), looks := false }, kinds := [], alts := [], laidByText := true, laidKinds := [.data, .data, .data], laidTests := true, laidLooks := .later }
def WotsMatchesRecoveryCardSaid : Prop := Claim7.holds Tryd.pinned (.plain (OpenSpec.ofChange wotsMatchesRecoverySpec)) wotsMatchesRecoveryCard

/-- THE TIED CARD OF 'crossbarlaw04.WotsSignatureVerifies'. -/
def wotsSignatureVerifiesCard : Claim7 := { stood := { row := wotsSignatureVerifiesRow, standIns := [], harness := (true, "b16441c46b8c71f6d4e3d2da5a76408a9a9d64e410eab9460e51d9016e9a312e"), looks := false }, kinds := [], alts := [], laidByText := true, laidKinds := [.data], laidTests := true, laidLooks := .later }
def WotsSignatureVerifiesCardSaid : Prop := Claim7.holds Tryd.pinned (.plain (OpenSpec.ofChange wotsSignatureVerifiesSpec)) wotsSignatureVerifiesCard

/-- THE TIED CARD OF 'crossbarlaw04.WotsNibblesIncomparable'. -/
def wotsNibblesIncomparableCard : Claim7 := { stood := { row := wotsNibblesIncomparableRow, standIns := [], harness := (true, "b16441c46b8c71f6d4e3d2da5a76408a9a9d64e410eab9460e51d9016e9a312e"), looks := false }, kinds := [], alts := [], laidByText := true, laidKinds := [.data], laidTests := true, laidLooks := .later }
def WotsNibblesIncomparableCardSaid : Prop := Claim7.holds Tryd.pinned (.plain (OpenSpec.ofChange wotsNibblesIncomparableSpec)) wotsNibblesIncomparableCard

/-- THE TIED CARD OF 'crossbarlaw04.WotsChainsAdvance'. -/
def wotsChainsAdvanceCard : Claim7 := { stood := { row := wotsChainsAdvanceRow, standIns := [], harness := (true, "b16441c46b8c71f6d4e3d2da5a76408a9a9d64e410eab9460e51d9016e9a312e"), looks := false }, kinds := [], alts := [], laidByText := true, laidKinds := [.data], laidTests := true, laidLooks := .later }
def WotsChainsAdvanceCardSaid : Prop := Claim7.holds Tryd.pinned (.plain (OpenSpec.ofChange wotsChainsAdvanceSpec)) wotsChainsAdvanceCard

/-- THE TIED CARD OF 'crossbarlaw04.WotsForgeryIsCollision'. -/
def wotsForgeryIsCollisionCard : Claim7 := { stood := { row := wotsForgeryIsCollisionRow, standIns := [], harness := (true, "b16441c46b8c71f6d4e3d2da5a76408a9a9d64e410eab9460e51d9016e9a312e"), looks := false }, kinds := [], alts := [], laidByText := true, laidKinds := [.data], laidTests := true, laidLooks := .later }
def WotsForgeryIsCollisionCardSaid : Prop := Claim7.holds Tryd.pinned (.plain (OpenSpec.ofChange wotsForgeryIsCollisionSpec)) wotsForgeryIsCollisionCard

/-- THE TIED CARD OF 'crossbarlaw04.WotsSignedPrefix'. -/
def wotsSignedPrefixCard : Claim7 := { stood := { row := wotsSignedPrefixRow, standIns := [], harness := (true, "b16441c46b8c71f6d4e3d2da5a76408a9a9d64e410eab9460e51d9016e9a312e"), looks := false }, kinds := [], alts := [], laidByText := true, laidKinds := [.data], laidTests := true, laidLooks := .later }
def WotsSignedPrefixCardSaid : Prop := Claim7.holds Tryd.pinned (.plain (OpenSpec.ofChange wotsSignedPrefixSpec)) wotsSignedPrefixCard

/-- THE SECOND FORM's CARD OF 'crossbarlaw04.WotsMatchesNibbles'. -/
def wotsMatchesNibblesUptoCard : Claim7 := { stood := { row := wotsMatchesNibblesUptoRow, standIns := [], harness := (true, "b16441c46b8c71f6d4e3d2da5a76408a9a9d64e410eab9460e51d9016e9a312e"), looks := false }, kinds := [], alts := [], laidByText := true, laidKinds := [.data], laidTests := true, laidLooks := .later }
def WotsMatchesNibblesUptoCardSaid : Prop := Claim7.holds Tryd.pinned (.plain (OpenSpec.upto wotsMatchesNibblesSpec)) wotsMatchesNibblesUptoCard

/-- THE SECOND FORM's CARD OF 'crossbarlaw04.WotsMatchesKeys'. -/
def wotsMatchesKeysUptoCard : Claim7 := { stood := { row := wotsMatchesKeysUptoRow, standIns := [], harness := (true, "b16441c46b8c71f6d4e3d2da5a76408a9a9d64e410eab9460e51d9016e9a312e"), looks := false }, kinds := [], alts := [], laidByText := true, laidKinds := [.data, .data, .data], laidTests := true, laidLooks := .later }
def WotsMatchesKeysUptoCardSaid : Prop := Claim7.holds Tryd.pinned (.plain (OpenSpec.upto wotsMatchesKeysSpec)) wotsMatchesKeysUptoCard

/-- THE SECOND FORM's CARD OF 'crossbarlaw04.WotsMatchesRecovery'. -/
def wotsMatchesRecoveryUptoCard : Claim7 := { stood := { row := wotsMatchesRecoveryUptoRow, standIns := [], harness := (true, "b16441c46b8c71f6d4e3d2da5a76408a9a9d64e410eab9460e51d9016e9a312e"), looks := false }, kinds := [], alts := [], laidByText := true, laidKinds := [.data, .data, .data], laidTests := true, laidLooks := .later }
def WotsMatchesRecoveryUptoCardSaid : Prop := Claim7.holds Tryd.pinned (.plain (OpenSpec.upto wotsMatchesRecoverySpec)) wotsMatchesRecoveryUptoCard

/-- THE SECOND FORM's CARD OF 'crossbarlaw04.WotsSignatureVerifies'. -/
def wotsSignatureVerifiesUptoCard : Claim7 := { stood := { row := wotsSignatureVerifiesUptoRow, standIns := [], harness := (true, "b16441c46b8c71f6d4e3d2da5a76408a9a9d64e410eab9460e51d9016e9a312e"), looks := false }, kinds := [], alts := [], laidByText := true, laidKinds := [.data], laidTests := true, laidLooks := .later }
def WotsSignatureVerifiesUptoCardSaid : Prop := Claim7.holds Tryd.pinned (.plain (OpenSpec.upto wotsSignatureVerifiesSpec)) wotsSignatureVerifiesUptoCard

/-- THE SECOND FORM's CARD OF 'crossbarlaw04.WotsNibblesIncomparable'. -/
def wotsNibblesIncomparableUptoCard : Claim7 := { stood := { row := wotsNibblesIncomparableUptoRow, standIns := [], harness := (true, "b16441c46b8c71f6d4e3d2da5a76408a9a9d64e410eab9460e51d9016e9a312e"), looks := false }, kinds := [], alts := [], laidByText := true, laidKinds := [.data], laidTests := true, laidLooks := .later }
def WotsNibblesIncomparableUptoCardSaid : Prop := Claim7.holds Tryd.pinned (.plain (OpenSpec.upto wotsNibblesIncomparableSpec)) wotsNibblesIncomparableUptoCard

/-- THE SECOND FORM's CARD OF 'crossbarlaw04.WotsChainsAdvance'. -/
def wotsChainsAdvanceUptoCard : Claim7 := { stood := { row := wotsChainsAdvanceUptoRow, standIns := [], harness := (true, "b16441c46b8c71f6d4e3d2da5a76408a9a9d64e410eab9460e51d9016e9a312e"), looks := false }, kinds := [], alts := [], laidByText := true, laidKinds := [.data], laidTests := true, laidLooks := .later }
def WotsChainsAdvanceUptoCardSaid : Prop := Claim7.holds Tryd.pinned (.plain (OpenSpec.upto wotsChainsAdvanceSpec)) wotsChainsAdvanceUptoCard

/-- THE SECOND FORM's CARD OF 'crossbarlaw04.WotsForgeryIsCollision'. -/
def wotsForgeryIsCollisionUptoCard : Claim7 := { stood := { row := wotsForgeryIsCollisionUptoRow, standIns := [], harness := (true, "b16441c46b8c71f6d4e3d2da5a76408a9a9d64e410eab9460e51d9016e9a312e"), looks := false }, kinds := [], alts := [], laidByText := true, laidKinds := [.data], laidTests := true, laidLooks := .later }
def WotsForgeryIsCollisionUptoCardSaid : Prop := Claim7.holds Tryd.pinned (.plain (OpenSpec.upto wotsForgeryIsCollisionSpec)) wotsForgeryIsCollisionUptoCard

/-- THE SECOND FORM's CARD OF 'crossbarlaw04.WotsSignedPrefix'. -/
def wotsSignedPrefixUptoCard : Claim7 := { stood := { row := wotsSignedPrefixUptoRow, standIns := [], harness := (true, "b16441c46b8c71f6d4e3d2da5a76408a9a9d64e410eab9460e51d9016e9a312e"), looks := false }, kinds := [], alts := [], laidByText := true, laidKinds := [.data], laidTests := true, laidLooks := .later }
def WotsSignedPrefixUptoCardSaid : Prop := Claim7.holds Tryd.pinned (.plain (OpenSpec.upto wotsSignedPrefixSpec)) wotsSignedPrefixUptoCard
end Rows
end Go.Proofs.YtnfhdjmehhapiaaDoor
