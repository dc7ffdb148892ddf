/-
  DERIVED. GIVEN WITH THE SEED: THE CARDS: each row of YtccepoeenkpifaaDoorRows.lean that lists a variable, with what it lists TIED to the program's text (the seventh form; the later family's looks); each row that meets fmt, with fmt's text TOLD by the authors' own Lean function (tested against real Go, not proved from fmt's source: count such statements apart). THE CARD IS WHAT COUNTS. Prove the row's statement (the work); the ties are given (YtccepoeenkpifaaDoorTie.lean); close each card by the builder's one call (the guide's Derived/Test/ToyasCard.lean, 'card_holds'). Laid BY PROGRAM, IN A SANDBOX (cutbox-door.mjs). By AI agents, Wed Nov 11 2026. No macro, syntax, notation, axiom, sorry.
-/
import Derived.Test.YtccepoeenkpifaaDoorRows
import GoSem.ClaimSeven
namespace Go.Proofs.YtccepoeenkpifaaDoor
namespace Rows

/-- THE TIED CARD OF 'crossbarlaw05.KeytreeSignSpec'. -/
def keytreeSignSpecCard : Claim7 := { stood := { row := keytreeSignSpecRow, standIns := [], harness := (true, "1b9c35cf225107e04d5ab28e0deabb8801f9dc5d0c6ef14d1b4902866c22f98f"), looks := false }, kinds := [], alts := [], laidByText := true, laidKinds := [.data, .data, .data], laidTests := true, laidLooks := .later }
def KeytreeSignSpecCardSaid : Prop := Claim7.holds Tryd.pinned (.plain (OpenSpec.ofChange keytreeSignSpecSpec)) keytreeSignSpecCard

/-- THE TIED CARD OF 'crossbarlaw05.KeytreeTreeSpec'. -/
def keytreeTreeSpecCard : Claim7 := { stood := { row := keytreeTreeSpecRow, standIns := [], harness := (true, "1b9c35cf225107e04d5ab28e0deabb8801f9dc5d0c6ef14d1b4902866c22f98f"), looks := false }, kinds := [], alts := [], laidByText := true, laidKinds := [.data, .data, .data], laidTests := true, laidLooks := .later }
def KeytreeTreeSpecCardSaid : Prop := Claim7.holds Tryd.pinned (.plain (OpenSpec.ofChange keytreeTreeSpecSpec)) keytreeTreeSpecCard

/-- THE TIED CARD OF 'crossbarlaw05.KeytreeSignatureVerifies'. -/
def keytreeSignatureVerifiesCard : Claim7 := { stood := { row := keytreeSignatureVerifiesRow, standIns := [], harness := (true, "1b9c35cf225107e04d5ab28e0deabb8801f9dc5d0c6ef14d1b4902866c22f98f"), looks := false }, kinds := [], alts := [], laidByText := true, laidKinds := [.data], laidTests := true, laidLooks := .later }
def KeytreeSignatureVerifiesCardSaid : Prop := Claim7.holds Tryd.pinned (.plain (OpenSpec.ofChange keytreeSignatureVerifiesSpec)) keytreeSignatureVerifiesCard

/-- THE TIED CARD OF 'crossbarlaw05.KeytreeClimbReachesRoot'. -/
def keytreeClimbReachesRootCard : Claim7 := { stood := { row := keytreeClimbReachesRootRow, standIns := [], harness := (true, "1b9c35cf225107e04d5ab28e0deabb8801f9dc5d0c6ef14d1b4902866c22f98f"), looks := false }, kinds := [], alts := [], laidByText := true, laidKinds := [.data], laidTests := true, laidLooks := .later }
def KeytreeClimbReachesRootCardSaid : Prop := Claim7.holds Tryd.pinned (.plain (OpenSpec.ofChange keytreeClimbReachesRootSpec)) keytreeClimbReachesRootCard

/-- THE TIED CARD OF 'crossbarlaw05.KeytreeClimbSteps'. -/
def keytreeClimbStepsCard : Claim7 := { stood := { row := keytreeClimbStepsRow, standIns := [], harness := (true, "1b9c35cf225107e04d5ab28e0deabb8801f9dc5d0c6ef14d1b4902866c22f98f"), looks := false }, kinds := [], alts := [], laidByText := true, laidKinds := [.data], laidTests := true, laidLooks := .later }
def KeytreeClimbStepsCardSaid : Prop := Claim7.holds Tryd.pinned (.plain (OpenSpec.ofChange keytreeClimbStepsSpec)) keytreeClimbStepsCard

/-- THE TIED CARD OF 'crossbarlaw05.KeytreeForgeryCollides'. -/
def keytreeForgeryCollidesCard : Claim7 := { stood := { row := keytreeForgeryCollidesRow, standIns := [], harness := (true, "1b9c35cf225107e04d5ab28e0deabb8801f9dc5d0c6ef14d1b4902866c22f98f"), looks := false }, kinds := [], alts := [], laidByText := true, laidKinds := [.data], laidTests := true, laidLooks := .later }
def KeytreeForgeryCollidesCardSaid : Prop := Claim7.holds Tryd.pinned (.plain (OpenSpec.ofChange keytreeForgeryCollidesSpec)) keytreeForgeryCollidesCard

/-- THE TIED CARD OF 'crossbarlaw05.KeytreeVerifyShape'. -/
def keytreeVerifyShapeCard : Claim7 := { stood := { row := keytreeVerifyShapeRow, standIns := [], harness := (true, "1b9c35cf225107e04d5ab28e0deabb8801f9dc5d0c6ef14d1b4902866c22f98f"), looks := false }, kinds := [], alts := [], laidByText := true, laidKinds := [.data], laidTests := true, laidLooks := .later }
def KeytreeVerifyShapeCardSaid : Prop := Claim7.holds Tryd.pinned (.plain (OpenSpec.ofChange keytreeVerifyShapeSpec)) keytreeVerifyShapeCard

/-- THE TIED CARD OF 'crossbarlaw05.KeytreeVerifyRoot'. -/
def keytreeVerifyRootCard : Claim7 := { stood := { row := keytreeVerifyRootRow, standIns := [], harness := (true, "1b9c35cf225107e04d5ab28e0deabb8801f9dc5d0c6ef14d1b4902866c22f98f"), looks := false }, kinds := [], alts := [], laidByText := true, laidKinds := [.data], laidTests := true, laidLooks := .later }
def KeytreeVerifyRootCardSaid : Prop := Claim7.holds Tryd.pinned (.plain (OpenSpec.ofChange keytreeVerifyRootSpec)) keytreeVerifyRootCard

/-- THE SECOND FORM's CARD OF 'crossbarlaw05.KeytreeSignSpec'. -/
def keytreeSignSpecUptoCard : Claim7 := { stood := { row := keytreeSignSpecUptoRow, standIns := [], harness := (true, "1b9c35cf225107e04d5ab28e0deabb8801f9dc5d0c6ef14d1b4902866c22f98f"), looks := false }, kinds := [], alts := [], laidByText := true, laidKinds := [.data, .data, .data], laidTests := true, laidLooks := .later }
def KeytreeSignSpecUptoCardSaid : Prop := Claim7.holds Tryd.pinned (.plain (OpenSpec.upto keytreeSignSpecSpec)) keytreeSignSpecUptoCard

/-- THE SECOND FORM's CARD OF 'crossbarlaw05.KeytreeTreeSpec'. -/
def keytreeTreeSpecUptoCard : Claim7 := { stood := { row := keytreeTreeSpecUptoRow, standIns := [], harness := (true, "1b9c35cf225107e04d5ab28e0deabb8801f9dc5d0c6ef14d1b4902866c22f98f"), looks := false }, kinds := [], alts := [], laidByText := true, laidKinds := [.data, .data, .data], laidTests := true, laidLooks := .later }
def KeytreeTreeSpecUptoCardSaid : Prop := Claim7.holds Tryd.pinned (.plain (OpenSpec.upto keytreeTreeSpecSpec)) keytreeTreeSpecUptoCard

/-- THE SECOND FORM's CARD OF 'crossbarlaw05.KeytreeSignatureVerifies'. -/
def keytreeSignatureVerifiesUptoCard : Claim7 := { stood := { row := keytreeSignatureVerifiesUptoRow, standIns := [], harness := (true, "1b9c35cf225107e04d5ab28e0deabb8801f9dc5d0c6ef14d1b4902866c22f98f"), looks := false }, kinds := [], alts := [], laidByText := true, laidKinds := [.data], laidTests := true, laidLooks := .later }
def KeytreeSignatureVerifiesUptoCardSaid : Prop := Claim7.holds Tryd.pinned (.plain (OpenSpec.upto keytreeSignatureVerifiesSpec)) keytreeSignatureVerifiesUptoCard

/-- THE SECOND FORM's CARD OF 'crossbarlaw05.KeytreeClimbReachesRoot'. -/
def keytreeClimbReachesRootUptoCard : Claim7 := { stood := { row := keytreeClimbReachesRootUptoRow, standIns := [], harness := (true, "1b9c35cf225107e04d5ab28e0deabb8801f9dc5d0c6ef14d1b4902866c22f98f"), looks := false }, kinds := [], alts := [], laidByText := true, laidKinds := [.data], laidTests := true, laidLooks := .later }
def KeytreeClimbReachesRootUptoCardSaid : Prop := Claim7.holds Tryd.pinned (.plain (OpenSpec.upto keytreeClimbReachesRootSpec)) keytreeClimbReachesRootUptoCard

/-- THE SECOND FORM's CARD OF 'crossbarlaw05.KeytreeClimbSteps'. -/
def keytreeClimbStepsUptoCard : Claim7 := { stood := { row := keytreeClimbStepsUptoRow, standIns := [], harness := (true, "1b9c35cf225107e04d5ab28e0deabb8801f9dc5d0c6ef14d1b4902866c22f98f"), looks := false }, kinds := [], alts := [], laidByText := true, laidKinds := [.data], laidTests := true, laidLooks := .later }
def KeytreeClimbStepsUptoCardSaid : Prop := Claim7.holds Tryd.pinned (.plain (OpenSpec.upto keytreeClimbStepsSpec)) keytreeClimbStepsUptoCard

/-- THE SECOND FORM's CARD OF 'crossbarlaw05.KeytreeForgeryCollides'. -/
def keytreeForgeryCollidesUptoCard : Claim7 := { stood := { row := keytreeForgeryCollidesUptoRow, standIns := [], harness := (true, "1b9c35cf225107e04d5ab28e0deabb8801f9dc5d0c6ef14d1b4902866c22f98f"), looks := false }, kinds := [], alts := [], laidByText := true, laidKinds := [.data], laidTests := true, laidLooks := .later }
def KeytreeForgeryCollidesUptoCardSaid : Prop := Claim7.holds Tryd.pinned (.plain (OpenSpec.upto keytreeForgeryCollidesSpec)) keytreeForgeryCollidesUptoCard

/-- THE SECOND FORM's CARD OF 'crossbarlaw05.KeytreeVerifyShape'. -/
def keytreeVerifyShapeUptoCard : Claim7 := { stood := { row := keytreeVerifyShapeUptoRow, standIns := [], harness := (true, "1b9c35cf225107e04d5ab28e0deabb8801f9dc5d0c6ef14d1b4902866c22f98f"), looks := false }, kinds := [], alts := [], laidByText := true, laidKinds := [.data], laidTests := true, laidLooks := .later }
def KeytreeVerifyShapeUptoCardSaid : Prop := Claim7.holds Tryd.pinned (.plain (OpenSpec.upto keytreeVerifyShapeSpec)) keytreeVerifyShapeUptoCard

/-- THE SECOND FORM's CARD OF 'crossbarlaw05.KeytreeVerifyRoot'. -/
def keytreeVerifyRootUptoCard : Claim7 := { stood := { row := keytreeVerifyRootUptoRow, standIns := [], harness := (true, "1b9c35cf225107e04d5ab28e0deabb8801f9dc5d0c6ef14d1b4902866c22f98f"), looks := false }, kinds := [], alts := [], laidByText := true, laidKinds := [.data], laidTests := true, laidLooks := .later }
def KeytreeVerifyRootUptoCardSaid : Prop := Claim7.holds Tryd.pinned (.plain (OpenSpec.upto keytreeVerifyRootSpec)) keytreeVerifyRootUptoCard
end Rows
end Go.Proofs.YtccepoeenkpifaaDoor
