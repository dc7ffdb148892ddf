/-
  DERIVED. GIVEN WITH THE SEED: THE PROGRAM's TIES (one call each: nine closed facts by the kernel) AND EACH ROW's TIE, after the 31st guide's Derived/Test/Toyas{Tie, Card}.lean. No idea stands in it: it is a product of the set-up. Laid BY PROGRAM, IN A SANDBOX (cutbox-door.mjs). By AI agents, Wed Nov 11 2026. No macro, syntax, notation, axiom, sorry.
-/
import Derived.Test.YtglabhlgnbkeiaaDoorRows
import Derived.LaidByTextLater
import Derived.SevenTiedAt
import Derived.LaidSub
import Derived.LaidOnce
namespace Go.Proofs.YtglabhlgnbkeiaaDoor
open Go
set_option maxRecDepth 100000
theorem seatTie1 : Tryd.prog.laidByTextLater [("crossbar/crossbarref03.k", Rows.laid_crossbar_crossbarref03_k), ("crossbar/crossbarref03.initial", Rows.laid_crossbar_crossbarref03_initial), ("crossbar/sha256.roundConstants", Rows.laid_crossbar_sha256_roundConstants)] [.data, .data, .data] true :=
  Program.laidByTextLater_by_one 24 8 65 (by kernel_rfl) (by kernel_rfl) (by kernel_rfl) (by kernel_rfl) (by kernel_rfl) (by kernel_rfl) (fun _ _ => by kernel_rfl)
theorem noOwnUnsafe : Tryd.pinned.checked.prog.headLifts.contains "ownunsafe" = false := by kernel_rfl
theorem tie : Tryd.prog.laidByTextLater [("crossbar/crossbarref03.k", Rows.laid_crossbar_crossbarref03_k), ("crossbar/crossbarref03.initial", Rows.laid_crossbar_crossbarref03_initial), ("crossbar/sha256.roundConstants", Rows.laid_crossbar_sha256_roundConstants)] [.data, .data, .data] true :=
  Program.laidByTextLater.sub seatTie1 ["crossbar/crossbarref03.k", "crossbar/crossbarref03.initial", "crossbar/sha256.roundConstants"] (by kernel_rfl) (by kernel_rfl)
theorem shaMatchesSpecification_row_tie : Rows.shaMatchesSpecificationRow.laidByTextAt .later Tryd.pinned [.data, .data, .data] true :=
  OpenClaim.laidByTextAt_later rfl rfl tie noOwnUnsafe
theorem shaDerivedMatchSpecification_row_tie : Rows.shaDerivedMatchSpecificationRow.laidByTextAt .later Tryd.pinned [.data, .data, .data] true :=
  OpenClaim.laidByTextAt_later rfl rfl tie noOwnUnsafe
theorem tie2 : Tryd.prog.laidByTextLater [("crossbar/crossbarref03.k", Rows.laid_crossbar_crossbarref03_k), ("crossbar/sha256.roundConstants", Rows.laid_crossbar_sha256_roundConstants)] [.data, .data] true :=
  Program.laidByTextLater.sub seatTie1 ["crossbar/crossbarref03.k", "crossbar/sha256.roundConstants"] (by kernel_rfl) (by kernel_rfl)
theorem shaLengthExtension_row_tie : Rows.shaLengthExtensionRow.laidByTextAt .later Tryd.pinned [.data, .data] true :=
  OpenClaim.laidByTextAt_later rfl rfl tie2 noOwnUnsafe
theorem tie3 : Tryd.prog.laidByTextLater [("crossbar/sha256.roundConstants", Rows.laid_crossbar_sha256_roundConstants)] [.data] true :=
  Program.laidByTextLater.sub seatTie1 ["crossbar/sha256.roundConstants"] (by kernel_rfl) (by kernel_rfl)
theorem shaTaggedIsPrefixedSum_row_tie : Rows.shaTaggedIsPrefixedSumRow.laidByTextAt .later Tryd.pinned [.data] true :=
  OpenClaim.laidByTextAt_later rfl rfl tie3 noOwnUnsafe
theorem shaTagIsTruncated_row_tie : Rows.shaTagIsTruncatedRow.laidByTextAt .later Tryd.pinned [.data] true :=
  OpenClaim.laidByTextAt_later rfl rfl tie3 noOwnUnsafe
theorem shaPairIsTagged_row_tie : Rows.shaPairIsTaggedRow.laidByTextAt .later Tryd.pinned [.data] true :=
  OpenClaim.laidByTextAt_later rfl rfl tie3 noOwnUnsafe
theorem shaChainsCompose_row_tie : Rows.shaChainsComposeRow.laidByTextAt .later Tryd.pinned [.data] true :=
  OpenClaim.laidByTextAt_later rfl rfl tie3 noOwnUnsafe
theorem shaChainSteps_row_tie : Rows.shaChainStepsRow.laidByTextAt .later Tryd.pinned [.data] true :=
  OpenClaim.laidByTextAt_later rfl rfl tie3 noOwnUnsafe
theorem shaMatchesSpecificationUpto_row_tie : Rows.shaMatchesSpecificationUptoRow.laidByTextAt .later Tryd.pinned [.data, .data, .data] true :=
  OpenClaim.laidByTextAt_later rfl rfl tie noOwnUnsafe
theorem shaDerivedMatchSpecificationUpto_row_tie : Rows.shaDerivedMatchSpecificationUptoRow.laidByTextAt .later Tryd.pinned [.data, .data, .data] true :=
  OpenClaim.laidByTextAt_later rfl rfl tie noOwnUnsafe
theorem shaLengthExtensionUpto_row_tie : Rows.shaLengthExtensionUptoRow.laidByTextAt .later Tryd.pinned [.data, .data] true :=
  OpenClaim.laidByTextAt_later rfl rfl tie2 noOwnUnsafe
theorem shaTaggedIsPrefixedSumUpto_row_tie : Rows.shaTaggedIsPrefixedSumUptoRow.laidByTextAt .later Tryd.pinned [.data] true :=
  OpenClaim.laidByTextAt_later rfl rfl tie3 noOwnUnsafe
theorem shaTagIsTruncatedUpto_row_tie : Rows.shaTagIsTruncatedUptoRow.laidByTextAt .later Tryd.pinned [.data] true :=
  OpenClaim.laidByTextAt_later rfl rfl tie3 noOwnUnsafe
theorem shaPairIsTaggedUpto_row_tie : Rows.shaPairIsTaggedUptoRow.laidByTextAt .later Tryd.pinned [.data] true :=
  OpenClaim.laidByTextAt_later rfl rfl tie3 noOwnUnsafe
theorem shaChainsComposeUpto_row_tie : Rows.shaChainsComposeUptoRow.laidByTextAt .later Tryd.pinned [.data] true :=
  OpenClaim.laidByTextAt_later rfl rfl tie3 noOwnUnsafe
theorem shaChainStepsUpto_row_tie : Rows.shaChainStepsUptoRow.laidByTextAt .later Tryd.pinned [.data] true :=
  OpenClaim.laidByTextAt_later rfl rfl tie3 noOwnUnsafe
end Go.Proofs.YtglabhlgnbkeiaaDoor
