/-
  No cell of these rows narrows 'for every input' (looked for: loops, veiled, ifaces, maps, wideKeys, modest, calm, conditions, laid).
  DERIVED. THE GIVEN ROWS OF THIS SEAT. 9 by the template 'for every input the law returns true; each argument reads behind the call as it read before'; 0 by the template 'total and deterministic' (their statements: YtblgcefaikoejaaTotals.lean).
  GIVEN WITH THE SEED: the statements are not yours to turn. If you find one false, say at which input.
  Laid BY PROGRAM, IN A SANDBOX (cutbox-rows.mjs): the forced cells as the released guide's own fill.sh prints them over the translation cf6b5ce64cb71a01… (all of the seat's roots in one cut). By AI agents, Wed Nov 11 2026. No macro, syntax, notation, axiom, sorry.
-/
import Derived.Test.YtblgcefaikoejaaChecked
import GoSem.Claim
import GoSem.ClaimJoined
import GoSem.ClaimMapViews
import Derived.JoinedTies
import Derived.KernelRfl
namespace Go.Proofs.Ytblgcefaikoejaa
/- THE CELL 'sum', in the pinned program and in every row, IS THE sha256 OF THE DUMP (.gsa) THAT YtblgcefaikoejaaProg.lean LOADS. Nothing in Lean hashes anything: it is a label: what it is worth is what the hold of that sum in a sandbox is worth. -/
noncomputable def Try.pinned : Pinned := { name := "ytblgcefaikoejaa", sum := "cf6b5ce64cb71a01c063ec0684f19bb17a0cee175a4fedb7a0058090b6f6b41d", checked := Try.checked }
namespace Rows
def none {H : Type} : Left H := { results := [], args := [] }

/-- 'crossbarlaw06.DigitsConversionsMatchSpecification': WHATEVER THE INPUT: true; the input reads as it did. -/
def digitsConversionsMatchSpecificationSpec : ChangeSpec := { name := "digitsConversionsMatchSpecification", fn := fun _ => fun
  | [d1, d2, d3] => { results := [.lit (.bool true)], args := [d1, d2, d3] }
  | _ => none }
def digitsConversionsMatchSpecificationRow : OpenClaim := { program := "ytblgcefaikoejaa", sum := "cf6b5ce64cb71a01c063ec0684f19bb17a0cee175a4fedb7a0058090b6f6b41d", func := "crossbar/crossbarlaw06.DigitsConversionsMatchSpecification", spec := "digitsConversionsMatchSpecification", unfollowed := true, recurses := true, apart := false }
def DigitsConversionsMatchSpecificationSaid : Prop := digitsConversionsMatchSpecificationRow.holds Try.pinned (OpenSpec.ofChange digitsConversionsMatchSpecificationSpec)

/-- ITS FALSE NEIGHBOUR: 'it returns false'. Refute it at one input. -/
def digitsConversionsMatchSpecificationWrong : ChangeSpec := { name := "digitsConversionsMatchSpecification", fn := fun _ => fun
  | [d1, d2, d3] => { results := [.lit (.bool false)], args := [d1, d2, d3] }
  | _ => none }
def DigitsConversionsMatchSpecificationWrongFalsely : Prop := digitsConversionsMatchSpecificationRow.holds Try.pinned (OpenSpec.ofChange digitsConversionsMatchSpecificationWrong)

/-- 'crossbarlaw06.DigitsPrefixesMatchSpecification': WHATEVER THE INPUT: true; the input reads as it did. -/
def digitsPrefixesMatchSpecificationSpec : ChangeSpec := { name := "digitsPrefixesMatchSpecification", fn := fun _ => fun
  | [d1, d2, d3] => { results := [.lit (.bool true)], args := [d1, d2, d3] }
  | _ => none }
def digitsPrefixesMatchSpecificationRow : OpenClaim := { program := "ytblgcefaikoejaa", sum := "cf6b5ce64cb71a01c063ec0684f19bb17a0cee175a4fedb7a0058090b6f6b41d", func := "crossbar/crossbarlaw06.DigitsPrefixesMatchSpecification", spec := "digitsPrefixesMatchSpecification", unfollowed := true, recurses := true, apart := false }
def DigitsPrefixesMatchSpecificationSaid : Prop := digitsPrefixesMatchSpecificationRow.holds Try.pinned (OpenSpec.ofChange digitsPrefixesMatchSpecificationSpec)

/-- ITS FALSE NEIGHBOUR: 'it returns false'. Refute it at one input. -/
def digitsPrefixesMatchSpecificationWrong : ChangeSpec := { name := "digitsPrefixesMatchSpecification", fn := fun _ => fun
  | [d1, d2, d3] => { results := [.lit (.bool false)], args := [d1, d2, d3] }
  | _ => none }
def DigitsPrefixesMatchSpecificationWrongFalsely : Prop := digitsPrefixesMatchSpecificationRow.holds Try.pinned (OpenSpec.ofChange digitsPrefixesMatchSpecificationWrong)

/-- 'crossbarlaw06.DigitsShortenRoundTrip': WHATEVER THE INPUT: true; the input reads as it did. -/
def digitsShortenRoundTripSpec : ChangeSpec := { name := "digitsShortenRoundTrip", fn := fun _ => fun
  | [d1, d2, d3] => { results := [.lit (.bool true)], args := [d1, d2, d3] }
  | _ => none }
def digitsShortenRoundTripRow : OpenClaim := { program := "ytblgcefaikoejaa", sum := "cf6b5ce64cb71a01c063ec0684f19bb17a0cee175a4fedb7a0058090b6f6b41d", func := "crossbar/crossbarlaw06.DigitsShortenRoundTrip", spec := "digitsShortenRoundTrip", unfollowed := true, recurses := true, apart := false }
def DigitsShortenRoundTripSaid : Prop := digitsShortenRoundTripRow.holds Try.pinned (OpenSpec.ofChange digitsShortenRoundTripSpec)

/-- ITS FALSE NEIGHBOUR: 'it returns false'. Refute it at one input. -/
def digitsShortenRoundTripWrong : ChangeSpec := { name := "digitsShortenRoundTrip", fn := fun _ => fun
  | [d1, d2, d3] => { results := [.lit (.bool false)], args := [d1, d2, d3] }
  | _ => none }
def DigitsShortenRoundTripWrongFalsely : Prop := digitsShortenRoundTripRow.holds Try.pinned (OpenSpec.ofChange digitsShortenRoundTripWrong)

/-- 'crossbarlaw06.DigitsShortenIsShortest': WHATEVER THE INPUT: true; the input reads as it did. -/
def digitsShortenIsShortestSpec : ChangeSpec := { name := "digitsShortenIsShortest", fn := fun _ => fun
  | [d1, d2, d3] => { results := [.lit (.bool true)], args := [d1, d2, d3] }
  | _ => none }
def digitsShortenIsShortestRow : OpenClaim := { program := "ytblgcefaikoejaa", sum := "cf6b5ce64cb71a01c063ec0684f19bb17a0cee175a4fedb7a0058090b6f6b41d", func := "crossbar/crossbarlaw06.DigitsShortenIsShortest", spec := "digitsShortenIsShortest", unfollowed := true, recurses := true, apart := false }
def DigitsShortenIsShortestSaid : Prop := digitsShortenIsShortestRow.holds Try.pinned (OpenSpec.ofChange digitsShortenIsShortestSpec)

/-- ITS FALSE NEIGHBOUR: 'it returns false'. Refute it at one input. -/
def digitsShortenIsShortestWrong : ChangeSpec := { name := "digitsShortenIsShortest", fn := fun _ => fun
  | [d1, d2, d3] => { results := [.lit (.bool false)], args := [d1, d2, d3] }
  | _ => none }
def DigitsShortenIsShortestWrongFalsely : Prop := digitsShortenIsShortestRow.holds Try.pinned (OpenSpec.ofChange digitsShortenIsShortestWrong)

/-- 'crossbarlaw06.DigitsFormsAgree': WHATEVER THE INPUT: true; the input reads as it did. -/
def digitsFormsAgreeSpec : ChangeSpec := { name := "digitsFormsAgree", fn := fun _ => fun
  | [d1, d2, d3] => { results := [.lit (.bool true)], args := [d1, d2, d3] }
  | _ => none }
def digitsFormsAgreeRow : OpenClaim := { program := "ytblgcefaikoejaa", sum := "cf6b5ce64cb71a01c063ec0684f19bb17a0cee175a4fedb7a0058090b6f6b41d", func := "crossbar/crossbarlaw06.DigitsFormsAgree", spec := "digitsFormsAgree", unfollowed := true, recurses := true, apart := false }
def DigitsFormsAgreeSaid : Prop := digitsFormsAgreeRow.holds Try.pinned (OpenSpec.ofChange digitsFormsAgreeSpec)

/-- ITS FALSE NEIGHBOUR: 'it returns false'. Refute it at one input. -/
def digitsFormsAgreeWrong : ChangeSpec := { name := "digitsFormsAgree", fn := fun _ => fun
  | [d1, d2, d3] => { results := [.lit (.bool false)], args := [d1, d2, d3] }
  | _ => none }
def DigitsFormsAgreeWrongFalsely : Prop := digitsFormsAgreeRow.holds Try.pinned (OpenSpec.ofChange digitsFormsAgreeWrong)

/-- 'crossbarlaw06.DigitsMinimalIsEquivalent': WHATEVER THE INPUT: true; the input reads as it did. -/
def digitsMinimalIsEquivalentSpec : ChangeSpec := { name := "digitsMinimalIsEquivalent", fn := fun _ => fun
  | [d1, d2] => { results := [.lit (.bool true)], args := [d1, d2] }
  | _ => none }
def digitsMinimalIsEquivalentRow : OpenClaim := { program := "ytblgcefaikoejaa", sum := "cf6b5ce64cb71a01c063ec0684f19bb17a0cee175a4fedb7a0058090b6f6b41d", func := "crossbar/crossbarlaw06.DigitsMinimalIsEquivalent", spec := "digitsMinimalIsEquivalent", unfollowed := true, recurses := true, apart := false }
def DigitsMinimalIsEquivalentSaid : Prop := digitsMinimalIsEquivalentRow.holds Try.pinned (OpenSpec.ofChange digitsMinimalIsEquivalentSpec)

/-- ITS FALSE NEIGHBOUR: 'it returns false'. Refute it at one input. -/
def digitsMinimalIsEquivalentWrong : ChangeSpec := { name := "digitsMinimalIsEquivalent", fn := fun _ => fun
  | [d1, d2] => { results := [.lit (.bool false)], args := [d1, d2] }
  | _ => none }
def DigitsMinimalIsEquivalentWrongFalsely : Prop := digitsMinimalIsEquivalentRow.holds Try.pinned (OpenSpec.ofChange digitsMinimalIsEquivalentWrong)

/-- 'crossbarlaw06.DigitsMinimalIsCanonical': WHATEVER THE INPUT: true; the input reads as it did. -/
def digitsMinimalIsCanonicalSpec : ChangeSpec := { name := "digitsMinimalIsCanonical", fn := fun _ => fun
  | [d1, d2] => { results := [.lit (.bool true)], args := [d1, d2] }
  | _ => none }
def digitsMinimalIsCanonicalRow : OpenClaim := { program := "ytblgcefaikoejaa", sum := "cf6b5ce64cb71a01c063ec0684f19bb17a0cee175a4fedb7a0058090b6f6b41d", func := "crossbar/crossbarlaw06.DigitsMinimalIsCanonical", spec := "digitsMinimalIsCanonical", unfollowed := true, recurses := true, apart := false }
def DigitsMinimalIsCanonicalSaid : Prop := digitsMinimalIsCanonicalRow.holds Try.pinned (OpenSpec.ofChange digitsMinimalIsCanonicalSpec)

/-- ITS FALSE NEIGHBOUR: 'it returns false'. Refute it at one input. -/
def digitsMinimalIsCanonicalWrong : ChangeSpec := { name := "digitsMinimalIsCanonical", fn := fun _ => fun
  | [d1, d2] => { results := [.lit (.bool false)], args := [d1, d2] }
  | _ => none }
def DigitsMinimalIsCanonicalWrongFalsely : Prop := digitsMinimalIsCanonicalRow.holds Try.pinned (OpenSpec.ofChange digitsMinimalIsCanonicalWrong)

/-- 'crossbarlaw06.DigitsMinimalIsReduced': WHATEVER THE INPUT: true; the input reads as it did. -/
def digitsMinimalIsReducedSpec : ChangeSpec := { name := "digitsMinimalIsReduced", fn := fun _ => fun
  | [d] => { results := [.lit (.bool true)], args := [d] }
  | _ => none }
def digitsMinimalIsReducedRow : OpenClaim := { program := "ytblgcefaikoejaa", sum := "cf6b5ce64cb71a01c063ec0684f19bb17a0cee175a4fedb7a0058090b6f6b41d", func := "crossbar/crossbarlaw06.DigitsMinimalIsReduced", spec := "digitsMinimalIsReduced", unfollowed := true, recurses := true, apart := false }
def DigitsMinimalIsReducedSaid : Prop := digitsMinimalIsReducedRow.holds Try.pinned (OpenSpec.ofChange digitsMinimalIsReducedSpec)

/-- ITS FALSE NEIGHBOUR: 'it returns false'. Refute it at one input. -/
def digitsMinimalIsReducedWrong : ChangeSpec := { name := "digitsMinimalIsReduced", fn := fun _ => fun
  | [d] => { results := [.lit (.bool false)], args := [d] }
  | _ => none }
def DigitsMinimalIsReducedWrongFalsely : Prop := digitsMinimalIsReducedRow.holds Try.pinned (OpenSpec.ofChange digitsMinimalIsReducedWrong)

/-- 'crossbarlaw06.DigitsCommonPrefix': WHATEVER THE INPUT: true; the input reads as it did. -/
def digitsCommonPrefixSpec : ChangeSpec := { name := "digitsCommonPrefix", fn := fun _ => fun
  | [d1, d2, d3] => { results := [.lit (.bool true)], args := [d1, d2, d3] }
  | _ => none }
def digitsCommonPrefixRow : OpenClaim := { program := "ytblgcefaikoejaa", sum := "cf6b5ce64cb71a01c063ec0684f19bb17a0cee175a4fedb7a0058090b6f6b41d", func := "crossbar/crossbarlaw06.DigitsCommonPrefix", spec := "digitsCommonPrefix", unfollowed := true, recurses := true, apart := false }
def DigitsCommonPrefixSaid : Prop := digitsCommonPrefixRow.holds Try.pinned (OpenSpec.ofChange digitsCommonPrefixSpec)

/-- ITS FALSE NEIGHBOUR: 'it returns false'. Refute it at one input. -/
def digitsCommonPrefixWrong : ChangeSpec := { name := "digitsCommonPrefix", fn := fun _ => fun
  | [d1, d2, d3] => { results := [.lit (.bool false)], args := [d1, d2, d3] }
  | _ => none }
def DigitsCommonPrefixWrongFalsely : Prop := digitsCommonPrefixRow.holds Try.pinned (OpenSpec.ofChange digitsCommonPrefixWrong)

/- THE SECOND FORM. 'bulk': how many values and letters a reading holds, each counted each time it is reached (what is shared counts as often as it is met; a slice's spare places count too). A statement '..UptoSaid' is the law's where the arguments, and the package variables that the reading takes, are together of bulk at most 1048576: NARROWER than '..Said'. Prove '..Said' where nothing that the law and all that it calls make is longer than what came in: it says more and counts as full. Else prove '..UptoSaid'. A law counts once. -/
mutual
def uptoBulk {H : Type} : DataW H → Nat
  | .lit (.string bytes) => bytes.length + 1
  | .lit _ => 1
  | .nil => 1
  | .ptr d => uptoBulk d + 1
  | .slice elems spare => uptoBulkAll elems + uptoBulkAll spare + 1
  | .agg parts => uptoBulkAll parts + 1
  | .iface _ d => uptoBulk d + 1
  | .map entries => uptoBulkEntries entries + 1
  | .held _ => 1
def uptoBulkAll {H : Type} : List (DataW H) → Nat
  | [] => 0
  | d :: r => uptoBulk d + uptoBulkAll r
def uptoBulkEntries {H : Type} : List (Lit × DataW H) → Nat
  | [] => 0
  | x :: r => uptoBulkEntry x + uptoBulkEntries r
def uptoBulkEntry {H : Type} : Lit × DataW H → Nat
  | (.string bytes, d) => bytes.length + uptoBulk d + 1
  | (_, d) => uptoBulk d + 1
 end
def uptoSmall : (H : Type) → List (DataW H) → Bool := fun _ ds => decide (uptoBulkAll ds ≤ 1048576)
def OpenSpec.upto (s : _root_.Go.ChangeSpec) : _root_.Go.OpenSpec := { _root_.Go.OpenSpec.ofChange s with cond := some uptoSmall }

/-- 'crossbarlaw06.DigitsConversionsMatchSpecification', WHERE WHAT IT READS IS OF BULK AT MOST 1048576: true; the input reads as it did. -/
def digitsConversionsMatchSpecificationUptoRow : OpenClaim := { program := "ytblgcefaikoejaa", sum := "cf6b5ce64cb71a01c063ec0684f19bb17a0cee175a4fedb7a0058090b6f6b41d", func := "crossbar/crossbarlaw06.DigitsConversionsMatchSpecification", spec := "digitsConversionsMatchSpecification", unfollowed := true, recurses := true, apart := false, narrowed := true }
def DigitsConversionsMatchSpecificationUptoSaid : Prop := digitsConversionsMatchSpecificationUptoRow.holds Try.pinned (OpenSpec.upto digitsConversionsMatchSpecificationSpec)

/-- 'crossbarlaw06.DigitsPrefixesMatchSpecification', WHERE WHAT IT READS IS OF BULK AT MOST 1048576: true; the input reads as it did. -/
def digitsPrefixesMatchSpecificationUptoRow : OpenClaim := { program := "ytblgcefaikoejaa", sum := "cf6b5ce64cb71a01c063ec0684f19bb17a0cee175a4fedb7a0058090b6f6b41d", func := "crossbar/crossbarlaw06.DigitsPrefixesMatchSpecification", spec := "digitsPrefixesMatchSpecification", unfollowed := true, recurses := true, apart := false, narrowed := true }
def DigitsPrefixesMatchSpecificationUptoSaid : Prop := digitsPrefixesMatchSpecificationUptoRow.holds Try.pinned (OpenSpec.upto digitsPrefixesMatchSpecificationSpec)

/-- 'crossbarlaw06.DigitsShortenRoundTrip', WHERE WHAT IT READS IS OF BULK AT MOST 1048576: true; the input reads as it did. -/
def digitsShortenRoundTripUptoRow : OpenClaim := { program := "ytblgcefaikoejaa", sum := "cf6b5ce64cb71a01c063ec0684f19bb17a0cee175a4fedb7a0058090b6f6b41d", func := "crossbar/crossbarlaw06.DigitsShortenRoundTrip", spec := "digitsShortenRoundTrip", unfollowed := true, recurses := true, apart := false, narrowed := true }
def DigitsShortenRoundTripUptoSaid : Prop := digitsShortenRoundTripUptoRow.holds Try.pinned (OpenSpec.upto digitsShortenRoundTripSpec)

/-- 'crossbarlaw06.DigitsShortenIsShortest', WHERE WHAT IT READS IS OF BULK AT MOST 1048576: true; the input reads as it did. -/
def digitsShortenIsShortestUptoRow : OpenClaim := { program := "ytblgcefaikoejaa", sum := "cf6b5ce64cb71a01c063ec0684f19bb17a0cee175a4fedb7a0058090b6f6b41d", func := "crossbar/crossbarlaw06.DigitsShortenIsShortest", spec := "digitsShortenIsShortest", unfollowed := true, recurses := true, apart := false, narrowed := true }
def DigitsShortenIsShortestUptoSaid : Prop := digitsShortenIsShortestUptoRow.holds Try.pinned (OpenSpec.upto digitsShortenIsShortestSpec)

/-- 'crossbarlaw06.DigitsFormsAgree', WHERE WHAT IT READS IS OF BULK AT MOST 1048576: true; the input reads as it did. -/
def digitsFormsAgreeUptoRow : OpenClaim := { program := "ytblgcefaikoejaa", sum := "cf6b5ce64cb71a01c063ec0684f19bb17a0cee175a4fedb7a0058090b6f6b41d", func := "crossbar/crossbarlaw06.DigitsFormsAgree", spec := "digitsFormsAgree", unfollowed := true, recurses := true, apart := false, narrowed := true }
def DigitsFormsAgreeUptoSaid : Prop := digitsFormsAgreeUptoRow.holds Try.pinned (OpenSpec.upto digitsFormsAgreeSpec)

/-- 'crossbarlaw06.DigitsMinimalIsEquivalent', WHERE WHAT IT READS IS OF BULK AT MOST 1048576: true; the input reads as it did. -/
def digitsMinimalIsEquivalentUptoRow : OpenClaim := { program := "ytblgcefaikoejaa", sum := "cf6b5ce64cb71a01c063ec0684f19bb17a0cee175a4fedb7a0058090b6f6b41d", func := "crossbar/crossbarlaw06.DigitsMinimalIsEquivalent", spec := "digitsMinimalIsEquivalent", unfollowed := true, recurses := true, apart := false, narrowed := true }
def DigitsMinimalIsEquivalentUptoSaid : Prop := digitsMinimalIsEquivalentUptoRow.holds Try.pinned (OpenSpec.upto digitsMinimalIsEquivalentSpec)

/-- 'crossbarlaw06.DigitsMinimalIsCanonical', WHERE WHAT IT READS IS OF BULK AT MOST 1048576: true; the input reads as it did. -/
def digitsMinimalIsCanonicalUptoRow : OpenClaim := { program := "ytblgcefaikoejaa", sum := "cf6b5ce64cb71a01c063ec0684f19bb17a0cee175a4fedb7a0058090b6f6b41d", func := "crossbar/crossbarlaw06.DigitsMinimalIsCanonical", spec := "digitsMinimalIsCanonical", unfollowed := true, recurses := true, apart := false, narrowed := true }
def DigitsMinimalIsCanonicalUptoSaid : Prop := digitsMinimalIsCanonicalUptoRow.holds Try.pinned (OpenSpec.upto digitsMinimalIsCanonicalSpec)

/-- 'crossbarlaw06.DigitsMinimalIsReduced', WHERE WHAT IT READS IS OF BULK AT MOST 1048576: true; the input reads as it did. -/
def digitsMinimalIsReducedUptoRow : OpenClaim := { program := "ytblgcefaikoejaa", sum := "cf6b5ce64cb71a01c063ec0684f19bb17a0cee175a4fedb7a0058090b6f6b41d", func := "crossbar/crossbarlaw06.DigitsMinimalIsReduced", spec := "digitsMinimalIsReduced", unfollowed := true, recurses := true, apart := false, narrowed := true }
def DigitsMinimalIsReducedUptoSaid : Prop := digitsMinimalIsReducedUptoRow.holds Try.pinned (OpenSpec.upto digitsMinimalIsReducedSpec)

/-- 'crossbarlaw06.DigitsCommonPrefix', WHERE WHAT IT READS IS OF BULK AT MOST 1048576: true; the input reads as it did. -/
def digitsCommonPrefixUptoRow : OpenClaim := { program := "ytblgcefaikoejaa", sum := "cf6b5ce64cb71a01c063ec0684f19bb17a0cee175a4fedb7a0058090b6f6b41d", func := "crossbar/crossbarlaw06.DigitsCommonPrefix", spec := "digitsCommonPrefix", unfollowed := true, recurses := true, apart := false, narrowed := true }
def DigitsCommonPrefixUptoSaid : Prop := digitsCommonPrefixUptoRow.holds Try.pinned (OpenSpec.upto digitsCommonPrefixSpec)

end Rows
end Go.Proofs.Ytblgcefaikoejaa
