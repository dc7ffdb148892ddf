/-
  NARROWER THAN 'FOR EVERY INPUT', by the rows' own cells (each row's printed sentence says how): ShaMatchesSpecification: laid · ShaDerivedMatchSpecification: laid · ShaLengthExtension: laid · ShaTaggedIsPrefixedSum: laid · ShaTagIsTruncated: laid · ShaPairIsTagged: laid · ShaChainsCompose: laid · ShaChainSteps: laid.
  DERIVED. THE GIVEN ROWS OF THIS SEAT. 8 by the template 'for every input the law returns true; each argument reads behind the call as it read before'; 0 by the template 'total and deterministic' (their statements: YtglabhlgnbkeiaaDoorTotals.lean).
  GIVEN WITH THE SEED: the statements are not yours to turn. If you find one false, say at which input.
  Laid BY PROGRAM, IN A SANDBOX (cutbox-rows.mjs): the forced cells as the released guide's own fill.sh prints them over the translation a70e2abce4d56a6e… (all of the seat's roots in one cut). By AI agents, Wed Nov 11 2026. No macro, syntax, notation, axiom, sorry.
-/
import Derived.Test.YtglabhlgnbkeiaaDoorChecked
import GoSem.Claim
import GoSem.ClaimJoined
import GoSem.ClaimMapViews
import Derived.JoinedTies
import Derived.KernelRfl
namespace Go.Proofs.YtglabhlgnbkeiaaDoor
/- THE CELL 'sum', in the pinned program and in every row, IS THE sha256 OF THE DUMP (.gsa) THAT YtglabhlgnbkeiaaDoorProg.lean LOADS. Nothing in Lean hashes anything: it is a label: what it is worth is what the hold of that sum in a sandbox is worth. -/
noncomputable def Tryd.pinned : Pinned := { name := "ytglabhlgnbkeiaadoor", sum := "a70e2abce4d56a6edca503a7c6452d7b390d212b8b1e41c798cd34543781da7d", checked := Tryd.checked }
namespace Rows
def none {H : Type} : Left H := { results := [], args := [] }

/- WHAT THE LISTED PACKAGE-LEVEL VARIABLES READ AS WHEN THE CALL BEGINS. Each datum BY PROGRAM (the guide's laid-datum.mjs) off the statement by which the dump's own 'gosem.cut.vars' lays the variable. In a bare row this is a premise. The card (YtglabhlgnbkeiaaDoorCards.lean) ties it to the program's text. -/
def laid_crossbar_crossbarref03_k {H : Type} : DataW H := .agg [.lit (.int .u32 1116352408), .lit (.int .u32 1899447441), .lit (.int .u32 3049323471), .lit (.int .u32 3921009573), .lit (.int .u32 961987163), .lit (.int .u32 1508970993), .lit (.int .u32 2453635748), .lit (.int .u32 2870763221), .lit (.int .u32 3624381080), .lit (.int .u32 310598401), .lit (.int .u32 607225278), .lit (.int .u32 1426881987), .lit (.int .u32 1925078388), .lit (.int .u32 2162078206), .lit (.int .u32 2614888103), .lit (.int .u32 3248222580), .lit (.int .u32 3835390401), .lit (.int .u32 4022224774), .lit (.int .u32 264347078), .lit (.int .u32 604807628), .lit (.int .u32 770255983), .lit (.int .u32 1249150122), .lit (.int .u32 1555081692), .lit (.int .u32 1996064986), .lit (.int .u32 2554220882), .lit (.int .u32 2821834349), .lit (.int .u32 2952996808), .lit (.int .u32 3210313671), .lit (.int .u32 3336571891), .lit (.int .u32 3584528711), .lit (.int .u32 113926993), .lit (.int .u32 338241895), .lit (.int .u32 666307205), .lit (.int .u32 773529912), .lit (.int .u32 1294757372), .lit (.int .u32 1396182291), .lit (.int .u32 1695183700), .lit (.int .u32 1986661051), .lit (.int .u32 2177026350), .lit (.int .u32 2456956037), .lit (.int .u32 2730485921), .lit (.int .u32 2820302411), .lit (.int .u32 3259730800), .lit (.int .u32 3345764771), .lit (.int .u32 3516065817), .lit (.int .u32 3600352804), .lit (.int .u32 4094571909), .lit (.int .u32 275423344), .lit (.int .u32 430227734), .lit (.int .u32 506948616), .lit (.int .u32 659060556), .lit (.int .u32 883997877), .lit (.int .u32 958139571), .lit (.int .u32 1322822218), .lit (.int .u32 1537002063), .lit (.int .u32 1747873779), .lit (.int .u32 1955562222), .lit (.int .u32 2024104815), .lit (.int .u32 2227730452), .lit (.int .u32 2361852424), .lit (.int .u32 2428436474), .lit (.int .u32 2756734187), .lit (.int .u32 3204031479), .lit (.int .u32 3329325298)]
def laid_crossbar_crossbarref03_initial {H : Type} : DataW H := .agg [.lit (.int .u32 1779033703), .lit (.int .u32 3144134277), .lit (.int .u32 1013904242), .lit (.int .u32 2773480762), .lit (.int .u32 1359893119), .lit (.int .u32 2600822924), .lit (.int .u32 528734635), .lit (.int .u32 1541459225)]
def laid_crossbar_sha256_roundConstants {H : Type} : DataW H := .agg [.lit (.int .u32 1116352408), .lit (.int .u32 1899447441), .lit (.int .u32 3049323471), .lit (.int .u32 3921009573), .lit (.int .u32 961987163), .lit (.int .u32 1508970993), .lit (.int .u32 2453635748), .lit (.int .u32 2870763221), .lit (.int .u32 3624381080), .lit (.int .u32 310598401), .lit (.int .u32 607225278), .lit (.int .u32 1426881987), .lit (.int .u32 1925078388), .lit (.int .u32 2162078206), .lit (.int .u32 2614888103), .lit (.int .u32 3248222580), .lit (.int .u32 3835390401), .lit (.int .u32 4022224774), .lit (.int .u32 264347078), .lit (.int .u32 604807628), .lit (.int .u32 770255983), .lit (.int .u32 1249150122), .lit (.int .u32 1555081692), .lit (.int .u32 1996064986), .lit (.int .u32 2554220882), .lit (.int .u32 2821834349), .lit (.int .u32 2952996808), .lit (.int .u32 3210313671), .lit (.int .u32 3336571891), .lit (.int .u32 3584528711), .lit (.int .u32 113926993), .lit (.int .u32 338241895), .lit (.int .u32 666307205), .lit (.int .u32 773529912), .lit (.int .u32 1294757372), .lit (.int .u32 1396182291), .lit (.int .u32 1695183700), .lit (.int .u32 1986661051), .lit (.int .u32 2177026350), .lit (.int .u32 2456956037), .lit (.int .u32 2730485921), .lit (.int .u32 2820302411), .lit (.int .u32 3259730800), .lit (.int .u32 3345764771), .lit (.int .u32 3516065817), .lit (.int .u32 3600352804), .lit (.int .u32 4094571909), .lit (.int .u32 275423344), .lit (.int .u32 430227734), .lit (.int .u32 506948616), .lit (.int .u32 659060556), .lit (.int .u32 883997877), .lit (.int .u32 958139571), .lit (.int .u32 1322822218), .lit (.int .u32 1537002063), .lit (.int .u32 1747873779), .lit (.int .u32 1955562222), .lit (.int .u32 2024104815), .lit (.int .u32 2227730452), .lit (.int .u32 2361852424), .lit (.int .u32 2428436474), .lit (.int .u32 2756734187), .lit (.int .u32 3204031479), .lit (.int .u32 3329325298)]

/-- 'crossbarlaw03.ShaMatchesSpecification': WHATEVER THE INPUT: true; the input reads as it did. -/
def shaMatchesSpecificationSpec : ChangeSpec := { name := "shaMatchesSpecification", fn := fun _ => fun
  | [d] => { results := [.lit (.bool true)], args := [d] }
  | _ => none }
def shaMatchesSpecificationRow : OpenClaim := { program := "ytglabhlgnbkeiaadoor", sum := "a70e2abce4d56a6edca503a7c6452d7b390d212b8b1e41c798cd34543781da7d", func := "crossbar/crossbarlaw03.ShaMatchesSpecification", spec := "shaMatchesSpecification", unfollowed := true, recurses := true, named := ["crossbar/sha256.roundConstants", "crossbar/crossbarref03.initial", "crossbar/crossbarref03.k"], apart := false, laid := [("crossbar/crossbarref03.k", laid_crossbar_crossbarref03_k), ("crossbar/crossbarref03.initial", laid_crossbar_crossbarref03_initial), ("crossbar/sha256.roundConstants", laid_crossbar_sha256_roundConstants)] }
def ShaMatchesSpecificationSaid : Prop := shaMatchesSpecificationRow.holds Tryd.pinned (OpenSpec.ofChange shaMatchesSpecificationSpec)

/-- ITS FALSE NEIGHBOUR: 'it returns false'. Refute it at one input. -/
def shaMatchesSpecificationWrong : ChangeSpec := { name := "shaMatchesSpecification", fn := fun _ => fun
  | [d] => { results := [.lit (.bool false)], args := [d] }
  | _ => none }
def ShaMatchesSpecificationWrongFalsely : Prop := shaMatchesSpecificationRow.holds Tryd.pinned (OpenSpec.ofChange shaMatchesSpecificationWrong)

/-- 'crossbarlaw03.ShaDerivedMatchSpecification': WHATEVER THE INPUT: true; the input reads as it did. -/
def shaDerivedMatchSpecificationSpec : ChangeSpec := { name := "shaDerivedMatchSpecification", fn := fun _ => fun
  | [d1, d2, d3, d4, d5] => { results := [.lit (.bool true)], args := [d1, d2, d3, d4, d5] }
  | _ => none }
def shaDerivedMatchSpecificationRow : OpenClaim := { program := "ytglabhlgnbkeiaadoor", sum := "a70e2abce4d56a6edca503a7c6452d7b390d212b8b1e41c798cd34543781da7d", func := "crossbar/crossbarlaw03.ShaDerivedMatchSpecification", spec := "shaDerivedMatchSpecification", unfollowed := true, recurses := true, named := ["crossbar/sha256.roundConstants", "crossbar/crossbarref03.initial", "crossbar/crossbarref03.k"], apart := false, laid := [("crossbar/crossbarref03.k", laid_crossbar_crossbarref03_k), ("crossbar/crossbarref03.initial", laid_crossbar_crossbarref03_initial), ("crossbar/sha256.roundConstants", laid_crossbar_sha256_roundConstants)] }
def ShaDerivedMatchSpecificationSaid : Prop := shaDerivedMatchSpecificationRow.holds Tryd.pinned (OpenSpec.ofChange shaDerivedMatchSpecificationSpec)

/-- ITS FALSE NEIGHBOUR: 'it returns false'. Refute it at one input. -/
def shaDerivedMatchSpecificationWrong : ChangeSpec := { name := "shaDerivedMatchSpecification", fn := fun _ => fun
  | [d1, d2, d3, d4, d5] => { results := [.lit (.bool false)], args := [d1, d2, d3, d4, d5] }
  | _ => none }
def ShaDerivedMatchSpecificationWrongFalsely : Prop := shaDerivedMatchSpecificationRow.holds Tryd.pinned (OpenSpec.ofChange shaDerivedMatchSpecificationWrong)

/-- 'crossbarlaw03.ShaLengthExtension': WHATEVER THE INPUT: true; the input reads as it did. -/
def shaLengthExtensionSpec : ChangeSpec := { name := "shaLengthExtension", fn := fun _ => fun
  | [d1, d2] => { results := [.lit (.bool true)], args := [d1, d2] }
  | _ => none }
def shaLengthExtensionRow : OpenClaim := { program := "ytglabhlgnbkeiaadoor", sum := "a70e2abce4d56a6edca503a7c6452d7b390d212b8b1e41c798cd34543781da7d", func := "crossbar/crossbarlaw03.ShaLengthExtension", spec := "shaLengthExtension", unfollowed := true, recurses := true, named := ["crossbar/sha256.roundConstants", "crossbar/crossbarref03.k"], apart := false, laid := [("crossbar/crossbarref03.k", laid_crossbar_crossbarref03_k), ("crossbar/sha256.roundConstants", laid_crossbar_sha256_roundConstants)] }
def ShaLengthExtensionSaid : Prop := shaLengthExtensionRow.holds Tryd.pinned (OpenSpec.ofChange shaLengthExtensionSpec)

/-- ITS FALSE NEIGHBOUR: 'it returns false'. Refute it at one input. -/
def shaLengthExtensionWrong : ChangeSpec := { name := "shaLengthExtension", fn := fun _ => fun
  | [d1, d2] => { results := [.lit (.bool false)], args := [d1, d2] }
  | _ => none }
def ShaLengthExtensionWrongFalsely : Prop := shaLengthExtensionRow.holds Tryd.pinned (OpenSpec.ofChange shaLengthExtensionWrong)

/-- 'crossbarlaw03.ShaTaggedIsPrefixedSum': WHATEVER THE INPUT: true; the input reads as it did. -/
def shaTaggedIsPrefixedSumSpec : ChangeSpec := { name := "shaTaggedIsPrefixedSum", fn := fun _ => fun
  | [d1, d2] => { results := [.lit (.bool true)], args := [d1, d2] }
  | _ => none }
def shaTaggedIsPrefixedSumRow : OpenClaim := { program := "ytglabhlgnbkeiaadoor", sum := "a70e2abce4d56a6edca503a7c6452d7b390d212b8b1e41c798cd34543781da7d", func := "crossbar/crossbarlaw03.ShaTaggedIsPrefixedSum", spec := "shaTaggedIsPrefixedSum", unfollowed := true, recurses := true, named := ["crossbar/sha256.roundConstants"], apart := false, laid := [("crossbar/sha256.roundConstants", laid_crossbar_sha256_roundConstants)] }
def ShaTaggedIsPrefixedSumSaid : Prop := shaTaggedIsPrefixedSumRow.holds Tryd.pinned (OpenSpec.ofChange shaTaggedIsPrefixedSumSpec)

/-- ITS FALSE NEIGHBOUR: 'it returns false'. Refute it at one input. -/
def shaTaggedIsPrefixedSumWrong : ChangeSpec := { name := "shaTaggedIsPrefixedSum", fn := fun _ => fun
  | [d1, d2] => { results := [.lit (.bool false)], args := [d1, d2] }
  | _ => none }
def ShaTaggedIsPrefixedSumWrongFalsely : Prop := shaTaggedIsPrefixedSumRow.holds Tryd.pinned (OpenSpec.ofChange shaTaggedIsPrefixedSumWrong)

/-- 'crossbarlaw03.ShaTagIsTruncated': WHATEVER THE INPUT: true; the input reads as it did. -/
def shaTagIsTruncatedSpec : ChangeSpec := { name := "shaTagIsTruncated", fn := fun _ => fun
  | [d1, d2] => { results := [.lit (.bool true)], args := [d1, d2] }
  | _ => none }
def shaTagIsTruncatedRow : OpenClaim := { program := "ytglabhlgnbkeiaadoor", sum := "a70e2abce4d56a6edca503a7c6452d7b390d212b8b1e41c798cd34543781da7d", func := "crossbar/crossbarlaw03.ShaTagIsTruncated", spec := "shaTagIsTruncated", unfollowed := true, recurses := true, named := ["crossbar/sha256.roundConstants"], apart := false, laid := [("crossbar/sha256.roundConstants", laid_crossbar_sha256_roundConstants)] }
def ShaTagIsTruncatedSaid : Prop := shaTagIsTruncatedRow.holds Tryd.pinned (OpenSpec.ofChange shaTagIsTruncatedSpec)

/-- ITS FALSE NEIGHBOUR: 'it returns false'. Refute it at one input. -/
def shaTagIsTruncatedWrong : ChangeSpec := { name := "shaTagIsTruncated", fn := fun _ => fun
  | [d1, d2] => { results := [.lit (.bool false)], args := [d1, d2] }
  | _ => none }
def ShaTagIsTruncatedWrongFalsely : Prop := shaTagIsTruncatedRow.holds Tryd.pinned (OpenSpec.ofChange shaTagIsTruncatedWrong)

/-- 'crossbarlaw03.ShaPairIsTagged': WHATEVER THE INPUT: true; the input reads as it did. -/
def shaPairIsTaggedSpec : ChangeSpec := { name := "shaPairIsTagged", fn := fun _ => fun
  | [d1, d2] => { results := [.lit (.bool true)], args := [d1, d2] }
  | _ => none }
def shaPairIsTaggedRow : OpenClaim := { program := "ytglabhlgnbkeiaadoor", sum := "a70e2abce4d56a6edca503a7c6452d7b390d212b8b1e41c798cd34543781da7d", func := "crossbar/crossbarlaw03.ShaPairIsTagged", spec := "shaPairIsTagged", unfollowed := true, recurses := true, named := ["crossbar/sha256.roundConstants"], apart := false, laid := [("crossbar/sha256.roundConstants", laid_crossbar_sha256_roundConstants)] }
def ShaPairIsTaggedSaid : Prop := shaPairIsTaggedRow.holds Tryd.pinned (OpenSpec.ofChange shaPairIsTaggedSpec)

/-- ITS FALSE NEIGHBOUR: 'it returns false'. Refute it at one input. -/
def shaPairIsTaggedWrong : ChangeSpec := { name := "shaPairIsTagged", fn := fun _ => fun
  | [d1, d2] => { results := [.lit (.bool false)], args := [d1, d2] }
  | _ => none }
def ShaPairIsTaggedWrongFalsely : Prop := shaPairIsTaggedRow.holds Tryd.pinned (OpenSpec.ofChange shaPairIsTaggedWrong)

/-- 'crossbarlaw03.ShaChainsCompose': WHATEVER THE INPUT: true; the input reads as it did. -/
def shaChainsComposeSpec : ChangeSpec := { name := "shaChainsCompose", fn := fun _ => fun
  | [d1, d2, d3] => { results := [.lit (.bool true)], args := [d1, d2, d3] }
  | _ => none }
def shaChainsComposeRow : OpenClaim := { program := "ytglabhlgnbkeiaadoor", sum := "a70e2abce4d56a6edca503a7c6452d7b390d212b8b1e41c798cd34543781da7d", func := "crossbar/crossbarlaw03.ShaChainsCompose", spec := "shaChainsCompose", unfollowed := true, recurses := true, named := ["crossbar/sha256.roundConstants"], apart := false, laid := [("crossbar/sha256.roundConstants", laid_crossbar_sha256_roundConstants)] }
def ShaChainsComposeSaid : Prop := shaChainsComposeRow.holds Tryd.pinned (OpenSpec.ofChange shaChainsComposeSpec)

/-- ITS FALSE NEIGHBOUR: 'it returns false'. Refute it at one input. -/
def shaChainsComposeWrong : ChangeSpec := { name := "shaChainsCompose", fn := fun _ => fun
  | [d1, d2, d3] => { results := [.lit (.bool false)], args := [d1, d2, d3] }
  | _ => none }
def ShaChainsComposeWrongFalsely : Prop := shaChainsComposeRow.holds Tryd.pinned (OpenSpec.ofChange shaChainsComposeWrong)

/-- 'crossbarlaw03.ShaChainSteps': WHATEVER THE INPUT: true; the input reads as it did. -/
def shaChainStepsSpec : ChangeSpec := { name := "shaChainSteps", fn := fun _ => fun
  | [d1, d2] => { results := [.lit (.bool true)], args := [d1, d2] }
  | _ => none }
def shaChainStepsRow : OpenClaim := { program := "ytglabhlgnbkeiaadoor", sum := "a70e2abce4d56a6edca503a7c6452d7b390d212b8b1e41c798cd34543781da7d", func := "crossbar/crossbarlaw03.ShaChainSteps", spec := "shaChainSteps", unfollowed := true, recurses := true, named := ["crossbar/sha256.roundConstants"], apart := false, laid := [("crossbar/sha256.roundConstants", laid_crossbar_sha256_roundConstants)] }
def ShaChainStepsSaid : Prop := shaChainStepsRow.holds Tryd.pinned (OpenSpec.ofChange shaChainStepsSpec)

/-- ITS FALSE NEIGHBOUR: 'it returns false'. Refute it at one input. -/
def shaChainStepsWrong : ChangeSpec := { name := "shaChainSteps", fn := fun _ => fun
  | [d1, d2] => { results := [.lit (.bool false)], args := [d1, d2] }
  | _ => none }
def ShaChainStepsWrongFalsely : Prop := shaChainStepsRow.holds Tryd.pinned (OpenSpec.ofChange shaChainStepsWrong)

/- THE SECOND FORM. 'bulk': how many values and letters a reading holds, each counted each time it is reached (what is shared counts as often as it is met; a slice's spare places count too). A statement '..UptoSaid' is the law's where the arguments, and the package variables that the reading takes, are together of bulk at most 1048576: NARROWER than '..Said'. Prove '..Said' where nothing that the law and all that it calls make is longer than what came in: it says more and counts as full. Else prove '..UptoSaid'. A law counts once. -/
mutual
def uptoBulk {H : Type} : DataW H → Nat
  | .lit (.string bytes) => bytes.length + 1
  | .lit _ => 1
  | .nil => 1
  | .ptr d => uptoBulk d + 1
  | .slice elems spare => uptoBulkAll elems + uptoBulkAll spare + 1
  | .agg parts => uptoBulkAll parts + 1
  | .iface _ d => uptoBulk d + 1
  | .map entries => uptoBulkEntries entries + 1
  | .held _ => 1
def uptoBulkAll {H : Type} : List (DataW H) → Nat
  | [] => 0
  | d :: r => uptoBulk d + uptoBulkAll r
def uptoBulkEntries {H : Type} : List (Lit × DataW H) → Nat
  | [] => 0
  | x :: r => uptoBulkEntry x + uptoBulkEntries r
def uptoBulkEntry {H : Type} : Lit × DataW H → Nat
  | (.string bytes, d) => bytes.length + uptoBulk d + 1
  | (_, d) => uptoBulk d + 1
 end
def uptoSmall : (H : Type) → List (DataW H) → Bool := fun _ ds => decide (uptoBulkAll ds ≤ 1048576)
def OpenSpec.upto (s : _root_.Go.ChangeSpec) : _root_.Go.OpenSpec := { _root_.Go.OpenSpec.ofChange s with cond := some uptoSmall }

/-- 'crossbarlaw03.ShaMatchesSpecification', WHERE WHAT IT READS IS OF BULK AT MOST 1048576: true; the input reads as it did. -/
def shaMatchesSpecificationUptoRow : OpenClaim := { program := "ytglabhlgnbkeiaadoor", sum := "a70e2abce4d56a6edca503a7c6452d7b390d212b8b1e41c798cd34543781da7d", func := "crossbar/crossbarlaw03.ShaMatchesSpecification", spec := "shaMatchesSpecification", unfollowed := true, recurses := true, named := ["crossbar/sha256.roundConstants", "crossbar/crossbarref03.initial", "crossbar/crossbarref03.k"], apart := false, laid := [("crossbar/crossbarref03.k", laid_crossbar_crossbarref03_k), ("crossbar/crossbarref03.initial", laid_crossbar_crossbarref03_initial), ("crossbar/sha256.roundConstants", laid_crossbar_sha256_roundConstants)], narrowed := true }
def ShaMatchesSpecificationUptoSaid : Prop := shaMatchesSpecificationUptoRow.holds Tryd.pinned (OpenSpec.upto shaMatchesSpecificationSpec)

/-- 'crossbarlaw03.ShaDerivedMatchSpecification', WHERE WHAT IT READS IS OF BULK AT MOST 1048576: true; the input reads as it did. -/
def shaDerivedMatchSpecificationUptoRow : OpenClaim := { program := "ytglabhlgnbkeiaadoor", sum := "a70e2abce4d56a6edca503a7c6452d7b390d212b8b1e41c798cd34543781da7d", func := "crossbar/crossbarlaw03.ShaDerivedMatchSpecification", spec := "shaDerivedMatchSpecification", unfollowed := true, recurses := true, named := ["crossbar/sha256.roundConstants", "crossbar/crossbarref03.initial", "crossbar/crossbarref03.k"], apart := false, laid := [("crossbar/crossbarref03.k", laid_crossbar_crossbarref03_k), ("crossbar/crossbarref03.initial", laid_crossbar_crossbarref03_initial), ("crossbar/sha256.roundConstants", laid_crossbar_sha256_roundConstants)], narrowed := true }
def ShaDerivedMatchSpecificationUptoSaid : Prop := shaDerivedMatchSpecificationUptoRow.holds Tryd.pinned (OpenSpec.upto shaDerivedMatchSpecificationSpec)

/-- 'crossbarlaw03.ShaLengthExtension', WHERE WHAT IT READS IS OF BULK AT MOST 1048576: true; the input reads as it did. -/
def shaLengthExtensionUptoRow : OpenClaim := { program := "ytglabhlgnbkeiaadoor", sum := "a70e2abce4d56a6edca503a7c6452d7b390d212b8b1e41c798cd34543781da7d", func := "crossbar/crossbarlaw03.ShaLengthExtension", spec := "shaLengthExtension", unfollowed := true, recurses := true, named := ["crossbar/sha256.roundConstants", "crossbar/crossbarref03.k"], apart := false, laid := [("crossbar/crossbarref03.k", laid_crossbar_crossbarref03_k), ("crossbar/sha256.roundConstants", laid_crossbar_sha256_roundConstants)], narrowed := true }
def ShaLengthExtensionUptoSaid : Prop := shaLengthExtensionUptoRow.holds Tryd.pinned (OpenSpec.upto shaLengthExtensionSpec)

/-- 'crossbarlaw03.ShaTaggedIsPrefixedSum', WHERE WHAT IT READS IS OF BULK AT MOST 1048576: true; the input reads as it did. -/
def shaTaggedIsPrefixedSumUptoRow : OpenClaim := { program := "ytglabhlgnbkeiaadoor", sum := "a70e2abce4d56a6edca503a7c6452d7b390d212b8b1e41c798cd34543781da7d", func := "crossbar/crossbarlaw03.ShaTaggedIsPrefixedSum", spec := "shaTaggedIsPrefixedSum", unfollowed := true, recurses := true, named := ["crossbar/sha256.roundConstants"], apart := false, laid := [("crossbar/sha256.roundConstants", laid_crossbar_sha256_roundConstants)], narrowed := true }
def ShaTaggedIsPrefixedSumUptoSaid : Prop := shaTaggedIsPrefixedSumUptoRow.holds Tryd.pinned (OpenSpec.upto shaTaggedIsPrefixedSumSpec)

/-- 'crossbarlaw03.ShaTagIsTruncated', WHERE WHAT IT READS IS OF BULK AT MOST 1048576: true; the input reads as it did. -/
def shaTagIsTruncatedUptoRow : OpenClaim := { program := "ytglabhlgnbkeiaadoor", sum := "a70e2abce4d56a6edca503a7c6452d7b390d212b8b1e41c798cd34543781da7d", func := "crossbar/crossbarlaw03.ShaTagIsTruncated", spec := "shaTagIsTruncated", unfollowed := true, recurses := true, named := ["crossbar/sha256.roundConstants"], apart := false, laid := [("crossbar/sha256.roundConstants", laid_crossbar_sha256_roundConstants)], narrowed := true }
def ShaTagIsTruncatedUptoSaid : Prop := shaTagIsTruncatedUptoRow.holds Tryd.pinned (OpenSpec.upto shaTagIsTruncatedSpec)

/-- 'crossbarlaw03.ShaPairIsTagged', WHERE WHAT IT READS IS OF BULK AT MOST 1048576: true; the input reads as it did. -/
def shaPairIsTaggedUptoRow : OpenClaim := { program := "ytglabhlgnbkeiaadoor", sum := "a70e2abce4d56a6edca503a7c6452d7b390d212b8b1e41c798cd34543781da7d", func := "crossbar/crossbarlaw03.ShaPairIsTagged", spec := "shaPairIsTagged", unfollowed := true, recurses := true, named := ["crossbar/sha256.roundConstants"], apart := false, laid := [("crossbar/sha256.roundConstants", laid_crossbar_sha256_roundConstants)], narrowed := true }
def ShaPairIsTaggedUptoSaid : Prop := shaPairIsTaggedUptoRow.holds Tryd.pinned (OpenSpec.upto shaPairIsTaggedSpec)

/-- 'crossbarlaw03.ShaChainsCompose', WHERE WHAT IT READS IS OF BULK AT MOST 1048576: true; the input reads as it did. -/
def shaChainsComposeUptoRow : OpenClaim := { program := "ytglabhlgnbkeiaadoor", sum := "a70e2abce4d56a6edca503a7c6452d7b390d212b8b1e41c798cd34543781da7d", func := "crossbar/crossbarlaw03.ShaChainsCompose", spec := "shaChainsCompose", unfollowed := true, recurses := true, named := ["crossbar/sha256.roundConstants"], apart := false, laid := [("crossbar/sha256.roundConstants", laid_crossbar_sha256_roundConstants)], narrowed := true }
def ShaChainsComposeUptoSaid : Prop := shaChainsComposeUptoRow.holds Tryd.pinned (OpenSpec.upto shaChainsComposeSpec)

/-- 'crossbarlaw03.ShaChainSteps', WHERE WHAT IT READS IS OF BULK AT MOST 1048576: true; the input reads as it did. -/
def shaChainStepsUptoRow : OpenClaim := { program := "ytglabhlgnbkeiaadoor", sum := "a70e2abce4d56a6edca503a7c6452d7b390d212b8b1e41c798cd34543781da7d", func := "crossbar/crossbarlaw03.ShaChainSteps", spec := "shaChainSteps", unfollowed := true, recurses := true, named := ["crossbar/sha256.roundConstants"], apart := false, laid := [("crossbar/sha256.roundConstants", laid_crossbar_sha256_roundConstants)], narrowed := true }
def ShaChainStepsUptoSaid : Prop := shaChainStepsUptoRow.holds Tryd.pinned (OpenSpec.upto shaChainStepsSpec)

end Rows
end Go.Proofs.YtglabhlgnbkeiaaDoor
