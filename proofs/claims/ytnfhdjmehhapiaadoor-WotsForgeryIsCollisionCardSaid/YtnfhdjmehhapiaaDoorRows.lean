/-
  NARROWER THAN 'FOR EVERY INPUT', by the rows' own cells (each row's printed sentence says how): WotsMatchesNibbles: laid · WotsMatchesKeys: laid · WotsMatchesRecovery: laid · WotsSignatureVerifies: laid · WotsNibblesIncomparable: laid · WotsChainsAdvance: laid · WotsForgeryIsCollision: laid · WotsSignedPrefix: laid.
  DERIVED. THE GIVEN ROWS OF THIS SEAT. 8 by the template 'for every input the law returns true; each argument reads behind the call as it read before'; 0 by the template 'total and deterministic' (their statements: YtnfhdjmehhapiaaDoorTotals.lean).
  GIVEN WITH THE SEED: the statements are not yours to turn. If you find one false, say at which input.
  Laid BY PROGRAM, IN A SANDBOX (cutbox-rows.mjs): the forced cells as the released guide's own fill.sh prints them over the translation ed8fac063bdfd3d8… (all of the seat's roots in one cut). By AI agents, Wed Nov 11 2026. No macro, syntax, notation, axiom, sorry.
-/
import Derived.Test.YtnfhdjmehhapiaaDoorChecked
import GoSem.Claim
import GoSem.ClaimJoined
import GoSem.ClaimMapViews
import Derived.JoinedTies
import Derived.KernelRfl
namespace Go.Proofs.YtnfhdjmehhapiaaDoor
/- THE CELL 'sum', in the pinned program and in every row, IS THE sha256 OF THE DUMP (.gsa) THAT YtnfhdjmehhapiaaDoorProg.lean LOADS. Nothing in Lean hashes anything: it is a label: what it is worth is what the hold of that sum in a sandbox is worth. -/
noncomputable def Tryd.pinned : Pinned := { name := "ytnfhdjmehhapiaadoor", sum := "ed8fac063bdfd3d822e993f822307887d4976326582e9b7dd1ced1b74afd5854", checked := Tryd.checked }
namespace Rows
def none {H : Type} : Left H := { results := [], args := [] }

/- WHAT THE LISTED PACKAGE-LEVEL VARIABLES READ AS WHEN THE CALL BEGINS. Each datum BY PROGRAM (the guide's laid-datum.mjs) off the statement by which the dump's own 'gosem.cut.vars' lays the variable. In a bare row this is a premise. The card (YtnfhdjmehhapiaaDoorCards.lean) ties it to the program's text. -/
def laid_crossbar_sha256_roundConstants {H : Type} : DataW H := .agg [.lit (.int .u32 1116352408), .lit (.int .u32 1899447441), .lit (.int .u32 3049323471), .lit (.int .u32 3921009573), .lit (.int .u32 961987163), .lit (.int .u32 1508970993), .lit (.int .u32 2453635748), .lit (.int .u32 2870763221), .lit (.int .u32 3624381080), .lit (.int .u32 310598401), .lit (.int .u32 607225278), .lit (.int .u32 1426881987), .lit (.int .u32 1925078388), .lit (.int .u32 2162078206), .lit (.int .u32 2614888103), .lit (.int .u32 3248222580), .lit (.int .u32 3835390401), .lit (.int .u32 4022224774), .lit (.int .u32 264347078), .lit (.int .u32 604807628), .lit (.int .u32 770255983), .lit (.int .u32 1249150122), .lit (.int .u32 1555081692), .lit (.int .u32 1996064986), .lit (.int .u32 2554220882), .lit (.int .u32 2821834349), .lit (.int .u32 2952996808), .lit (.int .u32 3210313671), .lit (.int .u32 3336571891), .lit (.int .u32 3584528711), .lit (.int .u32 113926993), .lit (.int .u32 338241895), .lit (.int .u32 666307205), .lit (.int .u32 773529912), .lit (.int .u32 1294757372), .lit (.int .u32 1396182291), .lit (.int .u32 1695183700), .lit (.int .u32 1986661051), .lit (.int .u32 2177026350), .lit (.int .u32 2456956037), .lit (.int .u32 2730485921), .lit (.int .u32 2820302411), .lit (.int .u32 3259730800), .lit (.int .u32 3345764771), .lit (.int .u32 3516065817), .lit (.int .u32 3600352804), .lit (.int .u32 4094571909), .lit (.int .u32 275423344), .lit (.int .u32 430227734), .lit (.int .u32 506948616), .lit (.int .u32 659060556), .lit (.int .u32 883997877), .lit (.int .u32 958139571), .lit (.int .u32 1322822218), .lit (.int .u32 1537002063), .lit (.int .u32 1747873779), .lit (.int .u32 1955562222), .lit (.int .u32 2024104815), .lit (.int .u32 2227730452), .lit (.int .u32 2361852424), .lit (.int .u32 2428436474), .lit (.int .u32 2756734187), .lit (.int .u32 3204031479), .lit (.int .u32 3329325298)]
def laid_crossbar_crossbarref03_k {H : Type} : DataW H := .agg [.lit (.int .u32 1116352408), .lit (.int .u32 1899447441), .lit (.int .u32 3049323471), .lit (.int .u32 3921009573), .lit (.int .u32 961987163), .lit (.int .u32 1508970993), .lit (.int .u32 2453635748), .lit (.int .u32 2870763221), .lit (.int .u32 3624381080), .lit (.int .u32 310598401), .lit (.int .u32 607225278), .lit (.int .u32 1426881987), .lit (.int .u32 1925078388), .lit (.int .u32 2162078206), .lit (.int .u32 2614888103), .lit (.int .u32 3248222580), .lit (.int .u32 3835390401), .lit (.int .u32 4022224774), .lit (.int .u32 264347078), .lit (.int .u32 604807628), .lit (.int .u32 770255983), .lit (.int .u32 1249150122), .lit (.int .u32 1555081692), .lit (.int .u32 1996064986), .lit (.int .u32 2554220882), .lit (.int .u32 2821834349), .lit (.int .u32 2952996808), .lit (.int .u32 3210313671), .lit (.int .u32 3336571891), .lit (.int .u32 3584528711), .lit (.int .u32 113926993), .lit (.int .u32 338241895), .lit (.int .u32 666307205), .lit (.int .u32 773529912), .lit (.int .u32 1294757372), .lit (.int .u32 1396182291), .lit (.int .u32 1695183700), .lit (.int .u32 1986661051), .lit (.int .u32 2177026350), .lit (.int .u32 2456956037), .lit (.int .u32 2730485921), .lit (.int .u32 2820302411), .lit (.int .u32 3259730800), .lit (.int .u32 3345764771), .lit (.int .u32 3516065817), .lit (.int .u32 3600352804), .lit (.int .u32 4094571909), .lit (.int .u32 275423344), .lit (.int .u32 430227734), .lit (.int .u32 506948616), .lit (.int .u32 659060556), .lit (.int .u32 883997877), .lit (.int .u32 958139571), .lit (.int .u32 1322822218), .lit (.int .u32 1537002063), .lit (.int .u32 1747873779), .lit (.int .u32 1955562222), .lit (.int .u32 2024104815), .lit (.int .u32 2227730452), .lit (.int .u32 2361852424), .lit (.int .u32 2428436474), .lit (.int .u32 2756734187), .lit (.int .u32 3204031479), .lit (.int .u32 3329325298)]
def laid_crossbar_crossbarref03_initial {H : Type} : DataW H := .agg [.lit (.int .u32 1779033703), .lit (.int .u32 3144134277), .lit (.int .u32 1013904242), .lit (.int .u32 2773480762), .lit (.int .u32 1359893119), .lit (.int .u32 2600822924), .lit (.int .u32 528734635), .lit (.int .u32 1541459225)]

/-- 'crossbarlaw04.WotsMatchesNibbles': WHATEVER THE INPUT: true; the input reads as it did. -/
def wotsMatchesNibblesSpec : ChangeSpec := { name := "wotsMatchesNibbles", fn := fun _ => fun
  | [d] => { results := [.lit (.bool true)], args := [d] }
  | _ => none }
def wotsMatchesNibblesRow : OpenClaim := { program := "ytnfhdjmehhapiaadoor", sum := "ed8fac063bdfd3d822e993f822307887d4976326582e9b7dd1ced1b74afd5854", func := "crossbar/crossbarlaw04.WotsMatchesNibbles", spec := "wotsMatchesNibbles", unfollowed := true, recurses := true, named := ["crossbar/sha256.roundConstants"], apart := false, laid := [("crossbar/sha256.roundConstants", laid_crossbar_sha256_roundConstants)] }
def WotsMatchesNibblesSaid : Prop := wotsMatchesNibblesRow.holds Tryd.pinned (OpenSpec.ofChange wotsMatchesNibblesSpec)

/-- ITS FALSE NEIGHBOUR: 'it returns false'. Refute it at one input. -/
def wotsMatchesNibblesWrong : ChangeSpec := { name := "wotsMatchesNibbles", fn := fun _ => fun
  | [d] => { results := [.lit (.bool false)], args := [d] }
  | _ => none }
def WotsMatchesNibblesWrongFalsely : Prop := wotsMatchesNibblesRow.holds Tryd.pinned (OpenSpec.ofChange wotsMatchesNibblesWrong)

/-- 'crossbarlaw04.WotsMatchesKeys': WHATEVER THE INPUT: true; the input reads as it did. -/
def wotsMatchesKeysSpec : ChangeSpec := { name := "wotsMatchesKeys", fn := fun _ => fun
  | [d1, d2, d3] => { results := [.lit (.bool true)], args := [d1, d2, d3] }
  | _ => none }
def wotsMatchesKeysRow : OpenClaim := { program := "ytnfhdjmehhapiaadoor", sum := "ed8fac063bdfd3d822e993f822307887d4976326582e9b7dd1ced1b74afd5854", func := "crossbar/crossbarlaw04.WotsMatchesKeys", spec := "wotsMatchesKeys", unfollowed := true, recurses := true, named := ["crossbar/sha256.roundConstants", "crossbar/crossbarref03.initial", "crossbar/crossbarref03.k"], apart := false, laid := [("crossbar/crossbarref03.k", laid_crossbar_crossbarref03_k), ("crossbar/crossbarref03.initial", laid_crossbar_crossbarref03_initial), ("crossbar/sha256.roundConstants", laid_crossbar_sha256_roundConstants)] }
def WotsMatchesKeysSaid : Prop := wotsMatchesKeysRow.holds Tryd.pinned (OpenSpec.ofChange wotsMatchesKeysSpec)

/-- ITS FALSE NEIGHBOUR: 'it returns false'. Refute it at one input. -/
def wotsMatchesKeysWrong : ChangeSpec := { name := "wotsMatchesKeys", fn := fun _ => fun
  | [d1, d2, d3] => { results := [.lit (.bool false)], args := [d1, d2, d3] }
  | _ => none }
def WotsMatchesKeysWrongFalsely : Prop := wotsMatchesKeysRow.holds Tryd.pinned (OpenSpec.ofChange wotsMatchesKeysWrong)

/-- 'crossbarlaw04.WotsMatchesRecovery': WHATEVER THE INPUT: true; the input reads as it did. -/
def wotsMatchesRecoverySpec : ChangeSpec := { name := "wotsMatchesRecovery", fn := fun _ => fun
  | [d1, d2, d3] => { results := [.lit (.bool true)], args := [d1, d2, d3] }
  | _ => none }
def wotsMatchesRecoveryRow : OpenClaim := { program := "ytnfhdjmehhapiaadoor", sum := "ed8fac063bdfd3d822e993f822307887d4976326582e9b7dd1ced1b74afd5854", func := "crossbar/crossbarlaw04.WotsMatchesRecovery", spec := "wotsMatchesRecovery", unfollowed := true, recurses := true, named := ["crossbar/sha256.roundConstants", "crossbar/crossbarref03.initial", "crossbar/crossbarref03.k"], apart := false, laid := [("crossbar/crossbarref03.k", laid_crossbar_crossbarref03_k), ("crossbar/crossbarref03.initial", laid_crossbar_crossbarref03_initial), ("crossbar/sha256.roundConstants", laid_crossbar_sha256_roundConstants)] }
def WotsMatchesRecoverySaid : Prop := wotsMatchesRecoveryRow.holds Tryd.pinned (OpenSpec.ofChange wotsMatchesRecoverySpec)

/-- ITS FALSE NEIGHBOUR: 'it returns false'. Refute it at one input. -/
def wotsMatchesRecoveryWrong : ChangeSpec := { name := "wotsMatchesRecovery", fn := fun _ => fun
  | [d1, d2, d3] => { results := [.lit (.bool false)], args := [d1, d2, d3] }
  | _ => none }
def WotsMatchesRecoveryWrongFalsely : Prop := wotsMatchesRecoveryRow.holds Tryd.pinned (OpenSpec.ofChange wotsMatchesRecoveryWrong)

/-- 'crossbarlaw04.WotsSignatureVerifies': WHATEVER THE INPUT: true; the input reads as it did. -/
def wotsSignatureVerifiesSpec : ChangeSpec := { name := "wotsSignatureVerifies", fn := fun _ => fun
  | [d1, d2, d3] => { results := [.lit (.bool true)], args := [d1, d2, d3] }
  | _ => none }
def wotsSignatureVerifiesRow : OpenClaim := { program := "ytnfhdjmehhapiaadoor", sum := "ed8fac063bdfd3d822e993f822307887d4976326582e9b7dd1ced1b74afd5854", func := "crossbar/crossbarlaw04.WotsSignatureVerifies", spec := "wotsSignatureVerifies", unfollowed := true, recurses := true, named := ["crossbar/sha256.roundConstants"], apart := false, laid := [("crossbar/sha256.roundConstants", laid_crossbar_sha256_roundConstants)] }
def WotsSignatureVerifiesSaid : Prop := wotsSignatureVerifiesRow.holds Tryd.pinned (OpenSpec.ofChange wotsSignatureVerifiesSpec)

/-- ITS FALSE NEIGHBOUR: 'it returns false'. Refute it at one input. -/
def wotsSignatureVerifiesWrong : ChangeSpec := { name := "wotsSignatureVerifies", fn := fun _ => fun
  | [d1, d2, d3] => { results := [.lit (.bool false)], args := [d1, d2, d3] }
  | _ => none }
def WotsSignatureVerifiesWrongFalsely : Prop := wotsSignatureVerifiesRow.holds Tryd.pinned (OpenSpec.ofChange wotsSignatureVerifiesWrong)

/-- 'crossbarlaw04.WotsNibblesIncomparable': WHATEVER THE INPUT: true; the input reads as it did. -/
def wotsNibblesIncomparableSpec : ChangeSpec := { name := "wotsNibblesIncomparable", fn := fun _ => fun
  | [d1, d2] => { results := [.lit (.bool true)], args := [d1, d2] }
  | _ => none }
def wotsNibblesIncomparableRow : OpenClaim := { program := "ytnfhdjmehhapiaadoor", sum := "ed8fac063bdfd3d822e993f822307887d4976326582e9b7dd1ced1b74afd5854", func := "crossbar/crossbarlaw04.WotsNibblesIncomparable", spec := "wotsNibblesIncomparable", unfollowed := true, recurses := true, named := ["crossbar/sha256.roundConstants"], apart := false, laid := [("crossbar/sha256.roundConstants", laid_crossbar_sha256_roundConstants)] }
def WotsNibblesIncomparableSaid : Prop := wotsNibblesIncomparableRow.holds Tryd.pinned (OpenSpec.ofChange wotsNibblesIncomparableSpec)

/-- ITS FALSE NEIGHBOUR: 'it returns false'. Refute it at one input. -/
def wotsNibblesIncomparableWrong : ChangeSpec := { name := "wotsNibblesIncomparable", fn := fun _ => fun
  | [d1, d2] => { results := [.lit (.bool false)], args := [d1, d2] }
  | _ => none }
def WotsNibblesIncomparableWrongFalsely : Prop := wotsNibblesIncomparableRow.holds Tryd.pinned (OpenSpec.ofChange wotsNibblesIncomparableWrong)

/-- 'crossbarlaw04.WotsChainsAdvance': WHATEVER THE INPUT: true; the input reads as it did. -/
def wotsChainsAdvanceSpec : ChangeSpec := { name := "wotsChainsAdvance", fn := fun _ => fun
  | [d1, d2, d3, d4] => { results := [.lit (.bool true)], args := [d1, d2, d3, d4] }
  | _ => none }
def wotsChainsAdvanceRow : OpenClaim := { program := "ytnfhdjmehhapiaadoor", sum := "ed8fac063bdfd3d822e993f822307887d4976326582e9b7dd1ced1b74afd5854", func := "crossbar/crossbarlaw04.WotsChainsAdvance", spec := "wotsChainsAdvance", unfollowed := true, recurses := true, named := ["crossbar/sha256.roundConstants"], apart := false, laid := [("crossbar/sha256.roundConstants", laid_crossbar_sha256_roundConstants)] }
def WotsChainsAdvanceSaid : Prop := wotsChainsAdvanceRow.holds Tryd.pinned (OpenSpec.ofChange wotsChainsAdvanceSpec)

/-- ITS FALSE NEIGHBOUR: 'it returns false'. Refute it at one input. -/
def wotsChainsAdvanceWrong : ChangeSpec := { name := "wotsChainsAdvance", fn := fun _ => fun
  | [d1, d2, d3, d4] => { results := [.lit (.bool false)], args := [d1, d2, d3, d4] }
  | _ => none }
def WotsChainsAdvanceWrongFalsely : Prop := wotsChainsAdvanceRow.holds Tryd.pinned (OpenSpec.ofChange wotsChainsAdvanceWrong)

/-- 'crossbarlaw04.WotsForgeryIsCollision': WHATEVER THE INPUT: true; the input reads as it did. -/
def wotsForgeryIsCollisionSpec : ChangeSpec := { name := "wotsForgeryIsCollision", fn := fun _ => fun
  | [d1, d2, d3, d4] => { results := [.lit (.bool true)], args := [d1, d2, d3, d4] }
  | _ => none }
def wotsForgeryIsCollisionRow : OpenClaim := { program := "ytnfhdjmehhapiaadoor", sum := "ed8fac063bdfd3d822e993f822307887d4976326582e9b7dd1ced1b74afd5854", func := "crossbar/crossbarlaw04.WotsForgeryIsCollision", spec := "wotsForgeryIsCollision", unfollowed := true, recurses := true, named := ["crossbar/sha256.roundConstants"], apart := false, laid := [("crossbar/sha256.roundConstants", laid_crossbar_sha256_roundConstants)] }
def WotsForgeryIsCollisionSaid : Prop := wotsForgeryIsCollisionRow.holds Tryd.pinned (OpenSpec.ofChange wotsForgeryIsCollisionSpec)

/-- ITS FALSE NEIGHBOUR: 'it returns false'. Refute it at one input. -/
def wotsForgeryIsCollisionWrong : ChangeSpec := { name := "wotsForgeryIsCollision", fn := fun _ => fun
  | [d1, d2, d3, d4] => { results := [.lit (.bool false)], args := [d1, d2, d3, d4] }
  | _ => none }
def WotsForgeryIsCollisionWrongFalsely : Prop := wotsForgeryIsCollisionRow.holds Tryd.pinned (OpenSpec.ofChange wotsForgeryIsCollisionWrong)

/-- 'crossbarlaw04.WotsSignedPrefix': WHATEVER THE INPUT: true; the input reads as it did. -/
def wotsSignedPrefixSpec : ChangeSpec := { name := "wotsSignedPrefix", fn := fun _ => fun
  | [d1, d2, d3, d4] => { results := [.lit (.bool true)], args := [d1, d2, d3, d4] }
  | _ => none }
def wotsSignedPrefixRow : OpenClaim := { program := "ytnfhdjmehhapiaadoor", sum := "ed8fac063bdfd3d822e993f822307887d4976326582e9b7dd1ced1b74afd5854", func := "crossbar/crossbarlaw04.WotsSignedPrefix", spec := "wotsSignedPrefix", unfollowed := true, recurses := true, named := ["crossbar/sha256.roundConstants"], apart := false, laid := [("crossbar/sha256.roundConstants", laid_crossbar_sha256_roundConstants)] }
def WotsSignedPrefixSaid : Prop := wotsSignedPrefixRow.holds Tryd.pinned (OpenSpec.ofChange wotsSignedPrefixSpec)

/-- ITS FALSE NEIGHBOUR: 'it returns false'. Refute it at one input. -/
def wotsSignedPrefixWrong : ChangeSpec := { name := "wotsSignedPrefix", fn := fun _ => fun
  | [d1, d2, d3, d4] => { results := [.lit (.bool false)], args := [d1, d2, d3, d4] }
  | _ => none }
def WotsSignedPrefixWrongFalsely : Prop := wotsSignedPrefixRow.holds Tryd.pinned (OpenSpec.ofChange wotsSignedPrefixWrong)

/- THE SECOND FORM. 'bulk': how many values and letters a reading holds, each counted each time it is reached (what is shared counts as often as it is met; a slice's spare places count too). A statement '..UptoSaid' is the law's where the arguments, and the package variables that the reading takes, are together of bulk at most 1048576: NARROWER than '..Said'. Prove '..Said' where nothing that the law and all that it calls make is longer than what came in: it says more and counts as full. Else prove '..UptoSaid'. A law counts once. -/
mutual
def uptoBulk {H : Type} : DataW H → Nat
  | .lit (.string bytes) => bytes.length + 1
  | .lit _ => 1
  | .nil => 1
  | .ptr d => uptoBulk d + 1
  | .slice elems spare => uptoBulkAll elems + uptoBulkAll spare + 1
  | .agg parts => uptoBulkAll parts + 1
  | .iface _ d => uptoBulk d + 1
  | .map entries => uptoBulkEntries entries + 1
  | .held _ => 1
def uptoBulkAll {H : Type} : List (DataW H) → Nat
  | [] => 0
  | d :: r => uptoBulk d + uptoBulkAll r
def uptoBulkEntries {H : Type} : List (Lit × DataW H) → Nat
  | [] => 0
  | x :: r => uptoBulkEntry x + uptoBulkEntries r
def uptoBulkEntry {H : Type} : Lit × DataW H → Nat
  | (.string bytes, d) => bytes.length + uptoBulk d + 1
  | (_, d) => uptoBulk d + 1
 end
def uptoSmall : (H : Type) → List (DataW H) → Bool := fun _ ds => decide (uptoBulkAll ds ≤ 1048576)
def OpenSpec.upto (s : _root_.Go.ChangeSpec) : _root_.Go.OpenSpec := { _root_.Go.OpenSpec.ofChange s with cond := some uptoSmall }

/-- 'crossbarlaw04.WotsMatchesNibbles', WHERE WHAT IT READS IS OF BULK AT MOST 1048576: true; the input reads as it did. -/
def wotsMatchesNibblesUptoRow : OpenClaim := { program := "ytnfhdjmehhapiaadoor", sum := "ed8fac063bdfd3d822e993f822307887d4976326582e9b7dd1ced1b74afd5854", func := "crossbar/crossbarlaw04.WotsMatchesNibbles", spec := "wotsMatchesNibbles", unfollowed := true, recurses := true, named := ["crossbar/sha256.roundConstants"], apart := false, laid := [("crossbar/sha256.roundConstants", laid_crossbar_sha256_roundConstants)], narrowed := true }
def WotsMatchesNibblesUptoSaid : Prop := wotsMatchesNibblesUptoRow.holds Tryd.pinned (OpenSpec.upto wotsMatchesNibblesSpec)

/-- 'crossbarlaw04.WotsMatchesKeys', WHERE WHAT IT READS IS OF BULK AT MOST 1048576: true; the input reads as it did. -/
def wotsMatchesKeysUptoRow : OpenClaim := { program := "ytnfhdjmehhapiaadoor", sum := "ed8fac063bdfd3d822e993f822307887d4976326582e9b7dd1ced1b74afd5854", func := "crossbar/crossbarlaw04.WotsMatchesKeys", spec := "wotsMatchesKeys", unfollowed := true, recurses := true, named := ["crossbar/sha256.roundConstants", "crossbar/crossbarref03.initial", "crossbar/crossbarref03.k"], apart := false, laid := [("crossbar/crossbarref03.k", laid_crossbar_crossbarref03_k), ("crossbar/crossbarref03.initial", laid_crossbar_crossbarref03_initial), ("crossbar/sha256.roundConstants", laid_crossbar_sha256_roundConstants)], narrowed := true }
def WotsMatchesKeysUptoSaid : Prop := wotsMatchesKeysUptoRow.holds Tryd.pinned (OpenSpec.upto wotsMatchesKeysSpec)

/-- 'crossbarlaw04.WotsMatchesRecovery', WHERE WHAT IT READS IS OF BULK AT MOST 1048576: true; the input reads as it did. -/
def wotsMatchesRecoveryUptoRow : OpenClaim := { program := "ytnfhdjmehhapiaadoor", sum := "ed8fac063bdfd3d822e993f822307887d4976326582e9b7dd1ced1b74afd5854", func := "crossbar/crossbarlaw04.WotsMatchesRecovery", spec := "wotsMatchesRecovery", unfollowed := true, recurses := true, named := ["crossbar/sha256.roundConstants", "crossbar/crossbarref03.initial", "crossbar/crossbarref03.k"], apart := false, laid := [("crossbar/crossbarref03.k", laid_crossbar_crossbarref03_k), ("crossbar/crossbarref03.initial", laid_crossbar_crossbarref03_initial), ("crossbar/sha256.roundConstants", laid_crossbar_sha256_roundConstants)], narrowed := true }
def WotsMatchesRecoveryUptoSaid : Prop := wotsMatchesRecoveryUptoRow.holds Tryd.pinned (OpenSpec.upto wotsMatchesRecoverySpec)

/-- 'crossbarlaw04.WotsSignatureVerifies', WHERE WHAT IT READS IS OF BULK AT MOST 1048576: true; the input reads as it did. -/
def wotsSignatureVerifiesUptoRow : OpenClaim := { program := "ytnfhdjmehhapiaadoor", sum := "ed8fac063bdfd3d822e993f822307887d4976326582e9b7dd1ced1b74afd5854", func := "crossbar/crossbarlaw04.WotsSignatureVerifies", spec := "wotsSignatureVerifies", unfollowed := true, recurses := true, named := ["crossbar/sha256.roundConstants"], apart := false, laid := [("crossbar/sha256.roundConstants", laid_crossbar_sha256_roundConstants)], narrowed := true }
def WotsSignatureVerifiesUptoSaid : Prop := wotsSignatureVerifiesUptoRow.holds Tryd.pinned (OpenSpec.upto wotsSignatureVerifiesSpec)

/-- 'crossbarlaw04.WotsNibblesIncomparable', WHERE WHAT IT READS IS OF BULK AT MOST 1048576: true; the input reads as it did. -/
def wotsNibblesIncomparableUptoRow : OpenClaim := { program := "ytnfhdjmehhapiaadoor", sum := "ed8fac063bdfd3d822e993f822307887d4976326582e9b7dd1ced1b74afd5854", func := "crossbar/crossbarlaw04.WotsNibblesIncomparable", spec := "wotsNibblesIncomparable", unfollowed := true, recurses := true, named := ["crossbar/sha256.roundConstants"], apart := false, laid := [("crossbar/sha256.roundConstants", laid_crossbar_sha256_roundConstants)], narrowed := true }
def WotsNibblesIncomparableUptoSaid : Prop := wotsNibblesIncomparableUptoRow.holds Tryd.pinned (OpenSpec.upto wotsNibblesIncomparableSpec)

/-- 'crossbarlaw04.WotsChainsAdvance', WHERE WHAT IT READS IS OF BULK AT MOST 1048576: true; the input reads as it did. -/
def wotsChainsAdvanceUptoRow : OpenClaim := { program := "ytnfhdjmehhapiaadoor", sum := "ed8fac063bdfd3d822e993f822307887d4976326582e9b7dd1ced1b74afd5854", func := "crossbar/crossbarlaw04.WotsChainsAdvance", spec := "wotsChainsAdvance", unfollowed := true, recurses := true, named := ["crossbar/sha256.roundConstants"], apart := false, laid := [("crossbar/sha256.roundConstants", laid_crossbar_sha256_roundConstants)], narrowed := true }
def WotsChainsAdvanceUptoSaid : Prop := wotsChainsAdvanceUptoRow.holds Tryd.pinned (OpenSpec.upto wotsChainsAdvanceSpec)

/-- 'crossbarlaw04.WotsForgeryIsCollision', WHERE WHAT IT READS IS OF BULK AT MOST 1048576: true; the input reads as it did. -/
def wotsForgeryIsCollisionUptoRow : OpenClaim := { program := "ytnfhdjmehhapiaadoor", sum := "ed8fac063bdfd3d822e993f822307887d4976326582e9b7dd1ced1b74afd5854", func := "crossbar/crossbarlaw04.WotsForgeryIsCollision", spec := "wotsForgeryIsCollision", unfollowed := true, recurses := true, named := ["crossbar/sha256.roundConstants"], apart := false, laid := [("crossbar/sha256.roundConstants", laid_crossbar_sha256_roundConstants)], narrowed := true }
def WotsForgeryIsCollisionUptoSaid : Prop := wotsForgeryIsCollisionUptoRow.holds Tryd.pinned (OpenSpec.upto wotsForgeryIsCollisionSpec)

/-- 'crossbarlaw04.WotsSignedPrefix', WHERE WHAT IT READS IS OF BULK AT MOST 1048576: true; the input reads as it did. -/
def wotsSignedPrefixUptoRow : OpenClaim := { program := "ytnfhdjmehhapiaadoor", sum := "ed8fac063bdfd3d822e993f822307887d4976326582e9b7dd1ced1b74afd5854", func := "crossbar/crossbarlaw04.WotsSignedPrefix", spec := "wotsSignedPrefix", unfollowed := true, recurses := true, named := ["crossbar/sha256.roundConstants"], apart := false, laid := [("crossbar/sha256.roundConstants", laid_crossbar_sha256_roundConstants)], narrowed := true }
def WotsSignedPrefixUptoSaid : Prop := wotsSignedPrefixUptoRow.holds Tryd.pinned (OpenSpec.upto wotsSignedPrefixSpec)

end Rows
end Go.Proofs.YtnfhdjmehhapiaaDoor
