/-
  NARROWER THAN 'FOR EVERY INPUT', by the rows' own cells (each row's printed sentence says how): KeytreeSignSpec: laid · KeytreeTreeSpec: laid · KeytreeSignatureVerifies: laid · KeytreeClimbReachesRoot: laid · KeytreeClimbSteps: laid · KeytreeForgeryCollides: laid · KeytreeVerifyShape: laid · KeytreeVerifyRoot: laid.
  DERIVED. THE GIVEN ROWS OF THIS SEAT. 8 by the template 'for every input the law returns true; each argument reads behind the call as it read before'; 0 by the template 'total and deterministic' (their statements: YtccepoeenkpifaaDoorTotals.lean).
  GIVEN WITH THE SEED: the statements are not yours to turn. If you find one false, say at which input.
  Laid BY PROGRAM, IN A SANDBOX (cutbox-rows.mjs): the forced cells as the released guide's own fill.sh prints them over the translation 542adc0be22db037… (all of the seat's roots in one cut). By AI agents, Wed Nov 11 2026. No macro, syntax, notation, axiom, sorry.
-/
import Derived.Test.YtccepoeenkpifaaDoorChecked
import GoSem.Claim
import GoSem.ClaimJoined
import GoSem.ClaimMapViews
import Derived.JoinedTies
import Derived.KernelRfl
namespace Go.Proofs.YtccepoeenkpifaaDoor
/- THE CELL 'sum', in the pinned program and in every row, IS THE sha256 OF THE DUMP (.gsa) THAT YtccepoeenkpifaaDoorProg.lean LOADS. Nothing in Lean hashes anything: it is a label: what it is worth is what the hold of that sum in a sandbox is worth. -/
noncomputable def Tryd.pinned : Pinned := { name := "ytccepoeenkpifaadoor", sum := "542adc0be22db0378d8623eaa059e4f6955482feab535e94ee18cc1cc5ef4bef", checked := Tryd.checked }
namespace Rows
def none {H : Type} : Left H := { results := [], args := [] }

/- WHAT THE LISTED PACKAGE-LEVEL VARIABLES READ AS WHEN THE CALL BEGINS. Each datum BY PROGRAM (the guide's laid-datum.mjs) off the statement by which the dump's own 'gosem.cut.vars' lays the variable. In a bare row this is a premise. The card (YtccepoeenkpifaaDoorCards.lean) ties it to the program's text. -/
def laid_crossbar_crossbarref03_k {H : Type} : DataW H := .agg [.lit (.int .u32 1116352408), .lit (.int .u32 1899447441), .lit (.int .u32 3049323471), .lit (.int .u32 3921009573), .lit (.int .u32 961987163), .lit (.int .u32 1508970993), .lit (.int .u32 2453635748), .lit (.int .u32 2870763221), .lit (.int .u32 3624381080), .lit (.int .u32 310598401), .lit (.int .u32 607225278), .lit (.int .u32 1426881987), .lit (.int .u32 1925078388), .lit (.int .u32 2162078206), .lit (.int .u32 2614888103), .lit (.int .u32 3248222580), .lit (.int .u32 3835390401), .lit (.int .u32 4022224774), .lit (.int .u32 264347078), .lit (.int .u32 604807628), .lit (.int .u32 770255983), .lit (.int .u32 1249150122), .lit (.int .u32 1555081692), .lit (.int .u32 1996064986), .lit (.int .u32 2554220882), .lit (.int .u32 2821834349), .lit (.int .u32 2952996808), .lit (.int .u32 3210313671), .lit (.int .u32 3336571891), .lit (.int .u32 3584528711), .lit (.int .u32 113926993), .lit (.int .u32 338241895), .lit (.int .u32 666307205), .lit (.int .u32 773529912), .lit (.int .u32 1294757372), .lit (.int .u32 1396182291), .lit (.int .u32 1695183700), .lit (.int .u32 1986661051), .lit (.int .u32 2177026350), .lit (.int .u32 2456956037), .lit (.int .u32 2730485921), .lit (.int .u32 2820302411), .lit (.int .u32 3259730800), .lit (.int .u32 3345764771), .lit (.int .u32 3516065817), .lit (.int .u32 3600352804), .lit (.int .u32 4094571909), .lit (.int .u32 275423344), .lit (.int .u32 430227734), .lit (.int .u32 506948616), .lit (.int .u32 659060556), .lit (.int .u32 883997877), .lit (.int .u32 958139571), .lit (.int .u32 1322822218), .lit (.int .u32 1537002063), .lit (.int .u32 1747873779), .lit (.int .u32 1955562222), .lit (.int .u32 2024104815), .lit (.int .u32 2227730452), .lit (.int .u32 2361852424), .lit (.int .u32 2428436474), .lit (.int .u32 2756734187), .lit (.int .u32 3204031479), .lit (.int .u32 3329325298)]
def laid_crossbar_crossbarref03_initial {H : Type} : DataW H := .agg [.lit (.int .u32 1779033703), .lit (.int .u32 3144134277), .lit (.int .u32 1013904242), .lit (.int .u32 2773480762), .lit (.int .u32 1359893119), .lit (.int .u32 2600822924), .lit (.int .u32 528734635), .lit (.int .u32 1541459225)]
def laid_crossbar_sha256_roundConstants {H : Type} : DataW H := .agg [.lit (.int .u32 1116352408), .lit (.int .u32 1899447441), .lit (.int .u32 3049323471), .lit (.int .u32 3921009573), .lit (.int .u32 961987163), .lit (.int .u32 1508970993), .lit (.int .u32 2453635748), .lit (.int .u32 2870763221), .lit (.int .u32 3624381080), .lit (.int .u32 310598401), .lit (.int .u32 607225278), .lit (.int .u32 1426881987), .lit (.int .u32 1925078388), .lit (.int .u32 2162078206), .lit (.int .u32 2614888103), .lit (.int .u32 3248222580), .lit (.int .u32 3835390401), .lit (.int .u32 4022224774), .lit (.int .u32 264347078), .lit (.int .u32 604807628), .lit (.int .u32 770255983), .lit (.int .u32 1249150122), .lit (.int .u32 1555081692), .lit (.int .u32 1996064986), .lit (.int .u32 2554220882), .lit (.int .u32 2821834349), .lit (.int .u32 2952996808), .lit (.int .u32 3210313671), .lit (.int .u32 3336571891), .lit (.int .u32 3584528711), .lit (.int .u32 113926993), .lit (.int .u32 338241895), .lit (.int .u32 666307205), .lit (.int .u32 773529912), .lit (.int .u32 1294757372), .lit (.int .u32 1396182291), .lit (.int .u32 1695183700), .lit (.int .u32 1986661051), .lit (.int .u32 2177026350), .lit (.int .u32 2456956037), .lit (.int .u32 2730485921), .lit (.int .u32 2820302411), .lit (.int .u32 3259730800), .lit (.int .u32 3345764771), .lit (.int .u32 3516065817), .lit (.int .u32 3600352804), .lit (.int .u32 4094571909), .lit (.int .u32 275423344), .lit (.int .u32 430227734), .lit (.int .u32 506948616), .lit (.int .u32 659060556), .lit (.int .u32 883997877), .lit (.int .u32 958139571), .lit (.int .u32 1322822218), .lit (.int .u32 1537002063), .lit (.int .u32 1747873779), .lit (.int .u32 1955562222), .lit (.int .u32 2024104815), .lit (.int .u32 2227730452), .lit (.int .u32 2361852424), .lit (.int .u32 2428436474), .lit (.int .u32 2756734187), .lit (.int .u32 3204031479), .lit (.int .u32 3329325298)]

/-- 'crossbarlaw05.KeytreeSignSpec': WHATEVER THE INPUT: true; the input reads as it did. -/
def keytreeSignSpecSpec : ChangeSpec := { name := "keytreeSignSpec", fn := fun _ => fun
  | [d1, d2, d3] => { results := [.lit (.bool true)], args := [d1, d2, d3] }
  | _ => none }
def keytreeSignSpecRow : OpenClaim := { program := "ytccepoeenkpifaadoor", sum := "542adc0be22db0378d8623eaa059e4f6955482feab535e94ee18cc1cc5ef4bef", func := "crossbar/crossbarlaw05.KeytreeSignSpec", spec := "keytreeSignSpec", unfollowed := true, recurses := true, named := ["crossbar/sha256.roundConstants", "crossbar/crossbarref03.initial", "crossbar/crossbarref03.k"], apart := false, laid := [("crossbar/crossbarref03.k", laid_crossbar_crossbarref03_k), ("crossbar/crossbarref03.initial", laid_crossbar_crossbarref03_initial), ("crossbar/sha256.roundConstants", laid_crossbar_sha256_roundConstants)] }
def KeytreeSignSpecSaid : Prop := keytreeSignSpecRow.holds Tryd.pinned (OpenSpec.ofChange keytreeSignSpecSpec)

/-- ITS FALSE NEIGHBOUR: 'it returns false'. Refute it at one input. -/
def keytreeSignSpecWrong : ChangeSpec := { name := "keytreeSignSpec", fn := fun _ => fun
  | [d1, d2, d3] => { results := [.lit (.bool false)], args := [d1, d2, d3] }
  | _ => none }
def KeytreeSignSpecWrongFalsely : Prop := keytreeSignSpecRow.holds Tryd.pinned (OpenSpec.ofChange keytreeSignSpecWrong)

/-- 'crossbarlaw05.KeytreeTreeSpec': WHATEVER THE INPUT: true; the input reads as it did. -/
def keytreeTreeSpecSpec : ChangeSpec := { name := "keytreeTreeSpec", fn := fun _ => fun
  | [d1, d2, d3, d4, d5] => { results := [.lit (.bool true)], args := [d1, d2, d3, d4, d5] }
  | _ => none }
def keytreeTreeSpecRow : OpenClaim := { program := "ytccepoeenkpifaadoor", sum := "542adc0be22db0378d8623eaa059e4f6955482feab535e94ee18cc1cc5ef4bef", func := "crossbar/crossbarlaw05.KeytreeTreeSpec", spec := "keytreeTreeSpec", unfollowed := true, recurses := true, named := ["crossbar/sha256.roundConstants", "crossbar/crossbarref03.initial", "crossbar/crossbarref03.k"], apart := false, laid := [("crossbar/crossbarref03.k", laid_crossbar_crossbarref03_k), ("crossbar/crossbarref03.initial", laid_crossbar_crossbarref03_initial), ("crossbar/sha256.roundConstants", laid_crossbar_sha256_roundConstants)] }
def KeytreeTreeSpecSaid : Prop := keytreeTreeSpecRow.holds Tryd.pinned (OpenSpec.ofChange keytreeTreeSpecSpec)

/-- ITS FALSE NEIGHBOUR: 'it returns false'. Refute it at one input. -/
def keytreeTreeSpecWrong : ChangeSpec := { name := "keytreeTreeSpec", fn := fun _ => fun
  | [d1, d2, d3, d4, d5] => { results := [.lit (.bool false)], args := [d1, d2, d3, d4, d5] }
  | _ => none }
def KeytreeTreeSpecWrongFalsely : Prop := keytreeTreeSpecRow.holds Tryd.pinned (OpenSpec.ofChange keytreeTreeSpecWrong)

/-- 'crossbarlaw05.KeytreeSignatureVerifies': WHATEVER THE INPUT: true; the input reads as it did. -/
def keytreeSignatureVerifiesSpec : ChangeSpec := { name := "keytreeSignatureVerifies", fn := fun _ => fun
  | [d1, d2, d3] => { results := [.lit (.bool true)], args := [d1, d2, d3] }
  | _ => none }
def keytreeSignatureVerifiesRow : OpenClaim := { program := "ytccepoeenkpifaadoor", sum := "542adc0be22db0378d8623eaa059e4f6955482feab535e94ee18cc1cc5ef4bef", func := "crossbar/crossbarlaw05.KeytreeSignatureVerifies", spec := "keytreeSignatureVerifies", unfollowed := true, recurses := true, named := ["crossbar/sha256.roundConstants"], apart := false, laid := [("crossbar/sha256.roundConstants", laid_crossbar_sha256_roundConstants)] }
def KeytreeSignatureVerifiesSaid : Prop := keytreeSignatureVerifiesRow.holds Tryd.pinned (OpenSpec.ofChange keytreeSignatureVerifiesSpec)

/-- ITS FALSE NEIGHBOUR: 'it returns false'. Refute it at one input. -/
def keytreeSignatureVerifiesWrong : ChangeSpec := { name := "keytreeSignatureVerifies", fn := fun _ => fun
  | [d1, d2, d3] => { results := [.lit (.bool false)], args := [d1, d2, d3] }
  | _ => none }
def KeytreeSignatureVerifiesWrongFalsely : Prop := keytreeSignatureVerifiesRow.holds Tryd.pinned (OpenSpec.ofChange keytreeSignatureVerifiesWrong)

/-- 'crossbarlaw05.KeytreeClimbReachesRoot': WHATEVER THE INPUT: true; the input reads as it did. -/
def keytreeClimbReachesRootSpec : ChangeSpec := { name := "keytreeClimbReachesRoot", fn := fun _ => fun
  | [d] => { results := [.lit (.bool true)], args := [d] }
  | _ => none }
def keytreeClimbReachesRootRow : OpenClaim := { program := "ytccepoeenkpifaadoor", sum := "542adc0be22db0378d8623eaa059e4f6955482feab535e94ee18cc1cc5ef4bef", func := "crossbar/crossbarlaw05.KeytreeClimbReachesRoot", spec := "keytreeClimbReachesRoot", unfollowed := true, recurses := true, named := ["crossbar/sha256.roundConstants"], apart := false, laid := [("crossbar/sha256.roundConstants", laid_crossbar_sha256_roundConstants)] }
def KeytreeClimbReachesRootSaid : Prop := keytreeClimbReachesRootRow.holds Tryd.pinned (OpenSpec.ofChange keytreeClimbReachesRootSpec)

/-- ITS FALSE NEIGHBOUR: 'it returns false'. Refute it at one input. -/
def keytreeClimbReachesRootWrong : ChangeSpec := { name := "keytreeClimbReachesRoot", fn := fun _ => fun
  | [d] => { results := [.lit (.bool false)], args := [d] }
  | _ => none }
def KeytreeClimbReachesRootWrongFalsely : Prop := keytreeClimbReachesRootRow.holds Tryd.pinned (OpenSpec.ofChange keytreeClimbReachesRootWrong)

/-- 'crossbarlaw05.KeytreeClimbSteps': WHATEVER THE INPUT: true; the input reads as it did. -/
def keytreeClimbStepsSpec : ChangeSpec := { name := "keytreeClimbSteps", fn := fun _ => fun
  | [d1, d2, d3] => { results := [.lit (.bool true)], args := [d1, d2, d3] }
  | _ => none }
def keytreeClimbStepsRow : OpenClaim := { program := "ytccepoeenkpifaadoor", sum := "542adc0be22db0378d8623eaa059e4f6955482feab535e94ee18cc1cc5ef4bef", func := "crossbar/crossbarlaw05.KeytreeClimbSteps", spec := "keytreeClimbSteps", unfollowed := true, recurses := true, named := ["crossbar/sha256.roundConstants"], apart := false, laid := [("crossbar/sha256.roundConstants", laid_crossbar_sha256_roundConstants)] }
def KeytreeClimbStepsSaid : Prop := keytreeClimbStepsRow.holds Tryd.pinned (OpenSpec.ofChange keytreeClimbStepsSpec)

/-- ITS FALSE NEIGHBOUR: 'it returns false'. Refute it at one input. -/
def keytreeClimbStepsWrong : ChangeSpec := { name := "keytreeClimbSteps", fn := fun _ => fun
  | [d1, d2, d3] => { results := [.lit (.bool false)], args := [d1, d2, d3] }
  | _ => none }
def KeytreeClimbStepsWrongFalsely : Prop := keytreeClimbStepsRow.holds Tryd.pinned (OpenSpec.ofChange keytreeClimbStepsWrong)

/-- 'crossbarlaw05.KeytreeForgeryCollides': WHATEVER THE INPUT: true; the input reads as it did. -/
def keytreeForgeryCollidesSpec : ChangeSpec := { name := "keytreeForgeryCollides", fn := fun _ => fun
  | [d1, d2, d3, d4, d5] => { results := [.lit (.bool true)], args := [d1, d2, d3, d4, d5] }
  | _ => none }
def keytreeForgeryCollidesRow : OpenClaim := { program := "ytccepoeenkpifaadoor", sum := "542adc0be22db0378d8623eaa059e4f6955482feab535e94ee18cc1cc5ef4bef", func := "crossbar/crossbarlaw05.KeytreeForgeryCollides", spec := "keytreeForgeryCollides", unfollowed := true, recurses := true, named := ["crossbar/sha256.roundConstants"], apart := false, laid := [("crossbar/sha256.roundConstants", laid_crossbar_sha256_roundConstants)] }
def KeytreeForgeryCollidesSaid : Prop := keytreeForgeryCollidesRow.holds Tryd.pinned (OpenSpec.ofChange keytreeForgeryCollidesSpec)

/-- ITS FALSE NEIGHBOUR: 'it returns false'. Refute it at one input. -/
def keytreeForgeryCollidesWrong : ChangeSpec := { name := "keytreeForgeryCollides", fn := fun _ => fun
  | [d1, d2, d3, d4, d5] => { results := [.lit (.bool false)], args := [d1, d2, d3, d4, d5] }
  | _ => none }
def KeytreeForgeryCollidesWrongFalsely : Prop := keytreeForgeryCollidesRow.holds Tryd.pinned (OpenSpec.ofChange keytreeForgeryCollidesWrong)

/-- 'crossbarlaw05.KeytreeVerifyShape': WHATEVER THE INPUT: true; the input reads as it did. -/
def keytreeVerifyShapeSpec : ChangeSpec := { name := "keytreeVerifyShape", fn := fun _ => fun
  | [d1, d2, d3] => { results := [.lit (.bool true)], args := [d1, d2, d3] }
  | _ => none }
def keytreeVerifyShapeRow : OpenClaim := { program := "ytccepoeenkpifaadoor", sum := "542adc0be22db0378d8623eaa059e4f6955482feab535e94ee18cc1cc5ef4bef", func := "crossbar/crossbarlaw05.KeytreeVerifyShape", spec := "keytreeVerifyShape", unfollowed := true, recurses := true, named := ["crossbar/sha256.roundConstants"], apart := false, laid := [("crossbar/sha256.roundConstants", laid_crossbar_sha256_roundConstants)] }
def KeytreeVerifyShapeSaid : Prop := keytreeVerifyShapeRow.holds Tryd.pinned (OpenSpec.ofChange keytreeVerifyShapeSpec)

/-- ITS FALSE NEIGHBOUR: 'it returns false'. Refute it at one input. -/
def keytreeVerifyShapeWrong : ChangeSpec := { name := "keytreeVerifyShape", fn := fun _ => fun
  | [d1, d2, d3] => { results := [.lit (.bool false)], args := [d1, d2, d3] }
  | _ => none }
def KeytreeVerifyShapeWrongFalsely : Prop := keytreeVerifyShapeRow.holds Tryd.pinned (OpenSpec.ofChange keytreeVerifyShapeWrong)

/-- 'crossbarlaw05.KeytreeVerifyRoot': WHATEVER THE INPUT: true; the input reads as it did. -/
def keytreeVerifyRootSpec : ChangeSpec := { name := "keytreeVerifyRoot", fn := fun _ => fun
  | [d1, d2, d3] => { results := [.lit (.bool true)], args := [d1, d2, d3] }
  | _ => none }
def keytreeVerifyRootRow : OpenClaim := { program := "ytccepoeenkpifaadoor", sum := "542adc0be22db0378d8623eaa059e4f6955482feab535e94ee18cc1cc5ef4bef", func := "crossbar/crossbarlaw05.KeytreeVerifyRoot", spec := "keytreeVerifyRoot", unfollowed := true, recurses := true, named := ["crossbar/sha256.roundConstants"], apart := false, laid := [("crossbar/sha256.roundConstants", laid_crossbar_sha256_roundConstants)] }
def KeytreeVerifyRootSaid : Prop := keytreeVerifyRootRow.holds Tryd.pinned (OpenSpec.ofChange keytreeVerifyRootSpec)

/-- ITS FALSE NEIGHBOUR: 'it returns false'. Refute it at one input. -/
def keytreeVerifyRootWrong : ChangeSpec := { name := "keytreeVerifyRoot", fn := fun _ => fun
  | [d1, d2, d3] => { results := [.lit (.bool false)], args := [d1, d2, d3] }
  | _ => none }
def KeytreeVerifyRootWrongFalsely : Prop := keytreeVerifyRootRow.holds Tryd.pinned (OpenSpec.ofChange keytreeVerifyRootWrong)

/- THE SECOND FORM. 'bulk': how many values and letters a reading holds, each counted each time it is reached (what is shared counts as often as it is met; a slice's spare places count too). A statement '..UptoSaid' is the law's where the arguments, and the package variables that the reading takes, are together of bulk at most 1048576: NARROWER than '..Said'. Prove '..Said' where nothing that the law and all that it calls make is longer than what came in: it says more and counts as full. Else prove '..UptoSaid'. A law counts once. -/
mutual
def uptoBulk {H : Type} : DataW H → Nat
  | .lit (.string bytes) => bytes.length + 1
  | .lit _ => 1
  | .nil => 1
  | .ptr d => uptoBulk d + 1
  | .slice elems spare => uptoBulkAll elems + uptoBulkAll spare + 1
  | .agg parts => uptoBulkAll parts + 1
  | .iface _ d => uptoBulk d + 1
  | .map entries => uptoBulkEntries entries + 1
  | .held _ => 1
def uptoBulkAll {H : Type} : List (DataW H) → Nat
  | [] => 0
  | d :: r => uptoBulk d + uptoBulkAll r
def uptoBulkEntries {H : Type} : List (Lit × DataW H) → Nat
  | [] => 0
  | x :: r => uptoBulkEntry x + uptoBulkEntries r
def uptoBulkEntry {H : Type} : Lit × DataW H → Nat
  | (.string bytes, d) => bytes.length + uptoBulk d + 1
  | (_, d) => uptoBulk d + 1
 end
def uptoSmall : (H : Type) → List (DataW H) → Bool := fun _ ds => decide (uptoBulkAll ds ≤ 1048576)
def OpenSpec.upto (s : _root_.Go.ChangeSpec) : _root_.Go.OpenSpec := { _root_.Go.OpenSpec.ofChange s with cond := some uptoSmall }

/-- 'crossbarlaw05.KeytreeSignSpec', WHERE WHAT IT READS IS OF BULK AT MOST 1048576: true; the input reads as it did. -/
def keytreeSignSpecUptoRow : OpenClaim := { program := "ytccepoeenkpifaadoor", sum := "542adc0be22db0378d8623eaa059e4f6955482feab535e94ee18cc1cc5ef4bef", func := "crossbar/crossbarlaw05.KeytreeSignSpec", spec := "keytreeSignSpec", unfollowed := true, recurses := true, named := ["crossbar/sha256.roundConstants", "crossbar/crossbarref03.initial", "crossbar/crossbarref03.k"], apart := false, laid := [("crossbar/crossbarref03.k", laid_crossbar_crossbarref03_k), ("crossbar/crossbarref03.initial", laid_crossbar_crossbarref03_initial), ("crossbar/sha256.roundConstants", laid_crossbar_sha256_roundConstants)], narrowed := true }
def KeytreeSignSpecUptoSaid : Prop := keytreeSignSpecUptoRow.holds Tryd.pinned (OpenSpec.upto keytreeSignSpecSpec)

/-- 'crossbarlaw05.KeytreeTreeSpec', WHERE WHAT IT READS IS OF BULK AT MOST 1048576: true; the input reads as it did. -/
def keytreeTreeSpecUptoRow : OpenClaim := { program := "ytccepoeenkpifaadoor", sum := "542adc0be22db0378d8623eaa059e4f6955482feab535e94ee18cc1cc5ef4bef", func := "crossbar/crossbarlaw05.KeytreeTreeSpec", spec := "keytreeTreeSpec", unfollowed := true, recurses := true, named := ["crossbar/sha256.roundConstants", "crossbar/crossbarref03.initial", "crossbar/crossbarref03.k"], apart := false, laid := [("crossbar/crossbarref03.k", laid_crossbar_crossbarref03_k), ("crossbar/crossbarref03.initial", laid_crossbar_crossbarref03_initial), ("crossbar/sha256.roundConstants", laid_crossbar_sha256_roundConstants)], narrowed := true }
def KeytreeTreeSpecUptoSaid : Prop := keytreeTreeSpecUptoRow.holds Tryd.pinned (OpenSpec.upto keytreeTreeSpecSpec)

/-- 'crossbarlaw05.KeytreeSignatureVerifies', WHERE WHAT IT READS IS OF BULK AT MOST 1048576: true; the input reads as it did. -/
def keytreeSignatureVerifiesUptoRow : OpenClaim := { program := "ytccepoeenkpifaadoor", sum := "542adc0be22db0378d8623eaa059e4f6955482feab535e94ee18cc1cc5ef4bef", func := "crossbar/crossbarlaw05.KeytreeSignatureVerifies", spec := "keytreeSignatureVerifies", unfollowed := true, recurses := true, named := ["crossbar/sha256.roundConstants"], apart := false, laid := [("crossbar/sha256.roundConstants", laid_crossbar_sha256_roundConstants)], narrowed := true }
def KeytreeSignatureVerifiesUptoSaid : Prop := keytreeSignatureVerifiesUptoRow.holds Tryd.pinned (OpenSpec.upto keytreeSignatureVerifiesSpec)

/-- 'crossbarlaw05.KeytreeClimbReachesRoot', WHERE WHAT IT READS IS OF BULK AT MOST 1048576: true; the input reads as it did. -/
def keytreeClimbReachesRootUptoRow : OpenClaim := { program := "ytccepoeenkpifaadoor", sum := "542adc0be22db0378d8623eaa059e4f6955482feab535e94ee18cc1cc5ef4bef", func := "crossbar/crossbarlaw05.KeytreeClimbReachesRoot", spec := "keytreeClimbReachesRoot", unfollowed := true, recurses := true, named := ["crossbar/sha256.roundConstants"], apart := false, laid := [("crossbar/sha256.roundConstants", laid_crossbar_sha256_roundConstants)], narrowed := true }
def KeytreeClimbReachesRootUptoSaid : Prop := keytreeClimbReachesRootUptoRow.holds Tryd.pinned (OpenSpec.upto keytreeClimbReachesRootSpec)

/-- 'crossbarlaw05.KeytreeClimbSteps', WHERE WHAT IT READS IS OF BULK AT MOST 1048576: true; the input reads as it did. -/
def keytreeClimbStepsUptoRow : OpenClaim := { program := "ytccepoeenkpifaadoor", sum := "542adc0be22db0378d8623eaa059e4f6955482feab535e94ee18cc1cc5ef4bef", func := "crossbar/crossbarlaw05.KeytreeClimbSteps", spec := "keytreeClimbSteps", unfollowed := true, recurses := true, named := ["crossbar/sha256.roundConstants"], apart := false, laid := [("crossbar/sha256.roundConstants", laid_crossbar_sha256_roundConstants)], narrowed := true }
def KeytreeClimbStepsUptoSaid : Prop := keytreeClimbStepsUptoRow.holds Tryd.pinned (OpenSpec.upto keytreeClimbStepsSpec)

/-- 'crossbarlaw05.KeytreeForgeryCollides', WHERE WHAT IT READS IS OF BULK AT MOST 1048576: true; the input reads as it did. -/
def keytreeForgeryCollidesUptoRow : OpenClaim := { program := "ytccepoeenkpifaadoor", sum := "542adc0be22db0378d8623eaa059e4f6955482feab535e94ee18cc1cc5ef4bef", func := "crossbar/crossbarlaw05.KeytreeForgeryCollides", spec := "keytreeForgeryCollides", unfollowed := true, recurses := true, named := ["crossbar/sha256.roundConstants"], apart := false, laid := [("crossbar/sha256.roundConstants", laid_crossbar_sha256_roundConstants)], narrowed := true }
def KeytreeForgeryCollidesUptoSaid : Prop := keytreeForgeryCollidesUptoRow.holds Tryd.pinned (OpenSpec.upto keytreeForgeryCollidesSpec)

/-- 'crossbarlaw05.KeytreeVerifyShape', WHERE WHAT IT READS IS OF BULK AT MOST 1048576: true; the input reads as it did. -/
def keytreeVerifyShapeUptoRow : OpenClaim := { program := "ytccepoeenkpifaadoor", sum := "542adc0be22db0378d8623eaa059e4f6955482feab535e94ee18cc1cc5ef4bef", func := "crossbar/crossbarlaw05.KeytreeVerifyShape", spec := "keytreeVerifyShape", unfollowed := true, recurses := true, named := ["crossbar/sha256.roundConstants"], apart := false, laid := [("crossbar/sha256.roundConstants", laid_crossbar_sha256_roundConstants)], narrowed := true }
def KeytreeVerifyShapeUptoSaid : Prop := keytreeVerifyShapeUptoRow.holds Tryd.pinned (OpenSpec.upto keytreeVerifyShapeSpec)

/-- 'crossbarlaw05.KeytreeVerifyRoot', WHERE WHAT IT READS IS OF BULK AT MOST 1048576: true; the input reads as it did. -/
def keytreeVerifyRootUptoRow : OpenClaim := { program := "ytccepoeenkpifaadoor", sum := "542adc0be22db0378d8623eaa059e4f6955482feab535e94ee18cc1cc5ef4bef", func := "crossbar/crossbarlaw05.KeytreeVerifyRoot", spec := "keytreeVerifyRoot", unfollowed := true, recurses := true, named := ["crossbar/sha256.roundConstants"], apart := false, laid := [("crossbar/sha256.roundConstants", laid_crossbar_sha256_roundConstants)], narrowed := true }
def KeytreeVerifyRootUptoSaid : Prop := keytreeVerifyRootUptoRow.holds Tryd.pinned (OpenSpec.upto keytreeVerifyRootSpec)

end Rows
end Go.Proofs.YtccepoeenkpifaaDoor
