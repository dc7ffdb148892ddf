/-
  No cell of these rows narrows 'for every input' (looked for: loops, veiled, ifaces, maps, wideKeys, modest, calm, conditions, laid).
  DERIVED. THE GIVEN ROWS OF THIS SEAT. 8 by the template 'for every input the law returns true; each argument reads behind the call as it read before'; 0 by the template 'total and deterministic' (their statements: YtokjlcajcflhgaaTotals.lean).
  GIVEN WITH THE SEED: the statements are not yours to turn. If you find one false, say at which input.
  Laid BY PROGRAM, IN A SANDBOX (cutbox-rows.mjs): the forced cells as the released guide's own fill.sh prints them over the translation 48ed8ab14763af22… (all of the seat's roots in one cut). By AI agents, Wed Nov 11 2026. No macro, syntax, notation, axiom, sorry.
-/
import Derived.Test.YtokjlcajcflhgaaChecked
import GoSem.Claim
import GoSem.ClaimJoined
import GoSem.ClaimMapViews
import Derived.JoinedTies
import Derived.KernelRfl
namespace Go.Proofs.Ytokjlcajcflhgaa
/- THE CELL 'sum', in the pinned program and in every row, IS THE sha256 OF THE DUMP (.gsa) THAT YtokjlcajcflhgaaProg.lean LOADS. Nothing in Lean hashes anything: it is a label: what it is worth is what the hold of that sum in a sandbox is worth. -/
noncomputable def Try.pinned : Pinned := { name := "ytokjlcajcflhgaa", sum := "48ed8ab14763af22b7283a9abbf3fe2c2e53c529d8430b404176c513775b1d55", checked := Try.checked }
namespace Rows
def none {H : Type} : Left H := { results := [], args := [] }

/-- 'crossbarlaw02.HdlcScanSpec': WHATEVER THE INPUT: true; the input reads as it did. -/
def hdlcScanSpecSpec : ChangeSpec := { name := "hdlcScanSpec", fn := fun _ => fun
  | [d] => { results := [.lit (.bool true)], args := [d] }
  | _ => none }
def hdlcScanSpecRow : OpenClaim := { program := "ytokjlcajcflhgaa", sum := "48ed8ab14763af22b7283a9abbf3fe2c2e53c529d8430b404176c513775b1d55", func := "crossbar/crossbarlaw02.HdlcScanSpec", spec := "hdlcScanSpec", inPlace := ["internal/bytealg.IndexByte", "internal/bytealg.Index"], unfollowed := true, recurses := true, named := ["internal/bytealg.MaxLen"], apart := false }
def HdlcScanSpecSaid : Prop := hdlcScanSpecRow.holds Try.pinned (OpenSpec.ofChange hdlcScanSpecSpec)

/-- ITS FALSE NEIGHBOUR: 'it returns false'. Refute it at one input. -/
def hdlcScanSpecWrong : ChangeSpec := { name := "hdlcScanSpec", fn := fun _ => fun
  | [d] => { results := [.lit (.bool false)], args := [d] }
  | _ => none }
def HdlcScanSpecWrongFalsely : Prop := hdlcScanSpecRow.holds Try.pinned (OpenSpec.ofChange hdlcScanSpecWrong)

/-- 'crossbarlaw02.HdlcRoundTrip': WHATEVER THE INPUT: true; the input reads as it did. -/
def hdlcRoundTripSpec : ChangeSpec := { name := "hdlcRoundTrip", fn := fun _ => fun
  | [d] => { results := [.lit (.bool true)], args := [d] }
  | _ => none }
def hdlcRoundTripRow : OpenClaim := { program := "ytokjlcajcflhgaa", sum := "48ed8ab14763af22b7283a9abbf3fe2c2e53c529d8430b404176c513775b1d55", func := "crossbar/crossbarlaw02.HdlcRoundTrip", spec := "hdlcRoundTrip", inPlace := ["internal/bytealg.IndexByte", "internal/bytealg.Index"], unfollowed := true, recurses := true, named := ["internal/bytealg.MaxLen"], apart := false }
def HdlcRoundTripSaid : Prop := hdlcRoundTripRow.holds Try.pinned (OpenSpec.ofChange hdlcRoundTripSpec)

/-- ITS FALSE NEIGHBOUR: 'it returns false'. Refute it at one input. -/
def hdlcRoundTripWrong : ChangeSpec := { name := "hdlcRoundTrip", fn := fun _ => fun
  | [d] => { results := [.lit (.bool false)], args := [d] }
  | _ => none }
def HdlcRoundTripWrongFalsely : Prop := hdlcRoundTripRow.holds Try.pinned (OpenSpec.ofChange hdlcRoundTripWrong)

/-- 'crossbarlaw02.HdlcResidue': WHATEVER THE INPUT: true; the input reads as it did. -/
def hdlcResidueSpec : ChangeSpec := { name := "hdlcResidue", fn := fun _ => fun
  | [d] => { results := [.lit (.bool true)], args := [d] }
  | _ => none }
def hdlcResidueRow : OpenClaim := { program := "ytokjlcajcflhgaa", sum := "48ed8ab14763af22b7283a9abbf3fe2c2e53c529d8430b404176c513775b1d55", func := "crossbar/crossbarlaw02.HdlcResidue", spec := "hdlcResidue", inPlace := ["internal/bytealg.IndexByte", "internal/bytealg.Index"], unfollowed := true, recurses := true, named := ["internal/bytealg.MaxLen"], apart := false }
def HdlcResidueSaid : Prop := hdlcResidueRow.holds Try.pinned (OpenSpec.ofChange hdlcResidueSpec)

/-- ITS FALSE NEIGHBOUR: 'it returns false'. Refute it at one input. -/
def hdlcResidueWrong : ChangeSpec := { name := "hdlcResidue", fn := fun _ => fun
  | [d] => { results := [.lit (.bool false)], args := [d] }
  | _ => none }
def HdlcResidueWrongFalsely : Prop := hdlcResidueRow.holds Try.pinned (OpenSpec.ofChange hdlcResidueWrong)

/-- 'crossbarlaw02.HdlcDetectsBurst': WHATEVER THE INPUT: true; the input reads as it did. -/
def hdlcDetectsBurstSpec : ChangeSpec := { name := "hdlcDetectsBurst", fn := fun _ => fun
  | [d1, d2, d3, d4] => { results := [.lit (.bool true)], args := [d1, d2, d3, d4] }
  | _ => none }
def hdlcDetectsBurstRow : OpenClaim := { program := "ytokjlcajcflhgaa", sum := "48ed8ab14763af22b7283a9abbf3fe2c2e53c529d8430b404176c513775b1d55", func := "crossbar/crossbarlaw02.HdlcDetectsBurst", spec := "hdlcDetectsBurst", inPlace := ["internal/bytealg.IndexByte", "internal/bytealg.Index"], unfollowed := true, recurses := true, named := ["internal/bytealg.MaxLen"], apart := false }
def HdlcDetectsBurstSaid : Prop := hdlcDetectsBurstRow.holds Try.pinned (OpenSpec.ofChange hdlcDetectsBurstSpec)

/-- ITS FALSE NEIGHBOUR: 'it returns false'. Refute it at one input. -/
def hdlcDetectsBurstWrong : ChangeSpec := { name := "hdlcDetectsBurst", fn := fun _ => fun
  | [d1, d2, d3, d4] => { results := [.lit (.bool false)], args := [d1, d2, d3, d4] }
  | _ => none }
def HdlcDetectsBurstWrongFalsely : Prop := hdlcDetectsBurstRow.holds Try.pinned (OpenSpec.ofChange hdlcDetectsBurstWrong)

/-- 'crossbarlaw02.HdlcStream': WHATEVER THE INPUT: true; the input reads as it did. -/
def hdlcStreamSpec : ChangeSpec := { name := "hdlcStream", fn := fun _ => fun
  | [d1, d2] => { results := [.lit (.bool true)], args := [d1, d2] }
  | _ => none }
def hdlcStreamRow : OpenClaim := { program := "ytokjlcajcflhgaa", sum := "48ed8ab14763af22b7283a9abbf3fe2c2e53c529d8430b404176c513775b1d55", func := "crossbar/crossbarlaw02.HdlcStream", spec := "hdlcStream", inPlace := ["internal/bytealg.IndexByte", "internal/bytealg.Index"], unfollowed := true, recurses := true, named := ["internal/bytealg.MaxLen"], apart := false }
def HdlcStreamSaid : Prop := hdlcStreamRow.holds Try.pinned (OpenSpec.ofChange hdlcStreamSpec)

/-- ITS FALSE NEIGHBOUR: 'it returns false'. Refute it at one input. -/
def hdlcStreamWrong : ChangeSpec := { name := "hdlcStream", fn := fun _ => fun
  | [d1, d2] => { results := [.lit (.bool false)], args := [d1, d2] }
  | _ => none }
def HdlcStreamWrongFalsely : Prop := hdlcStreamRow.holds Try.pinned (OpenSpec.ofChange hdlcStreamWrong)

/-- 'crossbarlaw02.HdlcPieces': WHATEVER THE INPUT: true; the input reads as it did. -/
def hdlcPiecesSpec : ChangeSpec := { name := "hdlcPieces", fn := fun _ => fun
  | [d1, d2] => { results := [.lit (.bool true)], args := [d1, d2] }
  | _ => none }
def hdlcPiecesRow : OpenClaim := { program := "ytokjlcajcflhgaa", sum := "48ed8ab14763af22b7283a9abbf3fe2c2e53c529d8430b404176c513775b1d55", func := "crossbar/crossbarlaw02.HdlcPieces", spec := "hdlcPieces", inPlace := ["internal/bytealg.IndexByte", "internal/bytealg.Index"], unfollowed := true, recurses := true, named := ["internal/bytealg.MaxLen"], apart := false }
def HdlcPiecesSaid : Prop := hdlcPiecesRow.holds Try.pinned (OpenSpec.ofChange hdlcPiecesSpec)

/-- ITS FALSE NEIGHBOUR: 'it returns false'. Refute it at one input. -/
def hdlcPiecesWrong : ChangeSpec := { name := "hdlcPieces", fn := fun _ => fun
  | [d1, d2] => { results := [.lit (.bool false)], args := [d1, d2] }
  | _ => none }
def HdlcPiecesWrongFalsely : Prop := hdlcPiecesRow.holds Try.pinned (OpenSpec.ofChange hdlcPiecesWrong)

/-- 'crossbarlaw02.HdlcResynchronizes': WHATEVER THE INPUT: true; the input reads as it did. -/
def hdlcResynchronizesSpec : ChangeSpec := { name := "hdlcResynchronizes", fn := fun _ => fun
  | [d1, d2, d3] => { results := [.lit (.bool true)], args := [d1, d2, d3] }
  | _ => none }
def hdlcResynchronizesRow : OpenClaim := { program := "ytokjlcajcflhgaa", sum := "48ed8ab14763af22b7283a9abbf3fe2c2e53c529d8430b404176c513775b1d55", func := "crossbar/crossbarlaw02.HdlcResynchronizes", spec := "hdlcResynchronizes", inPlace := ["internal/bytealg.IndexByte", "internal/bytealg.Index"], unfollowed := true, recurses := true, named := ["internal/bytealg.MaxLen"], apart := false }
def HdlcResynchronizesSaid : Prop := hdlcResynchronizesRow.holds Try.pinned (OpenSpec.ofChange hdlcResynchronizesSpec)

/-- ITS FALSE NEIGHBOUR: 'it returns false'. Refute it at one input. -/
def hdlcResynchronizesWrong : ChangeSpec := { name := "hdlcResynchronizes", fn := fun _ => fun
  | [d1, d2, d3] => { results := [.lit (.bool false)], args := [d1, d2, d3] }
  | _ => none }
def HdlcResynchronizesWrongFalsely : Prop := hdlcResynchronizesRow.holds Try.pinned (OpenSpec.ofChange hdlcResynchronizesWrong)

/-- 'crossbarlaw02.HdlcCarriesRecords': WHATEVER THE INPUT: true; the input reads as it did. -/
def hdlcCarriesRecordsSpec : ChangeSpec := { name := "hdlcCarriesRecords", fn := fun _ => fun
  | [d1, d2] => { results := [.lit (.bool true)], args := [d1, d2] }
  | _ => none }
def hdlcCarriesRecordsRow : OpenClaim := { program := "ytokjlcajcflhgaa", sum := "48ed8ab14763af22b7283a9abbf3fe2c2e53c529d8430b404176c513775b1d55", func := "crossbar/crossbarlaw02.HdlcCarriesRecords", spec := "hdlcCarriesRecords", inPlace := ["internal/bytealg.IndexByte", "internal/bytealg.Index"], unfollowed := true, recurses := true, named := ["internal/bytealg.MaxLen"], apart := false }
def HdlcCarriesRecordsSaid : Prop := hdlcCarriesRecordsRow.holds Try.pinned (OpenSpec.ofChange hdlcCarriesRecordsSpec)

/-- ITS FALSE NEIGHBOUR: 'it returns false'. Refute it at one input. -/
def hdlcCarriesRecordsWrong : ChangeSpec := { name := "hdlcCarriesRecords", fn := fun _ => fun
  | [d1, d2] => { results := [.lit (.bool false)], args := [d1, d2] }
  | _ => none }
def HdlcCarriesRecordsWrongFalsely : Prop := hdlcCarriesRecordsRow.holds Try.pinned (OpenSpec.ofChange hdlcCarriesRecordsWrong)

/- THE SECOND FORM. 'bulk': how many values and letters a reading holds, each counted each time it is reached (what is shared counts as often as it is met; a slice's spare places count too). A statement '..UptoSaid' is the law's where the arguments, and the package variables that the reading takes, are together of bulk at most 1048576: NARROWER than '..Said'. Prove '..Said' where nothing that the law and all that it calls make is longer than what came in: it says more and counts as full. Else prove '..UptoSaid'. A law counts once. -/
mutual
def uptoBulk {H : Type} : DataW H → Nat
  | .lit (.string bytes) => bytes.length + 1
  | .lit _ => 1
  | .nil => 1
  | .ptr d => uptoBulk d + 1
  | .slice elems spare => uptoBulkAll elems + uptoBulkAll spare + 1
  | .agg parts => uptoBulkAll parts + 1
  | .iface _ d => uptoBulk d + 1
  | .map entries => uptoBulkEntries entries + 1
  | .held _ => 1
def uptoBulkAll {H : Type} : List (DataW H) → Nat
  | [] => 0
  | d :: r => uptoBulk d + uptoBulkAll r
def uptoBulkEntries {H : Type} : List (Lit × DataW H) → Nat
  | [] => 0
  | x :: r => uptoBulkEntry x + uptoBulkEntries r
def uptoBulkEntry {H : Type} : Lit × DataW H → Nat
  | (.string bytes, d) => bytes.length + uptoBulk d + 1
  | (_, d) => uptoBulk d + 1
 end
def uptoSmall : (H : Type) → List (DataW H) → Bool := fun _ ds => decide (uptoBulkAll ds ≤ 1048576)
def OpenSpec.upto (s : _root_.Go.ChangeSpec) : _root_.Go.OpenSpec := { _root_.Go.OpenSpec.ofChange s with cond := some uptoSmall }

/-- 'crossbarlaw02.HdlcScanSpec', WHERE WHAT IT READS IS OF BULK AT MOST 1048576: true; the input reads as it did. -/
def hdlcScanSpecUptoRow : OpenClaim := { program := "ytokjlcajcflhgaa", sum := "48ed8ab14763af22b7283a9abbf3fe2c2e53c529d8430b404176c513775b1d55", func := "crossbar/crossbarlaw02.HdlcScanSpec", spec := "hdlcScanSpec", inPlace := ["internal/bytealg.IndexByte", "internal/bytealg.Index"], unfollowed := true, recurses := true, named := ["internal/bytealg.MaxLen"], apart := false, narrowed := true }
def HdlcScanSpecUptoSaid : Prop := hdlcScanSpecUptoRow.holds Try.pinned (OpenSpec.upto hdlcScanSpecSpec)

/-- 'crossbarlaw02.HdlcRoundTrip', WHERE WHAT IT READS IS OF BULK AT MOST 1048576: true; the input reads as it did. -/
def hdlcRoundTripUptoRow : OpenClaim := { program := "ytokjlcajcflhgaa", sum := "48ed8ab14763af22b7283a9abbf3fe2c2e53c529d8430b404176c513775b1d55", func := "crossbar/crossbarlaw02.HdlcRoundTrip", spec := "hdlcRoundTrip", inPlace := ["internal/bytealg.IndexByte", "internal/bytealg.Index"], unfollowed := true, recurses := true, named := ["internal/bytealg.MaxLen"], apart := false, narrowed := true }
def HdlcRoundTripUptoSaid : Prop := hdlcRoundTripUptoRow.holds Try.pinned (OpenSpec.upto hdlcRoundTripSpec)

/-- 'crossbarlaw02.HdlcResidue', WHERE WHAT IT READS IS OF BULK AT MOST 1048576: true; the input reads as it did. -/
def hdlcResidueUptoRow : OpenClaim := { program := "ytokjlcajcflhgaa", sum := "48ed8ab14763af22b7283a9abbf3fe2c2e53c529d8430b404176c513775b1d55", func := "crossbar/crossbarlaw02.HdlcResidue", spec := "hdlcResidue", inPlace := ["internal/bytealg.IndexByte", "internal/bytealg.Index"], unfollowed := true, recurses := true, named := ["internal/bytealg.MaxLen"], apart := false, narrowed := true }
def HdlcResidueUptoSaid : Prop := hdlcResidueUptoRow.holds Try.pinned (OpenSpec.upto hdlcResidueSpec)

/-- 'crossbarlaw02.HdlcDetectsBurst', WHERE WHAT IT READS IS OF BULK AT MOST 1048576: true; the input reads as it did. -/
def hdlcDetectsBurstUptoRow : OpenClaim := { program := "ytokjlcajcflhgaa", sum := "48ed8ab14763af22b7283a9abbf3fe2c2e53c529d8430b404176c513775b1d55", func := "crossbar/crossbarlaw02.HdlcDetectsBurst", spec := "hdlcDetectsBurst", inPlace := ["internal/bytealg.IndexByte", "internal/bytealg.Index"], unfollowed := true, recurses := true, named := ["internal/bytealg.MaxLen"], apart := false, narrowed := true }
def HdlcDetectsBurstUptoSaid : Prop := hdlcDetectsBurstUptoRow.holds Try.pinned (OpenSpec.upto hdlcDetectsBurstSpec)

/-- 'crossbarlaw02.HdlcStream', WHERE WHAT IT READS IS OF BULK AT MOST 1048576: true; the input reads as it did. -/
def hdlcStreamUptoRow : OpenClaim := { program := "ytokjlcajcflhgaa", sum := "48ed8ab14763af22b7283a9abbf3fe2c2e53c529d8430b404176c513775b1d55", func := "crossbar/crossbarlaw02.HdlcStream", spec := "hdlcStream", inPlace := ["internal/bytealg.IndexByte", "internal/bytealg.Index"], unfollowed := true, recurses := true, named := ["internal/bytealg.MaxLen"], apart := false, narrowed := true }
def HdlcStreamUptoSaid : Prop := hdlcStreamUptoRow.holds Try.pinned (OpenSpec.upto hdlcStreamSpec)

/-- 'crossbarlaw02.HdlcPieces', WHERE WHAT IT READS IS OF BULK AT MOST 1048576: true; the input reads as it did. -/
def hdlcPiecesUptoRow : OpenClaim := { program := "ytokjlcajcflhgaa", sum := "48ed8ab14763af22b7283a9abbf3fe2c2e53c529d8430b404176c513775b1d55", func := "crossbar/crossbarlaw02.HdlcPieces", spec := "hdlcPieces", inPlace := ["internal/bytealg.IndexByte", "internal/bytealg.Index"], unfollowed := true, recurses := true, named := ["internal/bytealg.MaxLen"], apart := false, narrowed := true }
def HdlcPiecesUptoSaid : Prop := hdlcPiecesUptoRow.holds Try.pinned (OpenSpec.upto hdlcPiecesSpec)

/-- 'crossbarlaw02.HdlcResynchronizes', WHERE WHAT IT READS IS OF BULK AT MOST 1048576: true; the input reads as it did. -/
def hdlcResynchronizesUptoRow : OpenClaim := { program := "ytokjlcajcflhgaa", sum := "48ed8ab14763af22b7283a9abbf3fe2c2e53c529d8430b404176c513775b1d55", func := "crossbar/crossbarlaw02.HdlcResynchronizes", spec := "hdlcResynchronizes", inPlace := ["internal/bytealg.IndexByte", "internal/bytealg.Index"], unfollowed := true, recurses := true, named := ["internal/bytealg.MaxLen"], apart := false, narrowed := true }
def HdlcResynchronizesUptoSaid : Prop := hdlcResynchronizesUptoRow.holds Try.pinned (OpenSpec.upto hdlcResynchronizesSpec)

/-- 'crossbarlaw02.HdlcCarriesRecords', WHERE WHAT IT READS IS OF BULK AT MOST 1048576: true; the input reads as it did. -/
def hdlcCarriesRecordsUptoRow : OpenClaim := { program := "ytokjlcajcflhgaa", sum := "48ed8ab14763af22b7283a9abbf3fe2c2e53c529d8430b404176c513775b1d55", func := "crossbar/crossbarlaw02.HdlcCarriesRecords", spec := "hdlcCarriesRecords", inPlace := ["internal/bytealg.IndexByte", "internal/bytealg.Index"], unfollowed := true, recurses := true, named := ["internal/bytealg.MaxLen"], apart := false, narrowed := true }
def HdlcCarriesRecordsUptoSaid : Prop := hdlcCarriesRecordsUptoRow.holds Try.pinned (OpenSpec.upto hdlcCarriesRecordsSpec)

end Rows
end Go.Proofs.Ytokjlcajcflhgaa
