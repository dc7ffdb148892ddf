/-
  No cell of these rows narrows 'for every input' (looked for: loops, veiled, ifaces, maps, wideKeys, modest, calm, conditions, laid).
  DERIVED. THE GIVEN ROWS OF THIS SEAT. 8 by the template 'for every input the law returns true; each argument reads behind the call as it read before'; 0 by the template 'total and deterministic' (their statements: YtippbkooaonajaaTotals.lean).
  GIVEN WITH THE SEED: the statements are not yours to turn. If you find one false, say at which input.
  Laid BY PROGRAM, IN A SANDBOX (cutbox-rows.mjs): the forced cells as the released guide's own fill.sh prints them over the translation 64fd9f79b854d2c3… (all of the seat's roots in one cut). By AI agents, Wed Nov 11 2026. No macro, syntax, notation, axiom, sorry.
-/
import Derived.Test.YtippbkooaonajaaChecked
import GoSem.Claim
import GoSem.ClaimJoined
import GoSem.ClaimMapViews
import Derived.JoinedTies
import Derived.KernelRfl
namespace Go.Proofs.Ytippbkooaonajaa
/- THE CELL 'sum', in the pinned program and in every row, IS THE sha256 OF THE DUMP (.gsa) THAT YtippbkooaonajaaProg.lean LOADS. Nothing in Lean hashes anything: it is a label: what it is worth is what the hold of that sum in a sandbox is worth. -/
noncomputable def Try.pinned : Pinned := { name := "ytippbkooaonajaa", sum := "64fd9f79b854d2c32630edbe9068f2f5e0351b939322437383585c80e39b0951", checked := Try.checked }
namespace Rows
def none {H : Type} : Left H := { results := [], args := [] }

/-- 'crossbarlaw07.TrieMatchesUpdates': WHATEVER THE INPUT: true; the input reads as it did. -/
def trieMatchesUpdatesSpec : ChangeSpec := { name := "trieMatchesUpdates", fn := fun _ => fun
  | [d1, d2, d3] => { results := [.lit (.bool true)], args := [d1, d2, d3] }
  | _ => none }
def trieMatchesUpdatesRow : OpenClaim := { program := "ytippbkooaonajaa", sum := "64fd9f79b854d2c32630edbe9068f2f5e0351b939322437383585c80e39b0951", func := "crossbar/crossbarlaw07.TrieMatchesUpdates", spec := "trieMatchesUpdates", unfollowed := true, recurses := true, apart := false }
def TrieMatchesUpdatesSaid : Prop := trieMatchesUpdatesRow.holds Try.pinned (OpenSpec.ofChange trieMatchesUpdatesSpec)

/-- ITS FALSE NEIGHBOUR: 'it returns false'. Refute it at one input. -/
def trieMatchesUpdatesWrong : ChangeSpec := { name := "trieMatchesUpdates", fn := fun _ => fun
  | [d1, d2, d3] => { results := [.lit (.bool false)], args := [d1, d2, d3] }
  | _ => none }
def TrieMatchesUpdatesWrongFalsely : Prop := trieMatchesUpdatesRow.holds Try.pinned (OpenSpec.ofChange trieMatchesUpdatesWrong)

/-- 'crossbarlaw07.TrieMatchesLookups': WHATEVER THE INPUT: true; the input reads as it did. -/
def trieMatchesLookupsSpec : ChangeSpec := { name := "trieMatchesLookups", fn := fun _ => fun
  | [d1, d2] => { results := [.lit (.bool true)], args := [d1, d2] }
  | _ => none }
def trieMatchesLookupsRow : OpenClaim := { program := "ytippbkooaonajaa", sum := "64fd9f79b854d2c32630edbe9068f2f5e0351b939322437383585c80e39b0951", func := "crossbar/crossbarlaw07.TrieMatchesLookups", spec := "trieMatchesLookups", unfollowed := true, recurses := true, apart := false }
def TrieMatchesLookupsSaid : Prop := trieMatchesLookupsRow.holds Try.pinned (OpenSpec.ofChange trieMatchesLookupsSpec)

/-- ITS FALSE NEIGHBOUR: 'it returns false'. Refute it at one input. -/
def trieMatchesLookupsWrong : ChangeSpec := { name := "trieMatchesLookups", fn := fun _ => fun
  | [d1, d2] => { results := [.lit (.bool false)], args := [d1, d2] }
  | _ => none }
def TrieMatchesLookupsWrongFalsely : Prop := trieMatchesLookupsRow.holds Try.pinned (OpenSpec.ofChange trieMatchesLookupsWrong)

/-- 'crossbarlaw07.TrieLongestPrefix': WHATEVER THE INPUT: true; the input reads as it did. -/
def trieLongestPrefixSpec : ChangeSpec := { name := "trieLongestPrefix", fn := fun _ => fun
  | [d1, d2] => { results := [.lit (.bool true)], args := [d1, d2] }
  | _ => none }
def trieLongestPrefixRow : OpenClaim := { program := "ytippbkooaonajaa", sum := "64fd9f79b854d2c32630edbe9068f2f5e0351b939322437383585c80e39b0951", func := "crossbar/crossbarlaw07.TrieLongestPrefix", spec := "trieLongestPrefix", unfollowed := true, recurses := true, apart := false }
def TrieLongestPrefixSaid : Prop := trieLongestPrefixRow.holds Try.pinned (OpenSpec.ofChange trieLongestPrefixSpec)

/-- ITS FALSE NEIGHBOUR: 'it returns false'. Refute it at one input. -/
def trieLongestPrefixWrong : ChangeSpec := { name := "trieLongestPrefix", fn := fun _ => fun
  | [d1, d2] => { results := [.lit (.bool false)], args := [d1, d2] }
  | _ => none }
def TrieLongestPrefixWrongFalsely : Prop := trieLongestPrefixRow.holds Try.pinned (OpenSpec.ofChange trieLongestPrefixWrong)

/-- 'crossbarlaw07.TrieEntriesSorted': WHATEVER THE INPUT: true; the input reads as it did. -/
def trieEntriesSortedSpec : ChangeSpec := { name := "trieEntriesSorted", fn := fun _ => fun
  | [d] => { results := [.lit (.bool true)], args := [d] }
  | _ => none }
def trieEntriesSortedRow : OpenClaim := { program := "ytippbkooaonajaa", sum := "64fd9f79b854d2c32630edbe9068f2f5e0351b939322437383585c80e39b0951", func := "crossbar/crossbarlaw07.TrieEntriesSorted", spec := "trieEntriesSorted", unfollowed := true, recurses := true, apart := false }
def TrieEntriesSortedSaid : Prop := trieEntriesSortedRow.holds Try.pinned (OpenSpec.ofChange trieEntriesSortedSpec)

/-- ITS FALSE NEIGHBOUR: 'it returns false'. Refute it at one input. -/
def trieEntriesSortedWrong : ChangeSpec := { name := "trieEntriesSorted", fn := fun _ => fun
  | [d] => { results := [.lit (.bool false)], args := [d] }
  | _ => none }
def TrieEntriesSortedWrongFalsely : Prop := trieEntriesSortedRow.holds Try.pinned (OpenSpec.ofChange trieEntriesSortedWrong)

/-- 'crossbarlaw07.TrieExtendsEntries': WHATEVER THE INPUT: true; the input reads as it did. -/
def trieExtendsEntriesSpec : ChangeSpec := { name := "trieExtendsEntries", fn := fun _ => fun
  | [d1, d2] => { results := [.lit (.bool true)], args := [d1, d2] }
  | _ => none }
def trieExtendsEntriesRow : OpenClaim := { program := "ytippbkooaonajaa", sum := "64fd9f79b854d2c32630edbe9068f2f5e0351b939322437383585c80e39b0951", func := "crossbar/crossbarlaw07.TrieExtendsEntries", spec := "trieExtendsEntries", unfollowed := true, recurses := true, apart := false }
def TrieExtendsEntriesSaid : Prop := trieExtendsEntriesRow.holds Try.pinned (OpenSpec.ofChange trieExtendsEntriesSpec)

/-- ITS FALSE NEIGHBOUR: 'it returns false'. Refute it at one input. -/
def trieExtendsEntriesWrong : ChangeSpec := { name := "trieExtendsEntries", fn := fun _ => fun
  | [d1, d2] => { results := [.lit (.bool false)], args := [d1, d2] }
  | _ => none }
def TrieExtendsEntriesWrongFalsely : Prop := trieExtendsEntriesRow.holds Try.pinned (OpenSpec.ofChange trieExtendsEntriesWrong)

/-- 'crossbarlaw07.TrieRebuild': WHATEVER THE INPUT: true; the input reads as it did. -/
def trieRebuildSpec : ChangeSpec := { name := "trieRebuild", fn := fun _ => fun
  | [d1, d2, d3] => { results := [.lit (.bool true)], args := [d1, d2, d3] }
  | _ => none }
def trieRebuildRow : OpenClaim := { program := "ytippbkooaonajaa", sum := "64fd9f79b854d2c32630edbe9068f2f5e0351b939322437383585c80e39b0951", func := "crossbar/crossbarlaw07.TrieRebuild", spec := "trieRebuild", unfollowed := true, recurses := true, apart := false }
def TrieRebuildSaid : Prop := trieRebuildRow.holds Try.pinned (OpenSpec.ofChange trieRebuildSpec)

/-- ITS FALSE NEIGHBOUR: 'it returns false'. Refute it at one input. -/
def trieRebuildWrong : ChangeSpec := { name := "trieRebuild", fn := fun _ => fun
  | [d1, d2, d3] => { results := [.lit (.bool false)], args := [d1, d2, d3] }
  | _ => none }
def TrieRebuildWrongFalsely : Prop := trieRebuildRow.holds Try.pinned (OpenSpec.ofChange trieRebuildWrong)

/-- 'crossbarlaw07.TrieCommutes': WHATEVER THE INPUT: true; the input reads as it did. -/
def trieCommutesSpec : ChangeSpec := { name := "trieCommutes", fn := fun _ => fun
  | [d1, d2, d3, d4, d5] => { results := [.lit (.bool true)], args := [d1, d2, d3, d4, d5] }
  | _ => none }
def trieCommutesRow : OpenClaim := { program := "ytippbkooaonajaa", sum := "64fd9f79b854d2c32630edbe9068f2f5e0351b939322437383585c80e39b0951", func := "crossbar/crossbarlaw07.TrieCommutes", spec := "trieCommutes", unfollowed := true, recurses := true, apart := false }
def TrieCommutesSaid : Prop := trieCommutesRow.holds Try.pinned (OpenSpec.ofChange trieCommutesSpec)

/-- ITS FALSE NEIGHBOUR: 'it returns false'. Refute it at one input. -/
def trieCommutesWrong : ChangeSpec := { name := "trieCommutes", fn := fun _ => fun
  | [d1, d2, d3, d4, d5] => { results := [.lit (.bool false)], args := [d1, d2, d3, d4, d5] }
  | _ => none }
def TrieCommutesWrongFalsely : Prop := trieCommutesRow.holds Try.pinned (OpenSpec.ofChange trieCommutesWrong)

/-- 'crossbarlaw07.TrieNodesShared': WHATEVER THE INPUT: true; the input reads as it did. -/
def trieNodesSharedSpec : ChangeSpec := { name := "trieNodesShared", fn := fun _ => fun
  | [d1, d2, d3] => { results := [.lit (.bool true)], args := [d1, d2, d3] }
  | _ => none }
def trieNodesSharedRow : OpenClaim := { program := "ytippbkooaonajaa", sum := "64fd9f79b854d2c32630edbe9068f2f5e0351b939322437383585c80e39b0951", func := "crossbar/crossbarlaw07.TrieNodesShared", spec := "trieNodesShared", unfollowed := true, recurses := true, apart := false }
def TrieNodesSharedSaid : Prop := trieNodesSharedRow.holds Try.pinned (OpenSpec.ofChange trieNodesSharedSpec)

/-- ITS FALSE NEIGHBOUR: 'it returns false'. Refute it at one input. -/
def trieNodesSharedWrong : ChangeSpec := { name := "trieNodesShared", fn := fun _ => fun
  | [d1, d2, d3] => { results := [.lit (.bool false)], args := [d1, d2, d3] }
  | _ => none }
def TrieNodesSharedWrongFalsely : Prop := trieNodesSharedRow.holds Try.pinned (OpenSpec.ofChange trieNodesSharedWrong)

/- THE SECOND FORM. 'bulk': how many values and letters a reading holds, each counted each time it is reached (what is shared counts as often as it is met; a slice's spare places count too). A statement '..UptoSaid' is the law's where the arguments, and the package variables that the reading takes, are together of bulk at most 1048576: NARROWER than '..Said'. Prove '..Said' where nothing that the law and all that it calls make is longer than what came in: it says more and counts as full. Else prove '..UptoSaid'. A law counts once. -/
mutual
def uptoBulk {H : Type} : DataW H → Nat
  | .lit (.string bytes) => bytes.length + 1
  | .lit _ => 1
  | .nil => 1
  | .ptr d => uptoBulk d + 1
  | .slice elems spare => uptoBulkAll elems + uptoBulkAll spare + 1
  | .agg parts => uptoBulkAll parts + 1
  | .iface _ d => uptoBulk d + 1
  | .map entries => uptoBulkEntries entries + 1
  | .held _ => 1
def uptoBulkAll {H : Type} : List (DataW H) → Nat
  | [] => 0
  | d :: r => uptoBulk d + uptoBulkAll r
def uptoBulkEntries {H : Type} : List (Lit × DataW H) → Nat
  | [] => 0
  | x :: r => uptoBulkEntry x + uptoBulkEntries r
def uptoBulkEntry {H : Type} : Lit × DataW H → Nat
  | (.string bytes, d) => bytes.length + uptoBulk d + 1
  | (_, d) => uptoBulk d + 1
 end
def uptoSmall : (H : Type) → List (DataW H) → Bool := fun _ ds => decide (uptoBulkAll ds ≤ 1048576)
def OpenSpec.upto (s : _root_.Go.ChangeSpec) : _root_.Go.OpenSpec := { _root_.Go.OpenSpec.ofChange s with cond := some uptoSmall }

/-- 'crossbarlaw07.TrieMatchesUpdates', WHERE WHAT IT READS IS OF BULK AT MOST 1048576: true; the input reads as it did. -/
def trieMatchesUpdatesUptoRow : OpenClaim := { program := "ytippbkooaonajaa", sum := "64fd9f79b854d2c32630edbe9068f2f5e0351b939322437383585c80e39b0951", func := "crossbar/crossbarlaw07.TrieMatchesUpdates", spec := "trieMatchesUpdates", unfollowed := true, recurses := true, apart := false, narrowed := true }
def TrieMatchesUpdatesUptoSaid : Prop := trieMatchesUpdatesUptoRow.holds Try.pinned (OpenSpec.upto trieMatchesUpdatesSpec)

/-- 'crossbarlaw07.TrieMatchesLookups', WHERE WHAT IT READS IS OF BULK AT MOST 1048576: true; the input reads as it did. -/
def trieMatchesLookupsUptoRow : OpenClaim := { program := "ytippbkooaonajaa", sum := "64fd9f79b854d2c32630edbe9068f2f5e0351b939322437383585c80e39b0951", func := "crossbar/crossbarlaw07.TrieMatchesLookups", spec := "trieMatchesLookups", unfollowed := true, recurses := true, apart := false, narrowed := true }
def TrieMatchesLookupsUptoSaid : Prop := trieMatchesLookupsUptoRow.holds Try.pinned (OpenSpec.upto trieMatchesLookupsSpec)

/-- 'crossbarlaw07.TrieLongestPrefix', WHERE WHAT IT READS IS OF BULK AT MOST 1048576: true; the input reads as it did. -/
def trieLongestPrefixUptoRow : OpenClaim := { program := "ytippbkooaonajaa", sum := "64fd9f79b854d2c32630edbe9068f2f5e0351b939322437383585c80e39b0951", func := "crossbar/crossbarlaw07.TrieLongestPrefix", spec := "trieLongestPrefix", unfollowed := true, recurses := true, apart := false, narrowed := true }
def TrieLongestPrefixUptoSaid : Prop := trieLongestPrefixUptoRow.holds Try.pinned (OpenSpec.upto trieLongestPrefixSpec)

/-- 'crossbarlaw07.TrieEntriesSorted', WHERE WHAT IT READS IS OF BULK AT MOST 1048576: true; the input reads as it did. -/
def trieEntriesSortedUptoRow : OpenClaim := { program := "ytippbkooaonajaa", sum := "64fd9f79b854d2c32630edbe9068f2f5e0351b939322437383585c80e39b0951", func := "crossbar/crossbarlaw07.TrieEntriesSorted", spec := "trieEntriesSorted", unfollowed := true, recurses := true, apart := false, narrowed := true }
def TrieEntriesSortedUptoSaid : Prop := trieEntriesSortedUptoRow.holds Try.pinned (OpenSpec.upto trieEntriesSortedSpec)

/-- 'crossbarlaw07.TrieExtendsEntries', WHERE WHAT IT READS IS OF BULK AT MOST 1048576: true; the input reads as it did. -/
def trieExtendsEntriesUptoRow : OpenClaim := { program := "ytippbkooaonajaa", sum := "64fd9f79b854d2c32630edbe9068f2f5e0351b939322437383585c80e39b0951", func := "crossbar/crossbarlaw07.TrieExtendsEntries", spec := "trieExtendsEntries", unfollowed := true, recurses := true, apart := false, narrowed := true }
def TrieExtendsEntriesUptoSaid : Prop := trieExtendsEntriesUptoRow.holds Try.pinned (OpenSpec.upto trieExtendsEntriesSpec)

/-- 'crossbarlaw07.TrieRebuild', WHERE WHAT IT READS IS OF BULK AT MOST 1048576: true; the input reads as it did. -/
def trieRebuildUptoRow : OpenClaim := { program := "ytippbkooaonajaa", sum := "64fd9f79b854d2c32630edbe9068f2f5e0351b939322437383585c80e39b0951", func := "crossbar/crossbarlaw07.TrieRebuild", spec := "trieRebuild", unfollowed := true, recurses := true, apart := false, narrowed := true }
def TrieRebuildUptoSaid : Prop := trieRebuildUptoRow.holds Try.pinned (OpenSpec.upto trieRebuildSpec)

/-- 'crossbarlaw07.TrieCommutes', WHERE WHAT IT READS IS OF BULK AT MOST 1048576: true; the input reads as it did. -/
def trieCommutesUptoRow : OpenClaim := { program := "ytippbkooaonajaa", sum := "64fd9f79b854d2c32630edbe9068f2f5e0351b939322437383585c80e39b0951", func := "crossbar/crossbarlaw07.TrieCommutes", spec := "trieCommutes", unfollowed := true, recurses := true, apart := false, narrowed := true }
def TrieCommutesUptoSaid : Prop := trieCommutesUptoRow.holds Try.pinned (OpenSpec.upto trieCommutesSpec)

/-- 'crossbarlaw07.TrieNodesShared', WHERE WHAT IT READS IS OF BULK AT MOST 1048576: true; the input reads as it did. -/
def trieNodesSharedUptoRow : OpenClaim := { program := "ytippbkooaonajaa", sum := "64fd9f79b854d2c32630edbe9068f2f5e0351b939322437383585c80e39b0951", func := "crossbar/crossbarlaw07.TrieNodesShared", spec := "trieNodesShared", unfollowed := true, recurses := true, apart := false, narrowed := true }
def TrieNodesSharedUptoSaid : Prop := trieNodesSharedUptoRow.holds Try.pinned (OpenSpec.upto trieNodesSharedSpec)

end Rows
end Go.Proofs.Ytippbkooaonajaa
