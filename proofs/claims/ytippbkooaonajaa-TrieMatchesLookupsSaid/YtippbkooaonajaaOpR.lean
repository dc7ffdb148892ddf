/-
  Opening an argument that is a trie.
-/
import Derived.Test.YtippbkooaonajaaOpA
import Derived.Test.YtippbkooaonajaaTtB
import Derived.Deep.Strs
namespace Go.Proofs.Ytippbkooaonajaa
open Go.ChangeShapes Go.WideShapes Go.ChangeAt Go.RowKit Go.Deep
set_option linter.unusedVariables false
set_option linter.unusedSimpArgs false

section
variable {H : Type} {enc : TypeId × Value → H} {w : World} {base : Nat} {held : Bool}
theorem cells_nodeT : Try.prog.cellsOf 59 = 11 := by kernel_rfl
theorem cells_kidsT : Try.prog.cellsOf 57 = 10 := by kernel_rfl
theorem cells_intT : Try.prog.cellsOf 3 = 1 := by kernel_rfl
theorem cells_nodesT : Try.prog.cellsOf 22 = 1 := by kernel_rfl
theorem cells_trieT : Try.prog.cellsOf 24 = 1 := by kernel_rfl

/-- One node's cells. -/
theorem open_node {fuel : Nat} {cs : List Value} {x : DataW H × List MemPlace} (hf : DataW.trod enc Try.prog w base (fun _ => true) held fuel 59 cs = some x) : ∃ zs : List Int, zs.length = 11 ∧ cs = ints zs := by
  obtain ⟨y0, y1, n, _, hl, k0, k1⟩ := trod_struct2 Try.underlying59 hf
  rw [cells_nodeT] at hl
  have k0' : DataW.trod enc Try.prog w base (fun _ => true) held n 57 ((cs.drop 0).take 10) = some y0 := by have := k0; rwa [show Try.prog.cellsOf _ = 10 from cells_kidsT] at this
  have k1' : DataW.trod enc Try.prog w base (fun _ => true) held n 3 ((cs.drop 10).take 1) = some y1 := by have := k1; rwa [show Try.prog.cellsOf _ = 1 from cells_intT] at this
  obtain ⟨zs, hz1, _, hz3, hz4, hz5⟩ := cells_of_trod Try.underlying57 Try.underlying3 cells_intT k0'
  obtain ⟨z, e0, _, hz⟩ := DataW.trod_int Try.underlying3 k1'
  refine ⟨zs ++ [z], by simp [hz1], ?_⟩
  have h1 : cs.take 10 = ints zs := by
    apply List.ext_getElem?
    intro i
    by_cases hi : i < 10
    · have := hz3 i hi
      rw [List.drop_zero] at this
      rw [this]; simp [ints]; rfl
    · rw [List.getElem?_eq_none (by simp; omega), List.getElem?_eq_none (by rw [ints_length]; omega)]
  have h2 : cs.drop 10 = [.int .i64 z] := by
    rw [← e0, List.take_of_length_le (by simp; omega)]
  rw [ints_append, ← h1, show ints [z] = cs.drop 10 by rw [h2]; rfl, List.take_append_drop]

theorem fmap11_len {f : Nat → List Int} : ∀ n, (∀ i, i < n → (f i).length = 11) → ((List.range n).flatMap f).length = n * 11
  | 0, _ => rfl
  | n + 1, h => by
    rw [List.range_succ, List.flatMap_append, List.length_append, fmap11_len n (fun i hi => h i (by omega))]
    simp [h n (by omega)]; omega
theorem fmap11_get {f : Nat → List Int} : ∀ (n i j : Nat), (∀ i, i < n → (f i).length = 11) → i < n → j < 11 → ((List.range n).flatMap f)[i * 11 + j]? = (f i)[j]?
  | 0, i, j, _, hi, _ => by omega
  | n + 1, i, j, h, hi, hj => by
    have hl := fmap11_len n (fun i hi => h i (by omega))
    rw [List.range_succ, List.flatMap_append]
    by_cases hc : i < n
    · rw [List.getElem?_append_left (by rw [hl]; omega), fmap11_get n i j (fun i hi => h i (by omega)) hc hj]
    · obtain rfl : i = n := by omega
      rw [List.getElem?_append_right (by rw [hl]; omega), hl]
      simp

theorem open_trie {r : Reach} {b0 : Nat} {v : Value} {d : DataW H} {ps : List MemPlace} (hv : Value.okWide Try.prog w r b0 24 v) (h : DataW.Trod enc Try.prog w base (fun _ => true) held 24 v d ps) :
    ∃ (A : Option Addr) (n c : Nat) (F : List Int), v = .agg #[.slice A n c] ∧ Nds w w.heap.size n (.slice A n c) F := by
  obtain ⟨cs, rfl, hsz⟩ := okWide_struct Try.underlying24 hv
  obtain ⟨fuel, hf⟩ := h
  have hf' : DataW.trod enc Try.prog w base (fun _ => true) held fuel 24 cs.toList = some (d, ps) := by simpa [Value.cells] using hf
  obtain ⟨y0, n, _, hl, k0⟩ := trod_struct1 Try.underlying24 hf'
  rw [cells_trieT] at hl
  have k0' : DataW.trod enc Try.prog w base (fun _ => true) held n 22 ((cs.toList.drop 0).take 1) = some y0 := by have := k0; rwa [show Try.prog.cellsOf _ = 1 from cells_nodesT] at this
  rw [List.drop_zero, List.take_of_length_le (by omega)] at k0'
  have main : ∃ (A : Option Addr) (n c : Nat) (F : List Int), cs.toList = [.slice A n c] ∧ Nds w w.heap.size n (.slice A n c) F := by
    rcases DataW.trod_slice Try.underlying22 k0' with ⟨hcs, _⟩ | ⟨a, len, cap, elems, rest, m, _, hcs, _, hb, hl, hm, hlen, hel, _, _⟩
    · exact ⟨none, 0, 0, [], hcs, Row.nil_ _ _ _⟩
    · have each : ∀ i, ∃ l : List Int, i < len → l.length = 11 ∧ ∀ j u, (ints l)[j]? = some u → w.cell? ((a.add (i * 11)).add j) = some u := by
        intro i
        by_cases hi : i < len
        · have h1 := hel i hi
          rw [cells_nodeT, List.getElem?_eq_getElem (by omega : i < elems.length), Option.bind_eq_some_iff] at h1
          obtain ⟨cs', hc1, hc2⟩ := h1
          obtain ⟨zs, hz1, rfl⟩ := open_node hc2
          obtain ⟨_, k2, k3⟩ := World.cells?_some hc1
          refine ⟨zs, fun _ => ⟨hz1, fun j u hu => ?_⟩⟩
          have hj : j < 11 := by
            have := (List.getElem?_eq_some_iff.1 hu).1
            rw [ints_length, hz1] at this; exact this
          exact (k3 j hj).trans hu
        · exact ⟨[], fun h => absurd h hi⟩
      obtain ⟨f, hfa⟩ := Classical.axiomOfChoice each
      have hFl := fmap11_len (f := f) len (fun i hi => (hfa i hi).1)
      refine ⟨some a, len, cap, (List.range len).flatMap f, hcs, some a, cap, rfl, by omega, hm, (fun h => by cases h), by rw [ints_length, hFl], fun b hb' h0 => ?_⟩
      obtain rfl : a = b := by injection hb'
      refine ⟨?_, fun x u hu => ?_⟩
      · obtain ⟨hl0, hc0⟩ := hfa 0 h0
        have hx : (ints (f 0))[0]? = some ((ints (f 0))[0]'(by rw [ints_length]; omega)) := List.getElem?_eq_getElem _
        have := block_lt_of_cell (hc0 0 _ hx)
        rwa [add_block, add_block] at this
      · have hxl := (List.getElem?_eq_some_iff.1 hu).1
        rw [ints_length, hFl] at hxl
        have hx : x / 11 * 11 + x % 11 = x := by omega
        have hc := (hfa (x / 11) (by omega)).2 (x % 11) u (by
          rw [← hu]
          unfold ints
          rw [List.getElem?_map, List.getElem?_map, ← fmap11_get len (x / 11) (x % 11) (fun i hi => (hfa i hi).1) (by omega) (by omega), hx])
        rwa [add_twice, hx] at hc
  obtain ⟨A, n, c, F, hcs, hN⟩ := main
  refine ⟨A, n, c, F, ?_, hN⟩
  congr 1
  apply Array.ext'
  exact hcs

/-! ### A list of updates -/
theorem cells_updT : Try.prog.cellsOf 74 = 2 := by kernel_rfl
theorem cells_strT : Try.prog.cellsOf 9 = 1 := by kernel_rfl
theorem open_upd {fuel : Nat} {cs : List Value} {x : DataW H × List MemPlace} (hf : DataW.trod enc Try.prog w base (fun _ => true) held fuel 74 cs = some x) : ∃ (s : List UInt8) (z : Int), s.length ≤ maxLen ∧ -9223372036854775808 ≤ z ∧ z ≤ 9223372036854775807 ∧ cs = [str s, .int .i64 z] := by
  obtain ⟨y0, y1, n, _, hl, k0, k1⟩ := trod_struct2 Try.underlying74 hf
  rw [cells_updT] at hl
  have k0' : DataW.trod enc Try.prog w base (fun _ => true) held n 9 ((cs.drop 0).take 1) = some y0 := by have := k0; rwa [show Try.prog.cellsOf _ = 1 from cells_strT] at this
  have k1' : DataW.trod enc Try.prog w base (fun _ => true) held n 3 ((cs.drop 1).take 1) = some y1 := by have := k1; rwa [show Try.prog.cellsOf _ = 1 from cells_intT] at this
  obtain ⟨b, e1, _, hb⟩ := DataW.trod_string Try.underlying9 k0'
  obtain ⟨z, e0, _, hz⟩ := DataW.trod_int Try.underlying3 k1'
  have hbz := bounds_i64 hz
  refine ⟨b.data.toList, z, by rw [Array.length_toList]; exact hb, hbz.1, hbz.2, ?_⟩
  clear k0 k1 k0' k1' hf
  match cs, hl, e1, e0 with
  | [p, q], _, e1, e0 =>
    simp at e0 e1
    rw [e0, e1]
    simp [str]
end
end Go.Proofs.Ytippbkooaonajaa
