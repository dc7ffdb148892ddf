/-
  Opening an argument that is a slice of strings.
-/
import Derived.Test.YtblgcefaikoejaaOpen
import Derived.Test.YtblgcefaikoejaaDgM
import Derived.Deep.Strs
namespace Go.Proofs.Ytblgcefaikoejaa
open Go.ChangeShapes Go.WideShapes Go.ChangeAt Go.RowKit Go.Deep
set_option linter.unusedVariables false

section
variable {H : Type} {enc : TypeId × Value → H} {P : Program} {w : World} {base : Nat} {held : Bool}
theorem open_strl {t e : TypeId} {r : Reach} {b0 : Nat} {v : Value} {d : DataW H} {ps : List MemPlace} (ht : P.underlying t = some (.slice e)) (he : P.underlying e = some .string) (ce : P.cellsOf e = 1)
    (hv : Value.okWide P w r b0 t v) (h : DataW.Trod enc P w base (fun _ => true) held t v d ps) : ∃ l : List (List UInt8), Sl w w.heap.size maxLen v l := by
  obtain ⟨A0, len0, cap0, rfl⟩ := okWide_slice ht hv
  obtain ⟨fuel, hf⟩ := h
  rcases open_strs ht he ce hf with ⟨hcs, _⟩ | ⟨a, len, cap, m, Sx, hcs, _, hl, hm, hmm, _, hrows⟩
  · simp [Value.cells] at hcs
    obtain ⟨rfl, rfl, rfl⟩ := hcs
    exact ⟨[], Row.nil_ _ _ _, fun x hx => by simp at hx⟩
  · simp [Value.cells] at hcs
    obtain ⟨rfl, rfl, rfl⟩ := hcs
    have hlm : len0 ≤ m := by rw [hmm]; split <;> omega
    refine ⟨(List.range len0).map fun i => (Sx i).data.toList, ⟨some a, cap0, by simp, by simpa using hl, hm, (fun h => by cases h), by simp, fun b hb h0 => ?_⟩, fun x hx => ?_⟩
    · obtain rfl : a = b := by injection hb
      simp at h0
      refine ⟨?_, fun i u hu => ?_⟩
      · have := block_lt_of_cell (hrows 0 (by omega)).1
        rwa [add_block] at this
      · simp only [List.getElem?_map, Option.map_eq_some_iff] at hu
        obtain ⟨y, ⟨j, hj, rfl⟩, rfl⟩ := hu
        obtain ⟨hj1, hj2⟩ := List.getElem?_eq_some_iff.1 hj
        simp at hj1 hj2
        subst hj2
        have := (hrows i (by omega)).1
        rw [this]
        simp [str]
    · obtain ⟨i, hi, rfl⟩ := List.mem_map.1 hx
      have := (hrows i (by have := List.mem_range.1 hi; omega)).2
      rw [Array.length_toList]
      exact this
end
end Go.Proofs.Ytblgcefaikoejaa
