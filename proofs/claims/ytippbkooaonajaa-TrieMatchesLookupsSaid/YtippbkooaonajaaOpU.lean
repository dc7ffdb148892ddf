/-
  Opening an argument that is a list of updates.
-/
import Derived.Test.YtippbkooaonajaaOpR
import Derived.Test.YtippbkooaonajaaTlE
namespace Go.Proofs.Ytippbkooaonajaa
open Go.ChangeShapes Go.WideShapes Go.ChangeAt Go.RowKit Go.Deep Dg Tr
set_option linter.unusedVariables false
set_option linter.unusedSimpArgs false

section
variable {H : Type} {enc : TypeId × Value → H} {w : World} {base : Nat} {held : Bool}
/-- An update that is well formed. -/
def Upd (x : List UInt8 × Int) : Prop := x.1.length ≤ maxLen ∧ -9223372036854775808 ≤ x.2 ∧ x.2 ≤ 9223372036854775807

theorem open_upds {r : Reach} {b0 : Nat} {v : Value} {d : DataW H} {ps : List MemPlace} (hv : Value.okWide Try.prog w r b0 40 v) (h : DataW.Trod enc Try.prog w base (fun _ => true) held 40 v d ps) :
    ∃ l : List (Str × Int), Pl w w.heap.size v l ∧ ∀ x ∈ l, Upd x := by
  obtain ⟨A0, len0, cap0, rfl⟩ := okWide_slice Try.underlying40 hv
  obtain ⟨fuel, hf⟩ := h
  rcases DataW.trod_slice Try.underlying40 hf with ⟨hcs, _⟩ | ⟨a, len, cap, elems, rest, m, _, hcs, _, hb, hl, hm, hlen, hel, _, _⟩
  · simp [Value.cells] at hcs
    obtain ⟨rfl, rfl, rfl⟩ := hcs
    exact ⟨[], Row.nil_ _ _ _, fun x hx => by cases hx⟩
  · simp [Value.cells] at hcs
    obtain ⟨rfl, rfl, rfl⟩ := hcs
    have each : ∀ i, ∃ x : Str × Int, Upd x ∧ (i < len0 → ∀ j u, (pvc x)[j]? = some u → w.cell? ((a.add (i * 2)).add j) = some u) := by
      intro i
      by_cases hi : i < len0
      · have h1 := hel i hi
        rw [cells_updT, List.getElem?_eq_getElem (by omega : i < elems.length), Option.bind_eq_some_iff] at h1
        obtain ⟨cs', hc1, hc2⟩ := h1
        obtain ⟨s, z, hs, hz1, hz2, rfl⟩ := open_upd hc2
        obtain ⟨_, k2, k3⟩ := World.cells?_some hc1
        refine ⟨(s, z), ⟨hs, hz1, hz2⟩, fun _ j u hu => ?_⟩
        have hj : j < 2 := (List.getElem?_eq_some_iff.1 hu).1
        exact (k3 j hj).trans hu
      · exact ⟨([], 0), ⟨by simp, by omega, by omega⟩, fun h => absurd h hi⟩
    obtain ⟨f, hfa⟩ := Classical.axiomOfChoice each
    have hlen2 : ((List.range len0).map f).length = len0 := by simp
    refine ⟨(List.range len0).map f, ?_, fun x hx => ?_⟩
    · unfold Pl
      rw [hlen2]
      refine ⟨some a, cap0, rfl, by omega, hm, (fun h => by cases h), by rw [pvs_len, hlen2], fun b hb' h0 => ?_⟩
      obtain rfl : a = b := by injection hb'
      refine ⟨?_, fun x u hu => ?_⟩
      · have hc0 := (hfa 0).2 h0 0 (str (f 0).1) rfl
        have := block_lt_of_cell hc0
        rwa [add_block, add_block] at this
      · have hxl := (List.getElem?_eq_some_iff.1 hu).1
        have hpl : (pvs ((List.range len0).map f)).length = 2 * len0 := by rw [pvs_len, hlen2, Nat.mul_comm]
        rw [hpl] at hxl
        have hx : x / 2 * 2 + x % 2 = x := by omega
        have hg : ((List.range len0).map f)[x / 2]? = some (f (x / 2)) := by rw [List.getElem?_map, List.getElem?_range (by omega)]; rfl
        have hc := (hfa (x / 2)).2 (by omega) (x % 2) u (by
          obtain ⟨p1, p2⟩ := pvs_get hg
          have hx2 : x % 2 = 0 ∨ x % 2 = 1 := by omega
          rcases hx2 with h0 | h0
          · rw [h0]; rw [show x = 2 * (x / 2) by omega, p1] at hu; exact hu
          · rw [h0]; rw [show x = 2 * (x / 2) + 1 by omega, p2] at hu; exact hu)
        rwa [add_twice, hx] at hc
    · simp only [List.mem_map] at hx
      obtain ⟨i, _, rfl⟩ := hx
      exact (hfa i).1
end
end Go.Proofs.Ytippbkooaonajaa
