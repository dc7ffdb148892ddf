/-
  Opening arguments that are arrays of bytes; tables of words that the program's start lays.
-/
import Derived.Test.YtippbkooaonajaaAgg
import Derived.Test.YtippbkooaonajaaOpen
import Derived.OpenShut
import Derived.FnData
import Derived.LaidMore
namespace Go.Proofs.Ytippbkooaonajaa
open Go.ChangeShapes Go.WideShapes Go.ChangeAt Go.RowKit
set_option linter.unusedVariables false
set_option linter.unusedSimpArgs false

section
variable {H : Type} {enc : TypeId × Value → H} {P : Program} {w : World} {base : Nat} {held : Bool} {spare : Nat → Bool}

theorem okWide_array {t e : TypeId} {n : Nat} {r : Reach} {b0 : Nat} {v : Value} (ht : P.underlying t = some (.array n e)) (h : Value.okWide P w r b0 t v) : ∃ cs, v = .agg cs ∧ cs.size = P.cellsOf t := by
  simp only [Value.okWide, ht] at h
  obtain ⟨cs, h1, h2, _⟩ := h
  exact ⟨cs, h1, h2⟩

/-- The cells of an array of integers of one kind. -/
theorem cells_of_trod {t e : TypeId} {n fuel : Nat} {k : IntKind} {cs : List Value} {x : DataW H × List MemPlace} (ht : P.underlying t = some (.array n e)) (he : P.underlying e = some (.int k)) (hc : P.cellsOf e = 1)
    (h : DataW.trod enc P w base spare held fuel t cs = some x) :
    ∃ zs : List Int, zs.length = n ∧ x.1 = .agg (zs.map fun z => .lit (.int k z)) ∧ (∀ i, i < n → cs[i]? = (zs.map (Value.int k))[i]?) ∧ cs.length = P.cellsOf t ∧ ∀ z ∈ zs, (Lit.int k z).wf = true := by
  obtain ⟨xs, m, rfl, rfl, hlen, hn, hel⟩ := DataW.trod_array ht h
  have hz : ∀ i, ∃ z : Int, i < n → (cs.drop i).take 1 = [.int k z] ∧ xs[i]? = some (.lit (.int k z), []) ∧ (Lit.int k z).wf = true := by
    intro i
    by_cases hi : i < n
    · have h1 := hel i hi
      rw [hc, Nat.mul_one] at h1
      have hx : xs[i]? = some (xs[i]'(by omega)) := List.getElem?_eq_getElem _
      rw [hx] at h1
      obtain ⟨z, e1, e2, e3⟩ := DataW.trod_int he h1
      exact ⟨z, fun _ => ⟨e1, by rw [hx, e2], e3⟩⟩
    · exact ⟨0, fun h => absurd h hi⟩
  obtain ⟨f, hf⟩ := Classical.axiomOfChoice hz
  refine ⟨(List.range n).map f, by simp, ?_, fun i hi => ?_, hlen, fun z hzm => ?_⟩
  · show DataW.agg _ = DataW.agg _
    congr 1
    apply List.ext_getElem?
    intro i
    by_cases hi : i < n
    · rw [List.getElem?_map, (hf i hi).2.1]
      simp [hi]
    · rw [List.getElem?_eq_none (by simp; omega), List.getElem?_eq_none (by simp; omega)]
  · have h1 := (hf i hi).1
    have h2 : cs[i]? = some (.int k (f i)) := by
      have := congrArg (fun l => l[0]?) h1
      simpa using this
    rw [h2]
    simp [hi]
  · obtain ⟨i, hi, rfl⟩ := List.mem_map.1 hzm
    exact (hf i (by simpa using hi)).2.2

theorem open_dig {t e : TypeId} {n : Nat} {r : Reach} {b0 : Nat} {v : Value} {d : DataW H} {ps : List MemPlace} (ht : P.underlying t = some (.array n e)) (he : P.underlying e = some (.int .u8)) (hc : P.cellsOf e = 1) (hn : P.cellsOf t = n)
    (hv : Value.okWide P w r b0 t v) (h : DataW.Trod enc P w base (fun _ => true) held t v d ps) : ∃ l : List UInt8, l.length = n ∧ v = .agg (u8s l).toArray := by
  obtain ⟨cs, rfl, hsz⟩ := okWide_array ht hv
  obtain ⟨fuel, hf⟩ := h
  obtain ⟨zs, hz1, _, hz3, _, hz5⟩ := cells_of_trod (cs := cs.toList) ht he hc (by simpa [Value.cells] using hf)
  refine ⟨zs.map fun z => UInt8.ofNat z.toNat, by simpa using hz1, ?_⟩
  congr 1
  apply Array.ext'
  apply List.ext_getElem?
  intro i
  by_cases hi : i < n
  · rw [hz3 i hi]
    have hzi : zs[i]? = some (zs[i]'(by omega)) := List.getElem?_eq_getElem _
    have hb := bounds_u8 (hz5 _ (List.mem_of_getElem? hzi))
    simp only [u8s, List.map_map, List.getElem?_map, hzi, Option.map_some, Function.comp, u8, Option.some.injEq, Value.int.injEq, true_and]
    have e3 : (UInt8.ofNat (zs[i]'(by omega)).toNat).toNat = (zs[i]'(by omega)).toNat % 256 := by simp
    rw [e3]; omega
  · rw [List.getElem?_eq_none (by simp; omega), List.getElem?_eq_none (by simp [u8s]; omega)]

/-- A listed table of words: its cells. -/
theorem table_cells {nm : String} {g : Nat} {t e : TypeId} {n fuel : Nat} {cs : Array Value} {L : List Nat} {q : List MemPlace} (hg : P.globalNamed nm = some g) (hv : w.var? P nm = some cs)
    (ht : P.underlying t = some (.array n e)) (he : P.underlying e = some (.int .u32)) (hc : P.cellsOf e = 1) {d : DataW H} (hd : d = .agg (L.map fun (z : Nat) => .lit (.int .u32 (z : Int)))) (h : DataW.trod enc P w base spare held fuel t cs.toList = some (d, q)) :
    ∀ i u, (w32s L)[i]? = some u → w.cell? ⟨g, i, none⟩ = some u := by
  obtain ⟨zs, hz1, hz2, hz3, _, _⟩ := cells_of_trod ht he hc h
  simp only at hz2
  rw [hd] at hz2
  injection hz2 with hz2
  have hL : L.length = n := by have := congrArg List.length hz2; simpa [hz1] using this
  have hzs : zs = L.map fun (z : Nat) => (z : Int) := by
    have h1 := congrArg (List.map fun x : DataW H => match x with | .lit (.int _ z) => z | _ => 0) hz2
    simpa [List.map_map, Function.comp_def] using h1.symm
  intro i u hu
  have hi : i < n := by have := (List.getElem?_eq_some_iff.1 hu).1; rwa [w32s_length, hL] at this
  rw [World.var?_cell hg hv i]
  have h3 := hz3 i hi
  rw [hzs] at h3
  rw [Array.getElem?_toList] at h3
  rw [h3, ← hu]
  simp only [w32s, List.map_map]
  rfl
end
end Go.Proofs.Ytippbkooaonajaa
