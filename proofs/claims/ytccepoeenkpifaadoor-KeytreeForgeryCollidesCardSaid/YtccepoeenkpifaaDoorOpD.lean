/-
  Opening an argument that is a slice of arrays of bytes: the bytes of its elements, side by side.
-/
import Derived.Test.YtccepoeenkpifaaDoorOpA
import Derived.Deep.Matrix
namespace Go.Proofs.YtccepoeenkpifaaDoor
open Go.ChangeShapes Go.WideShapes Go.ChangeAt Go.RowKit Go.Deep
set_option linter.unusedVariables false
set_option linter.unusedSimpArgs false

section
variable {H : Type} {enc : TypeId × Value → H} {P : Program} {w : World} {base : Nat} {held : Bool}

theorem fmap_len {s : Nat} {f : Nat → List UInt8} : ∀ m, (∀ i, i < m → (f i).length = s) → ((List.range m).flatMap f).length = m * s
  | 0, _ => by simp
  | m + 1, h => by
    rw [List.range_succ, List.flatMap_append, List.length_append, fmap_len m (fun i hi => h i (by omega))]
    simp [h m (by omega), Nat.succ_mul]
theorem fmap_get {s : Nat} {f : Nat → List UInt8} : ∀ m i j, (∀ i, i < m → (f i).length = s) → i < m → j < s → ((List.range m).flatMap f)[i * s + j]? = (f i)[j]?
  | m + 1, i, j, h, hi, hj => by
    have hl := fmap_len (s := s) (f := f) m (fun i hi => h i (by omega))
    rw [List.range_succ, List.flatMap_append]
    by_cases hc : i < m
    · have hlt : i * s + j < m * s := by
        have : (i + 1) * s ≤ m * s := Nat.mul_le_mul_right _ hc
        rw [Nat.succ_mul] at this; omega
      rw [List.getElem?_append_left (by rw [hl]; exact hlt)]
      exact fmap_get m i j (fun i hi => h i (by omega)) hc hj
    · obtain rfl : i = m := by omega
      rw [List.getElem?_append_right (by rw [hl]; omega), hl]
      simp

theorem open_ds {t e q : TypeId} {s : Nat} {r : Reach} {b0 : Nat} {v : Value} {d : DataW H} {ps : List MemPlace} (ht : P.underlying t = some (.slice e)) (he : P.underlying e = some (.array s q)) (hq : P.underlying q = some (.int .u8)) (ce : P.cellsOf e = s) (cq : P.cellsOf q = 1) (hs : 0 < s)
    (hv : Value.okWide P w r b0 t v) (h : DataW.Trod enc P w base (fun _ => true) held t v d ps) : ∃ (n : Nat) (F : List UInt8), Row w w.heap.size s n v (u8s F) := by
  obtain ⟨A0, len0, cap0, rfl⟩ := okWide_slice ht hv
  obtain ⟨fuel, hf⟩ := h
  rcases DataW.trod_slice ht hf with ⟨hcs, _⟩ | ⟨a, len, cap, elems, rest, m, _, hcs, _, hb, hl, hm, hlen, hel, _, _⟩
  · simp [Value.cells] at hcs
    obtain ⟨rfl, rfl, rfl⟩ := hcs
    exact ⟨0, [], Row.nil_ _ _ _⟩
  · simp [Value.cells] at hcs
    obtain ⟨rfl, rfl, rfl⟩ := hcs
    have each : ∀ i, ∃ l : List UInt8, i < len0 → l.length = s ∧ ∀ j u, (u8s l)[j]? = some u → w.cell? ((a.add (i * s)).add j) = some u := by
      intro i
      by_cases hi : i < len0
      · have h1 := hel i hi
        rw [ce, List.getElem?_eq_getElem (by omega : i < elems.length), Option.bind_eq_some_iff] at h1
        obtain ⟨cs', hc1, hc2⟩ := h1
        obtain ⟨zs, hz1, _, hz3, hz4, hz5⟩ := cells_of_trod he hq cq hc2
        rw [ce] at hz4
        obtain ⟨_, k2, k3⟩ := World.cells?_some hc1
        refine ⟨zs.map fun z => UInt8.ofNat z.toNat, fun _ => ⟨by simpa using hz1, fun j u hu => ?_⟩⟩
        have hj : j < s := by
          have := (List.getElem?_eq_some_iff.1 hu).1
          rw [u8s_length, List.length_map, hz1] at this; exact this
        have hzj : zs[j]? = some (zs[j]'(by omega)) := List.getElem?_eq_getElem _
        have hbd := bounds_u8 (hz5 _ (List.mem_of_getElem? hzj))
        have e3 : (UInt8.ofNat (zs[j]'(by omega)).toNat).toNat = (zs[j]'(by omega)).toNat % 256 := by simp
        have hu2 : u = .int .u8 (zs[j]'(by omega)) := by
          simp only [u8s, List.map_map, List.getElem?_map, hzj, Option.map_some, Function.comp, u8, Option.some.injEq] at hu
          rw [← hu, e3]
          congr 1; omega
        have h4 := hz3 j hj
        rw [List.getElem?_map, hzj, Option.map_some, ← hu2] at h4
        exact (k3 j hj).trans h4
      · exact ⟨[], fun h => absurd h hi⟩
    obtain ⟨f, hfa⟩ := Classical.axiomOfChoice each
    refine ⟨len0, (List.range len0).flatMap f, some a, cap0, by simp, by omega, hm, (fun h => by cases h), ?_, fun b hb' h0 => ?_⟩
    · rw [u8s_length, fmap_len len0 (fun i hi => (hfa i hi).1)]
    · obtain rfl : a = b := by injection hb'
      refine ⟨?_, fun x u hu => ?_⟩
      · obtain ⟨hl0, hc0⟩ := hfa 0 h0
        have hx : (u8s (f 0))[0]? = some ((u8s (f 0))[0]'(by rw [u8s_length]; omega)) := List.getElem?_eq_getElem _
        have := block_lt_of_cell (hc0 0 _ hx)
        rwa [add_block, add_block] at this
      · have hxl := (List.getElem?_eq_some_iff.1 hu).1
        rw [u8s_length, fmap_len len0 (fun i hi => (hfa i hi).1)] at hxl
        have hi : x / s < len0 := Nat.div_lt_of_lt_mul (by rw [Nat.mul_comm]; exact hxl)
        have hj : x % s < s := Nat.mod_lt _ hs
        have hx : x / s * s + x % s = x := by rw [Nat.mul_comm]; exact Nat.div_add_mod x s
        have hc := (hfa (x / s) hi).2 (x % s) u (by
          rw [← hu]
          unfold u8s
          rw [List.getElem?_map, List.getElem?_map, ← fmap_get len0 (x / s) (x % s) (fun i hi => (hfa i hi).1) hi hj, hx])
        rwa [add_twice, hx] at hc
end
end Go.Proofs.YtccepoeenkpifaaDoor
