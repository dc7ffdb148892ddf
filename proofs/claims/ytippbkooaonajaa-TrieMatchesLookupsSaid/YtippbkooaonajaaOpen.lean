/-
  Opening arguments into the words of the walks: a slice of bytes, a string.
-/
import Derived.Test.YtippbkooaonajaaMem
import Derived.OpenShut
import Derived.ShutString
namespace Go.Proofs.Ytippbkooaonajaa
open Go.ChangeShapes Go.WideShapes Go.ChangeAt Go.RowKit

section
variable {H : Type} {enc : TypeId × Value → H} {P : Program} {w : World} {base : Nat} {held : Bool}

/-- A slice of integers that came in, as cells; below the heap's size. -/
theorem row_of_ints {k : IntKind} {a : Addr} {len cap : Nat} {zs : List Int} (hl : len ≤ cap) (hm : cap ≤ maxLen) (hz : zs.length = cap)
    (hc : ∀ i, i < zs.length → w.cell? (a.add i) = some (.int k (zs.getD i 0))) : Row w w.heap.size 1 len (.slice (some a) len cap) ((zs.take len).map (Value.int k)) := by
  refine ⟨some a, cap, rfl, hl, hm, (fun h => by cases h), by simp; omega, fun b hb h0 => ?_⟩
  obtain rfl : a = b := by injection hb
  refine ⟨?_, fun i u hu => ?_⟩
  · have := block_lt_of_cell (hc 0 (by omega))
    rwa [add_block] at this
  · simp only [List.getElem?_map, Option.map_eq_some_iff] at hu
    obtain ⟨n, hn, rfl⟩ := hu
    have hi : i < len := by
      rw [List.getElem?_take] at hn
      split at hn
      · assumption
      · cases hn
    rw [hc i (by omega)]
    rw [List.getElem?_take, if_pos hi] at hn
    simp [List.getD, hn]

theorem open_bs {t e : TypeId} {r : Reach} {b0 : Nat} {v : Value} {d : DataW H} {ps : List MemPlace} (ht : P.underlying t = some (.slice e)) (he : P.underlying e = some (.int .u8)) (hc : P.cellsOf e = 1)
    (hv : Value.okWide P w r b0 t v) (h : DataW.Trod enc P w base (fun _ => true) held t v d ps) : ∃ l : List UInt8, Bs w w.heap.size v l := by
  obtain ⟨A, len, cap, rfl⟩ := okWide_slice ht hv
  obtain ⟨fuel, hf⟩ := h
  rcases open_ints ht he hc hf with ⟨hcs, _⟩ | ⟨x, l, c, zs, hcs, _, hl, hm, hz, _, hcell, hwz⟩
  · simp [Value.cells] at hcs
    obtain ⟨rfl, rfl, rfl⟩ := hcs
    exact ⟨[], Bs.nil_ _ _⟩
  · simp [Value.cells] at hcs
    obtain ⟨rfl, rfl, rfl⟩ := hcs
    have hz' : zs.length = cap := by simpa using hz
    refine ⟨(zs.take len).map fun n => UInt8.ofNat n.toNat, ?_⟩
    have hrow := row_of_ints (k := .u8) hl hm hz' hcell
    have e1 : u8s ((zs.take len).map fun n => UInt8.ofNat n.toNat) = (zs.take len).map (Value.int .u8) := by
      simp only [u8s, List.map_map]
      apply List.map_congr_left
      intro n hn
      have hb := bounds_u8 (hwz n (List.mem_of_mem_take hn))
      simp only [Function.comp, u8, Value.int.injEq, true_and]
      have e3 : (UInt8.ofNat n.toNat).toNat = n.toNat % 256 := by simp
      rw [e3]; omega
    have e2 : ((zs.take len).map fun n => UInt8.ofNat n.toNat).length = len := by simp; omega
    unfold Bs
    rw [e1, e2]; exact hrow

theorem string_str (s : ByteArray) : Value.string s = str s.data.toList := by
  simp [str]
end

end Go.Proofs.Ytippbkooaonajaa
