/-
  Opening an argument that is a slice of slices of bytes.
-/
import Derived.Test.YtokjlcajcflhgaaOpen
import Derived.Test.YtokjlcajcflhgaaLst
import Derived.Deep.Matrix
namespace Go.Proofs.Ytokjlcajcflhgaa
open Go.ChangeShapes Go.WideShapes Go.ChangeAt Go.RowKit Go.Deep

section
variable {H : Type} {enc : TypeId × Value → H} {P : Program} {w : World} {base : Nat} {held : Bool}

/-- The bytes of a row of numbers. -/
def bytesOf (n : Nat) (zs : List Int) : List UInt8 := (zs.take n).map fun n => UInt8.ofNat n.toNat

theorem row_bs {A : Option Addr} {len cap : Nat} {zs : List Int} (hl : len ≤ cap) (hm : cap ≤ maxLen) (hz : zs.length = cap) (hwz : ∀ n ∈ zs, (Lit.int .u8 n).wf = true) (h0 : A = none → cap = 0)
    (hcell : ∀ a', A = some a' → ∀ c, c < cap → w.cell? (a'.add c) = some (.int .u8 (zs.getD c 0))) : Bs w w.heap.size (.slice A len cap) (bytesOf len zs) := by
  cases A with
  | none =>
    have := h0 rfl
    obtain rfl : cap = 0 := this
    obtain rfl : len = 0 := by omega
    exact Bs.nil_ _ _
  | some a =>
    have hrow := row_of_ints (w := w) (k := .u8) hl hm hz (fun i hi => hcell a rfl i (by omega))
    have e1 : u8s (bytesOf len zs) = (zs.take len).map (Value.int .u8) := by
      simp only [u8s, bytesOf, List.map_map]
      apply List.map_congr_left
      intro n hn
      have hb := bounds_u8 (hwz n (List.mem_of_mem_take hn))
      simp only [Function.comp, u8, Value.int.injEq, true_and]
      have e3 : (UInt8.ofNat n.toNat).toNat = n.toNat % 256 := by simp
      rw [e3]; omega
    have e2 : (bytesOf len zs).length = len := by simp [bytesOf]; omega
    unfold Bs
    rw [e1, e2]; exact hrow

theorem open_ls {t e q : TypeId} {r : Reach} {b0 : Nat} {v : Value} {d : DataW H} {ps : List MemPlace} (ht : P.underlying t = some (.slice e)) (he : P.underlying e = some (.slice q)) (hq : P.underlying q = some (.int .u8)) (ce : P.cellsOf e = 1) (cq : P.cellsOf q = 1)
    (hv : Value.okWide P w r b0 t v) (h : DataW.Trod enc P w base (fun _ => true) held t v d ps) : ∃ ls : List (List UInt8), Ls w w.heap.size v ls := by
  obtain ⟨A0, len0, cap0, rfl⟩ := okWide_slice ht hv
  obtain ⟨fuel, hf⟩ := h
  rcases open_int_rows ht he hq ce cq hf with ⟨hcs, _⟩ | ⟨a, len, cap, A, L, C, Z, hcs, _, hl, hm, _, hrows⟩
  · simp [Value.cells] at hcs
    obtain ⟨rfl, rfl, rfl⟩ := hcs
    exact ⟨[], [], ⟨none, 0, rfl, Nat.le_refl _, Nat.zero_le _, fun _ => rfl, rfl, fun a ha => by cases ha⟩, fun i u x h => by simp at h⟩
  · simp [Value.cells] at hcs
    obtain ⟨rfl, rfl, rfl⟩ := hcs
    refine ⟨(List.range len0).map fun r => bytesOf (L r) (Z r), (List.range len0).map fun r => .slice (A r) (L r) (C r), ?_, ?_⟩
    · refine ⟨some a, cap0, by simp, by simpa using hl, hm, (fun h => by cases h), by simp, fun b hb h0 => ?_⟩
      obtain rfl : a = b := by injection hb
      simp at h0
      refine ⟨?_, fun i u hu => ?_⟩
      · have := block_lt_of_cell (hrows 0 (by omega)).1
        rwa [add_block] at this
      · simp only [List.getElem?_map, Option.map_eq_some_iff] at hu
        obtain ⟨j, hj, rfl⟩ := hu
        obtain ⟨hj1, hj2⟩ := List.getElem?_eq_some_iff.1 hj
        simp at hj1 hj2
        subst hj2
        exact (hrows i (by omega)).1
    · intro i u x hu hx
      simp only [List.getElem?_map, Option.map_eq_some_iff] at hu hx
      obtain ⟨j, hj, rfl⟩ := hu
      obtain ⟨j', hj', rfl⟩ := hx
      rw [hj] at hj'
      injection hj' with hj'
      subst hj'
      obtain ⟨hj1, hj2⟩ := List.getElem?_eq_some_iff.1 hj
      simp at hj1 hj2
      subst hj2
      obtain ⟨_, h1, h2, h3, h4, h5, h6⟩ := hrows i (by omega)
      exact row_bs h1 h2 h3 h4 h5 fun a' ha' => (h6 a' ha').2
end

end Go.Proofs.Ytokjlcajcflhgaa
