/-
  Opening an argument that is a struct of an int and two slices of arrays of bytes.
-/
import Derived.Test.YtccepoeenkpifaaDoorOpD
import Derived.Deep.Strs
namespace Go.Proofs.YtccepoeenkpifaaDoor
open Go.ChangeShapes Go.WideShapes Go.ChangeAt Go.RowKit Go.Deep
set_option linter.unusedVariables false
set_option linter.unusedSimpArgs false

section
variable {H : Type} {enc : TypeId × Value → H} {P : Program} {w : World} {base : Nat} {held : Bool}

theorem open_dsT {t e q : TypeId} {s fuel : Nat} {cs : List Value} {x : DataW H × List MemPlace} (ht : P.underlying t = some (.slice e)) (he : P.underlying e = some (.array s q)) (hq : P.underlying q = some (.int .u8)) (ce : P.cellsOf e = s) (cq : P.cellsOf q = 1) (hs : 0 < s)
    (hf : DataW.trod enc P w base (fun _ => true) held fuel t cs = some x) : ∃ (v : Value) (n : Nat) (F : List UInt8), cs = [v] ∧ Row w w.heap.size s n v (u8s F) := by
  rcases DataW.trod_slice ht hf with ⟨hcs, _⟩ | ⟨a, len, cap, elems, rest, m, _, hcs, _, hb, hl, hm, hlen, hel, _, _⟩
  · exact ⟨_, 0, [], hcs, Row.nil_ _ _ _⟩
  · subst hcs
    have each : ∀ i, ∃ l : List UInt8, i < len → l.length = s ∧ ∀ j u, (u8s l)[j]? = some u → w.cell? ((a.add (i * s)).add j) = some u := by
      intro i
      by_cases hi : i < len
      · have h1 := hel i hi
        rw [ce, List.getElem?_eq_getElem (by omega : i < elems.length), Option.bind_eq_some_iff] at h1
        obtain ⟨cs', hc1, hc2⟩ := h1
        obtain ⟨zs, hz1, _, hz3, hz4, hz5⟩ := cells_of_trod he hq cq hc2
        rw [ce] at hz4
        obtain ⟨_, k2, k3⟩ := World.cells?_some hc1
        refine ⟨zs.map fun z => UInt8.ofNat z.toNat, fun _ => ⟨by simpa using hz1, fun j u hu => ?_⟩⟩
        have hj : j < s := by
          have := (List.getElem?_eq_some_iff.1 hu).1
          rw [u8s_length, List.length_map, hz1] at this; exact this
        have hzj : zs[j]? = some (zs[j]'(by omega)) := List.getElem?_eq_getElem _
        have hbd := bounds_u8 (hz5 _ (List.mem_of_getElem? hzj))
        have e3 : (UInt8.ofNat (zs[j]'(by omega)).toNat).toNat = (zs[j]'(by omega)).toNat % 256 := by simp
        have hu2 : u = .int .u8 (zs[j]'(by omega)) := by
          simp only [u8s, List.map_map, List.getElem?_map, hzj, Option.map_some, Function.comp, u8, Option.some.injEq] at hu
          rw [← hu, e3]
          congr 1; omega
        have h4 := hz3 j hj
        rw [List.getElem?_map, hzj, Option.map_some, ← hu2] at h4
        exact (k3 j hj).trans h4
      · exact ⟨[], fun h => absurd h hi⟩
    obtain ⟨f, hfa⟩ := Classical.axiomOfChoice each
    refine ⟨.slice (some a) len cap, len, (List.range len).flatMap f, rfl, some a, cap, by simp, by omega, hm, (fun h => by cases h), ?_, fun b hb' h0 => ?_⟩
    · rw [u8s_length, fmap_len len (fun i hi => (hfa i hi).1)]
    · obtain rfl : a = b := by injection hb'
      refine ⟨?_, fun x u hu => ?_⟩
      · obtain ⟨hl0, hc0⟩ := hfa 0 h0
        have hx : (u8s (f 0))[0]? = some ((u8s (f 0))[0]'(by rw [u8s_length]; omega)) := List.getElem?_eq_getElem _
        have := block_lt_of_cell (hc0 0 _ hx)
        rwa [add_block, add_block] at this
      · have hxl := (List.getElem?_eq_some_iff.1 hu).1
        rw [u8s_length, fmap_len len (fun i hi => (hfa i hi).1)] at hxl
        have hi : x / s < len := Nat.div_lt_of_lt_mul (by rw [Nat.mul_comm]; exact hxl)
        have hj : x % s < s := Nat.mod_lt _ hs
        have hx : x / s * s + x % s = x := by rw [Nat.mul_comm]; exact Nat.div_add_mod x s
        have hc := (hfa (x / s) hi).2 (x % s) u (by
          rw [← hu]
          unfold u8s
          rw [List.getElem?_map, List.getElem?_map, ← fmap_get len (x / s) (x % s) (fun i hi => (hfa i hi).1) hi hj, hx])
        rwa [add_twice, hx] at hc

theorem open_sig {t e q : TypeId} {f0 f1 f2 : Field} {s : Nat} {r : Reach} {b0 : Nat} {v : Value} {d : DataW H} {ps : List MemPlace} (ht : P.underlying t = some (.struct #[f0, f1, f2])) (h0 : P.underlying f0.type = some (.int .i64)) (h1 : P.underlying f1.type = some (.slice e)) (h2 : P.underlying f2.type = some (.slice e))
    (o0 : f0.offset = 0) (o1 : f1.offset = 1) (o2 : f2.offset = 2) (c0 : P.cellsOf f0.type = 1) (c1 : P.cellsOf f1.type = 1) (c2 : P.cellsOf f2.type = 1) (ct : P.cellsOf t = 3)
    (he : P.underlying e = some (.array s q)) (hq : P.underlying q = some (.int .u8)) (ce : P.cellsOf e = s) (cq : P.cellsOf q = 1) (hs : 0 < s)
    (hv : Value.okWide P w r b0 t v) (h : DataW.Trod enc P w base (fun _ => true) held t v d ps) :
    ∃ (z : Int) (A B : Option Addr) (n c m g : Nat) (F G : List UInt8), v = .agg [.int .i64 z, .slice A n c, .slice B m g].toArray ∧ (Lit.int .i64 z).wf = true ∧ Row w w.heap.size s n (.slice A n c) (u8s F) ∧ Row w w.heap.size s m (.slice B m g) (u8s G) := by
  obtain ⟨cs, rfl, hsz⟩ := okWide_struct ht hv
  obtain ⟨fuel, hf⟩ := h
  have hf' : DataW.trod enc P w base (fun _ => true) held fuel t cs.toList = some (d, ps) := by simpa [Value.cells] using hf
  obtain ⟨y0, y1, y2, n, _, hl, k0, k1, k2⟩ := trod_struct3 ht hf'
  rw [o0, c0] at k0
  rw [o1, c1] at k1
  rw [o2, c2] at k2
  rw [ct] at hl
  obtain ⟨z, e0, _, hz⟩ := DataW.trod_int h0 k0
  obtain ⟨v1, n1, F1, e1, r1⟩ := open_dsT h1 he hq ce cq hs k1
  obtain ⟨v2, n2, F2, e2, r2⟩ := open_dsT h2 he hq ce cq hs k2
  have hcs : cs.toList = [.int .i64 z, v1, v2] := by
    match hL : cs.toList, hl with
    | [a, b, c], _ =>
      rw [hL] at e0 e1 e2
      simp at e0 e1 e2
      rw [e0, e1, e2]
  have r1' := r1
  have r2' := r2
  obtain ⟨A, c, rfl, _⟩ := r1'
  obtain ⟨B, g, rfl, _⟩ := r2'
  refine ⟨z, A, B, n1, c, n2, g, F1, F2, ?_, hz, r1, r2⟩
  rw [← hcs]
end
end Go.Proofs.YtccepoeenkpifaaDoor
