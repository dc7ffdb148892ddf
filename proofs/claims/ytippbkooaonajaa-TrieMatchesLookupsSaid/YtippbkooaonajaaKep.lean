/-
  What a step leaves alone, by block numbers. Nothing of a program is named here.
-/
import Derived.RangeFuncNested
import Derived.RangeFuncBound
import Derived.RangeFuncCalls
import Derived.RangeFuncLeaves
import Derived.WalkKit
import Derived.OwnWalkIn
import Derived.TacticsInMore
import Derived.LoopNIn
import Derived.LoopIn
import Derived.Maps.OwnIn
import Derived.Test.YtippbkooaonajaaGrw
namespace Go.Proofs.Ytippbkooaonajaa
open Go.RowKit
set_option linter.unusedVariables false
set_option linter.unusedSimpArgs false

/-- The blocks in O lie as they lay. -/
structure Keep (O : Nat → Prop) (w w' : World) : Prop where
  os : w'.os = w.os
  tape : w'.tape = w.tape
  output : w'.output = w.output
  size : w.heap.size ≤ w'.heap.size
  block : ∀ k, O k → k < w.heap.size → w'.heap[k]? = w.heap[k]?

theorem Keep.refl (O : Nat → Prop) (w : World) : Keep O w w := ⟨rfl, rfl, rfl, Nat.le_refl _, fun _ _ _ => rfl⟩
theorem Keep.trans {O : Nat → Prop} {a b c : World} (h : Keep O a b) (k : Keep O b c) : Keep O a c :=
  ⟨k.os.trans h.os, k.tape.trans h.tape, k.output.trans h.output, Nat.le_trans h.size k.size, fun i hi hl => (k.block i hi (Nat.lt_of_lt_of_le hl h.size)).trans (h.block i hi hl)⟩
theorem Keep.mono {O O' : Nat → Prop} {w w' : World} (h : Keep O w w') (hs : ∀ k, O' k → O k) : Keep O' w w' := ⟨h.os, h.tape, h.output, h.size, fun k hk hl => h.block k (hs k hk) hl⟩
theorem Keep.of_below {O : Nat → Prop} {w w' : World} (h : Below w.heap.size w w') : Keep O w w' := ⟨h.os, h.tape, h.output, h.size, fun k _ hl => h.block k hl⟩
theorem Keep.below {O : Nat → Prop} {n : Nat} {w w' : World} (h : Keep O w w') (hO : ∀ k, k < n → O k) (hn : n ≤ w.heap.size) : Below n w w' :=
  ⟨h.os, h.tape, h.output, h.size, fun k hk => h.block k (hO k hk) (by omega)⟩
theorem Keep.putObj {O : Nat → Prop} (w : World) (l : Nat) (o : Obj) (hl : ¬ O l) : Keep O w (w.putObj l o) :=
  ⟨rfl, rfl, rfl, by simp, fun k hk _ => World.putObj_heap_other (fun e => hl (e ▸ hk))⟩
theorem Keep.of_grew {O : Nat → Prop} {w w' : World} {v v' : Value} (h : Grew w w' v v') (hv : ∀ k, v.ownBlock = some k → ¬ O k) : Keep O w w' :=
  ⟨h.1.os, h.1.tape, h.1.output, h.1.size, fun k hk hl => h.1.block k hl (fun e => hv k e.symm hk)⟩
theorem Keep.setCell {O : Nat → Prop} (w : World) (a : Addr) (v : Value) (ha : ¬ O a.block) : Keep O w (w.setCell a v) :=
  ⟨rfl, rfl, rfl, by simp [World.setCell], fun k hk _ => Below.heap_setCell _ _ _ _ (fun e => ha (e ▸ hk))⟩
theorem Keep.cell {O : Nat → Prop} {w w' : World} (h : Keep O w w') {p : Addr} {u : Value} (hp : O p.block) (hc : w.cell? p = some u) : w'.cell? p = some u := by
  obtain ⟨o, ho, _⟩ := cells_of_cell hc
  exact (World.cell?_of_block (w := w) (h.block _ hp (Array.getElem?_eq_some_iff.1 ho).1)).trans hc
theorem Keep.frozen {O : Nat → Prop} {w w' : World} (h : Keep O w w') {p : Addr} {u : Value} (hp : O p.block) (hc : w.cell? p = some u) : w'.frozen? p = w.frozen? p := by
  obtain ⟨o, ho, _⟩ := cells_of_cell hc
  exact World.frozen?_of_block (w := w) (h.block _ hp (Array.getElem?_eq_some_iff.1 ho).1)
theorem Keep.heap {O : Nat → Prop} {w w' : World} (h : Keep O w w') {k : Nat} {o : Obj} (hk : O k) (ho : w.heap[k]? = some o) : w'.heap[k]? = some o :=
  (h.block k hk (Array.getElem?_eq_some_iff.1 ho).1).trans ho
theorem Keep.own {O : Nat → Prop} {w w' : World} {base : Nat} {e : TypeId} {size : Nat} {v : Value} {n : Nat} {xs : List Value} (h : Keep O w w') (hO : ∀ k, base ≤ k → O k) (ho : w.ownsRow base e size v n xs) : w'.ownsRow base e size v n xs := by
  obtain ⟨h1, h2⟩ := ho
  refine ⟨h1, ?_⟩
  rcases h2 with h2 | ⟨g, cap, cur, hv, hg, hh, r⟩
  · exact Or.inl h2
  · exact Or.inr ⟨g, cap, cur, hv, hg, (h.block g (hO g hg) (Array.getElem?_eq_some_iff.1 hh).1).trans hh, r⟩
theorem Keep.row {O : Nat → Prop} {w w' : World} {n0 size n : Nat} {v : Value} {xs : List Value} (h : Keep O w w') (hO : ∀ k, k < n0 → O k) (hn : n0 ≤ w.heap.size) (hr : Row w n0 size n v xs) : Row w' n0 size n v xs :=
  hr.carry (h.below hO hn) (Nat.le_refl _)

/-- The body's own: what it holds lies below S, or from B on. -/
def Mine (S B : Nat) (b : Nat) : Prop := b < S ∨ B ≤ b
section
variable {P : Program}
/-- How a round may be left: at its end. -/
def goesOn (R : World → Prop) : Exit → Act → World → Prop := fun e _ w => e = .normal ∧ R w

theorem yield_mono {F : Fence} {m : Nat} {l : Nat} {args : Array Value} {W : World} {R R' : Ending → World → Prop} (h : YieldAt F m P l args W R) (hr : ∀ e w, R e w → R' e w) : YieldAt F m P l args W R' := by
  obtain ⟨fn, tmps, assign, body, hy, hR⟩ := h
  exact ⟨fn, tmps, assign, body, hy, hR.mono hr⟩

end
end Go.Proofs.Ytippbkooaonajaa
