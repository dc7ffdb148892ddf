/-
  Operations whose run is known, as drawn regions take them: loads of digests, == of digests, array literals; literals of bytes.
-/
import Derived.Test.YtccepoeenkpifaaDoorShI
import Derived.Test.YtccepoeenkpifaaDoorEql
import Derived.Test.YtccepoeenkpifaaDoorPlt
namespace Go.Proofs.YtccepoeenkpifaaDoor
open Go.RowKit
set_option linter.unusedVariables false
set_option linter.unusedSimpArgs false

theorem stepped_alloc {base : Nat} {K : Act → World → Prop} {w : World} {a' : Act} {cs : Array Value} {t : TypeId} (l : List Value) (hl : cs = l.toArray) (hb : base ≤ w.heap.size) (h : ∀ w', Below w.heap.size w w' → Blk w' w.heap.size t l → K a' w') : SteppedK base K w .normal a' (w.alloc (.cells cs t)) := by
  subst hl
  exact ⟨rfl, (Below.refl _ _).alloc hb _, h _ ((Below.refl _ _).alloc (Nat.le_refl _) _) (Blk.new w t l)⟩

theorem lit_bs {w : World} {g : Nat} {t : TypeId} {l : List UInt8} (h : Blk w g t (u8s l)) (hl : l.length ≤ maxLen) : Bs w w.heap.size (.slice (some ⟨g, 0, none⟩) l.length l.length) l := h.bs0 h.lt hl

/-- A literal's slice converted to its own type: its row is marked, no cell turns. -/
theorem conv_lit {w : World} {g : Nat} {l : List UInt8} (hg : Blk w g 5 (u8s l)) (hl : l.length ≤ maxLen := by decide) :
    ∃ w', (convert 22 22 (.slice (some ⟨g, 0, none⟩) l.length l.length)).run Tryd.prog w = .ok (.slice (some ⟨g, 0, none⟩) l.length l.length) w' ∧ Keep (fun q => q ≠ g) w w' ∧ Bs w' w'.heap.size (.slice (some ⟨g, 0, none⟩) l.length l.length) l := by
  have hsh : w.shape? g = some (5, l.length) := by
    unfold World.shape?
    rw [hg]
    simp [u8s_length]
  have hgl := hg.lt
  refine ⟨w.freeze ⟨g, l.length, none⟩ 1, ?_, ?_, ?_⟩
  · simp [convert, run_underlying Tryd.underlying22, run_underlying Tryd.underlying5, markStringish, hsh]
  · refine ⟨by simp [World.freeze], by simp [World.freeze], by simp [World.freeze], by simp [World.freeze], fun k hk hlt => ?_⟩
    simp only [World.freeze]
    simp [Array.getElem?_modify, Ne.symm hk]
  · have hb := lit_bs hg hl
    obtain ⟨A, cap, hv, h1, h2, h3, h4, h5⟩ := hb
    refine ⟨A, cap, hv, h1, h2, h3, h4, fun a ha h0 => ?_⟩
    obtain ⟨hl', hc⟩ := h5 a ha h0
    refine ⟨by simpa [World.freeze] using hl', fun i u hu => ?_⟩
    rw [← hc i u hu]
    unfold World.cell?
    simp only [World.freeze]
    simp only [Nat.one_ne_zero, if_false, Array.getElem?_modify]
    by_cases hge : g = (a.add i).block
    · unfold Blk at hg
      rw [if_pos hge, ← hge, hg]
      rfl
    · rw [if_neg hge]

theorem exec_loadA {P : Program} {o : Oper} {a : Act} {w : World} (ty : TypeId) {x : Operand} (ho : o.op = .load ty x) (g : Nat) (hx : a.eval x = .pointer (some ⟨g, 0, none⟩)) (t : TypeId) (l : List Value) (n : Nat) (e : TypeId) (hg : Blk w g t l)
    (hu : P.underlying ty = some (.array n e)) (hi : (P.info? ty).map (·.size) = some l.length) : (execOp a.eval o).run P w = .ok (.value (.agg l.toArray)) w := by
  unfold execOp
  simp only [ho, hx, Instr.loadAt, Instr.sureAddr, Sem.run_bind, Sem.run_pure, Result.andThen_ok, run_loadVar_row w g t ty l.toArray (0, 0) _ hg hu rfl (by simpa using hi)]

theorem exec_eqT {o : Oper} {act : Act} {x y : Operand} (ho : o.op = .binOp .eql 25 x y 25) (a b : List UInt8) (hx : act.eval x = .agg (u8s a).toArray) (hy : act.eval y = .agg (u8s b).toArray) (h : a = b) (ha : a.length = 32) (hb : b.length = 32) (w : World) :
    (execOp act.eval o).run Tryd.prog w = .ok (.value (.bool true)) w := by
  have h1 := exec_eqD ho a b hx hy ha hb w
  rwa [beq_iff_eq.2 h] at h1

theorem exec_buildC {P : Program} {o : Oper} {a : Act} {w : World} (t : TypeId) (parts : Array (Nat × Operand)) (ho : o.op = .build t parts) (vs : Array (Nat × Value)) (hp : (parts.map fun (i, x) => (i, a.eval x)) = vs) (cells : Array Value) (h : P.built t vs.toList = some cells) :
    (execOp a.eval o).run P w = .ok (.value (.agg cells)) w := by
  unfold execOp
  simp only [ho, hp, Sem.run_bind, Sem.run_pure, run_build w t vs cells h, Result.andThen_ok]
end Go.Proofs.YtccepoeenkpifaaDoor
