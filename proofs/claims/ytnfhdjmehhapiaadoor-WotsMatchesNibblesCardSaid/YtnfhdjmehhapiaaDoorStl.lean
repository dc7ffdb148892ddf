/-
  Steps of a still region whose run is known: the load of a whole array, 'x[lo:hi]'. Nothing of a program is named here.
-/
import Derived.Test.YtnfhdjmehhapiaaDoorAgg
import Derived.StillTailTactics
namespace Go.Proofs.YtnfhdjmehhapiaaDoor
open Go.RowKit
set_option linter.unusedVariables false
set_option linter.unusedSimpArgs false
section
variable {P : Program} {ops : Array Oper}

theorem still_run {w : World} {Q : Act → Prop} {a : Act} {o : Oper} {rest : List Oper} {v : Value} (hw : Region.wanted o (yielded ops a.tmps) = true) (h : (execOp a.eval o).run P w = .ok (.value v) w)
    (hn : wpStill P ops w Q rest (a.put o.dst v)) : wpStill P ops w Q (o :: rest) a := by
  unfold wpStill
  rw [if_pos hw]
  unfold Oper.still
  rw [h, Oper.stillUpon_value]
  exact hn

theorem exec_loadB {o : Oper} {a : Act} {w : World} (ty : TypeId) {x : Operand} (ho : o.op = .load ty x) (g : Nat) (hx : a.eval x = .pointer (some ⟨g, 0, none⟩)) (t : TypeId) (l : List Value) (n : Nat) (e : TypeId) (hg : Blk w g t l)
    (hu : P.underlying ty = some (.array n e)) (hi : (P.info? ty).map (·.size) = some l.length) : (execOp a.eval o).run P w = .ok (.value (.agg l.toArray)) w := by
  unfold execOp
  simp only [ho, hx, Instr.loadAt, Instr.sureAddr, Sem.run_bind, Sem.run_pure, Result.andThen_ok, run_loadVar_row w g t ty l.toArray (0, 0) _ hg hu rfl (by simpa using hi)]

/-- 'x[lo:hi]' -/
theorem still_cut {w : World} {Q : Act → Prop} {a : Act} {o : Oper} {rest : List Oper} {size : Nat} (t e : TypeId) (ht : P.underlying t = some (.slice e)) (hz : (P.info? e).map (·.size) = some size)
    (x : Operand) (lo hi : Option Operand) (ho : o.op = .slice t x lo hi none) (hw : Region.wanted o (yielded ops a.tmps) = true) {B n : Nat} {A : Option Addr} {cap : Nat} {xs : List Value} (hx : a.eval x = .slice A n cap) (hr : Row w B size n (.slice A n cap) xs)
    (i k : Nat) (hlo : (lo.map a.eval = none ∧ i = 0) ∨ ∃ q I, lo.map a.eval = some (.int q I) ∧ I = (i : Int)) (hhi : (hi.map a.eval = none ∧ i + k = n) ∨ ∃ q I, hi.map a.eval = some (.int q I) ∧ I = ((i + k : Nat) : Int))
    (hj : i + k ≤ n)
    (h : ∀ A' cap', Row w B size k (.slice A' k cap') ((xs.drop (i * size)).take (k * size)) → wpStill P ops w Q rest (a.put o.dst (.slice A' k cap'))) : wpStill P ops w Q (o :: rest) a := by
  obtain ⟨A', cap', hrun, hrow⟩ := run_cut (P := P) t e ht hz hr (lo.map a.eval) (hi.map a.eval) i k hlo hhi hj
  refine still_run hw (v := .slice A' k cap') ?_ (h A' cap' hrow)
  exact exec_slice ho (by rw [hx]; exact hrun)
end
end Go.Proofs.YtnfhdjmehhapiaaDoor
