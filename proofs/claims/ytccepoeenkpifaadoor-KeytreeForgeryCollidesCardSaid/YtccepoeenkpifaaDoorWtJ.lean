/-
  '==' and '!=' of digests.
-/
import Derived.Test.YtccepoeenkpifaaDoorWtF
namespace Go.Proofs.YtccepoeenkpifaaDoor
open Go.RowKit
set_option linter.unusedVariables false
set_option linter.unusedSimpArgs false

theorem exec_neqD {o : Oper} {act : Act} {x y : Operand} (ho : o.op = .binOp .neq 25 x y 25) (a b : List UInt8) (hx : act.eval x = .agg (u8s a).toArray) (hy : act.eval y = .agg (u8s b).toArray) (ha : a.length = 32) (hb : b.length = 32) (B : Bool) (hB : (!(a == b)) = B) (w : World) :
    (execOp act.eval o).run Tryd.prog w = .ok (.value (.bool B)) w := by
  subst hB
  unfold execOp
  simp only [ho, hx, hy, Sem.run_bind, run_eqGuard_agg _ _ _ _ _ _ _ guard_dig, run_neq_struct, run_eqD a b ha hb w, Result.andThen_ok, Sem.run_pure]
theorem exec_eqB {o : Oper} {act : Act} {x y : Operand} (ho : o.op = .binOp .eql 25 x y 25) (a b : List UInt8) (hx : act.eval x = .agg (u8s a).toArray) (hy : act.eval y = .agg (u8s b).toArray) (ha : a.length = 32) (hb : b.length = 32) (B : Bool) (hB : (a == b) = B) (w : World) :
    (execOp act.eval o).run Tryd.prog w = .ok (.value (.bool B)) w := by
  subst hB
  exact exec_eqD ho a b hx hy ha hb w

theorem takeS_eq {F G : List UInt8} {k : Nat} (h : F.take (32 * k) = G.take (32 * k)) (e : Wt.el F k = Wt.el G k) : F.take (32 * (k + 1)) = G.take (32 * (k + 1)) := by
  unfold Wt.el at e
  rw [show 32 * (k + 1) = 32 * k + 32 by omega, List.take_add, List.take_add, h, e]

end Go.Proofs.YtccepoeenkpifaaDoor
