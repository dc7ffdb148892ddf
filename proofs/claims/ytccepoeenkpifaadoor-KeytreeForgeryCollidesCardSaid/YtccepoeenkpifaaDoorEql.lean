/-
  '==' of two digests.
-/
import Derived.Test.YtccepoeenkpifaaDoorAgg
import Derived.ChangeKeysEq
import Derived.Laws.StructEq
namespace Go.Proofs.YtccepoeenkpifaaDoor
open Go.RowKit
set_option linter.unusedVariables false
set_option linter.unusedSimpArgs false

theorem cells_u8 : Tryd.prog.cellsOf 5 = 1 := by kernel_rfl
theorem agg_u8 (w : World) : (isAgg 5).run Tryd.prog w = .ok false w := by kernel_rfl

theorem part_u8 (l : List UInt8) (i : Nat) (c : UInt8) (h : l[i]? = some c) (w : World) : (part 5 (u8s l).toArray (i * 1)).run Tryd.prog w = .ok (u8 c) w := by
  have hc : (u8s l).toArray[i]? = some (u8 c) := by simp [u8s, h]
  unfold part
  simp only [Sem.run_bind, agg_u8, Result.andThen_ok, Bool.false_eq_true, if_false, Nat.mul_one, hc, Sem.run_pure]

theorem eqItems_u8 (d : Nat) (a b : List UInt8) (n : Nat) (ha : a.length = n) (hb : b.length = n) (w : World) : ∀ (m s : Nat), s + m = n →
    (Op.eqItems (d + 1) 5 1 (u8s a).toArray (u8s b).toArray (List.range' s m)).run Tryd.prog w = .ok (a.drop s == b.drop s) w
  | 0, s, h => by
    rw [List.drop_of_length_le (by omega), List.drop_of_length_le (by omega)]
    simp [Op.eqItems]
  | m + 1, s, h => by
    have hsa : s < a.length := by omega
    have hsb : s < b.length := by omega
    have ih := eqItems_u8 d a b n ha hb w m (s + 1) (by omega)
    rw [List.range'_succ, List.drop_eq_getElem_cons hsa, List.drop_eq_getElem_cons hsb]
    simp only [Op.eqItems, Sem.run_bind, part_u8 a s _ (List.getElem?_eq_getElem hsa), part_u8 b s _ (List.getElem?_eq_getElem hsb), Result.andThen_ok, u8, run_equalIn_int w d 5 .u8 .u8 _ _ Tryd.underlying5]
    by_cases he : a[s] = b[s]
    · simp only [he, beq_self_eq_true, Bool.not_true, Bool.false_eq_true, if_false, ih, List.cons_beq_cons, Bool.true_and]
    · have h1 : ((a[s].toNat : Int) == (b[s].toNat : Int)) = false := beq_eq_false_iff_ne.2 (fun h => he (UInt8.toNat_inj.1 (by omega)))
      have h2 : (a[s] == b[s]) = false := beq_eq_false_iff_ne.2 he
      simp only [h1, Bool.not_false, if_true, Sem.run_pure, List.cons_beq_cons, h2, Bool.false_and]

theorem run_eqD (a b : List UInt8) (ha : a.length = 32) (hb : b.length = 32) (w : World) :
    (Op.equalIn 10000 25 (.agg (u8s a).toArray) (.agg (u8s b).toArray)).run Tryd.prog w = .ok (a == b) w := by
  obtain ⟨i0, hi, _, _, _⟩ := info_parts info_u8
  rw [show (10000 : Nat) = 9999 + 1 from rfl, run_equalIn_array w 9999 _ _ Tryd.underlying25 hi, cells_u8, List.range_eq_range']
  have h := eqItems_u8 9998 a b 32 ha hb w 32 0 rfl
  simpa using h

theorem guard_dig : Tryd.prog.eqGuardType Tryd.prog.depth 25 = false := by kernel_rfl

theorem exec_eqD {o : Oper} {act : Act} {x y : Operand} (ho : o.op = .binOp .eql 25 x y 25) (a b : List UInt8) (hx : act.eval x = .agg (u8s a).toArray) (hy : act.eval y = .agg (u8s b).toArray) (ha : a.length = 32) (hb : b.length = 32) (w : World) :
    (execOp act.eval o).run Tryd.prog w = .ok (.value (.bool (a == b))) w := by
  unfold execOp
  simp only [ho, hx, hy, Sem.run_bind, run_eqGuard_agg _ _ _ _ _ _ _ guard_dig, run_eql_struct, run_eqD a b ha hb w, Result.andThen_ok, Sem.run_pure]

theorem wp_eqD {ops : Array Oper} {rest : List Oper} {o : Oper} {act : Act} {Q : Exit → Act → World → Prop} {w : World} (x y : Operand) (ho : o.op = .binOp .eql 25 x y 25) (hw : Region.wanted o (yielded ops act.tmps) = true)
    (a b : List UInt8) (hx : act.eval x = .agg (u8s a).toArray) (hy : act.eval y = .agg (u8s b).toArray) (ha : a.length = 32) (hb : b.length = 32)
    (h : wpList Tryd.prog ops Q rest (act.put o.dst (.bool (a == b))) w) : wpList Tryd.prog ops Q (o :: rest) act w :=
  wp_run hw (exec_eqD ho a b hx hy ha hb w) h
end Go.Proofs.YtccepoeenkpifaaDoor
