/-
  Laws of the walk for slices of bytes, inside a fence and in a round of a range over a function.
-/
import Derived.Test.YtippbkooaonajaaRng
namespace Go.Proofs.Ytippbkooaonajaa
open Go.RowKit
set_option linter.unusedVariables false
set_option linter.unusedSimpArgs false
section
variable {F : Fence} {n : Nat} {ops : Array Oper} {rest : List Oper} {o : Oper} {a : Act} {Q : Exit → Act → World → Prop} {w : World}

/-- An operation whose run is known. -/
theorem wpi_run {P : Program} {v : Value} {w' : World} (hg : o.guard = none) (hnd : ∀ c, o.op ≠ .defer c) (hab : o.about P w a.eval = none) (hr : (execOp a.eval o).run P w = .ok (.value v) w')
    (h : wpListIn F n P ops Q rest (a.put o.dst v) w') : wpListIn F n P ops Q (o :: rest) a w := by
  refine wpListIn_plain hg fun K hK => ?_
  unfold Oper.wpIn
  refine ⟨fun f hf => (by rw [hab] at hf; cases hf), ?_⟩
  rw [Oper.semAt_plain F _ _ hnd, hr]
  simp only [Oper.uponIn_value]
  exact hK _ _ h

/-- 'make([]byte, 0, n)' -/
theorem wpi_make0 (base : Nat) (c d : Operand)
    (ho : o.op = Op.makeSlice 60 c d) (hgd : o.guard = none) (I : Int) (m : Nat) (hc : a.eval c = .int .i64 0) (hd : a.eval d = .int .i64 I) (hI : I = (m : Int)) (hn : m ≤ 281474976710656) (hbase : base ≤ w.heap.size)
    (h : ∀ v' w', Own w' base v' [] → Below w.heap.size w w' → wpListIn F n Try.prog ops Q rest (a.put o.dst v') w') :
    wpListIn F n Try.prog ops Q (o :: rest) a w := by
  obtain ⟨i0, hi, hz0, hz1, hz2⟩ := info_parts info_u8
  refine wpListIn_make_own w hgd c d 60 ho base 5 i0 _ 1 Try.underlying60 hi hz0 hz1 .i64 .i64 I m hc hd hI (by rw [hz2]; omega) (by simp only [maxLen]; omega) hbase ?_
  intro w' h1 h2
  exact h _ w' h1 ((Below.refl _ _).grown h2 (Nat.le_refl _) (fun _ hk => by cases hk))

/-- 'append(s, x)', x one byte. -/
theorem wpi_app1 {w0 : World} (base : Nat) (s x : Operand)
    (ho : o.op = .call { callee := .builtin .append, args := #[s, x], argTypes := #[60, 60] }) (hgd : o.guard = none)
    (v : Value) (l : List UInt8) (c : Int) (b : UInt8) (hs : a.eval s = v) (hx : a.eval x = .slice (some ⟨w0.heap.size, 0, none⟩) 1 1)
    (hown : Own w0 base v l) (hbase : base ≤ w0.heap.size) (hl : l.length + 1 ≤ 140737488355328) (hc : c = (b.toNat : Int))
    (h : ∀ v' w', Own w' base v' (l ++ [b]) → Below base w0 w' → wpListIn F n Try.prog ops Q rest (a.put o.dst v') w') :
    wpListIn F n Try.prog ops Q (o :: rest) a (w0.alloc (.cells #[.int .u8 c] 5)) := by
  obtain ⟨i0, hi, hz0, hz1, hz2⟩ := info_parts info_u8
  subst hc
  refine wpListIn_append_own_at _ hgd s x 60 ho base 5 i0 (.int .u8 0) 1 1 Try.underlying60 hi hz0 hz1 hz2 rfl (by decide) v l.length (u8s l) hs (World.ownsRow.alloc hown _)
    ⟨w0.heap.size, 0, none⟩ 1 1 [u8 b] hx rfl (cell_one_new _ _ _) ?_ (by simp only [maxLen]; omega) (by omega) (by simp; omega) ?_
  · intro u hu; simp at hu; subst hu; rfl
  · intro v' w' h1 h2 _ h4
    refine h v' w' ?_ ?_
    · unfold Own; rw [u8s_append, List.length_append]; exact h1
    · have hb : Below base w0 (w0.alloc (.cells #[.int .u8 (b.toNat : Int)] 5)) := (Below.refl _ _).alloc hbase _
      exact hb.trans (below_own (Own.alloc hown _) (Nat.le_trans hbase hb.size) h2)

/-- '&x[i]' of a slice of bytes: the address, whatever it is, holds the element. -/
theorem wpi_at (x y : Operand) (ho : o.op = .indexAddr 60 x y) (hgd : o.guard = none) {B m : Nat} {v : Value} {xs : List Value} (hx : a.eval x = v) (hr : Row w B 1 m v xs)
    (k : IntKind) (I : Int) (i : Nat) (u : Value) (hy : a.eval y = .int k I) (hI : I = (i : Int)) (hu : xs[i]? = some u)
    (h : ∀ p : Addr, p.block < B → w.cell? p = some u → wpListIn F n Try.prog ops Q rest (a.put o.dst (.pointer (some p))) w) : wpListIn F n Try.prog ops Q (o :: rest) a w := by
  have ht := Try.underlying60
  have hel : Try.prog.elem 60 = 5 := by simp [Program.elem, ht]
  have ht' : Try.prog.underlying 60 = some (.slice (Try.prog.elem 60)) := by rw [hel]; exact ht
  obtain ⟨info, hin, hsz⟩ := Option.map_eq_some_iff.1 size_u8
  obtain ⟨A, cap, rfl, h1, h2, h3, h4, h5⟩ := hr
  have hi : i < m := by have := (List.getElem?_eq_some_iff.1 hu).1; omega
  cases A with
  | none => have := h3 rfl; omega
  | some ad =>
    subst hI
    have hrun : (execOp a.eval o).run Try.prog w = .ok (.value (.pointer (some (ad.add i)))) w := by
      unfold execOp
      simp only [ho, hx, hy, Sem.run_bind, Sem.run_pure, run_indexAt_slice (h := ht'), hel, sizeOf, typeInfo, run_program, hin, hsz, Result.andThen_ok]
      rw [if_pos ⟨by omega, by omega⟩]
      simp [Sem.run_pure]
    have hb := (h5 ad rfl (by omega)).1
    refine wpi_run hgd (fun c hc => by rw [ho] at hc; cases hc) (by simp [Oper.about, ho]) hrun (h _ (by simp [add_block, hb]) ((h5 ad rfl (by omega)).2 _ u hu))
end
end Go.Proofs.Ytippbkooaonajaa
