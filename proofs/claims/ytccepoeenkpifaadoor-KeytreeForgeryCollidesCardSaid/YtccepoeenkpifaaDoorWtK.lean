/-
  Appends of one int and of one digest onto rows of the call's own; a slice literal of one digest.
-/
import Derived.Test.YtccepoeenkpifaaDoorWtF
namespace Go.Proofs.YtccepoeenkpifaaDoor
open Go.RowKit
set_option linter.unusedVariables false
set_option linter.unusedSimpArgs false

theorem info_int : (Tryd.prog.info? 3).map (fun i => (i.zero, i.size, i.bytes)) = some (some (.int .i64 0), 1, 8) := by kernel_rfl
theorem info_dg : (Tryd.prog.info? 25).map (fun i => (i.zero, i.size, i.bytes)) = some (some (.agg (u8s z32).toArray), 32, 32) := by kernel_rfl

/-- The slice v of ints is the call's own and holds l; the slice v of digests holds these bytes. -/
def OwnI (w : World) (base : Nat) (v : Value) (l : List Nat) : Prop := w.ownsRow base 3 1 v l.length (ins l)
def OwnD (w : World) (base : Nat) (v : Value) (n : Nat) (F : List UInt8) : Prop := w.ownsRow base 25 32 v n (u8s F)
theorem OwnI.nil_ (w : World) (base : Nat) : OwnI w base (.slice none 0 0) [] := World.ownsRow_nil w base _ 1
theorem OwnD.nil_ (w : World) (base : Nat) : OwnD w base (.slice none 0 0) 0 [] := World.ownsRow_nil w base _ 32
theorem OwnI.row {w : World} {base : Nat} {v : Value} {l : List Nat} (h : OwnI w base v l) : Row w w.heap.size 1 l.length v (ins l) := Row.of_own h
theorem OwnD.row {w : World} {base n : Nat} {v : Value} {F : List UInt8} (h : OwnD w base v n F) : Row w w.heap.size 32 n v (u8s F) := Row.of_own h
theorem OwnI.past {w w' : World} {base : Nat} {v : Value} {l : List Nat} (h : OwnI w base v l) (hb : Below w.heap.size w w') : OwnI w' base v l := ownsRow_past h hb
theorem OwnD.past {w w' : World} {base n : Nat} {v : Value} {F : List UInt8} (h : OwnD w base v n F) (hb : Below w.heap.size w w') : OwnD w' base v n F := ownsRow_past h hb

theorem below_ownS {w w' : World} {base s n : Nat} {e : TypeId} {v : Value} {xs : List Value} (h : w.ownsRow base e s v n xs) (hb : base ≤ w.heap.size) (hg : w.grownBy w' v.ownBlock) : Below base w w' :=
  ((Below.refl base w)).grown hg hb fun _ hk => (World.ownsRow.lt h _ hk).1

/-- 'append(s, x)', x one int. -/
theorem wp_appI {ops : Array Oper} {rest : List Oper} {o : Oper} {a : Act} {Q : Exit → Act → World → Prop} {w0 : World} (base : Nat) (s x : Operand)
    (ho : o.op = .call { callee := .builtin .append, args := #[s, x], argTypes := #[74, 74] }) (hgd : o.guard = none)
    (v : Value) (l : List Nat) (c : Int) (b : Nat) (hs : a.eval s = v) (hx : a.eval x = .slice (some ⟨w0.heap.size, 0, none⟩) 1 1)
    (hown : OwnI w0 base v l) (hbase : base ≤ w0.heap.size) (hl : l.length + 1 ≤ 1000000) (hc : c = (b : Int))
    (h : ∀ v' w', OwnI w' base v' (l ++ [b]) → Below base w0 w' → wpList Tryd.prog ops Q rest (a.put o.dst v') w') :
    wpList Tryd.prog ops Q (o :: rest) a (w0.alloc (.cells #[.int .i64 c] 3)) := by
  obtain ⟨i0, hi, hz0, hz1, hz2⟩ := info_parts info_int
  subst hc
  refine wpList_append_own_at _ hgd s x 74 ho base 3 i0 (.int .i64 0) 1 8 Tryd.underlying74 hi hz0 hz1 hz2 rfl (by decide) v l.length (ins l) hs (World.ownsRow.alloc hown _)
    ⟨w0.heap.size, 0, none⟩ 1 1 [in64 b] hx rfl (cell_one_new _ _ _) ?_ (by simp only [maxLen]; omega) (by omega) (by simp; omega) ?_
  · intro u hu; simp at hu; subst hu; rfl
  · intro v' w' h1 h2 _ _
    refine h v' w' ?_ ?_
    · unfold OwnI; rw [ins_append, List.length_append]; exact h1
    · have hb : Below base w0 (w0.alloc (.cells #[.int .i64 (b : Int)] 3)) := (Below.refl _ _).alloc hbase _
      exact hb.trans (below_ownS (World.ownsRow.alloc hown _) (Nat.le_trans hbase hb.size) h2)

/-- 'append(s, x)', x one digest. -/
theorem wp_appD {ops : Array Oper} {rest : List Oper} {o : Oper} {a : Act} {Q : Exit → Act → World → Prop} {w0 : World} (base : Nat) (s x : Operand)
    (ho : o.op = .call { callee := .builtin .append, args := #[s, x], argTypes := #[29, 29] }) (hgd : o.guard = none)
    (v : Value) (n : Nat) (F D : List UInt8) (hD : D.length = 32) (hs : a.eval s = v) (hx : a.eval x = .slice (some ⟨w0.heap.size, 0, none⟩) 1 1)
    (hown : OwnD w0 base v n F) (hbase : base ≤ w0.heap.size) (hl : n + 1 ≤ 1000000)
    (h : ∀ v' w', OwnD w' base v' (n + 1) (F ++ D) → Below base w0 w' → Below base (w0.alloc (.cells (u8s D).toArray 25)) w' → wpList Tryd.prog ops Q rest (a.put o.dst v') w') :
    wpList Tryd.prog ops Q (o :: rest) a (w0.alloc (.cells (u8s D).toArray 25)) := by
  obtain ⟨i0, hi, hz0, hz1, hz2⟩ := info_parts info_dg
  refine wpList_append_own_at _ hgd s x 29 ho base 25 i0 (.agg (u8s z32).toArray) 32 32 Tryd.underlying29 hi hz0 hz1 hz2 (by simp [Value.cells, u8s, z32]) (by decide) v n (u8s F) hs (World.ownsRow.alloc hown _)
    ⟨w0.heap.size, 0, none⟩ 1 1 (u8s D) hx (by rw [u8s_length, hD]) ?_ (u8s_one D) (by simp only [maxLen]; omega) (by omega) (by simp; omega) ?_
  · intro j u hu
    rw [add_zero_addr]
    exact (Blk.new w0 25 (u8s D)).cell hu
  · intro v' w' h1 h2 _ _
    have hb : Below base w0 (w0.alloc (.cells (u8s D).toArray 25)) := (Below.refl _ _).alloc hbase _
    have h9 := below_ownS (World.ownsRow.alloc hown (.cells (u8s D).toArray 25)) (Nat.le_trans hbase hb.size) h2
    refine h v' w' ?_ (hb.trans h9) h9
    unfold OwnD; rw [u8s_append]; exact h1

theorem fill_one (cs zs : Array Value) (hc : cs.size = 32) (hz : zs.size = 32) : Instr.fill (fun i => some (i * 32, 32)) zs [(0, .agg cs)] = some cs := by
  have h := Great.fill_whole (s := 32) (by decide) [.agg cs] zs (fun v hv => by simp at hv; subst hv; exact hc) (by simp [hz])
  simpa [Value.cells] using h

/-- A slice literal of one digest. -/
theorem run_buildD (D : List UInt8) (hD : D.length = 32) (w : World) : (Instr.buildSlice 29 1 #[(0, .agg (u8s D).toArray)]).run Tryd.prog w = .ok (.slice (some ⟨w.heap.size, 0, none⟩) 1 1) (w.alloc (.cells (u8s D).toArray 25)) := by
  obtain ⟨i0, hi, hz0, hz1, hz2⟩ := info_parts info_dg
  refine run_buildSlice w 29 25 1 _ (u8s D).toArray i0 (.agg (u8s z32).toArray) Tryd.underlying29 hi hz0 (by rw [hz1]; decide) (by rw [hz1]; decide) ?_
  rw [hz1]
  exact fill_one _ _ (by simp [u8s_length, hD]) (by simp)

theorem wp_buildD {ops : Array Oper} {rest : List Oper} {o : Oper} {a : Act} {Q : Exit → Act → World → Prop} {w : World} (x : Operand) (ho : o.op = .buildSlice 29 1 #[(0, x)]) (hgd : o.guard = none) (D : List UInt8) (hD : D.length = 32) (hx : a.eval x = .agg (u8s D).toArray)
    (h : wpList Tryd.prog ops Q rest (a.put o.dst (.slice (some ⟨w.heap.size, 0, none⟩) 1 1)) (w.alloc (.cells (u8s D).toArray 25))) : wpList Tryd.prog ops Q (o :: rest) a w := by
  refine wpList_plain hgd fun K hK => ?_
  unfold Oper.wp execOp
  have e : (#[(0, x)] : Array (Nat × Operand)).map (fun (i, x) => (i, a.eval x)) = #[(0, .agg (u8s D).toArray)] := by simp [hx]
  simp only [ho, e, Sem.run_bind, run_buildD D hD w, Result.andThen_ok]
  exact hK _ _ h
end Go.Proofs.YtccepoeenkpifaaDoor
