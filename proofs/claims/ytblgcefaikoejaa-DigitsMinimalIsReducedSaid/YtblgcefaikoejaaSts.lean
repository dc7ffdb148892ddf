/-
  Own lists of strings: what append does to them.
-/
import Derived.Test.YtblgcefaikoejaaDgM
import Derived.Test.YtblgcefaikoejaaByt
namespace Go.Proofs.Ytblgcefaikoejaa
open Go.RowKit Dg
set_option linter.unusedVariables false
set_option linter.unusedSimpArgs false

theorem run_digit (k : Nat) (hk : k < 10) (w : World) : (Instr.slice 9 (.string ⟨#[48, 49, 50, 51, 52, 53, 54, 55, 56, 57]⟩) (some (.int .i64 (k : Int))) (some (.int .i64 ((k : Int) + 1))) none).run Try.prog w = .ok (.string ⟨#[UInt8.ofNat (48 + k)]⟩) w := by
  rcases (by omega : k = 0 ∨ k = 1 ∨ k = 2 ∨ k = 3 ∨ k = 4 ∨ k = 5 ∨ k = 6 ∨ k = 7 ∨ k = 8 ∨ k = 9) with rfl | rfl | rfl | rfl | rfl | rfl | rfl | rfl | rfl | rfl <;> rfl

def OwnS (w : World) (base : Nat) (v : Value) (l : List Str) : Prop := w.ownsRow base 9 1 v l.length (l.map str)
theorem info_str : (Try.prog.info? 9).map (fun i => (i.zero, i.size, i.bytes)) = some (some (.string ⟨#[]⟩), 1, 16) := by kernel_rfl
theorem OwnS.sl {w : World} {base m : Nat} {v : Value} {l : List Str} (h : OwnS w base v l) (hm : ∀ x ∈ l, x.length ≤ m) : Sl w w.heap.size m v l := ⟨Row.of_own h, hm⟩
theorem Sl.wider {w : World} {B m m' : Nat} {v : Value} {l : List Str} (h : Sl w B m v l) (hm : m ≤ m') : Sl w B m' v l := ⟨h.1, fun x hx => Nat.le_trans (h.2 x hx) hm⟩
theorem OwnS.nil_ (w : World) (base : Nat) : OwnS w base (.slice none 0 0) [] := World.ownsRow_nil _ _ _ _
theorem OwnS.past {w w' : World} {base B : Nat} {v : Value} {l : List Str} (h : OwnS w base v l) (hb : Below B w w') (hB : ∀ g, v.ownBlock = some g → g < B) : OwnS w' base v l := by
  obtain ⟨h1, h2⟩ := h
  refine ⟨h1, ?_⟩
  rcases h2 with h2 | ⟨g, cap, cur, rfl, hg, hh, r⟩
  · exact Or.inl h2
  · exact Or.inr ⟨g, cap, cur, rfl, hg, (hb.block g (hB g rfl)).trans hh, r⟩
theorem OwnS.lt {w : World} {base : Nat} {v : Value} {l : List Str} (h : OwnS w base v l) : ∀ g, v.ownBlock = some g → g < w.heap.size := fun g hg => (World.ownsRow.lt h g hg).2
theorem OwnS.go {w w' : World} {base : Nat} {v : Value} {l : List Str} (h : OwnS w base v l) (hb : Below w.heap.size w w') : OwnS w' base v l := h.past hb h.lt
theorem OwnS.up {w : World} {base base' : Nat} {v : Value} {l : List Str} (h : OwnS w base v l) (hb : base' ≤ base) : OwnS w base' v l := by
  obtain ⟨h1, h2⟩ := h
  refine ⟨h1, ?_⟩
  rcases h2 with h2 | ⟨g, cap, cur, rfl, hg, r⟩
  · exact Or.inl h2
  · exact Or.inr ⟨g, cap, cur, rfl, Nat.le_trans hb hg, r⟩
theorem below_ownS {w w' : World} {base : Nat} {v : Value} {l : List Str} (h : OwnS w base v l) (hb : base ≤ w.heap.size) (hg : w.grownBy w' v.ownBlock) : Below base w w' :=
  ((Below.refl base w)).grown hg hb fun _ hk => (World.ownsRow.lt h _ hk).1
theorem strs_one (l : List Str) : ∀ u ∈ l.map str, u.oneCell' = true := by
  intro u hu; simp only [List.mem_map] at hu; obtain ⟨b, _, rfl⟩ := hu; rfl

section
variable {ops : Array Oper} {rest : List Oper} {o : Oper} {a : Act} {Q : Exit → Act → World → Prop}
/-- 'append(s, x)', x one string. -/
theorem wp_appS1 {w0 : World} (base : Nat) (s x : Operand)
    (ho : o.op = .call { callee := .builtin .append, args := #[s, x], argTypes := #[28, 28] }) (hgd : o.guard = none)
    (v : Value) (l : List Str) (y : Str) (hs : a.eval s = v) (hx : a.eval x = .slice (some ⟨w0.heap.size, 0, none⟩) 1 1)
    (hown : OwnS w0 base v l) (hbase : base ≤ w0.heap.size) (hl : l.length + 1 ≤ 8000000000)
    (h : ∀ v' w', OwnS w' base v' (l ++ [y]) → Below base w0 w' → wpList Try.prog ops Q rest (a.put o.dst v') w') :
    wpList Try.prog ops Q (o :: rest) a (w0.alloc (.cells #[str y] 9)) := by
  obtain ⟨i0, hi, hz0, hz1, hz2⟩ := info_parts info_str
  refine wpList_append_own_at _ hgd s x 28 ho base 9 i0 (.string ⟨#[]⟩) 1 16 Try.underlying28 hi hz0 hz1 hz2 rfl (by decide) v l.length (l.map str) hs (World.ownsRow.alloc hown _)
    ⟨w0.heap.size, 0, none⟩ 1 1 [str y] hx rfl (cell_one_new _ _ _) ?_ (by simp only [maxLen]; omega) (by omega) (by simp; omega) ?_
  · intro u hu; simp at hu; subst hu; rfl
  · intro v' w' h1 h2 _ _
    refine h v' w' ?_ ?_
    · unfold OwnS; rw [List.map_append, List.length_append]; exact h1
    · have hb : Below base w0 (w0.alloc (.cells #[str y] 9)) := (Below.refl _ _).alloc hbase _
      exact hb.trans (below_ownS (World.ownsRow.alloc hown _) (Nat.le_trans hbase hb.size) h2)

/-- The same, with what the step keeps from behind the string's block on. -/
theorem wp_appS1b {w0 : World} (base : Nat) (s x : Operand)
    (ho : o.op = .call { callee := .builtin .append, args := #[s, x], argTypes := #[28, 28] }) (hgd : o.guard = none)
    (v : Value) (l : List Str) (y : Str) (hs : a.eval s = v) (hx : a.eval x = .slice (some ⟨w0.heap.size, 0, none⟩) 1 1)
    (hown : OwnS w0 base v l) (hbase : base ≤ w0.heap.size) (hl : l.length + 1 ≤ 8000000000)
    (h : ∀ v' w', OwnS w' base v' (l ++ [y]) → Below base (w0.alloc (.cells #[str y] 9)) w' → wpList Try.prog ops Q rest (a.put o.dst v') w') :
    wpList Try.prog ops Q (o :: rest) a (w0.alloc (.cells #[str y] 9)) := by
  obtain ⟨i0, hi, hz0, hz1, hz2⟩ := info_parts info_str
  refine wpList_append_own_at _ hgd s x 28 ho base 9 i0 (.string ⟨#[]⟩) 1 16 Try.underlying28 hi hz0 hz1 hz2 rfl (by decide) v l.length (l.map str) hs (World.ownsRow.alloc hown _)
    ⟨w0.heap.size, 0, none⟩ 1 1 [str y] hx rfl (cell_one_new _ _ _) ?_ (by simp only [maxLen]; omega) (by omega) (by simp; omega) ?_
  · intro u hu; simp at hu; subst hu; rfl
  · intro v' w' h1 h2 _ _
    refine h v' w' ?_ ?_
    · unfold OwnS; rw [List.map_append, List.length_append]; exact h1
    · have hb : Below base w0 (w0.alloc (.cells #[str y] 9)) := (Below.refl _ _).alloc hbase _
      exact below_ownS (World.ownsRow.alloc hown _) (Nat.le_trans hbase hb.size) h2

/-- 'append(s, x...)', x a list of strings. -/
theorem wp_appSs {w : World} (base : Nat) (s x : Operand)
    (ho : o.op = .call { callee := .builtin .append, args := #[s, x], argTypes := #[28, 28] }) (hgd : o.guard = none)
    (v u : Value) (l m : List Str) {B : Nat} (hs : a.eval s = v) (hx : a.eval x = u)
    (hown : OwnS w base v l) (hbase : base ≤ w.heap.size) (hm : Row w B 1 m.length u (m.map str)) (hl : l.length + m.length ≤ 8000000000)
    (h : ∀ v' w', OwnS w' base v' (l ++ m) → Below base w w' → wpList Try.prog ops Q rest (a.put o.dst v') w') :
    wpList Try.prog ops Q (o :: rest) a w := by
  obtain ⟨i0, hi, hz0, hz1, hz2⟩ := info_parts info_str
  have hm' := hm
  obtain ⟨A, cap, rfl, h1, h2, h3, h4, h5⟩ := hm
  cases A with
  | none =>
    have hc := h3 rfl
    have hm0 : m = [] := by cases m with
      | nil => rfl
      | cons b m => simp at h1; omega
    subst hm0 hc
    refine wpList_plain hgd fun K hK => ?_
    have hr := run_append_owned_none (P := Try.prog) w base 28 o.type 9 i0 1 Try.underlying28 hi v l.length (l.map str) hown
    unfold Oper.wp execOp
    simp only [ho, resolve, invoke, builtin, Sem.run_bind, Sem.run_pure, Result.andThen_ok, List.map_toArray, List.map_cons, List.map_nil, hs, hx, List.length_nil, hr]
    exact hK _ _ (h v w (by simpa using hown) (Below.refl _ _))
  | some ad =>
    refine wpList_append_own_at _ hgd s x 28 ho base 9 i0 (.string ⟨#[]⟩) 1 16 Try.underlying28 hi hz0 hz1 hz2 rfl (by decide) v l.length (l.map str) hs hown
      ad m.length cap (m.map str) hx (by simp) (Row.cells hm') (strs_one m) (by simp only [maxLen]; omega) (by omega) hbase ?_
    intro v' w' e1 e2 _ _
    refine h v' w' ?_ (below_ownS hown hbase e2)
    unfold OwnS; rw [List.map_append, List.length_append]; exact e1
end
end Go.Proofs.Ytblgcefaikoejaa
