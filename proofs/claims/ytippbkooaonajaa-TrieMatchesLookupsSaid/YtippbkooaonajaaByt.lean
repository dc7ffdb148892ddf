/-
  Laws of the walk for slices of bytes: append onto a row of the call's own (one byte; a slice; a string), at this program's type numbers.
-/
import Derived.Test.YtippbkooaonajaaMem
import Derived.Test.YtippbkooaonajaaProg
import Derived.Lib.AppendStr
namespace Go.Proofs.Ytippbkooaonajaa
open Go.RowKit
set_option linter.unusedVariables false
set_option linter.unusedSimpArgs false

theorem info_u8 : (Try.prog.info? 5).map (fun i => (i.zero, i.size, i.bytes)) = some (some (.int .u8 0), 1, 1) := by kernel_rfl

/-- The slice v of bytes is the call's own, from block 'base' on, and holds l. -/
def Own (w : World) (base : Nat) (v : Value) (l : List UInt8) : Prop := w.ownsRow base 5 1 v l.length (u8s l)

theorem Own.alloc {w : World} {base : Nat} {v : Value} {l : List UInt8} (h : Own w base v l) (o : Obj) : Own (w.alloc o) base v l := World.ownsRow.alloc h o
theorem Own.bs {w : World} {base : Nat} {v : Value} {l : List UInt8} (h : Own w base v l) : Bs w w.heap.size v l := Bs.of_own h
theorem Own.nil_ (w : World) (base : Nat) : Own w base (.slice none 0 0) [] := World.ownsRow_nil w base _ 1

theorem below_own {w w' : World} {base : Nat} {v : Value} {l : List UInt8} (h : Own w base v l) (hb : base ≤ w.heap.size) (hg : w.grownBy w' v.ownBlock) : Below base w w' :=
  ((Below.refl base w)).grown hg hb fun _ hk => (World.ownsRow.lt h _ hk).1

/-- 'append(s, x)', x one byte. -/
theorem wp_app1 {ops : Array Oper} {rest : List Oper} {o : Oper} {a : Act} {Q : Exit → Act → World → Prop} {w0 : World} (base : Nat) (s x : Operand)
    (ho : o.op = .call { callee := .builtin .append, args := #[s, x], argTypes := #[60, 60] }) (hgd : o.guard = none)
    (v : Value) (l : List UInt8) (c : Int) (b : UInt8) (hs : a.eval s = v) (hx : a.eval x = .slice (some ⟨w0.heap.size, 0, none⟩) 1 1)
    (hown : Own w0 base v l) (hbase : base ≤ w0.heap.size) (hl : l.length + 1 ≤ 140737488355328) (hc : c = (b.toNat : Int))
    (h : ∀ v' w', Own w' base v' (l ++ [b]) → Below base w0 w' → wpList Try.prog ops Q rest (a.put o.dst v') w') :
    wpList Try.prog ops Q (o :: rest) a (w0.alloc (.cells #[.int .u8 c] 5)) := by
  obtain ⟨i0, hi, hz0, hz1, hz2⟩ := info_parts info_u8
  subst hc
  refine wpList_append_own_at _ hgd s x 60 ho base 5 i0 (.int .u8 0) 1 1 Try.underlying60 hi hz0 hz1 hz2 rfl (by decide) v l.length (u8s l) hs (World.ownsRow.alloc hown _)
    ⟨w0.heap.size, 0, none⟩ 1 1 [u8 b] hx rfl (cell_one_new _ _ _) ?_ (by simp only [maxLen]; omega) (by omega) (by simp; omega) ?_
  · intro u hu; simp at hu; subst hu; rfl
  · intro v' w' h1 h2 _ _
    refine h v' w' ?_ ?_
    · unfold Own; rw [u8s_append, List.length_append]; exact h1
    · have hb : Below base w0 (w0.alloc (.cells #[.int .u8 (b.toNat : Int)] 5)) := (Below.refl _ _).alloc hbase _
      exact hb.trans (below_own (Own.alloc hown _) (Nat.le_trans hbase hb.size) h2)

theorem size_u8 : (Try.prog.info? 5).map (·.size) = some 1 := by
  obtain ⟨i0, hi, _, hz1, _⟩ := info_parts info_u8
  rw [hi]; simp [hz1]

/-- 'append(s, x...)', x a slice of bytes. -/
theorem wp_apps {ops : Array Oper} {rest : List Oper} {o : Oper} {a : Act} {Q : Exit → Act → World → Prop} {w : World} (base : Nat) (s x : Operand)
    (ho : o.op = .call { callee := .builtin .append, args := #[s, x], argTypes := #[60, 60] }) (hgd : o.guard = none)
    (v u : Value) (l m : List UInt8) {B : Nat} (hs : a.eval s = v) (hx : a.eval x = u)
    (hown : Own w base v l) (hbase : base ≤ w.heap.size) (hm : Bs w B u m) (hl : l.length + m.length ≤ 140737488355328)
    (h : ∀ v' w', Own w' base v' (l ++ m) → Below base w w' → wpList Try.prog ops Q rest (a.put o.dst v') w') :
    wpList Try.prog ops Q (o :: rest) a w := by
  obtain ⟨i0, hi, hz0, hz1, hz2⟩ := info_parts info_u8
  have hm' := hm
  obtain ⟨A, cap, rfl, h1, h2, h3, h4, h5⟩ := hm
  cases A with
  | none =>
    have hc := h3 rfl
    have hm0 : m = [] := by cases m with
      | nil => rfl
      | cons b m => simp at h1; omega
    subst hm0 hc
    refine wpList_plain hgd fun K hK => ?_
    have hr := run_append_owned_none (P := Try.prog) w base 60 o.type 5 i0 1 Try.underlying60 hi v l.length (u8s l) hown
    unfold Oper.wp execOp
    simp only [ho, resolve, invoke, builtin, Sem.run_bind, Sem.run_pure, Result.andThen_ok, List.map_toArray, List.map_cons, List.map_nil, hs, hx, List.length_nil, hr]
    exact hK _ _ (h v w (by simpa using hown) (Below.refl _ _))
  | some ad =>
    refine wpList_append_own_at _ hgd s x 60 ho base 5 i0 (.int .u8 0) 1 1 Try.underlying60 hi hz0 hz1 hz2 rfl (by decide) v l.length (u8s l) hs hown
      ad m.length cap (u8s m) hx (by simp [u8s_length]) (Row.cells hm') (u8s_one m) (by simp only [maxLen]; omega) (by omega) hbase ?_
    intro v' w' e1 e2 _ _
    refine h v' w' ?_ (below_own hown hbase e2)
    unfold Own; rw [u8s_append, List.length_append]; exact e1

/-- 'make([]byte, 0, n)' -/
theorem wp_make0 {ops : Array Oper} {rest : List Oper} {o : Oper} {a : Act} {Q : Exit → Act → World → Prop} {w : World} (base : Nat) (c d : Operand)
    (ho : o.op = Op.makeSlice 60 c d) (hgd : o.guard = none) (I : Int) (n : Nat) (hc : a.eval c = .int .i64 0) (hd : a.eval d = .int .i64 I) (hI : I = (n : Int)) (hn : n ≤ 281474976710656) (hbase : base ≤ w.heap.size)
    (h : ∀ v' w', Own w' base v' [] → Below w.heap.size w w' → wpList Try.prog ops Q rest (a.put o.dst v') w') :
    wpList Try.prog ops Q (o :: rest) a w := by
  obtain ⟨i0, hi, hz0, hz1, hz2⟩ := info_parts info_u8
  refine wpList_make_own w hgd c d 60 ho base 5 i0 _ 1 Try.underlying60 hi hz0 hz1 .i64 .i64 I n hc hd hI (by rw [hz2]; omega) (by simp only [maxLen]; omega) hbase ?_
  intro w' h1 h2
  exact h _ w' h1 ((Below.refl _ _).grown h2 (Nat.le_refl _) (fun _ hk => by cases hk))

/-- 'string(x)' of a slice of bytes, for the walk's context. -/
theorem Bs.str {w : World} {B : Nat} {v : Value} {l : List UInt8} (h : Bs w B v l) : (convert 60 9 v).run Try.prog w = .ok (str l) w :=
  h.conv _ _ _ Try.underlying60 Try.underlying5 Try.underlying9

/-- '[]byte(s)' -/
theorem wp_ofstr {ops : Array Oper} {rest : List Oper} {o : Oper} {a : Act} {Q : Exit → Act → World → Prop} {w : World} (x : Operand)
    (ho : o.op = Op.convert 9 60 x) (hgd : o.guard = none) (l : List UInt8) (hx : a.eval x = Go.Proofs.Ytippbkooaonajaa.str l) (hl : l.length ≤ maxLen)
    (h : ∀ v' w', Bs w' w'.heap.size v' l → Below w.heap.size w w' → wpList Try.prog ops Q rest (a.put o.dst v') w') :
    wpList Try.prog ops Q (o :: rest) a w := by
  refine wpList_plain hgd fun K hK => ?_
  have hr := run_bytes_of_string (P := Try.prog) w 9 60 5 ⟨l.toArray⟩ Try.underlying9 Try.underlying60 Try.underlying5
  unfold Oper.wp execOp
  simp only [ho, hx, Go.Proofs.Ytippbkooaonajaa.str, Sem.run_bind, Sem.run_pure, Result.andThen_ok, hr]
  refine hK _ _ (h _ _ ?_ (((Below.refl _ _).drew).alloc (Nat.le_refl _) _))
  have hge := grownCap_ge w l.length 0 5
  have hle := grownCap_le_maxLen w l.length 0 5 hl
  refine ⟨some ⟨w.heap.size, 0, none⟩, _, rfl, hge, hle, (fun h => by cases h), by simp [u8s_length], fun a ha _ => ?_⟩
  obtain rfl : (⟨w.heap.size, 0, none⟩ : Addr) = a := by injection ha
  refine ⟨by simp, fun i u hu => ?_⟩
  have hadd : (⟨w.heap.size, 0, none⟩ : Addr).add i = ⟨w.heap.size, i, none⟩ := by unfold Addr.add; split <;> simp_all
  rw [hadd]
  have hblk := heap_alloc_new w.drew (.cells (bytesRow ⟨l.toArray⟩ (grownCap w l.length 0 5)) 5 ((bytesRow ⟨l.toArray⟩ (grownCap w l.length 0 5)).size, (bytesRow ⟨l.toArray⟩ (grownCap w l.length 0 5)).size + 1))
  have hi : i < l.length := by have := (List.getElem?_eq_some_iff.1 hu).1; rwa [u8s_length] at this
  unfold World.cell?
  have hb2 : (w.drew.heap.size) = w.heap.size := rfl
  rw [hb2] at hblk
  have hl2 : (ByteArray.mk l.toArray).size = l.length := by simp [ByteArray.size]
  rw [hl2, hblk]
  simp only [Option.isSome_none, Bool.false_eq_true, if_false]
  rw [← hu]
  simp [bytesRow, u8s, u8, hi, Array.getElem?_append]

theorem Bs.form {w : World} {B : Nat} {v : Value} {l : List UInt8} (h : Bs w B v l) : ∃ A cap, v = .slice A l.length cap := by
  obtain ⟨A, cap, hv, _⟩ := h
  exact ⟨A, cap, hv⟩

/-- 'append(b, s...)', s a string. -/
theorem wp_appstr {ops : Array Oper} {rest : List Oper} {o : Oper} {a : Act} {Q : Exit → Act → World → Prop} {w : World} (base : Nat) (s x : Operand)
    (ho : o.op = .call { callee := .builtin .append, args := #[s, x], argTypes := #[60, 9] }) (hgd : o.guard = none)
    (v : Value) (l m : List UInt8) (hs : a.eval s = v) (hx : a.eval x = Go.Proofs.Ytippbkooaonajaa.str m)
    (hown : Own w base v l) (hbase : base ≤ w.heap.size) (hl : l.length + m.length ≤ 140737488355328)
    (h : ∀ v' w', Own w' base v' (l ++ m) → Below base w w' → wpList Try.prog ops Q rest (a.put o.dst v') w') :
    wpList Try.prog ops Q (o :: rest) a w := by
  obtain ⟨i0, hi, hz0, hz1, hz2⟩ := info_parts info_u8
  refine wpList_plain hgd fun K hK => ?_
  have hsz : (ByteArray.mk m.toArray).size = m.length := by simp [ByteArray.size]
  obtain ⟨v', w', hr, e1, e2, _⟩ := Lib.run_append_own_string (P := Try.prog) w base 60 9 o.type 5 i0 Try.underlying60 Try.underlying9 hi hz0 hz1 hz2 v l.length (u8s l) hown ⟨m.toArray⟩
    (by rw [hsz]; simp only [maxLen]; omega) (by rw [hsz]; omega) hbase
  unfold Oper.wp execOp
  simp only [ho, resolve, invoke, builtin, Sem.run_bind, Sem.run_pure, Result.andThen_ok, List.map_toArray, List.map_cons, List.map_nil, hs, hx, Go.Proofs.Ytippbkooaonajaa.str, hr]
  refine hK _ _ (h v' w' ?_ (below_own hown hbase e2))
  unfold Own; rw [u8s_append, List.length_append]
  rw [hsz] at e1
  have hc : Lib.strCells ⟨m.toArray⟩ = u8s m := by simp [Lib.strCells, u8s]; intro a _; rfl
  rw [hc] at e1
  exact e1

end Go.Proofs.Ytippbkooaonajaa
