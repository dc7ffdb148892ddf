/-
  Appending to a row of the call's own, finer: only the row that was appended to may have turned; the new row is the old one or a new block.
-/
import Derived.Test.YtippbkooaonajaaByt
namespace Go.Proofs.Ytippbkooaonajaa
open Go.RowKit
set_option linter.unusedVariables false
set_option linter.unusedSimpArgs false

/-- From w to w' at most v's own row has turned; v' lies in it or in a block that is new since w. -/
def Grew (w w' : World) (v v' : Value) : Prop := w.grownBy w' v.ownBlock ∧ (v'.ownBlock = v.ownBlock ∨ ∀ k, v'.ownBlock = some k → w.heap.size ≤ k)

theorem Grew.refl (w : World) (v : Value) : Grew w w v v := ⟨⟨rfl, rfl, rfl, Nat.le_refl _, fun _ _ _ => rfl⟩, Or.inl rfl⟩
theorem Grew.trans {w w1 w2 : World} {v v1 v2 : Value} (h : Grew w w1 v v1) (k : Grew w1 w2 v1 v2) : Grew w w2 v v2 := by
  obtain ⟨hg, ho⟩ := h
  obtain ⟨kg, ko⟩ := k
  refine ⟨⟨kg.os.trans hg.os, kg.tape.trans hg.tape, kg.output.trans hg.output, Nat.le_trans hg.size kg.size, fun b hb hne => ?_⟩, ?_⟩
  · rw [kg.block b (Nat.lt_of_lt_of_le hb hg.size) ?_, hg.block b hb hne]
    intro e
    rcases ho with ho | ho
    · rw [ho] at e; exact hne e
    · have := ho b e.symm; omega
  · rcases ko with ko | ko
    · rw [ko]; exact ho
    · exact Or.inr fun b hb => Nat.le_trans hg.size (ko b hb)
/-- Behind steps that leave all that was there. -/
theorem Grew.after {w w1 w2 : World} {v v2 : Value} (h : Below w.heap.size w w1) (k : Grew w1 w2 v v2) : Grew w w2 v v2 := by
  obtain ⟨kg, ko⟩ := k
  refine ⟨⟨kg.os.trans h.os, kg.tape.trans h.tape, kg.output.trans h.output, Nat.le_trans h.size kg.size, fun b hb hne => ?_⟩, ?_⟩
  · rw [kg.block b (Nat.lt_of_lt_of_le hb h.size) hne, h.block b hb]
  · rcases ko with ko | ko
    · exact Or.inl ko
    · exact Or.inr fun b hb => Nat.le_trans h.size (ko b hb)
theorem Grew.then {w w1 w2 : World} {v v1 : Value} (h : Grew w w1 v v1) (k : Below w1.heap.size w1 w2) : Grew w w2 v v1 := by
  obtain ⟨hg, ho⟩ := h
  exact ⟨⟨k.os.trans hg.os, k.tape.trans hg.tape, k.output.trans hg.output, Nat.le_trans hg.size k.size, fun b hb hne => by rw [k.block b (Nat.lt_of_lt_of_le hb hg.size), hg.block b hb hne]⟩, ho⟩
theorem Grew.size {w w' : World} {v v' : Value} (h : Grew w w' v v') : w.heap.size ≤ w'.heap.size := h.1.size

theorem own_block {w : World} {base : Nat} {e : TypeId} {size : Nat} {v : Value} {n : Nat} {xs : List Value} (h : w.ownsRow base e size v n xs) : ∀ k, v.ownBlock = some k → base ≤ k ∧ k < w.heap.size := by
  obtain ⟨_, h2⟩ := h
  rcases h2 with ⟨rfl, _⟩ | ⟨g, cap, cur, rfl, hg, hh, _⟩
  · intro k hk; simp [Value.ownBlock] at hk
  · intro k hk; simp [Value.ownBlock] at hk; subst hk
    exact ⟨hg, (Array.getElem?_eq_some_iff.1 hh).1⟩
theorem Grew.below {w w' : World} {base : Nat} {e : TypeId} {size : Nat} {v v' : Value} {n : Nat} {xs : List Value} (h : Grew w w' v v') (ho : w.ownsRow base e size v n xs) (hb : base ≤ w.heap.size) : Below base w w' :=
  (Below.refl base w).grown h.1 hb fun k hk => (own_block ho k hk).1

/-- v's row is not u's. -/
def Apart (v u : Value) : Prop := ∀ k, v.ownBlock = some k → ∀ a n c, u = .slice (some a) n c → 0 < n → a.block ≠ k
theorem Apart.nil {u : Value} {n c : Nat} : Apart (.slice none n c) u := fun k hk => by simp [Value.ownBlock] at hk
/-- A row from below is apart from a row of the call's own. -/
theorem Apart.low {w : World} {base B : Nat} {e : TypeId} {size m n : Nat} {v u : Value} {xs ys : List Value} {B' : Nat} (ho : w.ownsRow base e size v n xs) {w' : World} (hu : Row w' B' 1 m u ys) (h : B' ≤ base) : Apart v u := by
  intro k hk a n c e h0
  obtain ⟨A, cap, hv, _, _, _, _, h5⟩ := hu
  rw [e] at hv
  injection hv with e1 e2 _
  have h1 := (h5 a e1.symm (by omega)).1
  have h2 := (own_block ho k hk).1
  omega
theorem Row.kept {w w' : World} {size n : Nat} {u : Value} {xs : List Value} {v : Value} (h : Row w w.heap.size size n u xs) (hg : w.grownBy w' v.ownBlock) (ha : Apart v u) : Row w' w'.heap.size size n u xs := by
  obtain ⟨A, cap, rfl, h1, h2, h3, h4, h5⟩ := h
  refine ⟨A, cap, rfl, h1, h2, h3, h4, fun a hA h0 => ?_⟩
  obtain ⟨hl, hc⟩ := h5 a hA h0
  refine ⟨Nat.lt_of_lt_of_le hl hg.size, fun i u hu => ?_⟩
  rw [World.cell?_of_block (w := w) (a := a.add i) ?_]
  · exact hc i u hu
  · rw [add_block]
    refine hg.block _ hl fun e => ?_
    exact ha _ e.symm a n cap (by rw [hA]) h0 rfl
theorem Bs.kept {w w' : World} {u v v' : Value} {l : List UInt8} (h : Bs w w.heap.size u l) (hg : Grew w w' v v') (ha : Apart v u) : Bs w' w'.heap.size u l := Row.kept h hg.1 ha
theorem Apart.step {w w' : World} {u v v' : Value} {l : List UInt8} (ha : Apart v u) (hg : Grew w w' v v') (h : Bs w w.heap.size u l) : Apart v' u := by
  intro k hk a n c hu h0
  rcases hg.2 with h2 | h2
  · exact ha k (by rw [← h2]; exact hk) a n c hu h0
  · have h3 := h2 k hk
    obtain ⟨A, cap, hv, _, _, _, _, h5⟩ := h
    rw [hu] at hv
    injection hv with e1 e2 _
    have := (h5 a e1.symm (by omega)).1
    omega

/-- 'append(s, x)', x one byte. -/
theorem wp_app1g {ops : Array Oper} {rest : List Oper} {o : Oper} {a : Act} {Q : Exit → Act → World → Prop} {w0 : World} (base : Nat) (s x : Operand)
    (ho : o.op = .call { callee := .builtin .append, args := #[s, x], argTypes := #[60, 60] }) (hgd : o.guard = none)
    (v : Value) (l : List UInt8) (c : Int) (b : UInt8) (hs : a.eval s = v) (hx : a.eval x = .slice (some ⟨w0.heap.size, 0, none⟩) 1 1)
    (hown : Own w0 base v l) (hbase : base ≤ w0.heap.size) (hl : l.length + 1 ≤ 140737488355328) (hc : c = (b.toNat : Int))
    (h : ∀ v' w', Own w' base v' (l ++ [b]) → Grew w0 w' v v' → wpList Try.prog ops Q rest (a.put o.dst v') w') :
    wpList Try.prog ops Q (o :: rest) a (w0.alloc (.cells #[.int .u8 c] 5)) := by
  obtain ⟨i0, hi, hz0, hz1, hz2⟩ := info_parts info_u8
  subst hc
  refine wpList_append_own_at _ hgd s x 60 ho base 5 i0 (.int .u8 0) 1 1 Try.underlying60 hi hz0 hz1 hz2 rfl (by decide) v l.length (u8s l) hs (World.ownsRow.alloc hown _)
    ⟨w0.heap.size, 0, none⟩ 1 1 [u8 b] hx rfl (cell_one_new _ _ _) ?_ (by simp only [maxLen]; omega) (by omega) (by simp; omega) ?_
  · intro u hu; simp at hu; subst hu; rfl
  · intro v' w' h1 h2 _ h4
    refine h v' w' ?_ ?_
    · unfold Own; rw [u8s_append, List.length_append]; exact h1
    · refine Grew.after ((Below.refl w0.heap.size w0).alloc (Nat.le_refl _) (.cells #[.int .u8 (b.toNat : Int)] 5)) ⟨h2, ?_⟩
      rcases h4 with h4 | h4
      · exact Or.inl h4
      · refine Or.inr fun k hk => ?_
        rw [h4] at hk; injection hk with hk; omega

/-- 'append(s, x...)', x a slice of bytes. -/
theorem wp_appsg {ops : Array Oper} {rest : List Oper} {o : Oper} {a : Act} {Q : Exit → Act → World → Prop} {w : World} (base : Nat) (s x : Operand)
    (ho : o.op = .call { callee := .builtin .append, args := #[s, x], argTypes := #[60, 60] }) (hgd : o.guard = none)
    (v u : Value) (l m : List UInt8) {B : Nat} (hs : a.eval s = v) (hx : a.eval x = u)
    (hown : Own w base v l) (hbase : base ≤ w.heap.size) (hm : Bs w B u m) (hl : l.length + m.length ≤ 140737488355328)
    (h : ∀ v' w', Own w' base v' (l ++ m) → Grew w w' v v' → wpList Try.prog ops Q rest (a.put o.dst v') w') :
    wpList Try.prog ops Q (o :: rest) a w := by
  obtain ⟨i0, hi, hz0, hz1, hz2⟩ := info_parts info_u8
  have hm' := hm
  obtain ⟨A, cap, rfl, h1, h2, h3, h4, h5⟩ := hm
  cases A with
  | none =>
    have hc := h3 rfl
    have hm0 : m = [] := by cases m with
      | nil => rfl
      | cons b m => simp at h1; omega
    subst hm0 hc
    refine wpList_plain hgd fun K hK => ?_
    have hr := run_append_owned_none (P := Try.prog) w base 60 o.type 5 i0 1 Try.underlying60 hi v l.length (u8s l) hown
    unfold Oper.wp execOp
    simp only [ho, resolve, invoke, builtin, Sem.run_bind, Sem.run_pure, Result.andThen_ok, List.map_toArray, List.map_cons, List.map_nil, hs, hx, List.length_nil, hr]
    exact hK _ _ (h v w (by simpa using hown) (Grew.refl _ _))
  | some ad =>
    refine wpList_append_own_at _ hgd s x 60 ho base 5 i0 (.int .u8 0) 1 1 Try.underlying60 hi hz0 hz1 hz2 rfl (by decide) v l.length (u8s l) hs hown
      ad m.length cap (u8s m) hx (by simp [u8s_length]) (Row.cells hm') (u8s_one m) (by simp only [maxLen]; omega) (by omega) hbase ?_
    intro v' w' e1 e2 _ e4
    refine h v' w' ?_ ⟨e2, ?_⟩
    · unfold Own; rw [u8s_append, List.length_append]; exact e1
    · rcases e4 with e4 | e4
      · exact Or.inl e4
      · refine Or.inr fun k hk => ?_
        rw [e4] at hk; injection hk with hk; omega

theorem ownsRow_past {w w' : World} {base : Nat} {e : TypeId} {size : Nat} {v : Value} {n : Nat} {xs : List Value} (h : w.ownsRow base e size v n xs) (hb : Below w.heap.size w w') : w'.ownsRow base e size v n xs := by
  obtain ⟨h1, h2⟩ := h
  refine ⟨h1, ?_⟩
  rcases h2 with h2 | ⟨g, cap, cur, hv, hg, hh, r⟩
  · exact Or.inl h2
  · exact Or.inr ⟨g, cap, cur, hv, hg, (hb.block g (Array.getElem?_eq_some_iff.1 hh).1).trans hh, r⟩
theorem Own.past {w w' : World} {base : Nat} {v : Value} {l : List UInt8} (h : Own w base v l) (hb : Below w.heap.size w w') : Own w' base v l := ownsRow_past h hb

theorem Own.up {w : World} {base base' : Nat} {v : Value} {l : List UInt8} (h : Own w base v l) (hb : base' ≤ base) : Own w base' v l := by
  obtain ⟨h1, h2⟩ := h
  refine ⟨h1, ?_⟩
  rcases h2 with h2 | ⟨g, cap, cur, hv, hg, r⟩
  · exact Or.inl h2
  · exact Or.inr ⟨g, cap, cur, hv, Nat.le_trans hb hg, r⟩

/-- A literal slice. -/
theorem own_lit_n (w : World) (l : List UInt8) (hl : l.length ≤ maxLen) : Own (w.alloc (.cells (u8s l).toArray 5)) w.heap.size (.slice (some ⟨w.heap.size, 0, none⟩) l.length l.length) l := by
  have h := World.ownsRow_lit (e := 5) (size := 1) w (u8s l).toArray l.length (Nat.le_refl _) hl (by simp [u8s_length])
  simpa [Own] using h
end Go.Proofs.Ytippbkooaonajaa
