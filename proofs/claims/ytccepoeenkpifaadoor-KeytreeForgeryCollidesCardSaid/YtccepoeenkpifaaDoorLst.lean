/-
  Slices of slices of bytes: the call's own, and as they are read; append.
-/
import Derived.Test.YtccepoeenkpifaaDoorRin
namespace Go.Proofs.YtccepoeenkpifaaDoor
open Go.RowKit
set_option linter.unusedVariables false
set_option linter.unusedSimpArgs false

theorem info_bs : (Tryd.prog.info? 22).map (fun i => (i.zero, i.size, i.bytes)) = some (some (.slice none 0 0), 1, 24) := by kernel_rfl
theorem size_bs : (Tryd.prog.info? 22).map (·.size) = some 1 := by
  obtain ⟨i0, hi, _, hz1, _⟩ := info_parts info_bs
  rw [hi]; simp [hz1]

/-- v is a slice of the call's own, its elements slices of the call's own, and reads as ls. -/
def Lst (w : World) (base : Nat) (v : Value) (ls : List (List UInt8)) : Prop :=
  ∃ vs : List Value, w.ownsRow base 22 1 v ls.length vs ∧ ∀ (i : Nat) (u : Value) (x : List UInt8), vs[i]? = some u → ls[i]? = some x → Own w base u x
/-- v reads as ls. -/
def Ls (w : World) (B : Nat) (v : Value) (ls : List (List UInt8)) : Prop :=
  ∃ vs : List Value, Row w B 1 ls.length v vs ∧ ∀ (i : Nat) (u : Value) (x : List UInt8), vs[i]? = some u → ls[i]? = some x → Bs w B u x

theorem Lst.nil_ (w : World) (base : Nat) : Lst w base (.slice none 0 0) [] := ⟨[], World.ownsRow_nil w base _ 1, fun i u x h => by simp at h⟩
theorem Lst.ls {w : World} {base : Nat} {v : Value} {ls : List (List UInt8)} (h : Lst w base v ls) : Ls w w.heap.size v ls := by
  obtain ⟨vs, h1, h2⟩ := h
  exact ⟨vs, Row.of_own h1, fun i u x hu hx => (h2 i u x hu hx).bs⟩
theorem Ls.carry {w w' : World} {B B' : Nat} {v : Value} {ls : List (List UInt8)} (h : Ls w B v ls) (hb : Below B w w') (hB : B ≤ B') : Ls w' B' v ls := by
  obtain ⟨vs, h1, h2⟩ := h
  exact ⟨vs, h1.carry hb hB, fun i u x hu hx => (h2 i u x hu hx).carry hb hB⟩
theorem Ls.past {w w' : World} {v : Value} {ls : List (List UInt8)} (h : Ls w w.heap.size v ls) (hb : Below w.heap.size w w') : Ls w' w'.heap.size v ls := h.carry hb hb.size
theorem Lst.keep {O : Nat → Prop} {w w' : World} {base : Nat} {v : Value} {ls : List (List UInt8)} (h : Lst w base v ls) (hk : Keep O w w') (hO : ∀ k, base ≤ k → O k) : Lst w' base v ls := by
  obtain ⟨vs, h1, h2⟩ := h
  exact ⟨vs, hk.own hO h1, fun i u x hu hx => hk.own hO (h2 i u x hu hx)⟩
theorem Lst.past {w w' : World} {base : Nat} {v : Value} {ls : List (List UInt8)} (h : Lst w base v ls) (hb : Below w.heap.size w w') : Lst w' base v ls :=
  h.keep (O := fun _ => True) (Keep.of_below hb) (fun _ _ => trivial)
theorem Lst.down {w : World} {base base' : Nat} {v : Value} {ls : List (List UInt8)} (h : Lst w base v ls) (hb : base' ≤ base) : Lst w base' v ls := by
  obtain ⟨vs, ⟨h1, h3⟩, h2⟩ := h
  refine ⟨vs, ⟨h1, ?_⟩, fun i u x hu hx => ?_⟩
  · rcases h3 with h3 | ⟨g, cap, cur, hv, hg, r⟩
    · exact Or.inl h3
    · exact Or.inr ⟨g, cap, cur, hv, Nat.le_trans hb hg, r⟩
  · obtain ⟨g1, g2⟩ := h2 i u x hu hx
    refine ⟨g1, ?_⟩
    rcases g2 with g2 | ⟨g, cap, cur, hv, hg, r⟩
    · exact Or.inl g2
    · exact Or.inr ⟨g, cap, cur, hv, Nat.le_trans hb hg, r⟩
theorem Ls.form {w : World} {B : Nat} {v : Value} {ls : List (List UInt8)} (h : Ls w B v ls) : ∃ A cap, v = .slice A ls.length cap := by
  obtain ⟨vs, ⟨A, cap, hv, _⟩, _⟩ := h
  exact ⟨A, cap, hv⟩
/-- The k-th element. -/
theorem Ls.at_ {w : World} {B : Nat} {v : Value} {ls : List (List UInt8)} (h : Ls w B v ls) {k : Nat} {x : List UInt8} (hx : ls[k]? = some x) :
    ∃ vs A cap, Row w B 1 ls.length v vs ∧ vs[k]? = some (.slice A x.length cap) ∧ Bs w B (.slice A x.length cap) x := by
  obtain ⟨vs, h1, h2⟩ := h
  have hl : vs.length = ls.length := by obtain ⟨_, _, _, _, _, _, hl, _⟩ := h1; simpa using hl
  have hk := (List.getElem?_eq_some_iff.1 hx).1
  have hu : vs[k]? = some (vs[k]'(by omega)) := List.getElem?_eq_getElem _
  have hb := h2 k _ x hu hx
  obtain ⟨A, cap, hf⟩ := hb.form
  rw [hf] at hb hu
  exact ⟨vs, A, cap, h1, hu, hb⟩

/-- A row of one element type keeps through a turn of a row of another. -/
theorem own_kept {w w' : World} {b1 b2 : Nat} {e1 e2 : TypeId} {s1 s2 n m : Nat} {u v : Value} {xs ys : List Value} (ho : w.ownsRow b1 e1 s1 u n xs) (hv : w.ownsRow b2 e2 s2 v m ys) (hne : e1 ≠ e2) (hg : w.grownBy w' v.ownBlock) : w'.ownsRow b1 e1 s1 u n xs := by
  obtain ⟨h1, h2⟩ := ho
  refine ⟨h1, ?_⟩
  rcases h2 with h2 | ⟨g, cap, cur, hu, hg1, hh, r⟩
  · exact Or.inl h2
  · refine Or.inr ⟨g, cap, cur, hu, hg1, ?_, r⟩
    rw [hg.block g (Array.getElem?_eq_some_iff.1 hh).1 ?_]
    · exact hh
    · intro e
      obtain ⟨_, h3⟩ := hv
      rcases h3 with ⟨rfl, _⟩ | ⟨g', cap', cur', rfl, _, hh', _⟩
      · simp [Value.ownBlock] at e
      · simp [Value.ownBlock] at e
        subst e
        rw [hh] at hh'
        injection hh' with hh'
        injection hh' with _ hh' _
        exact hne hh'

theorem Lst.appended {w w' : World} {base : Nat} {v v' : Value} {ls ms : List (List UInt8)} {vs us : List Value} (h1 : w.ownsRow base 22 1 v ls.length vs) (h2 : ∀ (i : Nat) (u : Value) (x : List UInt8), vs[i]? = some u → ls[i]? = some x → Own w base u x)
    (hus : us.length = ms.length) (h4 : ∀ (i : Nat) (u : Value) (x : List UInt8), us[i]? = some u → ms[i]? = some x → Own w base u x)
    (hg : w.grownBy w' v.ownBlock) (hr : w'.ownsRow base 22 1 v' (ls.length + ms.length) (vs ++ us)) : Lst w' base v' (ls ++ ms) := by
  have hl : vs.length = ls.length := by have := h1.1; simpa using this
  refine ⟨vs ++ us, by rw [List.length_append]; exact hr, fun i u x hu hx => ?_⟩
  refine own_kept (e1 := 5) (e2 := 22) ?_ h1 (by decide) hg
  by_cases hi : i < ls.length
  · rw [List.getElem?_append_left (by omega)] at hu
    rw [List.getElem?_append_left hi] at hx
    exact h2 i u x hu hx
  · rw [List.getElem?_append_right (by omega)] at hu
    rw [List.getElem?_append_right (by omega)] at hx
    rw [hl] at hu
    exact h4 _ u x hu hx

theorem Own.alloc' {w : World} {base : Nat} {v : Value} {l : List UInt8} (h : Own w base v l) (o : Obj) : Own (w.alloc o) base v l := World.ownsRow.alloc h o

section
variable {F : Fence} {n : Nat} {ops : Array Oper} {rest : List Oper} {o : Oper} {a : Act} {Q : Exit → Act → World → Prop}

/-- 'append(l, p)', p a slice of bytes of the call's own; in a round. -/
theorem wpi_appL {w0 : World} (base : Nat) (s x : Operand)
    (ho : o.op = .call { callee := .builtin .append, args := #[s, x], argTypes := #[90, 90] }) (hgd : o.guard = none)
    (v u : Value) (ls : List (List UInt8)) (p : List UInt8) (hs : a.eval s = v) (hx : a.eval x = .slice (some ⟨w0.heap.size, 0, none⟩) 1 1)
    (hown : Lst w0 base v ls) (hu : Own w0 base u p) (hu1 : u.oneCell' = true) (hbase : base ≤ w0.heap.size) (hl : ls.length + 1 ≤ 1000000000)
    (h : ∀ v' w', Lst w' base v' (ls ++ [p]) → Grew w0 w' v v' → wpListIn F n Tryd.prog ops Q rest (a.put o.dst v') w') :
    wpListIn F n Tryd.prog ops Q (o :: rest) a (w0.alloc (.cells #[u] 22)) := by
  obtain ⟨i0, hi, hz0, hz1, hz2⟩ := info_parts info_bs
  obtain ⟨vs, h1, h2⟩ := hown
  refine wpListIn_append_own_at _ hgd s x 90 ho base 22 i0 (.slice none 0 0) 1 24 Tryd.underlying90 hi hz0 hz1 hz2 rfl (by decide) v ls.length vs hs (World.ownsRow.alloc h1 _)
    ⟨w0.heap.size, 0, none⟩ 1 1 [u] hx rfl (cell_one_new _ _ _) ?_ (by simp only [maxLen]; omega) (by omega) (by simp; omega) ?_
  · intro y hy; simp at hy; subst hy; exact hu1
  · intro v' w' h3 h4 _ h5
    have hb : Below w0.heap.size w0 (w0.alloc (.cells #[u] 22)) := (Below.refl _ _).alloc (Nat.le_refl _) _
    refine h v' w' ?_ ?_
    · refine Lst.appended (World.ownsRow.alloc h1 _) (fun i u x hu hx => (h2 i u x hu hx).alloc _) (ms := [p]) (us := [u]) rfl ?_ h4 h3
      intro i y z hy hz
      cases i with
      | zero => simp at hy hz; subst hy hz; exact hu.alloc _
      | succ i => simp at hy
    · refine Grew.after hb ⟨h4, ?_⟩
      rcases h5 with h5 | h5
      · exact Or.inl h5
      · refine Or.inr fun k hk => ?_
        rw [h5] at hk; injection hk with hk; omega
end

theorem wp_appL {ops : Array Oper} {rest : List Oper} {o : Oper} {a : Act} {Q : Exit → Act → World → Prop} {w0 : World} (base : Nat) (s x : Operand)
    (ho : o.op = .call { callee := .builtin .append, args := #[s, x], argTypes := #[90, 90] }) (hgd : o.guard = none)
    (v u : Value) (ls : List (List UInt8)) (p : List UInt8) (hs : a.eval s = v) (hx : a.eval x = .slice (some ⟨w0.heap.size, 0, none⟩) 1 1)
    (hown : Lst w0 base v ls) (hu : Own w0 base u p) (hu1 : u.oneCell' = true) (hbase : base ≤ w0.heap.size) (hl : ls.length + 1 ≤ 1000000000)
    (h : ∀ v' w', Lst w' base v' (ls ++ [p]) → Grew w0 w' v v' → wpList Tryd.prog ops Q rest (a.put o.dst v') w') :
    wpList Tryd.prog ops Q (o :: rest) a (w0.alloc (.cells #[u] 22)) := by
  obtain ⟨i0, hi, hz0, hz1, hz2⟩ := info_parts info_bs
  obtain ⟨vs, h1, h2⟩ := hown
  refine wpList_append_own_at _ hgd s x 90 ho base 22 i0 (.slice none 0 0) 1 24 Tryd.underlying90 hi hz0 hz1 hz2 rfl (by decide) v ls.length vs hs (World.ownsRow.alloc h1 _)
    ⟨w0.heap.size, 0, none⟩ 1 1 [u] hx rfl (cell_one_new _ _ _) ?_ (by simp only [maxLen]; omega) (by omega) (by simp; omega) ?_
  · intro y hy; simp at hy; subst hy; exact hu1
  · intro v' w' h3 h4 _ h5
    have hb : Below w0.heap.size w0 (w0.alloc (.cells #[u] 22)) := (Below.refl _ _).alloc (Nat.le_refl _) _
    refine h v' w' ?_ ?_
    · refine Lst.appended (World.ownsRow.alloc h1 _) (fun i u x hu hx => (h2 i u x hu hx).alloc _) (ms := [p]) (us := [u]) rfl ?_ h4 h3
      intro i y z hy hz
      cases i with
      | zero => simp at hy hz; subst hy hz; exact hu.alloc _
      | succ i => simp at hy
    · refine Grew.after hb ⟨h4, ?_⟩
      rcases h5 with h5 | h5
      · exact Or.inl h5
      · refine Or.inr fun k hk => ?_
        rw [h5] at hk; injection hk with hk; omega

/-- The first bytes of a row of the call's own. -/
theorem Own.to {w : World} {base : Nat} {A : Option Addr} {cap : Nat} {p m : List UInt8} (h : Own w base (.slice A (p ++ m).length cap) (p ++ m)) (hm : m ≠ []) : Own w base (.slice A p.length cap) p := by
  obtain ⟨h1, h2⟩ := h
  have hml : 0 < m.length := by cases m with | nil => exact absurd rfl hm | cons => simp
  refine ⟨by simp [u8s_length], ?_⟩
  rcases h2 with ⟨h2, h3⟩ | ⟨g, cap', cur, hv, hg, hh, h4, h5, h6, h7⟩
  · injection h2 with _ h2 _
    rw [List.length_append] at h2; omega
  · injection hv with e1 _ e2
    subst e1 e2
    refine Or.inr ⟨g, cap, cur, rfl, hg, hh, by rw [List.length_append] at h4; omega, h5, h6, ?_⟩
    rw [u8s_append] at h7
    have hl1 : (u8s p).length = p.length := u8s_length p
    have h8 := congrArg (List.take p.length) h7
    rw [List.take_take, List.take_left' hl1] at h8
    rw [← h8]
    congr 1
    rw [List.length_append, Nat.mul_one]; omega
end Go.Proofs.YtccepoeenkpifaaDoor
