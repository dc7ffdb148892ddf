/-
  A region that draws its order, walked in ONE order that is written down (a plan). Every operation leaves all that was there as it was ('Below'): so an operation whose value would be the same in every later world may be taken as soon as it may come up.
  Nothing of a program is named here.
-/
import Derived.WalkKit
import Derived.OrdersHeld
namespace Go.Proofs.Ytippbkooaonajaa
open Go.RowKit
set_option linter.unusedVariables false
set_option linter.unusedSimpArgs false

/-- Behind a draw. -/
theorem undrew {w w' : World} (h : Below w.drew.heap.size w.drew w') : Below w.heap.size w w' := ⟨h.os, h.tape, h.output, h.size, h.block⟩

/-- The post of a region that comes to its end. -/
def Ends (R : Act → World → Prop) : Exit → Act → World → Prop := fun e a w => e = .normal ∧ R a w

section
variable {P : Program} {md : Region.Mode} {ops : Array Oper} {R : Act → World → Prop}

/-- Whatever order is picked; each operation leaves all that was there as it was. -/
def wpAnyB (P : Program) (md : Region.Mode) (ops : Array Oper) (R : Act → World → Prop) : Nat → Array Bool → Act → World → Prop
  | 0, listed, a, w => Region.ready md ops listed = [] ∧ R a w
  | fuel + 1, listed, a, w =>
    (Region.ready md ops listed = [] → R a w) ∧
    ∀ i ∈ Region.ready md ops listed, wpOp P ops (Ends R) i (fun a' w' => Below w.heap.size w w' ∧ wpAnyB P md ops R fuel (listed.setIfInBounds i true) a' w') a w

theorem wpAny_of_B : ∀ (fuel : Nat) (listed : Array Bool) (a : Act) (w : World), wpAnyB P md ops R fuel listed a w → wpAny P md ops (Ends R) fuel listed a w
  | 0, _, _, _, h => ⟨h.1, rfl, h.2⟩
  | fuel + 1, _, _, _, h => ⟨fun h0 => ⟨rfl, h.1 h0⟩, fun i hi => wpOp_mono (fun a' w' h' => wpAny_of_B fuel _ a' w' h'.2) (h.2 i hi)⟩

theorem YieldsIf.later {o : Oper} {v : Value} {a : Act} {w w' : World} (h : YieldsIf P ops (fun u => Below w.heap.size w u) o v a) (hb : Below w.heap.size w w') :
    YieldsIf P ops (fun u => Below w'.heap.size w' u) o v a :=
  h.imp (fun ⟨h1, h2⟩ => ⟨h1, fun u hu => h2 u (hb.trans (hu.mono hb.size))⟩) id

theorem wpAnyB_first {i : Nat} {oi : Oper} {v : Value} (hi : ops[i]? = some oi) (hsel : ∀ (j : Nat) (o : Oper) cs b, ops[j]? = some o → o.op ≠ .select cs b) :
    ∀ (fuel : Nat) (listed : Array Bool) (a : Act) (w : World),
      (∀ j oj, ops[j]? = some oj → j ≠ i → listed.getD j true = false → (∀ e ∈ oj.after, Region.binds md e = true → e.on ≠ i) → oi.apart ops oj = true) →
      i ∈ Region.ready md ops listed → YieldsIf P ops (fun u => Below w.heap.size w u) oi v a →
      wpAnyB P md ops R fuel (listed.setIfInBounds i true) (a.put oi.dst v) w → wpAnyB P md ops R (fuel + 1) listed a w := by
  intro fuel
  induction fuel with
  | zero =>
    intro listed a w _ hr hy H
    refine ⟨fun h => (by rw [h] at hr; cases hr), fun j hj => ?_⟩
    by_cases hji : j = i
    · subst hji; exact hy.wpOp hi (Below.refl _ _) ⟨Below.refl _ _, H⟩
    · have := ready_mono hj hji
      rw [H.1] at this
      cases this
  | succ fuel ih =>
    intro listed a w hfree hr hy H
    refine ⟨fun h => (by rw [h] at hr; cases hr), fun j hj => ?_⟩
    by_cases hji : j = i
    · subst hji; exact hy.wpOp hi (Below.refl _ _) ⟨Below.refl _ _, H⟩
    have h1 := H.2 j (ready_mono hj hji)
    obtain ⟨hjun, oj, hoj, hall⟩ := mem_ready.1 hj
    have hnot : ∀ e ∈ oj.after, Region.binds md e = true → e.on ≠ i := by
      intro e he hb heq
      have g1 := hall e he hb
      have g0 := (mem_ready.1 hr).1
      rw [heq] at g1
      by_cases hs : i < listed.size
      · simp [hs] at g0 g1; rw [g0] at g1; cases g1
      · simp [Array.getElem?_eq_none (by omega : listed.size ≤ i)] at g1
    have h2 := wpOp_putIf hoj (hfree j oj hoj hji hjun hnot) (fun cs b => hsel i oi cs b hi) (fun cs b => hsel j oj cs b hoj) (fun c a w h => by cases h.1) hy h1
    refine wpOp_mono (fun a' w' h3 => ⟨h3.2.1, ih (listed.setIfInBounds j true) a' w' ?_ (ready_mono hr (Ne.symm hji)) (YieldsIf.later h3.1 h3.2.1) ?_⟩) h2
    · intro k ok hk hki hun hno
      refine hfree k ok hk hki ?_ hno
      by_cases hjk : j = k
      · subst hjk; exact hjun
      · rw [getD_set_ne true hjk] at hun; exact hun
    · rw [Array.setIfInBounds_comm _ _ hji]
      exact h3.2.2

/-- A plan: which operation is next, and whether it is taken because its value is the same in every later world. -/
def planOk (md : Region.Mode) (ops : Array Oper) : List (Nat × Bool) → Array Bool → Bool
  | [], listed => (Region.ready md ops listed).isEmpty
  | (i, true) :: r, listed => (Region.ready md ops listed).contains i && Region.free md ops listed i && planOk md ops r (listed.setIfInBounds i true)
  | (i, false) :: r, listed => (Region.ready md ops listed == [i]) && planOk md ops r (listed.setIfInBounds i true)

/-- The plan's walk. -/
def wpPlan (P : Program) (ops : Array Oper) (R : Act → World → Prop) : List (Nat × Bool) → Act → World → Prop
  | [], a, w => R a w
  | (i, true) :: r, a, w => ∃ o v, ops[i]? = some o ∧ YieldsIf P ops (fun u => Below w.heap.size w u) o v a ∧ wpPlan P ops R r (a.put o.dst v) w
  | (i, false) :: r, a, w => wpOp P ops (Ends R) i (fun a' w' => Below w.heap.size w w' ∧ wpPlan P ops R r a' w') a w

theorem plan_sound (hsel : Region.noSelect ops = true) : ∀ (plan : List (Nat × Bool)) (listed : Array Bool) (a : Act) (w : World), planOk md ops plan listed = true → wpPlan P ops R plan a w → wpAnyB P md ops R plan.length listed a w
  | [], listed, a, w, hp, h => ⟨by simpa [planOk] using hp, h⟩
  | (i, true) :: r, listed, a, w, hp, ⟨o, v, hi, hy, h⟩ => by
    simp only [planOk, Bool.and_eq_true] at hp
    exact wpAnyB_first hi (Region.noSelect_spec hsel) r.length listed a w (Region.free_spec hi hp.1.2) (by simpa using hp.1.1) hy (plan_sound hsel r _ _ w hp.2 h)
  | (i, false) :: r, listed, a, w, hp, h => by
    simp only [planOk, Bool.and_eq_true, beq_iff_eq] at hp
    refine ⟨fun h0 => (by rw [hp.1] at h0; cases h0), fun j hj => ?_⟩
    rw [hp.1] at hj
    obtain rfl : j = i := by simpa using hj
    exact wpOp_mono (fun a' w' h' => ⟨h'.1, plan_sound hsel r _ a' w' hp.2 h'.2⟩) h

/-- The beginning. -/
theorem wp_region_plan {id : Nat} {Q : Exit → Act → World → Prop} {a : Act} {w : World} (plan : List (Nat × Bool)) (hm : P.follows .mixedOrders = true) (hsel : Region.noSelect ops = true)
    (hp : planOk .any ops plan (Array.replicate ops.size false) = true) (hl : plan.length = ops.size) (hQ : ∀ a w, R a w → Q .normal a w)
    (h : wpPlan P ops R plan a w.drew) : (Code.region id ops true).wp P Q a w := by
  refine Code.wp_mono (Q := Ends R) (fun e a w hh => by obtain ⟨rfl, hr⟩ := hh; exact hQ a w hr) ?_
  refine wp_region_any hm (wpAny_of_B _ _ _ _ ?_)
  have h9 := plan_sound hsel plan (Array.replicate ops.size false) a _ hp h
  rw [hl] at h9
  exact h9

/-- The kinds of operations that yield a value, and no call. -/
def valued : Op → Bool
  | .move _ | .assign _ | .pick .. | .binOp .. | .unOp .. | .convert .. | .extract .. | .field .. | .load .. | .indexAddr .. | .index .. | .fieldAddr .. | .slice .. | .makeInterface .. => true
  | .call { callee := .builtin .len, .. } => true
  | _ => false

theorem run_value {s : Sem Value} {w w' : World} {n : Next} (h : (do pure (Next.value (← s)) : Sem Next).run P w = .ok n w') : ∃ x, n = .value x := by
  simp only [Sem.run_bind] at h
  cases hs : s.run P w with
  | ok x w1 =>
    rw [hs] at h
    simp only [Result.andThen_ok, Sem.run_pure, Result.ok.injEq] at h
    exact ⟨x, h.1.symm⟩
  | halt y w1 => rw [hs] at h; simp [Result.andThen] at h

theorem valued_run {ρ : Operand → Value} {o : Oper} (hv : valued o.op = true) {w w' : World} {n : Next} (h : (execOp ρ o).run P w = .ok n w') : ∃ x, n = .value x := by
  unfold execOp at h
  cases ho : o.op <;> rw [ho] at hv h <;> simp only [valued, Bool.false_eq_true] at hv
  case call c =>
    obtain ⟨callee, args, argTypes⟩ := c
    cases callee with
    | builtin b =>
      cases b <;> simp only [Bool.false_eq_true] at hv
      simp only [resolve, Sem.run_bind, Sem.run_pure, Result.andThen_ok, invoke, builtin] at h
      exact run_value (P := P) (s := Builtin.len_ _ _ _) (by simpa only [Sem.run_bind, Sem.run_pure] using h)
    | value f => simp at hv
    | invoke r n => simp at hv
  case pick c x y =>
    simp only [Sem.run_bind] at h
    cases hs : (asBool (ρ c)).run P w with
    | ok b w1 =>
      rw [hs] at h
      simp only [Result.andThen_ok, Sem.run_pure, Result.ok.injEq] at h
      exact ⟨_, h.1.symm⟩
    | halt y w1 => rw [hs] at h; simp [Result.andThen] at h
  all_goals first
    | exact run_value h
    | (simp only [Sem.run_pure, Result.ok.injEq] at h; exact ⟨_, h.1.symm⟩)

/-- Taken: the frame behind it, the world as it was. -/
def Took (a1 : Act) (w1 : World) : Exit → Act → World → Prop := fun e a w => e = .normal ∧ a = a1 ∧ w = w1

/-- Taken: what the walk of this one operation comes to, in every later world. -/
theorem plan_take {i : Nat} {r : List (Nat × Bool)} {a : Act} {w : World} {o : Oper} {d : Nat} (ho : ops[i]? = some o) (hd : o.dst = some d) (hle : Nat.ble (d + 1) a.tmps.size = true) (hv : valued o.op = true)
    (h : ∃ a1, (∀ w', Below w.heap.size w w' → wpList P ops (Took a1 w') [o] a w') ∧ wpPlan P ops R r a1 w) : wpPlan P ops R ((i, true) :: r) a w := by
  obtain ⟨a1, h1, h2⟩ := h
  have hlt : d < a.tmps.size := Nat.le_of_ble_eq_true hle
  have key : ∀ v, a.put (some d) v = a1 → a1.tmps.getD d undef = v := by
    rintro v rfl
    simp [Act.put, hlt]
  by_cases hw : Region.wanted o (yielded ops a.tmps) = true
  · have hrun : ∀ w', Below w.heap.size w w' → (execOp a.eval o).run P w' = .ok (.value (a1.tmps.getD d undef)) w' ∧ a.put o.dst (a1.tmps.getD d undef) = a1 := by
      intro w' hb
      have h := h1 w' hb
      simp only [wpList, hw, if_true] at h
      rcases h with h | ⟨_, a9, w9, h9, _⟩
      · unfold Oper.wp at h
        cases hr : (execOp a.eval o).run P w' with
        | ok n w'' =>
          obtain ⟨x, rfl⟩ := valued_run hv hr
          rw [hr] at h
          simp only [Oper.upon] at h
          obtain ⟨_, h3, h4⟩ := h
          rw [hd] at h3
          rw [key x h3, hd, h4]
          exact ⟨rfl, h3⟩
        | halt x w'' =>
          rw [hr] at h
          cases x <;> simp only [Oper.upon] at h
          cases h.1
      · cases h9
    refine ⟨o, a1.tmps.getD d undef, ho, Or.inl ⟨hw, fun w' hb => (hrun w' hb).1⟩, ?_⟩
    rw [(hrun w (Below.refl _ _)).2]
    exact h2
  · have h := h1 w (Below.refl _ _)
    simp only [wpList, hw] at h
    obtain ⟨_, h3, _⟩ := h
    refine ⟨o, undef, ho, Or.inr ⟨by simpa using hw, rfl⟩, ?_⟩
    rw [h3]
    exact h2

theorem put_undef {a : Act} {d : Nat} (hu : a.tmps[d]? = some undef) : a.put (some d) undef = a := by
  obtain ⟨t, ds⟩ := a
  simp only [Act.put, Act.mk.injEq, and_true]
  apply Array.ext_getElem?
  intro j
  rw [Array.getElem?_setIfInBounds]
  by_cases h : d = j
  · subst h
    simp only at hu
    have := (Array.getElem?_eq_some_iff.1 hu).1
    rw [if_pos rfl, if_pos this, hu]
  · rw [if_neg h]

/-- An operation whose guard says no, whose slot has not been written. -/
theorem plan_skip {i : Nat} {b : Bool} {r : List (Nat × Bool)} {a : Act} {w : World} {o : Oper} {d : Nat} (ho : ops[i]? = some o) (hd : o.dst = some d)
    (hw : Region.wanted o (yielded ops a.tmps) = false) (hu : a.tmps[d]? = some undef) (h : wpPlan P ops R r a w) : wpPlan P ops R ((i, b) :: r) a w := by
  cases b with
  | true => exact ⟨o, undef, ho, Or.inr ⟨hw, rfl⟩, by rw [hd, put_undef hu]; exact h⟩
  | false =>
    show wpOp P ops (Ends R) i _ a w
    unfold wpOp
    simp only [ho, hw, Bool.false_eq_true, if_false]
    rw [hd, put_undef hu]
    exact ⟨Below.refl _ _, h⟩

/-- Behind a step: what was there is as it was; the plan goes on. -/
def Stepped (P : Program) (ops : Array Oper) (R : Act → World → Prop) (r : List (Nat × Bool)) (w : World) : Exit → Act → World → Prop := fun e a' w' => e = .normal ∧ Below w.heap.size w w' ∧ wpPlan P ops R r a' w'

/-- A step that may make memory: a call, an append. -/
theorem plan_step {i : Nat} {r : List (Nat × Bool)} {a : Act} {w : World} {o : Oper} (ho : ops[i]? = some o)
    (h : wpList P ops (Stepped P ops R r w) [o] a w) : wpPlan P ops R ((i, false) :: r) a w := by
  show wpOp P ops (Ends R) i _ a w
  unfold wpOp
  simp only [ho]
  simp only [wpList] at h
  split
  · rename_i hw
    simp only [hw, if_true] at h
    left
    rcases h with h | ⟨_, a9, w9, h9, _⟩
    · unfold Oper.wp at *
      generalize (execOp a.eval o).run P w = q at *
      cases q with
      | ok n w' =>
        cases n <;> simp only [Oper.upon] at h ⊢
        case value v => exact h.2
        case skip => exact h.2
        case defer d => exact h.2
        case enter f args =>
          refine h.mono fun e w'' he => ?_
          cases e with
          | returned v => exact he.2
          | panicked c => cases he.1
          | outgrown => obtain ⟨_, _, h9, _⟩ := he; cases h9
        case row row args => exact h.mono fun v w'' he => he.2
      | halt x w' => cases x <;> simp only [Oper.upon] at h; cases h.1
    · cases h9
  · rename_i hw
    simp only [hw] at h
    exact h.2
end

/-- The plan that takes what it can, in the text's order, and else steps. -/
def mkPlan (md : Region.Mode) (ops : Array Oper) : Nat → Array Bool → List (Nat × Bool)
  | 0, _ => []
  | f + 1, listed =>
    match (Region.ready md ops listed).find? fun i => valued ((ops.map (·.op)).getD i (.move (.const (.bool true)))) && Region.free md ops listed i with
    | some i => (i, true) :: mkPlan md ops f (listed.setIfInBounds i true)
    | none => match Region.ready md ops listed with
      | i :: _ => (i, false) :: mkPlan md ops f (listed.setIfInBounds i true)
      | [] => []
end Go.Proofs.Ytippbkooaonajaa
