/-
  A region that draws its order, walked along a tree of plans: where two operations that lay memory may come in either order, both orders are walked. Each step leaves the blocks below a fixed 'base' as they were; what lies from 'base' on it may turn. Nothing of a program is named here.
-/
import Derived.Test.YtippbkooaonajaaPlan
namespace Go.Proofs.Ytippbkooaonajaa
open Go.RowKit
set_option linter.unusedVariables false
set_option linter.unusedSimpArgs false

/-- A tree of plans: take a value; a step that alone is ready; two steps that are ready. -/
inductive PT where
  | done
  | take (i : Nat) (r : PT)
  | step (i : Nat) (r : PT)
  | two (i : Nat) (r : PT) (j : Nat) (s : PT)

section
variable {P : Program} {md : Region.Mode} {ops : Array Oper} {R : Act → World → Prop} {base : Nat}

/-- Whatever order is picked; each operation leaves the blocks below 'base' as they were. -/
def wpAnyF (base : Nat) (P : Program) (md : Region.Mode) (ops : Array Oper) (R : Act → World → Prop) : Nat → Array Bool → Act → World → Prop
  | 0, listed, a, w => Region.ready md ops listed = [] ∧ R a w
  | fuel + 1, listed, a, w =>
    (Region.ready md ops listed = [] → R a w) ∧
    ∀ i ∈ Region.ready md ops listed, wpOp P ops (Ends R) i (fun a' w' => Below base w w' ∧ wpAnyF base P md ops R fuel (listed.setIfInBounds i true) a' w') a w

theorem wpAny_of_F : ∀ (fuel : Nat) (listed : Array Bool) (a : Act) (w : World), wpAnyF base P md ops R fuel listed a w → wpAny P md ops (Ends R) fuel listed a w
  | 0, _, _, _, h => ⟨h.1, rfl, h.2⟩
  | fuel + 1, _, _, _, h => ⟨fun h0 => ⟨rfl, h.1 h0⟩, fun i hi => wpOp_mono (fun a' w' h' => wpAny_of_F fuel _ a' w' h'.2) (h.2 i hi)⟩

theorem YieldsIf.laterF {o : Oper} {v : Value} {a : Act} {w w' : World} (h : YieldsIf P ops (fun u => Below base w u) o v a) (hb : Below base w w') :
    YieldsIf P ops (fun u => Below base w' u) o v a :=
  h.imp (fun ⟨h1, h2⟩ => ⟨h1, fun u hu => h2 u (hb.trans hu)⟩) id

theorem wpAnyF_first {i : Nat} {oi : Oper} {v : Value} (hi : ops[i]? = some oi) (hsel : ∀ (j : Nat) (o : Oper) cs b, ops[j]? = some o → o.op ≠ .select cs b) :
    ∀ (fuel : Nat) (listed : Array Bool) (a : Act) (w : World),
      (∀ j oj, ops[j]? = some oj → j ≠ i → listed.getD j true = false → (∀ e ∈ oj.after, Region.binds md e = true → e.on ≠ i) → oi.apart ops oj = true) →
      i ∈ Region.ready md ops listed → YieldsIf P ops (fun u => Below base w u) oi v a →
      wpAnyF base P md ops R fuel (listed.setIfInBounds i true) (a.put oi.dst v) w → wpAnyF base P md ops R (fuel + 1) listed a w := by
  intro fuel
  induction fuel with
  | zero =>
    intro listed a w _ hr hy H
    refine ⟨fun h => (by rw [h] at hr; cases hr), fun j hj => ?_⟩
    by_cases hji : j = i
    · subst hji; exact hy.wpOp hi (Below.refl _ _) ⟨Below.refl _ _, H⟩
    · have := ready_mono hj hji
      rw [H.1] at this
      cases this
  | succ fuel ih =>
    intro listed a w hfree hr hy H
    refine ⟨fun h => (by rw [h] at hr; cases hr), fun j hj => ?_⟩
    by_cases hji : j = i
    · subst hji; exact hy.wpOp hi (Below.refl _ _) ⟨Below.refl _ _, H⟩
    have h1 := H.2 j (ready_mono hj hji)
    obtain ⟨hjun, oj, hoj, hall⟩ := mem_ready.1 hj
    have hnot : ∀ e ∈ oj.after, Region.binds md e = true → e.on ≠ i := by
      intro e he hb heq
      have g1 := hall e he hb
      have g0 := (mem_ready.1 hr).1
      rw [heq] at g1
      by_cases hs : i < listed.size
      · simp [hs] at g0 g1; rw [g0] at g1; cases g1
      · simp [Array.getElem?_eq_none (by omega : listed.size ≤ i)] at g1
    have h2 := wpOp_putIf hoj (hfree j oj hoj hji hjun hnot) (fun cs b => hsel i oi cs b hi) (fun cs b => hsel j oj cs b hoj) (fun c a w h => by cases h.1) hy h1
    refine wpOp_mono (fun a' w' h3 => ⟨h3.2.1, ih (listed.setIfInBounds j true) a' w' ?_ (ready_mono hr (Ne.symm hji)) (YieldsIf.laterF h3.1 h3.2.1) ?_⟩) h2
    · intro k ok hk hki hun hno
      refine hfree k ok hk hki ?_ hno
      by_cases hjk : j = k
      · subst hjk; exact hjun
      · rw [getD_set_ne true hjk] at hun; exact hun
    · rw [Array.setIfInBounds_comm _ _ hji]
      exact h3.2.2


def PT.ok (md : Region.Mode) (ops : Array Oper) : PT → Nat → Array Bool → Bool
  | .done, f, listed => Nat.beq f 0 && (Region.ready md ops listed).isEmpty
  | .take i r, f, listed => Nat.ble 1 f && (Region.ready md ops listed).contains i && Region.free md ops listed i && r.ok md ops (f - 1) (listed.setIfInBounds i true)
  | .step i r, f, listed => Nat.ble 1 f && (Region.ready md ops listed == [i]) && r.ok md ops (f - 1) (listed.setIfInBounds i true)
  | .two i r j s, f, listed => Nat.ble 1 f && (Region.ready md ops listed == [i, j]) && r.ok md ops (f - 1) (listed.setIfInBounds i true) && s.ok md ops (f - 1) (listed.setIfInBounds j true)

/-- The tree's walk. -/
def wpPT (base : Nat) (P : Program) (ops : Array Oper) (R : Act → World → Prop) : PT → Act → World → Prop
  | .done, a, w => R a w
  | .take i r, a, w => ∃ o v, ops[i]? = some o ∧ YieldsIf P ops (fun u => Below base w u) o v a ∧ wpPT base P ops R r (a.put o.dst v) w
  | .step i r, a, w => wpOp P ops (Ends R) i (fun a' w' => Below base w w' ∧ wpPT base P ops R r a' w') a w
  | .two i r j s, a, w => wpOp P ops (Ends R) i (fun a' w' => Below base w w' ∧ wpPT base P ops R r a' w') a w ∧ wpOp P ops (Ends R) j (fun a' w' => Below base w w' ∧ wpPT base P ops R s a' w') a w

theorem pt_sound (hsel : Region.noSelect ops = true) : ∀ (p : PT) (f : Nat) (listed : Array Bool) (a : Act) (w : World), p.ok md ops f listed = true → wpPT base P ops R p a w → wpAnyF base P md ops R f listed a w
  | .done, f, listed, a, w, hp, h => by
    simp only [PT.ok, Bool.and_eq_true] at hp
    obtain rfl : f = 0 := Nat.eq_of_beq_eq_true hp.1
    exact ⟨by simpa using hp.2, h⟩
  | .take i r, f, listed, a, w, hp, ⟨o, v, hi, hy, h⟩ => by
    simp only [PT.ok, Bool.and_eq_true] at hp
    obtain ⟨f, rfl⟩ : ∃ g, f = g + 1 := ⟨f - 1, by have := Nat.le_of_ble_eq_true hp.1.1.1; omega⟩
    exact wpAnyF_first hi (Region.noSelect_spec hsel) f listed a w (Region.free_spec hi hp.1.2) (by simpa using hp.1.1.2) hy (pt_sound hsel r f _ _ w hp.2 h)
  | .step i r, f, listed, a, w, hp, h => by
    simp only [PT.ok, Bool.and_eq_true, beq_iff_eq] at hp
    obtain ⟨f, rfl⟩ : ∃ g, f = g + 1 := ⟨f - 1, by have := Nat.le_of_ble_eq_true hp.1.1; omega⟩
    refine ⟨fun h0 => (by rw [hp.1.2] at h0; cases h0), fun j hj => ?_⟩
    rw [hp.1.2] at hj
    obtain rfl : j = i := by simpa using hj
    exact wpOp_mono (fun a' w' h' => ⟨h'.1, pt_sound hsel r f _ a' w' hp.2 h'.2⟩) h
  | .two i r j s, f, listed, a, w, hp, ⟨h1, h2⟩ => by
    simp only [PT.ok, Bool.and_eq_true, beq_iff_eq] at hp
    obtain ⟨f, rfl⟩ : ∃ g, f = g + 1 := ⟨f - 1, by have := Nat.le_of_ble_eq_true hp.1.1.1; omega⟩
    refine ⟨fun h0 => (by rw [hp.1.1.2] at h0; cases h0), fun k hk => ?_⟩
    rw [hp.1.1.2] at hk
    have hk' : k = i ∨ k = j := by simpa using hk
    rcases hk' with rfl | rfl
    · exact wpOp_mono (fun a' w' h' => ⟨h'.1, pt_sound hsel r f _ a' w' hp.1.2 h'.2⟩) h1
    · exact wpOp_mono (fun a' w' h' => ⟨h'.1, pt_sound hsel s f _ a' w' hp.2 h'.2⟩) h2

/-- The beginning. -/
theorem wp_region_pt (base : Nat) {id : Nat} {Q : Exit → Act → World → Prop} {a : Act} {w : World} (p : PT) (hm : P.follows .mixedOrders = true) (hsel : Region.noSelect ops = true)
    (hp : p.ok .any ops ops.size (Array.replicate ops.size false) = true) (hQ : ∀ a w, R a w → Q .normal a w)
    (h : wpPT base P ops R p a w.drew) : (Code.region id ops true).wp P Q a w := by
  refine Code.wp_mono (Q := Ends R) (fun e a w hh => by obtain ⟨rfl, hr⟩ := hh; exact hQ a w hr) ?_
  exact wp_region_any hm (wpAny_of_F _ _ _ _ (pt_sound hsel p ops.size (Array.replicate ops.size false) a _ hp h))

/-- Taken: what the walk of this one operation comes to, in every later world. -/
theorem pt_take {i : Nat} {r : PT} {a : Act} {w : World} {o : Oper} {d : Nat} (ho : ops[i]? = some o) (hd : o.dst = some d) (hle : Nat.ble (d + 1) a.tmps.size = true) (hv : valued o.op = true)
    (h : ∃ a1, (∀ w', Below base w w' → wpList P ops (Took a1 w') [o] a w') ∧ wpPT base P ops R r a1 w) : wpPT base P ops R (.take i r) a w := by
  obtain ⟨a1, h1, h2⟩ := h
  have hlt : d < a.tmps.size := Nat.le_of_ble_eq_true hle
  have key : ∀ v, a.put (some d) v = a1 → a1.tmps.getD d undef = v := by
    rintro v rfl
    simp [Act.put, hlt]
  by_cases hw : Region.wanted o (yielded ops a.tmps) = true
  · have hrun : ∀ w', Below base w w' → (execOp a.eval o).run P w' = .ok (.value (a1.tmps.getD d undef)) w' ∧ a.put o.dst (a1.tmps.getD d undef) = a1 := by
      intro w' hb
      have h := h1 w' hb
      simp only [wpList, hw, if_true] at h
      rcases h with h | ⟨_, a9, w9, h9, _⟩
      · unfold Oper.wp at h
        cases hr : (execOp a.eval o).run P w' with
        | ok n w'' =>
          obtain ⟨x, rfl⟩ := valued_run hv hr
          rw [hr] at h
          simp only [Oper.upon] at h
          obtain ⟨_, h3, h4⟩ := h
          rw [hd] at h3
          rw [key x h3, hd, h4]
          exact ⟨rfl, h3⟩
        | halt x w'' =>
          rw [hr] at h
          cases x <;> simp only [Oper.upon] at h
          cases h.1
      · cases h9
    refine ⟨o, a1.tmps.getD d undef, ho, Or.inl ⟨hw, fun w' hb => (hrun w' hb).1⟩, ?_⟩
    rw [(hrun w (Below.refl _ _)).2]
    exact h2
  · have h := h1 w (Below.refl _ _)
    simp only [wpList, hw] at h
    obtain ⟨_, h3, _⟩ := h
    refine ⟨o, undef, ho, Or.inr ⟨by simpa using hw, rfl⟩, ?_⟩
    rw [h3]
    exact h2

theorem pt_skip {i : Nat} {r : PT} {a : Act} {w : World} {o : Oper} {d : Nat} (ho : ops[i]? = some o) (hd : o.dst = some d)
    (hw : Region.wanted o (yielded ops a.tmps) = false) (hu : a.tmps[d]? = some undef) (h : wpPT base P ops R r a w) : wpPT base P ops R (.take i r) a w :=
  ⟨o, undef, ho, Or.inr ⟨hw, rfl⟩, by rw [hd, put_undef hu]; exact h⟩

/-- Behind a step. -/
def SteppedK (base : Nat) (K : Act → World → Prop) (w : World) : Exit → Act → World → Prop := fun e a' w' => e = .normal ∧ Below base w w' ∧ K a' w'

theorem step_gen {K : Act → World → Prop} {i : Nat} {a : Act} {w : World} {o : Oper} (ho : ops[i]? = some o)
    (h : wpList P ops (SteppedK base K w) [o] a w) : wpOp P ops (Ends R) i (fun a' w' => Below base w w' ∧ K a' w') a w := by
  unfold wpOp
  simp only [ho]
  simp only [wpList] at h
  split
  · rename_i hw
    simp only [hw, if_true] at h
    left
    rcases h with h | ⟨_, a9, w9, h9, _⟩
    · unfold Oper.wp at *
      generalize (execOp a.eval o).run P w = q at *
      cases q with
      | ok n w' =>
        cases n <;> simp only [Oper.upon] at h ⊢
        case value v => exact h.2
        case skip => exact h.2
        case defer d => exact h.2
        case enter f args =>
          refine h.mono fun e w'' he => ?_
          cases e with
          | returned v => exact he.2
          | panicked c => cases he.1
          | outgrown => obtain ⟨_, _, h9, _⟩ := he; cases h9
        case row row args => exact h.mono fun v w'' he => he.2
      | halt x w' => cases x <;> simp only [Oper.upon] at h; cases h.1
    · cases h9
  · rename_i hw
    simp only [hw] at h
    exact h.2

theorem pt_step {i : Nat} {r : PT} {a : Act} {w : World} {o : Oper} (ho : ops[i]? = some o) (h : wpList P ops (SteppedK base (wpPT base P ops R r) w) [o] a w) : wpPT base P ops R (.step i r) a w := step_gen ho h
theorem pt_two {i j : Nat} {r s : PT} {a : Act} {w : World} {o u : Oper} (ho : ops[i]? = some o) (hu : ops[j]? = some u) (h1 : wpList P ops (SteppedK base (wpPT base P ops R r) w) [o] a w) (h2 : wpList P ops (SteppedK base (wpPT base P ops R s) w) [u] a w) :
    wpPT base P ops R (.two i r j s) a w := ⟨step_gen ho h1, step_gen hu h2⟩
end
end Go.Proofs.Ytippbkooaonajaa
