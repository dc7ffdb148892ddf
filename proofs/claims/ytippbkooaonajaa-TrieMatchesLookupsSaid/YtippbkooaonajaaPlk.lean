/-
  A region that draws its order, walked along a tree of plans (XPlt), where each step leaves the blocks of a set O as they were; the same within a round of a range over a function. Nothing of a program is named here.
-/
import Derived.Test.YtippbkooaonajaaPlt
import Derived.Test.YtippbkooaonajaaKep
import Derived.Test.YtippbkooaonajaaAgg
import Derived.OrdersIn
namespace Go.Proofs.Ytippbkooaonajaa
open Go.RowKit
set_option linter.unusedVariables false
set_option linter.unusedSimpArgs false

section
variable {P : Program} {md : Region.Mode} {ops : Array Oper} {R : Act → World → Prop} {O : Nat → Prop}

/-- Whatever order is picked; each operation leaves the blocks below 'O' as they were. -/
def wpAnyK (O : Nat → Prop) (P : Program) (md : Region.Mode) (ops : Array Oper) (R : Act → World → Prop) : Nat → Array Bool → Act → World → Prop
  | 0, listed, a, w => Region.ready md ops listed = [] ∧ R a w
  | fuel + 1, listed, a, w =>
    (Region.ready md ops listed = [] → R a w) ∧
    ∀ i ∈ Region.ready md ops listed, wpOp P ops (Ends R) i (fun a' w' => Keep O w w' ∧ wpAnyK O P md ops R fuel (listed.setIfInBounds i true) a' w') a w

theorem wpAny_of_K : ∀ (fuel : Nat) (listed : Array Bool) (a : Act) (w : World), wpAnyK O P md ops R fuel listed a w → wpAny P md ops (Ends R) fuel listed a w
  | 0, _, _, _, h => ⟨h.1, rfl, h.2⟩
  | fuel + 1, _, _, _, h => ⟨fun h0 => ⟨rfl, h.1 h0⟩, fun i hi => wpOp_mono (fun a' w' h' => wpAny_of_K fuel _ a' w' h'.2) (h.2 i hi)⟩

theorem YieldsIf.laterK {o : Oper} {v : Value} {a : Act} {w w' : World} (h : YieldsIf P ops (fun u => Keep O w u) o v a) (hb : Keep O w w') :
    YieldsIf P ops (fun u => Keep O w' u) o v a :=
  h.imp (fun ⟨h1, h2⟩ => ⟨h1, fun u hu => h2 u (hb.trans hu)⟩) id

theorem wpAnyK_first {i : Nat} {oi : Oper} {v : Value} (hi : ops[i]? = some oi) (hsel : ∀ (j : Nat) (o : Oper) cs b, ops[j]? = some o → o.op ≠ .select cs b) :
    ∀ (fuel : Nat) (listed : Array Bool) (a : Act) (w : World),
      (∀ j oj, ops[j]? = some oj → j ≠ i → listed.getD j true = false → (∀ e ∈ oj.after, Region.binds md e = true → e.on ≠ i) → oi.apart ops oj = true) →
      i ∈ Region.ready md ops listed → YieldsIf P ops (fun u => Keep O w u) oi v a →
      wpAnyK O P md ops R fuel (listed.setIfInBounds i true) (a.put oi.dst v) w → wpAnyK O P md ops R (fuel + 1) listed a w := by
  intro fuel
  induction fuel with
  | zero =>
    intro listed a w _ hr hy H
    refine ⟨fun h => (by rw [h] at hr; cases hr), fun j hj => ?_⟩
    by_cases hji : j = i
    · subst hji; exact hy.wpOp hi (Keep.refl _ _) ⟨Keep.refl _ _, H⟩
    · have := ready_mono hj hji
      rw [H.1] at this
      cases this
  | succ fuel ih =>
    intro listed a w hfree hr hy H
    refine ⟨fun h => (by rw [h] at hr; cases hr), fun j hj => ?_⟩
    by_cases hji : j = i
    · subst hji; exact hy.wpOp hi (Keep.refl _ _) ⟨Keep.refl _ _, H⟩
    have h1 := H.2 j (ready_mono hj hji)
    obtain ⟨hjun, oj, hoj, hall⟩ := mem_ready.1 hj
    have hnot : ∀ e ∈ oj.after, Region.binds md e = true → e.on ≠ i := by
      intro e he hb heq
      have g1 := hall e he hb
      have g0 := (mem_ready.1 hr).1
      rw [heq] at g1
      by_cases hs : i < listed.size
      · simp [hs] at g0 g1; rw [g0] at g1; cases g1
      · simp [Array.getElem?_eq_none (by omega : listed.size ≤ i)] at g1
    have h2 := wpOp_putIf hoj (hfree j oj hoj hji hjun hnot) (fun cs b => hsel i oi cs b hi) (fun cs b => hsel j oj cs b hoj) (fun c a w h => by cases h.1) hy h1
    refine wpOp_mono (fun a' w' h3 => ⟨h3.2.1, ih (listed.setIfInBounds j true) a' w' ?_ (ready_mono hr (Ne.symm hji)) (YieldsIf.laterK h3.1 h3.2.1) ?_⟩) h2
    · intro k ok hk hki hun hno
      refine hfree k ok hk hki ?_ hno
      by_cases hjk : j = k
      · subst hjk; exact hjun
      · rw [getD_set_ne true hjk] at hun; exact hun
    · rw [Array.setIfInBounds_comm _ _ hji]
      exact h3.2.2


/-- The tree's walk. -/
def wpPTK (O : Nat → Prop) (P : Program) (ops : Array Oper) (R : Act → World → Prop) : PT → Act → World → Prop
  | .done, a, w => R a w
  | .take i r, a, w => ∃ o v, ops[i]? = some o ∧ YieldsIf P ops (fun u => Keep O w u) o v a ∧ wpPTK O P ops R r (a.put o.dst v) w
  | .step i r, a, w => wpOp P ops (Ends R) i (fun a' w' => Keep O w w' ∧ wpPTK O P ops R r a' w') a w
  | .two i r j s, a, w => wpOp P ops (Ends R) i (fun a' w' => Keep O w w' ∧ wpPTK O P ops R r a' w') a w ∧ wpOp P ops (Ends R) j (fun a' w' => Keep O w w' ∧ wpPTK O P ops R s a' w') a w

theorem ptk_sound (hsel : Region.noSelect ops = true) : ∀ (p : PT) (f : Nat) (listed : Array Bool) (a : Act) (w : World), p.ok md ops f listed = true → wpPTK O P ops R p a w → wpAnyK O P md ops R f listed a w
  | .done, f, listed, a, w, hp, h => by
    simp only [PT.ok, Bool.and_eq_true] at hp
    obtain rfl : f = 0 := Nat.eq_of_beq_eq_true hp.1
    exact ⟨by simpa using hp.2, h⟩
  | .take i r, f, listed, a, w, hp, ⟨o, v, hi, hy, h⟩ => by
    simp only [PT.ok, Bool.and_eq_true] at hp
    obtain ⟨f, rfl⟩ : ∃ g, f = g + 1 := ⟨f - 1, by have := Nat.le_of_ble_eq_true hp.1.1.1; omega⟩
    exact wpAnyK_first hi (Region.noSelect_spec hsel) f listed a w (Region.free_spec hi hp.1.2) (by simpa using hp.1.1.2) hy (ptk_sound hsel r f _ _ w hp.2 h)
  | .step i r, f, listed, a, w, hp, h => by
    simp only [PT.ok, Bool.and_eq_true, beq_iff_eq] at hp
    obtain ⟨f, rfl⟩ : ∃ g, f = g + 1 := ⟨f - 1, by have := Nat.le_of_ble_eq_true hp.1.1; omega⟩
    refine ⟨fun h0 => (by rw [hp.1.2] at h0; cases h0), fun j hj => ?_⟩
    rw [hp.1.2] at hj
    obtain rfl : j = i := by simpa using hj
    exact wpOp_mono (fun a' w' h' => ⟨h'.1, ptk_sound hsel r f _ a' w' hp.2 h'.2⟩) h
  | .two i r j s, f, listed, a, w, hp, ⟨h1, h2⟩ => by
    simp only [PT.ok, Bool.and_eq_true, beq_iff_eq] at hp
    obtain ⟨f, rfl⟩ : ∃ g, f = g + 1 := ⟨f - 1, by have := Nat.le_of_ble_eq_true hp.1.1.1; omega⟩
    refine ⟨fun h0 => (by rw [hp.1.1.2] at h0; cases h0), fun k hk => ?_⟩
    rw [hp.1.1.2] at hk
    have hk' : k = i ∨ k = j := by simpa using hk
    rcases hk' with rfl | rfl
    · exact wpOp_mono (fun a' w' h' => ⟨h'.1, ptk_sound hsel r f _ a' w' hp.1.2 h'.2⟩) h1
    · exact wpOp_mono (fun a' w' h' => ⟨h'.1, ptk_sound hsel s f _ a' w' hp.2 h'.2⟩) h2

/-- The beginning. -/
theorem wp_region_ptk (O : Nat → Prop) {id : Nat} {Q : Exit → Act → World → Prop} {a : Act} {w : World} (p : PT) (hm : P.follows .mixedOrders = true) (hsel : Region.noSelect ops = true)
    (hp : p.ok .any ops ops.size (Array.replicate ops.size false) = true) (hQ : ∀ a w, R a w → Q .normal a w)
    (h : wpPTK O P ops R p a w.drew) : (Code.region id ops true).wp P Q a w := by
  refine Code.wp_mono (Q := Ends R) (fun e a w hh => by obtain ⟨rfl, hr⟩ := hh; exact hQ a w hr) ?_
  exact wp_region_any hm (wpAny_of_K _ _ _ _ (ptk_sound hsel p ops.size (Array.replicate ops.size false) a _ hp h))

/-- Taken: what the walk of this one operation comes to, in every later world. -/
theorem ptk_take {i : Nat} {r : PT} {a : Act} {w : World} {o : Oper} {d : Nat} (ho : ops[i]? = some o) (hd : o.dst = some d) (hle : Nat.ble (d + 1) a.tmps.size = true) (hv : valued o.op = true)
    (h : ∃ a1, (∀ w', Keep O w w' → wpList P ops (Took a1 w') [o] a w') ∧ wpPTK O P ops R r a1 w) : wpPTK O P ops R (.take i r) a w := by
  obtain ⟨a1, h1, h2⟩ := h
  have hlt : d < a.tmps.size := Nat.le_of_ble_eq_true hle
  have key : ∀ v, a.put (some d) v = a1 → a1.tmps.getD d undef = v := by
    rintro v rfl
    simp [Act.put, hlt]
  by_cases hw : Region.wanted o (yielded ops a.tmps) = true
  · have hrun : ∀ w', Keep O w w' → (execOp a.eval o).run P w' = .ok (.value (a1.tmps.getD d undef)) w' ∧ a.put o.dst (a1.tmps.getD d undef) = a1 := by
      intro w' hb
      have h := h1 w' hb
      simp only [wpList, hw, if_true] at h
      rcases h with h | ⟨_, a9, w9, h9, _⟩
      · unfold Oper.wp at h
        cases hr : (execOp a.eval o).run P w' with
        | ok n w'' =>
          obtain ⟨x, rfl⟩ := valued_run hv hr
          rw [hr] at h
          simp only [Oper.upon] at h
          obtain ⟨_, h3, h4⟩ := h
          rw [hd] at h3
          rw [key x h3, hd, h4]
          exact ⟨rfl, h3⟩
        | halt x w'' =>
          rw [hr] at h
          cases x <;> simp only [Oper.upon] at h
          cases h.1
      · cases h9
    refine ⟨o, a1.tmps.getD d undef, ho, Or.inl ⟨hw, fun w' hb => (hrun w' hb).1⟩, ?_⟩
    rw [(hrun w (Keep.refl _ _)).2]
    exact h2
  · have h := h1 w (Keep.refl _ _)
    simp only [wpList, hw] at h
    obtain ⟨_, h3, _⟩ := h
    refine ⟨o, undef, ho, Or.inr ⟨by simpa using hw, rfl⟩, ?_⟩
    rw [h3]
    exact h2

theorem ptk_skip {i : Nat} {r : PT} {a : Act} {w : World} {o : Oper} {d : Nat} (ho : ops[i]? = some o) (hd : o.dst = some d)
    (hw : Region.wanted o (yielded ops a.tmps) = false) (hu : a.tmps[d]? = some undef) (h : wpPTK O P ops R r a w) : wpPTK O P ops R (.take i r) a w :=
  ⟨o, undef, ho, Or.inr ⟨hw, rfl⟩, by rw [hd, put_undef hu]; exact h⟩

/-- Behind a step. -/
def SteppedO (O : Nat → Prop) (K : Act → World → Prop) (w : World) : Exit → Act → World → Prop := fun e a' w' => e = .normal ∧ Keep O w w' ∧ K a' w'

theorem stepk_gen {K : Act → World → Prop} {i : Nat} {a : Act} {w : World} {o : Oper} (ho : ops[i]? = some o)
    (h : wpList P ops (SteppedO O K w) [o] a w) : wpOp P ops (Ends R) i (fun a' w' => Keep O w w' ∧ K a' w') a w := by
  unfold wpOp
  simp only [ho]
  simp only [wpList] at h
  split
  · rename_i hw
    simp only [hw, if_true] at h
    left
    rcases h with h | ⟨_, a9, w9, h9, _⟩
    · unfold Oper.wp at *
      generalize (execOp a.eval o).run P w = q at *
      cases q with
      | ok n w' =>
        cases n <;> simp only [Oper.upon] at h ⊢
        case value v => exact h.2
        case skip => exact h.2
        case defer d => exact h.2
        case enter f args =>
          refine h.mono fun e w'' he => ?_
          cases e with
          | returned v => exact he.2
          | panicked c => cases he.1
          | outgrown => obtain ⟨_, _, h9, _⟩ := he; cases h9
        case row row args => exact h.mono fun v w'' he => he.2
      | halt x w' => cases x <;> simp only [Oper.upon] at h; cases h.1
    · cases h9
  · rename_i hw
    simp only [hw] at h
    exact h.2

theorem ptk_step {i : Nat} {r : PT} {a : Act} {w : World} {o : Oper} (ho : ops[i]? = some o) (h : wpList P ops (SteppedO O (wpPTK O P ops R r) w) [o] a w) : wpPTK O P ops R (.step i r) a w := stepk_gen ho h
theorem ptk_two {i j : Nat} {r s : PT} {a : Act} {w : World} {o u : Oper} (ho : ops[i]? = some o) (hu : ops[j]? = some u) (h1 : wpList P ops (SteppedO O (wpPTK O P ops R r) w) [o] a w) (h2 : wpList P ops (SteppedO O (wpPTK O P ops R s) w) [u] a w) :
    wpPTK O P ops R (.two i r j s) a w := ⟨stepk_gen ho h1, stepk_gen hu h2⟩
end

section
variable {P : Program} {ops : Array Oper}

def noDefer (ops : Array Oper) : Bool := ops.all fun o => match o.op with | .defer _ => false | _ => true
theorem noDefer_spec (h : noDefer ops = true) (i : Nat) (o : Oper) (ho : ops[i]? = some o) : ∀ c, o.op ≠ .defer c := by
  intro c hc
  have hm : o ∈ ops := Array.mem_of_getElem? ho
  have h2 := Array.all_eq_true_iff_forall_mem.1 h o hm
  rw [hc] at h2
  cases h2

theorem rows_wide {n : Nat} {row : String} {args : Array Value} {w : World} {R : Value → World → Prop} (h : Rows P row args w R) : RowsIn Fence.wide n P row args w R :=
  fun c cs _ => let ⟨v, w', r, s⟩ := h c cs; ⟨v, w', r, stepsIn_wide.2 s⟩

theorem oper_round {o : Oper} {a : Act} {w : World} {K : Act → World → Prop} {Q : Exit → Act → World → Prop} (l : Nat) (hnd : ∀ c, o.op ≠ .defer c) (h : o.wp P a w K Q) : o.wpIn (Fence.wide.inRound l) 0 P a w K Q := by
  unfold Oper.wpIn
  refine ⟨fun _ _ => trivial, ?_⟩
  rw [Oper.semAt_plain _ _ _ hnd]
  unfold Oper.wp at h
  generalize (execOp a.eval o).run P w = q at *
  cases q with
  | ok n w' =>
    cases n <;> simp only [Oper.upon, Oper.uponIn] at h ⊢
    case value v => exact h
    case skip => exact h
    case defer d => exact h
    case enter f args => exact ⟨fun hh => (by simp [Fence.wide] at hh), callsIn_wide.2 h⟩
    case row row args => exact ⟨fun hh => (by simp [Fence.wide] at hh), rows_wide h⟩
  | halt x w' => cases x <;> simp only [Oper.upon, Oper.uponIn] at h ⊢ <;> exact h

theorem wpOp_round {i : Nat} {a : Act} {w : World} {K : Act → World → Prop} {R : Act → World → Prop} (l : Nat) (hnd : noDefer ops = true) (h : wpOp P ops (Ends R) i K a w) : wpOpIn (Fence.wide.inRound l) 0 P ops (Ends R) i K a w := by
  unfold wpOp at h
  unfold wpOpIn
  split
  · rename_i ho; simpa only [ho] using h
  · rename_i o ho
    simp only [ho] at h
    split
    · rename_i hw
      simp only [hw, if_true] at h
      rcases h with h | ⟨_, a9, w9, h9, _⟩
      · exact oper_round l (noDefer_spec hnd i o ho) h
      · cases h9
    · rename_i hw
      simp only [hw] at h
      exact ⟨fun _ _ => trivial, h⟩

theorem wpAny_round {md : Region.Mode} {R : Act → World → Prop} (l : Nat) (hnd : noDefer ops = true) : ∀ (fuel : Nat) (listed : Array Bool) (a : Act) (w : World), wpAny P md ops (Ends R) fuel listed a w → wpAnyIn (Fence.wide.inRound l) 0 P md ops (Ends R) fuel listed a w
  | 0, _, _, _, h => h
  | fuel + 1, _, _, _, h => ⟨h.1, fun i hi => wpOp_round l hnd (wpOp_mono (fun a' w' h' => wpAny_round l hnd fuel _ a' w' h') (h.2 i hi))⟩

/-- The beginning, in a round. -/
theorem wpi_region_ptk {l : Nat} (O : Nat → Prop) {R : Act → World → Prop} {id : Nat} {Q : Exit → Act → World → Prop} {a : Act} {w : World} (p : PT) (hm : P.follows .mixedOrders = true) (hsel : Region.noSelect ops = true) (hnd : noDefer ops = true)
    (hp : p.ok .any ops ops.size (Array.replicate ops.size false) = true) (hQ : ∀ a w, R a w → Q .normal a w)
    (h : wpPTK O P ops R p a w.drew) : (Code.region id ops true).wpIn (Fence.wide.inRound l) 0 P Q a w := by
  refine wpIn_mono (Q := Ends R) ?_ (fun e a w hh => by obtain ⟨rfl, hr⟩ := hh; exact hQ a w hr)
  exact wpIn_region_any hm (wpAny_round l hnd _ _ _ _ (wpAny_of_K _ _ _ _ (ptk_sound hsel p ops.size (Array.replicate ops.size false) a _ hp h)))

section
variable {F : Fence} {n : Nat} {rest : List Oper} {o : Oper} {a : Act} {Q : Exit → Act → World → Prop} {w w' : World}
/-- An operation within a fence whose run is known. -/
theorem wpi_val {v : Value} (hg : o.guard = none) (hnd : ∀ c, o.op ≠ .defer c) (hab : o.about P w a.eval = none) (hr : (execOp a.eval o).run P w = .ok (.value v) w')
    (h : wpListIn F n P ops Q rest (a.put o.dst v) w') : wpListIn F n P ops Q (o :: rest) a w := by
  refine wpListIn_plain hg fun K hK => ?_
  unfold Oper.wpIn
  refine ⟨fun f hf => (by rw [hab] at hf; cases hf), ?_⟩
  rw [Oper.semAt_plain F _ _ hnd, hr]
  simp only [Oper.uponIn_value]
  exact hK _ _ h
/-- The store of a whole array, within a fence. -/
theorem wpi_storeA (ty : TypeId) (x y : Operand) (ho : o.op = .store ty x y) (hgd : o.guard = none)
    (g : Nat) (hx : a.eval x = .pointer (some ⟨g, 0, none⟩)) (t : TypeId) (l l' : List Value) (hy : a.eval y = .agg l'.toArray) (hg : Blk w g t l)
    (hi : (P.info? ty).map (·.size) = some l'.length) (hl : l.length = l'.length) (h1 : ∀ v ∈ l', v.oneCell' = true)
    (hdst : o.dst = none) (h : ∀ w', Blk w' g t l' → Keep (fun k => k ≠ g) w w' → wpListIn F n P ops Q rest a w') : wpListIn F n P ops Q (o :: rest) a w := by
  have hp : a.put o.dst undef = a := by rw [hdst]; rfl
  rw [← hp] at h
  refine wpListIn_plain hgd fun K hK => ?_
  unfold Oper.wpIn
  refine ⟨fun f hf => (by simp [Oper.about, ho] at hf), ?_⟩
  rw [Oper.semAt_plain F _ _ (fun c hc => (by rw [ho] at hc; cases hc))]
  unfold execOp
  simp only [ho, hx, hy, hp, Instr.storeAt, Instr.sureAddr, Sem.run_bind, Sem.run_pure, Result.andThen_ok, run_storeA hg hi hl h1]
  exact hK _ _ (by have h := h _ (hg.setRow l') (keep_setRow w g _ _ (fun h => h rfl)); rwa [hp] at h ⊢)
end

/-- The store of a one-cell value into a block. -/
theorem wp_storeC {rest : List Oper} {o : Oper} {a : Act} {w : World} {Q : Exit → Act → World → Prop} (ty : TypeId) (x y : Operand) (ho : o.op = .store ty x y) (hgd : o.guard = none)
    (g k : Nat) (hx : a.eval x = .pointer (some ⟨g, k, none⟩)) (t : TypeId) (l : List Value) (u : Value) (hu1 : u.cells = #[u]) (hu2 : u.oneCell' = true) (hy : a.eval y = u) (hg : Blk w g t l) (hk : k < l.length)
    (hz : (P.info? ty).map (·.size) = some 1) (hdst : o.dst = none) (h : ∀ w', Blk w' g t (l.set k u) → Keep (fun k => k ≠ g) w w' → wpList P ops Q rest a w') : wpList P ops Q (o :: rest) a w := by
  have hp : a.put o.dst undef = a := by rw [hdst]; rfl
  rw [← hp] at h
  have hc : w.cell? ⟨g, k, none⟩ = some l[k] := hg.cell (List.getElem?_eq_getElem hk)
  have hf := hg.frozen k
  have hst := run_storeCells_cells (P := P) g k [u] 0 w (fun j hj => by
      obtain rfl : j = 0 := by simpa using hj
      simp [hc]) (fun j hj => by
      obtain rfl : j = 0 := by simpa using hj
      simpa using hf) (fun v hv => by simp at hv; subst hv; exact hu2)
  obtain ⟨i, hq, hs⟩ := Option.map_eq_some_iff.1 hz
  have hrun : (storeVar ty ⟨g, k, none⟩ u).run P w = .ok () (w.setCell ⟨g, k, none⟩ u) := by
    simp only [Nat.add_zero, World.setCells] at hst
    simp [storeVar, sizeOf, typeInfo, hq, hs, hu1, hst]
  refine wpList_plain hgd fun K hK => ?_
  unfold Oper.wp execOp
  simp only [ho, hx, hy, hp, Instr.storeAt, Instr.sureAddr, Sem.run_bind, Sem.run_pure, Result.andThen_ok, hrun]
  exact hK _ _ (by have h := h _ (hg.set k _) (Keep.setCell w ⟨g, k, none⟩ _ (fun h => h rfl)); rwa [hp] at h ⊢)
end
end Go.Proofs.Ytippbkooaonajaa
