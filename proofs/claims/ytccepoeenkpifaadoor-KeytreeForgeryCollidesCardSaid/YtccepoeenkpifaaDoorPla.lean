/-
  A region that draws its order, walked along a tree of plans (XPlt), with one node more: several variables that are laid in any order. Nothing of a program is named here.
-/
import Derived.Test.YtccepoeenkpifaaDoorPlt
import Derived.Test.YtccepoeenkpifaaDoorAgg
namespace Go.Proofs.YtccepoeenkpifaaDoor
open Go.RowKit
set_option linter.unusedVariables false
set_option linter.unusedSimpArgs false

/-- A tree of plans; 'all L r': the allocations of L (operation, temporary) in any order. -/
inductive PB where
  | done
  | take (i : Nat) (r : PB)
  | step (i : Nat) (r : PB)
  | two (i : Nat) (r : PB) (j : Nat) (s : PB)
  | all (L : List (Nat × Nat)) (r : PB)

section
variable {P : Program} {md : Region.Mode} {ops : Array Oper} {R : Act → World → Prop} {base : Nat}

def okAll (md : Region.Mode) (ops : Array Oper) (k : Nat → Array Bool → Bool) : Nat → List (Nat × Nat) → Nat → Array Bool → Bool
  | 0, L, f, listed => L.isEmpty && k f listed
  | n + 1, L, f, listed => Nat.ble 1 f && !L.isEmpty && (Region.ready md ops listed == L.map (·.1)) && L.all fun x => okAll md ops k n (L.erase x) (f - 1) (listed.setIfInBounds x.1 true)

def wpAll (base : Nat) (P : Program) (ops : Array Oper) (R : Act → World → Prop) (K : Act → World → Prop) : Nat → List (Nat × Nat) → Act → World → Prop
  | 0, _, a, w => K a w
  | n + 1, L, a, w => ∀ x ∈ L, wpOp P ops (Ends R) x.1 (fun a' w' => Below base w w' ∧ wpAll base P ops R K n (L.erase x) a' w') a w

theorem all_sound {k : Nat → Array Bool → Bool} {K : Act → World → Prop} (hk : ∀ f listed a w, k f listed = true → K a w → wpAnyF base P md ops R f listed a w) :
    ∀ (n : Nat) (L : List (Nat × Nat)) (f : Nat) (listed : Array Bool) (a : Act) (w : World), okAll md ops k n L f listed = true → wpAll base P ops R K n L a w → wpAnyF base P md ops R f listed a w
  | 0, L, f, listed, a, w, hp, h => by
    simp only [okAll, Bool.and_eq_true] at hp
    exact hk f listed a w hp.2 h
  | n + 1, L, f, listed, a, w, hp, h => by
    simp only [okAll, Bool.and_eq_true, beq_iff_eq] at hp
    obtain ⟨f, rfl⟩ : ∃ g, f = g + 1 := ⟨f - 1, by have := Nat.le_of_ble_eq_true hp.1.1.1; omega⟩
    cases L with
    | nil => have := hp.1.1.2; simp at this
    | cons y L =>
      refine ⟨fun h0 => (by rw [hp.1.2] at h0; cases h0), fun j hj => ?_⟩
      rw [hp.1.2] at hj
      obtain ⟨x, hx, rfl⟩ := List.mem_map.1 hj
      have hx' := List.all_eq_true.1 hp.2 x hx
      exact wpOp_mono (fun a' w' h' => ⟨h'.1, all_sound hk n _ f _ a' w' hx' h'.2⟩) (h x hx)

def PB.ok (md : Region.Mode) (ops : Array Oper) : PB → Nat → Array Bool → Bool
  | .done, f, listed => Nat.beq f 0 && (Region.ready md ops listed).isEmpty
  | .take i r, f, listed => Nat.ble 1 f && (Region.ready md ops listed).contains i && Region.free md ops listed i && r.ok md ops (f - 1) (listed.setIfInBounds i true)
  | .step i r, f, listed => Nat.ble 1 f && (Region.ready md ops listed == [i]) && r.ok md ops (f - 1) (listed.setIfInBounds i true)
  | .two i r j s, f, listed => Nat.ble 1 f && (Region.ready md ops listed == [i, j]) && r.ok md ops (f - 1) (listed.setIfInBounds i true) && s.ok md ops (f - 1) (listed.setIfInBounds j true)
  | .all L r, f, listed => okAll md ops (fun f l => r.ok md ops f l) L.length L f listed

/-- The tree's walk. -/
def wpPB (base : Nat) (P : Program) (ops : Array Oper) (R : Act → World → Prop) : PB → Act → World → Prop
  | .done, a, w => R a w
  | .take i r, a, w => ∃ o v, ops[i]? = some o ∧ YieldsIf P ops (fun u => Below base w u) o v a ∧ wpPB base P ops R r (a.put o.dst v) w
  | .step i r, a, w => wpOp P ops (Ends R) i (fun a' w' => Below base w w' ∧ wpPB base P ops R r a' w') a w
  | .two i r j s, a, w => wpOp P ops (Ends R) i (fun a' w' => Below base w w' ∧ wpPB base P ops R r a' w') a w ∧ wpOp P ops (Ends R) j (fun a' w' => Below base w w' ∧ wpPB base P ops R s a' w') a w
  | .all L r, a, w => wpAll base P ops R (wpPB base P ops R r) L.length L a w

theorem pb_sound (hsel : Region.noSelect ops = true) : ∀ (p : PB) (f : Nat) (listed : Array Bool) (a : Act) (w : World), p.ok md ops f listed = true → wpPB base P ops R p a w → wpAnyF base P md ops R f listed a w
  | .done, f, listed, a, w, hp, h => by
    simp only [PB.ok, Bool.and_eq_true] at hp
    obtain rfl : f = 0 := Nat.eq_of_beq_eq_true hp.1
    exact ⟨by simpa using hp.2, h⟩
  | .take i r, f, listed, a, w, hp, ⟨o, v, hi, hy, h⟩ => by
    simp only [PB.ok, Bool.and_eq_true] at hp
    obtain ⟨f, rfl⟩ : ∃ g, f = g + 1 := ⟨f - 1, by have := Nat.le_of_ble_eq_true hp.1.1.1; omega⟩
    exact wpAnyF_first hi (Region.noSelect_spec hsel) f listed a w (Region.free_spec hi hp.1.2) (by simpa using hp.1.1.2) hy (pb_sound hsel r f _ _ w hp.2 h)
  | .step i r, f, listed, a, w, hp, h => by
    simp only [PB.ok, Bool.and_eq_true, beq_iff_eq] at hp
    obtain ⟨f, rfl⟩ : ∃ g, f = g + 1 := ⟨f - 1, by have := Nat.le_of_ble_eq_true hp.1.1; omega⟩
    refine ⟨fun h0 => (by rw [hp.1.2] at h0; cases h0), fun j hj => ?_⟩
    rw [hp.1.2] at hj
    obtain rfl : j = i := by simpa using hj
    exact wpOp_mono (fun a' w' h' => ⟨h'.1, pb_sound hsel r f _ a' w' hp.2 h'.2⟩) h
  | .two i r j s, f, listed, a, w, hp, ⟨h1, h2⟩ => by
    simp only [PB.ok, Bool.and_eq_true, beq_iff_eq] at hp
    obtain ⟨f, rfl⟩ : ∃ g, f = g + 1 := ⟨f - 1, by have := Nat.le_of_ble_eq_true hp.1.1.1; omega⟩
    refine ⟨fun h0 => (by rw [hp.1.1.2] at h0; cases h0), fun k hk => ?_⟩
    rw [hp.1.1.2] at hk
    have hk' : k = i ∨ k = j := by simpa using hk
    rcases hk' with rfl | rfl
    · exact wpOp_mono (fun a' w' h' => ⟨h'.1, pb_sound hsel r f _ a' w' hp.1.2 h'.2⟩) h1
    · exact wpOp_mono (fun a' w' h' => ⟨h'.1, pb_sound hsel s f _ a' w' hp.2 h'.2⟩) h2
  | .all L r, f, listed, a, w, hp, h => all_sound (fun f l a w h1 h2 => pb_sound hsel r f l a w h1 h2) L.length L f listed a w hp h

/-- The beginning. -/
theorem wp_region_pb (base : Nat) {id : Nat} {Q : Exit → Act → World → Prop} {a : Act} {w : World} (p : PB) (hm : P.follows .mixedOrders = true) (hsel : Region.noSelect ops = true)
    (hp : p.ok .any ops ops.size (Array.replicate ops.size false) = true) (hQ : ∀ a w, R a w → Q .normal a w)
    (h : wpPB base P ops R p a w.drew) : (Code.region id ops true).wp P Q a w := by
  refine Code.wp_mono (Q := Ends R) (fun e a w hh => by obtain ⟨rfl, hr⟩ := hh; exact hQ a w hr) ?_
  exact wp_region_any hm (wpAny_of_F _ _ _ _ (pb_sound hsel p ops.size (Array.replicate ops.size false) a _ hp h))

/-- Taken: what the walk of this one operation comes to, in every later world. -/
theorem pb_take {i : Nat} {r : PB} {a : Act} {w : World} {o : Oper} {d : Nat} (ho : ops[i]? = some o) (hd : o.dst = some d) (hle : Nat.ble (d + 1) a.tmps.size = true) (hv : valued o.op = true)
    (h : ∃ a1, (∀ w', Below base w w' → wpList P ops (Took a1 w') [o] a w') ∧ wpPB base P ops R r a1 w) : wpPB base P ops R (.take i r) a w := by
  obtain ⟨a1, h1, h2⟩ := h
  have hlt : d < a.tmps.size := Nat.le_of_ble_eq_true hle
  have key : ∀ v, a.put (some d) v = a1 → a1.tmps.getD d undef = v := by
    rintro v rfl
    simp [Act.put, hlt]
  by_cases hw : Region.wanted o (yielded ops a.tmps) = true
  · have hrun : ∀ w', Below base w w' → (execOp a.eval o).run P w' = .ok (.value (a1.tmps.getD d undef)) w' ∧ a.put o.dst (a1.tmps.getD d undef) = a1 := by
      intro w' hb
      have h := h1 w' hb
      simp only [wpList, hw, if_true] at h
      rcases h with h | ⟨_, a9, w9, h9, _⟩
      · unfold Oper.wp at h
        cases hr : (execOp a.eval o).run P w' with
        | ok n w'' =>
          obtain ⟨x, rfl⟩ := valued_run hv hr
          rw [hr] at h
          simp only [Oper.upon] at h
          obtain ⟨_, h3, h4⟩ := h
          rw [hd] at h3
          rw [key x h3, hd, h4]
          exact ⟨rfl, h3⟩
        | halt x w'' =>
          rw [hr] at h
          cases x <;> simp only [Oper.upon] at h
          cases h.1
      · cases h9
    refine ⟨o, a1.tmps.getD d undef, ho, Or.inl ⟨hw, fun w' hb => (hrun w' hb).1⟩, ?_⟩
    rw [(hrun w (Below.refl _ _)).2]
    exact h2
  · have h := h1 w (Below.refl _ _)
    simp only [wpList, hw] at h
    obtain ⟨_, h3, _⟩ := h
    refine ⟨o, undef, ho, Or.inr ⟨by simpa using hw, rfl⟩, ?_⟩
    rw [h3]
    exact h2

theorem pb_skip {i : Nat} {r : PB} {a : Act} {w : World} {o : Oper} {d : Nat} (ho : ops[i]? = some o) (hd : o.dst = some d)
    (hw : Region.wanted o (yielded ops a.tmps) = false) (hu : a.tmps[d]? = some undef) (h : wpPB base P ops R r a w) : wpPB base P ops R (.take i r) a w :=
  ⟨o, undef, ho, Or.inr ⟨hw, rfl⟩, by rw [hd, put_undef hu]; exact h⟩

/-- Behind a step. -/
def SteppedB (base : Nat) (K : Act → World → Prop) (w : World) : Exit → Act → World → Prop := fun e a' w' => e = .normal ∧ Below base w w' ∧ K a' w'

theorem stepb_gen {K : Act → World → Prop} {i : Nat} {a : Act} {w : World} {o : Oper} (ho : ops[i]? = some o)
    (h : wpList P ops (SteppedB base K w) [o] a w) : wpOp P ops (Ends R) i (fun a' w' => Below base w w' ∧ K a' w') a w := by
  unfold wpOp
  simp only [ho]
  simp only [wpList] at h
  split
  · rename_i hw
    simp only [hw, if_true] at h
    left
    rcases h with h | ⟨_, a9, w9, h9, _⟩
    · unfold Oper.wp at *
      generalize (execOp a.eval o).run P w = q at *
      cases q with
      | ok n w' =>
        cases n <;> simp only [Oper.upon] at h ⊢
        case value v => exact h.2
        case skip => exact h.2
        case defer d => exact h.2
        case enter f args =>
          refine h.mono fun e w'' he => ?_
          cases e with
          | returned v => exact he.2
          | panicked c => cases he.1
          | outgrown => obtain ⟨_, _, h9, _⟩ := he; cases h9
        case row row args => exact h.mono fun v w'' he => he.2
      | halt x w' => cases x <;> simp only [Oper.upon] at h; cases h.1
    · cases h9
  · rename_i hw
    simp only [hw] at h
    exact h.2

theorem pb_step {i : Nat} {r : PB} {a : Act} {w : World} {o : Oper} (ho : ops[i]? = some o) (h : wpList P ops (SteppedB base (wpPB base P ops R r) w) [o] a w) : wpPB base P ops R (.step i r) a w := stepb_gen ho h
theorem pb_two {i j : Nat} {r s : PB} {a : Act} {w : World} {o u : Oper} (ho : ops[i]? = some o) (hu : ops[j]? = some u) (h1 : wpList P ops (SteppedB base (wpPB base P ops R r) w) [o] a w) (h2 : wpList P ops (SteppedB base (wpPB base P ops R s) w) [u] a w) :
    wpPB base P ops R (.two i r j s) a w := ⟨stepb_gen ho h1, stepb_gen hu h2⟩

/-! ### Allocations in any order -/
def putAll (γ : Nat → Nat) : List (Nat × Nat) → Act → Act
  | [], a => a
  | x :: L, a => putAll γ L (a.put (some x.2) (.pointer (some ⟨γ x.1, 0, none⟩)))
theorem put_comm {d e : Nat} (h : d ≠ e) (a : Act) (u v : Value) : (a.put (some d) u).put (some e) v = (a.put (some e) v).put (some d) u := by
  simp only [Act.put]
  rw [Array.setIfInBounds_comm _ _ h]
theorem putAll_put {γ : Nat → Nat} {d : Nat} {v : Value} : ∀ (L : List (Nat × Nat)) (a : Act), (∀ x ∈ L, x.2 ≠ d) → putAll γ L (a.put (some d) v) = (putAll γ L a).put (some d) v
  | [], _, _ => rfl
  | x :: L, a, h => by
    simp only [putAll]
    rw [put_comm (Ne.symm (h x (by simp)))]
    exact putAll_put L _ (fun y hy => h y (by simp [hy]))
theorem putAll_congr {γ δ : Nat → Nat} : ∀ (L : List (Nat × Nat)) (a : Act), (∀ x ∈ L, γ x.1 = δ x.1) → putAll γ L a = putAll δ L a
  | [], _, _ => rfl
  | x :: L, a, h => by
    simp only [putAll]
    rw [h x (by simp)]
    exact putAll_congr L _ (fun y hy => h y (by simp [hy]))
theorem putAll_erase {γ : Nat → Nat} {x : Nat × Nat} : ∀ (L : List (Nat × Nat)) (a : Act), (L.map (·.2)).Nodup → x ∈ L → putAll γ L a = putAll γ (L.erase x) (a.put (some x.2) (.pointer (some ⟨γ x.1, 0, none⟩)))
  | [], _, _, h => by cases h
  | y :: L, a, hn, h => by
    by_cases hxy : y = x
    · subst hxy
      simp only [putAll, List.erase_cons_head]
    · have hx : x ∈ L := by
        rcases List.mem_cons.1 h with rfl | h
        · exact absurd rfl hxy
        · exact h
      rw [List.erase_cons_tail (by simpa using hxy)]
      rw [List.map_cons, List.nodup_cons] at hn
      have hne : y.2 ≠ x.2 := fun e => hn.1 (by rw [e]; exact List.mem_map_of_mem hx)
      simp only [putAll]
      rw [putAll_erase L _ hn.2 hx, put_comm hne]

theorem all_alloc {K : Act → World → Prop} (ty : TypeId) (z : List Value) (hz : ∀ w, (zeroValue ty).run P w = .ok (.agg z.toArray) w) :
    ∀ (n : Nat) (L : List (Nat × Nat)) (a : Act) (w : World), L.length = n → (L.map (·.1)).Nodup → (L.map (·.2)).Nodup → base ≤ w.heap.size →
      (∀ x ∈ L, ∃ o, ops[x.1]? = some o ∧ o.op = .alloc ty ∧ o.guard = none ∧ o.dst = some x.2) →
      (∀ (γ : Nat → Nat) (w' : World), (∀ x ∈ L, w.heap.size ≤ γ x.1 ∧ Blk w' (γ x.1) ty z) → (∀ x ∈ L, ∀ y ∈ L, γ x.1 = γ y.1 → x.1 = y.1) → Below w.heap.size w w' → K (putAll γ L a) w') →
      wpAll base P ops R K n L a w
  | 0, L, a, w, hl, _, _, _, _, h => by
    obtain rfl : L = [] := List.length_eq_zero_iff.1 hl
    exact h (fun _ => 0) w (fun x hx => by cases hx) (fun x hx => by cases hx) (Below.refl _ _)
  | n + 1, L, a, w, hl, h1, h2, hb, ho, h => by
    intro x hx
    obtain ⟨o, hox, hop, hg, hd⟩ := ho x hx
    have hrun : (execOp a.eval o).run P w = .ok (.value (.pointer (some ⟨w.heap.size, 0, none⟩))) (w.alloc (.cells z.toArray ty)) := by
      unfold execOp
      simp [hop, Instr.alloc, newVar, newRow, hz, Value.cells, Result.andThen]
    have hw : Region.wanted o (yielded ops a.tmps) = true := by simp [Region.wanted, hg]
    unfold wpOp
    simp only [hox, hw, if_true]
    left
    unfold Oper.wp
    rw [hrun]
    simp only [Oper.upon]
    have hbl : Below w.heap.size w (w.alloc (.cells z.toArray ty)) := (Below.refl _ _).alloc (Nat.le_refl _) _
    have hblk : Blk (w.alloc (.cells z.toArray ty)) w.heap.size ty z := Blk.new w ty z
    have hsz : (w.alloc (.cells z.toArray ty)).heap.size = w.heap.size + 1 := by simp
    refine ⟨hbl.mono hb, ?_⟩
    have hmem : ∀ y ∈ L.erase x, y ∈ L := fun y hy => List.mem_of_mem_erase hy
    have hnx : ∀ y ∈ L.erase x, y.1 ≠ x.1 := fun y hy e => by
      have hyl := hmem y hy
      have hnd : L.Nodup := List.Pairwise.of_map (fun x : Nat × Nat => x.1) (fun a b h e => h (by rw [e])) h1
      have hne : y ≠ x := fun e2 => (List.Nodup.not_mem_erase hnd) (e2 ▸ hy)
      obtain ⟨i, hi, ei⟩ := List.getElem_of_mem hyl
      obtain ⟨j, hj, ej⟩ := List.getElem_of_mem hx
      have hij : i = j := by
        refine (List.getElem_inj (xs := L.map (·.1)) (h₀ := by simpa using hi) (h₁ := by simpa using hj) h1).1 ?_
        simp only [List.getElem_map, ei, ej, e]
      subst hij
      exact hne (ei.symm.trans ej)
    refine all_alloc ty z hz n (L.erase x) _ _ (by rw [List.length_erase_of_mem hx, hl]; rfl) (h1.sublist ((List.erase_sublist).map _)) (h2.sublist ((List.erase_sublist).map _)) (by omega) (fun y hy => ho y (hmem y hy)) ?_
    intro γ w' hγ hinj hbw
    rw [hd]
    have hw' : w.heap.size < w'.heap.size := by have := hbw.size; omega
    have key := h (fun j => if j = x.1 then w.heap.size else γ j) w' ?_ ?_ (hbl.trans (hbw.mono (by omega)))
    · rw [putAll_erase L a h2 hx] at key
      simp only [if_true] at key
      rw [putAll_congr (γ := fun j => if j = x.1 then w.heap.size else γ j) (δ := γ) (L.erase x) _ (fun y hy => by simp only [if_neg (hnx y hy)])] at key
      exact key
    · intro y hy
      by_cases hyx : y.1 = x.1
      · simp only [if_pos hyx]
        exact ⟨Nat.le_refl _, hblk.past hbw (by omega)⟩
      · simp only [if_neg hyx]
        have hye : y ∈ L.erase x := (List.mem_erase_of_ne (fun e => hyx (by rw [e]))).2 hy
        obtain ⟨g1, g2⟩ := hγ y hye
        exact ⟨by omega, g2⟩
    · intro y hy u hu heq
      by_cases hyx : y.1 = x.1
      · by_cases hux : u.1 = x.1
        · rw [hyx, hux]
        · simp only [if_pos hyx, if_neg hux] at heq
          have hue : u ∈ L.erase x := (List.mem_erase_of_ne (fun e => hux (by rw [e]))).2 hu
          have := (hγ u hue).1
          omega
      · by_cases hux : u.1 = x.1
        · simp only [if_neg hyx, if_pos hux] at heq
          have hye : y ∈ L.erase x := (List.mem_erase_of_ne (fun e => hyx (by rw [e]))).2 hy
          have := (hγ y hye).1
          omega
        · simp only [if_neg hyx, if_neg hux] at heq
          exact hinj y ((List.mem_erase_of_ne (fun e => hyx (by rw [e]))).2 hy) u ((List.mem_erase_of_ne (fun e => hux (by rw [e]))).2 hu) heq

/-- Four variables laid in any order. -/
theorem pb_all4 {i1 i2 i3 i4 d1 d2 d3 d4 : Nat} {r : PB} {a : Act} {w : World} (ty : TypeId) (z : List Value) (hz : ∀ w, (zeroValue ty).run P w = .ok (.agg z.toArray) w) (hi : ([i1, i2, i3, i4] : List Nat).Nodup) (hd : ([d1, d2, d3, d4] : List Nat).Nodup) (hb : base ≤ w.heap.size)
    (h1 : ∃ o, ops[i1]? = some o ∧ o.op = .alloc ty ∧ o.guard = none ∧ o.dst = some d1) (h2 : ∃ o, ops[i2]? = some o ∧ o.op = .alloc ty ∧ o.guard = none ∧ o.dst = some d2)
    (h3 : ∃ o, ops[i3]? = some o ∧ o.op = .alloc ty ∧ o.guard = none ∧ o.dst = some d3) (h4 : ∃ o, ops[i4]? = some o ∧ o.op = .alloc ty ∧ o.guard = none ∧ o.dst = some d4)
    (h : ∀ (g1 g2 g3 g4 : Nat) (w' : World), (w.heap.size ≤ g1 ∧ w.heap.size ≤ g2 ∧ w.heap.size ≤ g3 ∧ w.heap.size ≤ g4) → (g1 ≠ g2 ∧ g1 ≠ g3 ∧ g1 ≠ g4 ∧ g2 ≠ g3 ∧ g2 ≠ g4 ∧ g3 ≠ g4) → Blk w' g1 ty z → Blk w' g2 ty z → Blk w' g3 ty z → Blk w' g4 ty z → Below w.heap.size w w' →
      wpPB base P ops R r ((((a.put (some d1) (.pointer (some ⟨g1, 0, none⟩))).put (some d2) (.pointer (some ⟨g2, 0, none⟩))).put (some d3) (.pointer (some ⟨g3, 0, none⟩))).put (some d4) (.pointer (some ⟨g4, 0, none⟩))) w') :
    wpPB base P ops R (.all [(i1, d1), (i2, d2), (i3, d3), (i4, d4)] r) a w := by
  refine all_alloc ty z hz 4 _ a w rfl hi hd hb ?_ ?_
  · intro x hx
    simp only [List.mem_cons, List.not_mem_nil, or_false] at hx
    rcases hx with rfl | rfl | rfl | rfl
    · exact h1
    · exact h2
    · exact h3
    · exact h4
  · intro γ w' hγ hinj hbw
    have e := fun x (hx : x ∈ [(i1, d1), (i2, d2), (i3, d3), (i4, d4)]) => hγ x hx
    have n1 := e (i1, d1) (by simp)
    have n2 := e (i2, d2) (by simp)
    have n3 := e (i3, d3) (by simp)
    have n4 := e (i4, d4) (by simp)
    have ne : ∀ x y : Nat × Nat, x ∈ [(i1, d1), (i2, d2), (i3, d3), (i4, d4)] → y ∈ [(i1, d1), (i2, d2), (i3, d3), (i4, d4)] → x.1 ≠ y.1 → γ x.1 ≠ γ y.1 := fun x y hx hy hne heq => hne (hinj x hx y hy heq)
    simp only [List.nodup_cons, List.mem_cons, List.not_mem_nil, or_false, not_or] at hi
    exact h _ _ _ _ w' ⟨n1.1, n2.1, n3.1, n4.1⟩ ⟨ne (i1, d1) (i2, d2) (by simp) (by simp) hi.1.1, ne (i1, d1) (i3, d3) (by simp) (by simp) hi.1.2.1, ne (i1, d1) (i4, d4) (by simp) (by simp) hi.1.2.2, ne (i2, d2) (i3, d3) (by simp) (by simp) hi.2.1.1, ne (i2, d2) (i4, d4) (by simp) (by simp) hi.2.1.2, ne (i3, d3) (i4, d4) (by simp) (by simp) hi.2.2.1⟩ n1.2 n2.2 n3.2 n4.2 hbw
end
end Go.Proofs.YtccepoeenkpifaaDoor
