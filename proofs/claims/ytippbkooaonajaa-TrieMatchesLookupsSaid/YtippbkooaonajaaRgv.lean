/-
  A range over a function (any number of variables, plain values) whose iterator lays memory between its rounds and reads its own memory again, while the loop's body changes memory of its own and may return: M holds the body's blocks that may turn. The iterator only lays new memory. Nothing of a program is named here.
-/
import Derived.Test.YtippbkooaonajaaAgg
namespace Go.Proofs.Ytippbkooaonajaa
open Go.RowKit
set_option linter.unusedVariables false
set_option linter.unusedSimpArgs false
section
variable {P : Program} {α : Type}

/-- THE ITERATOR's PROMISE, entered in world W: it hands on, in this order, the items; then it returns; at once, where the body does not go on. T: the blocks that it reads. -/
def GivesV (P : Program) (g : Nat) (lb : Array Value) (items : List (Array Value)) (T : Nat → Prop) (W : World) : Prop :=
  ∀ (l : Nat) (J : (Nat → Prop) → Nat → World → Prop) (Jx : World → Prop),
    (∀ M k W1, J M k W1 → ∀ b, M b → b < W1.heap.size) →
    (∀ M k W1 W2, J M k W1 → Below W1.heap.size W1 W2 → J M k W2) →
    (∀ W1 W2, Jx W1 → Below W1.heap.size W1 W2 → Jx W2) →
    (∀ M k x W1, J M k W1 → items[k]? = some x →
      YieldAt Fence.wide 0 P l x W1 fun e W' => (e = .returned (.bool true) ∧ ∃ M', J M' (k + 1) W' ∧ (∀ b, M' b → M b ∨ W1.heap.size ≤ b) ∧ Keep (fun b => ¬ M b) W1 W') ∨ (e = .returned (.bool false) ∧ Jx W')) →
    ∀ M0, J M0 0 W → (∀ b, T b → ¬ M0 b) →
    CallsIn Fence.wide 0 P g (#[.func (.yield l) #[] #[]] ++ lb) W fun e W' => (∃ v, e = .returned v) ∧ ((∃ M', J M' items.length W') ∨ Jx W')

/-- How a round may be left: at its end, or by a return. -/
def endsV (R X : World → Prop) : Exit → Act → World → Prop
  | .normal, _, w => R w
  | .ret, _, w => X w
  | _, _, _ => False

/-- THE STATEMENT's LAW. -/
theorem wp_rangeV {g : Operand} {ps : Array Tmp} {assign body : Code} {Q : Exit → Act → World → Prop} {a : Act} {w : World} {gf : Nat} {lb : Array Value}
    (hg : a.eval g = .func (.func gf) #[] lb) (eg : ∀ args w, (callFunc gf args).run P w = .ok (.enter gf args) w)
    {items : List (Array Value)} {T : Nat → Prop} (hT : ∀ b, T b → b < w.heap.size) (hps : ∀ x ∈ items, x.size = ps.size)
    (hseq : ∀ W, Below w.heap.size w W → GivesV P gf lb items T W)
    (I : (Nat → Prop) → Nat → World → Prop) (X : World → Prop) (M0 : Nat → Prop) (hM0 : ∀ b, T b → ¬ M0 b)
    (h0 : ∀ W, Below w.heap.size w W → W.heap.size = w.heap.size + 2 → I M0 0 W)
    (hlt : ∀ M k W, I M k W → ∀ b, M b → b < W.heap.size)
    (hI : ∀ M k W1 W2, I M k W1 → Keep (fun b => b < w.heap.size ∨ w.heap.size + 2 ≤ b) W1 W2 → I M k W2)
    (hX : ∀ W1 W2, X W1 → Keep (fun b => b < w.heap.size ∨ w.heap.size + 2 ≤ b) W1 W2 → X W2)
    (a₁ : Array Value → Act)
    (hassign : ∀ (l : Nat) (x : Array Value) (W : World) (K : Act → World → Prop), x ∈ items → K (a₁ x) W →
      assign.wpIn (Fence.wide.inRound l) 0 P (Exit.then K (fun _ _ _ => False)) { tmps := (ps.zip x).foldl (fun t (p, v) => t.setIfInBounds p v) a.tmps, defers := [] } W)
    (hbody : ∀ (l : Nat) (M : Nat → Prop) (k : Nat) (x : Array Value) (W : World), w.heap.size + 2 ≤ W.heap.size → I M k W → items[k]? = some x →
      body.wpIn (Fence.wide.inRound l) 0 P (endsV (fun W' => ∃ M', I M' (k + 1) W' ∧ (∀ b, M' b → M b ∨ W.heap.size ≤ b) ∧ Keep (fun b => ¬ M b ∨ b = w.heap.size ∨ b = w.heap.size + 1) W W')
        (fun W' => X W' ∧ Keep (fun b => b = w.heap.size ∨ b = w.heap.size + 1) W W')) (a₁ x) W)
    (hdone : ∀ (M : Nat → Prop) (W : World), w.heap.size + 2 ≤ W.heap.size → I M items.length W → W.heap[w.heap.size]? = some (.deferred (some [])) →
      Q .normal { a with defers := { target := .collected w.heap.size, args := #[] } :: a.defers } W)
    (hstop : ∀ (W : World), w.heap.size + 2 ≤ W.heap.size → X W → W.heap[w.heap.size]? = some (.deferred (some [])) →
      Code.ret.wpIn Fence.wide 0 P Q { a with defers := { target := .collected w.heap.size, args := #[] } :: a.defers } W) :
    (Code.rangeFunc g ps assign body).wpIn Fence.wide 0 P Q a w := by
  refine wpIn_rangeFunc fun fn hfn => ?_
  show ∃ l mark w₁ d w₁' f args w₂, (Instr.enterLoop fn a.tmps ps assign body none).run P w = .ok (l, mark) w₁ ∧ _
  obtain ⟨rec, hrec⟩ : ∃ rec : LoopState → Option Code → Loop, rec = fun st pe => { state := st, pending := pe, fn, tmps := a.tmps, params := ps, assign, body, defers := w.heap.size } := ⟨_, rfl⟩
  obtain ⟨W1, hW1⟩ : ∃ W1, (w.alloc (.deferred (some []))).alloc (.loop (rec .ready none)) = W1 := ⟨_, rfl⟩
  have hL1 : W1.heap[w.heap.size + 1]? = some (.loop (rec .ready none)) := by
    rw [← hW1]; have := World.alloc_heap_new (w.alloc (.deferred (some []))) (.loop (rec .ready none)); rwa [World.size_alloc] at this
  have hD1 : W1.heap[w.heap.size]? = some (.deferred (some [])) := by
    rw [← hW1]; exact (Below.heap_alloc _ _ _ (by simp)).trans (World.alloc_heap_new w _)
  have hs1 : W1.heap.size = w.heap.size + 2 := by rw [← hW1]; simp
  have hb1 : Below w.heap.size w W1 := by
    rw [← hW1]; exact ((Below.refl _ w).alloc (Nat.le_refl _) _).alloc (by simp) _
  refine ⟨w.heap.size + 1, [{ target := .collected w.heap.size, args := #[] }], W1, { target := .fn (.func gf) lb, args := #[.func (.yield (w.heap.size + 1)) #[] #[]] }, W1, gf,
    #[.func (.yield (w.heap.size + 1)) #[] #[]] ++ lb, W1, ?_, ?_, fun _ _ => trivial, ?_, fun h => by simp [Fence.wide] at h, ?_⟩
  · rw [← hW1, hrec]; exact run_enterLoop_outer _ _ _ _ _
  · simp only [resolve, hg]
    simp [go_sem]
  · simp [invoke, go_sem, eg]
  refine (hseq W1 hb1 (w.heap.size + 1)
    (fun M k W => ∃ M1, (∀ b, M b ↔ (M1 b ∨ b = w.heap.size ∨ b = w.heap.size + 1)) ∧ I M1 k W ∧ W.heap[w.heap.size + 1]? = some (.loop (rec .ready none)) ∧ W.heap[w.heap.size]? = some (.deferred (some [])))
    (fun W => X W ∧ W.heap[w.heap.size + 1]? = some (.loop (rec .done (some .ret))) ∧ W.heap[w.heap.size]? = some (.deferred (some [])))
    ?j1 ?j2 ?jx ?j3 (fun b => M0 b ∨ b = w.heap.size ∨ b = w.heap.size + 1) ⟨M0, fun b => Iff.rfl, h0 W1 hb1 hs1, hL1, hD1⟩ ?j4).mono ?_
  case j1 =>
    rintro M k W ⟨M1, hM, hi, hl, hd⟩ b hb
    have hl1 := (Array.getElem?_eq_some_iff.1 hl).1
    rcases (hM b).1 hb with h | rfl | rfl
    · exact hlt M1 k W hi b h
    · omega
    · omega
  case j2 =>
    rintro M k W2 W3 ⟨M1, hM, hi, hl, hd⟩ hb
    have hl1 := (Array.getElem?_eq_some_iff.1 hl).1
    exact ⟨M1, hM, hI M1 k W2 W3 hi (Keep.of_below hb), (hb.block _ hl1).trans hl, (hb.block _ (by omega)).trans hd⟩
  case jx =>
    rintro W2 W3 ⟨hx, hl, hd⟩ hb
    have hl1 := (Array.getElem?_eq_some_iff.1 hl).1
    exact ⟨hX W2 W3 hx (Keep.of_below hb), (hb.block _ hl1).trans hl, (hb.block _ (by omega)).trans hd⟩
  case j4 =>
    rintro b hb (h | rfl | rfl)
    · exact hM0 b hb h
    · have := hT _ hb; omega
    · have := hT _ hb; omega
  case j3 =>
    rintro M k x W ⟨M1, hM, hi, hl, hd⟩ hx
    have hxm : x ∈ items := List.mem_of_getElem? hx
    have hlt1 : w.heap.size + 1 < W.heap.size := (Array.getElem?_eq_some_iff.1 hl).1
    have hy := run_yield (P := P) (args := x) hl (by rw [hrec]; exact hps x hxm)
    rw [hrec] at hy
    obtain ⟨W2, hW2⟩ : ∃ W2, W.putObj (w.heap.size + 1) (.loop (rec .busy none)) = W2 := ⟨_, rfl⟩
    have hk2 : ∀ O : Nat → Prop, ¬ O (w.heap.size + 1) → Keep O W W2 := fun O hO => by rw [← hW2]; exact Keep.putObj _ _ _ hO
    have hs2 : W2.heap.size = W.heap.size := by rw [← hW2]; simp
    have hl2 : W2.heap[w.heap.size + 1]? = some (.loop (rec .busy none)) := by rw [← hW2]; exact World.putObj_heap_same hlt1
    have hbeg : (Instr.beginRound (w.heap.size + 1)).run P W = .ok () W2 := by
      have h := run_beginRound (P := P) hl (by rw [hrec])
      rw [hrec] at h hW2; rw [← hW2]; exact h
    refine ⟨fn, _, assign, body, hy, roundIn_of_wpIn trivial ?_⟩
    refine hassign _ x W _ hxm ⟨W2, hbeg, ?_⟩
    have hI2 := hI M1 k W W2 hi (hk2 _ (by omega))
    refine wpIn_mono (hbody _ M1 k x W2 (by omega) hI2 hx) ?_
    have hd2 := (hk2 (fun b => b = w.heap.size) (by omega)).heap rfl hd
    rintro e a3 W3 hp
    cases e with
    | normal =>
      obtain ⟨M3, hi3, hM3, hk3⟩ := hp
      have hl3 := hk3.heap (Or.inr (Or.inr rfl)) hl2
      have hd3 : W3.heap[w.heap.size]? = some (.deferred (some [])) := hk3.heap (Or.inr (Or.inl rfl)) hd2
      have hend := run_endRound (P := P) none hl3
      obtain ⟨W4, hW4⟩ : ∃ W4, W3.putObj (w.heap.size + 1) (.loop (rec .ready none)) = W4 := ⟨_, rfl⟩
      have hk4 : ∀ O : Nat → Prop, ¬ O (w.heap.size + 1) → Keep O W3 W4 := fun O hO => by rw [← hW4]; exact Keep.putObj _ _ _ hO
      refine ⟨.bool true, W4, ?_, Or.inl ⟨rfl, fun b => M3 b ∨ b = w.heap.size ∨ b = w.heap.size + 1, ⟨M3, fun b => Iff.rfl, hI M3 (k + 1) W3 W4 hi3 (hk4 _ (by omega)), ?_, (hk4 (fun b => b = w.heap.size) (by omega)).heap rfl hd3⟩, ?_, ?_⟩⟩
      · rw [hend]
        rw [hrec] at hW4 ⊢
        rw [← hW4]
        rfl
      · rw [← hW4]; exact World.putObj_heap_same (Array.getElem?_eq_some_iff.1 hl3).1
      · rintro b (h | h)
        · rcases hM3 b h with h | h
          · exact Or.inl ((hM b).2 (Or.inl h))
          · exact Or.inr (by omega)
        · exact Or.inl ((hM b).2 (Or.inr h))
      · have hn : ¬ (fun b => ¬ M b) (w.heap.size + 1) := fun h => h ((hM _).2 (Or.inr (Or.inr rfl)))
        refine ((hk2 _ hn).trans (hk3.mono fun b hb => Or.inl fun h => hb ((hM b).2 (Or.inl h)))).trans (hk4 _ hn)
    | ret =>
      obtain ⟨hx3, hk3⟩ := hp
      have hl3 := hk3.heap (Or.inr rfl) hl2
      have hd3 : W3.heap[w.heap.size]? = some (.deferred (some [])) := hk3.heap (Or.inl rfl) hd2
      have hend := run_endRound (P := P) (some .ret) hl3
      obtain ⟨W4, hW4⟩ : ∃ W4, W3.putObj (w.heap.size + 1) (.loop (rec .done (some .ret))) = W4 := ⟨_, rfl⟩
      have hk4 : ∀ O : Nat → Prop, ¬ O (w.heap.size + 1) → Keep O W3 W4 := fun O hO => by rw [← hW4]; exact Keep.putObj _ _ _ hO
      refine ⟨.bool false, W4, ?_, Or.inr ⟨rfl, hX W3 W4 hx3 (hk4 _ (by omega)), ?_, (hk4 (fun b => b = w.heap.size) (by omega)).heap rfl hd3⟩⟩
      · rw [hend]
        rw [hrec] at hW4 ⊢
        rw [← hW4]
        rfl
      · rw [← hW4]; exact World.putObj_heap_same (Array.getElem?_eq_some_iff.1 hl3).1
    | exit id => exact hp.elim
    | goto t => exact hp.elim
    | panic c => exact hp.elim
    | outgrown => exact hp.elim
  · -- behind the iterator
    rintro e W2 ⟨⟨v, rfl⟩, (⟨M', M1, hM, hi, hl, hd⟩ | ⟨hx, hl, hd⟩)⟩
    · have hlt1 := (Array.getElem?_eq_some_iff.1 hl).1
      have hend := run_endLoop (P := P) hl (by rw [hrec]; simp)
      obtain ⟨W3, hW3⟩ : ∃ W3, W2.putObj (w.heap.size + 1) (.loop (rec .exhausted none)) = W3 := ⟨_, rfl⟩
      have hk3 : ∀ O : Nat → Prop, ¬ O (w.heap.size + 1) → Keep O W2 W3 := fun O hO => by rw [← hW3]; exact Keep.putObj _ _ _ hO
      refine ⟨none, W3, ?_, ?_⟩
      · rw [hend]
        rw [hrec] at hW3 ⊢
        rw [← hW3]
      · exact hdone M1 W3 (by have := (hk3 (fun _ => False) id).size; omega) (hI M1 _ W2 W3 hi (hk3 _ (by omega))) ((hk3 (fun b => b = w.heap.size) (by omega)).heap rfl hd)
    · have hlt1 := (Array.getElem?_eq_some_iff.1 hl).1
      have hend := run_endLoop (P := P) hl (by rw [hrec]; simp)
      obtain ⟨W3, hW3⟩ : ∃ W3, W2.putObj (w.heap.size + 1) (.loop (rec .exhausted (some .ret))) = W3 := ⟨_, rfl⟩
      have hk3 : ∀ O : Nat → Prop, ¬ O (w.heap.size + 1) → Keep O W2 W3 := fun O hO => by rw [← hW3]; exact Keep.putObj _ _ _ hO
      refine ⟨some .ret, W3, ?_, ?_⟩
      · rw [hend]
        rw [hrec] at hW3 ⊢
        rw [← hW3]
      · exact hstop W3 (by have := (hk3 (fun _ => False) id).size; omega) (hX W2 W3 hx (hk3 _ (by omega))) ((hk3 (fun b => b = w.heap.size) (by omega)).heap rfl hd)
end
end Go.Proofs.Ytippbkooaonajaa
