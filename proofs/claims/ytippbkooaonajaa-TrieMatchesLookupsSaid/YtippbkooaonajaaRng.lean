/-
  A range over a function whose iterator lays memory of its own between its rounds, and hands some of it on: what the iterator promises ('Gives'), and the statement's law.
  Memory is parted by block numbers. n0: below it lies what was there when the outermost call began. S: the heap's size when the iterator is entered; B: the heap's size at its first round. What the iterator keeps for itself lies from S up to B; what the loop's body keeps lies below S, or from B on. Nothing of a program is named here.
-/
import Derived.RangeFuncNested
import Derived.RangeFuncBound
import Derived.RangeFuncCalls
import Derived.RangeFuncLeaves
import Derived.WalkKit
import Derived.OwnWalkIn
import Derived.TacticsInMore
import Derived.LoopNIn
import Derived.LoopIn
import Derived.Maps.OwnIn
import Derived.Test.YtippbkooaonajaaKep
namespace Go.Proofs.Ytippbkooaonajaa
open Go.RowKit
set_option linter.unusedVariables false
set_option linter.unusedSimpArgs false

/-- What a round leaves alone. -/
def Theirs (n0 S B : Nat) (b : Nat) : Prop := b < n0 ∨ (S ≤ b ∧ b < B)

section
variable {P : Program} {α : Type}

/-- THE ITERATOR's PROMISE, entered in world W: it hands on, in this order, values that read as the items; then it returns. -/
def Gives (P : Program) (g : Nat) (lb : Array Value) (Item : Nat → World → Value → α → Prop) (items : List α) (n0 : Nat) (W : World) : Prop :=
  ∀ (l : Nat) (J : Nat → Nat → World → Prop),
    (∀ W1, Below W.heap.size W W1 → J W1.heap.size 0 W1) →
    (∀ B k W1 W2, W.heap.size ≤ B → J B k W1 → Keep (Mine W.heap.size B) W1 W2 → J B k W2) →
    (∀ B k x W1 v, W.heap.size ≤ B → B ≤ W1.heap.size → J B k W1 → items[k]? = some x → Item B W1 v x →
      YieldAt Fence.wide 0 P l #[v] W1 fun e W' => e = .returned (.bool true) ∧ J B (k + 1) W' ∧ Keep (Theirs n0 W.heap.size B) W1 W') →
    CallsIn Fence.wide 0 P g (#[.func (.yield l) #[] #[]] ++ lb) W fun e W' => (∃ v, e = .returned v) ∧ ∃ B, W.heap.size ≤ B ∧ B ≤ W'.heap.size ∧ J B items.length W'

/-- THE STATEMENT's LAW. -/
theorem wp_range {g : Operand} {p : Tmp} {assign body : Code} {Q : Exit → Act → World → Prop} {a : Act} {w : World} {gf : Nat} {lb : Array Value}
    (hg : a.eval g = .func (.func gf) #[] lb) (eg : ∀ args w, (callFunc gf args).run P w = .ok (.enter gf args) w)
    {Item : Nat → World → Value → α → Prop} {items : List α} {n0 : Nat} (hn0 : n0 ≤ w.heap.size)
    (hItem : ∀ B v x W1 W2, n0 ≤ W1.heap.size → Item B W1 v x → Keep (fun b => b < n0 ∨ B ≤ b) W1 W2 → Item B W2 v x)
    (hseq : ∀ W, Below w.heap.size w W → Gives P gf lb Item items n0 W)
    (I : Nat → Nat → World → Prop)
    (h0 : ∀ W, Below w.heap.size w W → I W.heap.size 0 W)
    (hI : ∀ B k W1 W2, w.heap.size ≤ B → I B k W1 → Keep (Mine w.heap.size B) W1 W2 → I B k W2)
    (a₁ : Value → Act)
    (hassign : ∀ (l : Nat) (v : Value) (W : World) (K : Act → World → Prop), K (a₁ v) W →
      assign.wpIn (Fence.wide.inRound l) 0 P (Exit.then K (fun _ _ _ => False)) { tmps := a.tmps.setIfInBounds p v, defers := [] } W)
    (hbody : ∀ (l B k : Nat) (x : α) (v : Value) (W : World), w.heap.size + 2 ≤ B → B ≤ W.heap.size → I B k W → items[k]? = some x → Item B W v x →
      body.wpIn (Fence.wide.inRound l) 0 P (goesOn fun W' => I B (k + 1) W' ∧ Keep (Theirs n0 w.heap.size B) W W') (a₁ v) W)
    (hdone : ∀ (D B : Nat) (W : World), w.heap.size ≤ D → D < B → B ≤ W.heap.size → I B items.length W → W.heap[D]? = some (.deferred (some [])) →
      Q .normal { a with defers := { target := .collected D, args := #[] } :: a.defers } W) :
    (Code.rangeFunc g #[p] assign body).wpIn Fence.wide 0 P Q a w := by
  refine wpIn_rangeFunc fun fn hfn => ?_
  show ∃ l mark w₁ d w₁' f args w₂, (Instr.enterLoop fn a.tmps #[p] assign body none).run P w = .ok (l, mark) w₁ ∧ _
  obtain ⟨rec, hrec⟩ : ∃ rec : LoopState → Loop, rec = fun st => { state := st, pending := none, fn, tmps := a.tmps, params := #[p], assign, body, defers := w.heap.size } := ⟨_, rfl⟩
  obtain ⟨W1, hW1⟩ : ∃ W1, (w.alloc (.deferred (some []))).alloc (.loop (rec .ready)) = W1 := ⟨_, rfl⟩
  have hL1 : W1.heap[w.heap.size + 1]? = some (.loop (rec .ready)) := by
    rw [← hW1]; have := World.alloc_heap_new (w.alloc (.deferred (some []))) (.loop (rec .ready)); rwa [World.size_alloc] at this
  have hD1 : W1.heap[w.heap.size]? = some (.deferred (some [])) := by
    rw [← hW1]; exact (Below.heap_alloc _ _ _ (by simp)).trans (World.alloc_heap_new w _)
  have hs1 : W1.heap.size = w.heap.size + 2 := by rw [← hW1]; simp
  have hb1 : Below w.heap.size w W1 := by
    rw [← hW1]; exact ((Below.refl _ w).alloc (Nat.le_refl _) _).alloc (by simp) _
  refine ⟨w.heap.size + 1, [{ target := .collected w.heap.size, args := #[] }], W1, { target := .fn (.func gf) lb, args := #[.func (.yield (w.heap.size + 1)) #[] #[]] }, W1, gf,
    #[.func (.yield (w.heap.size + 1)) #[] #[]] ++ lb, W1, ?_, ?_, fun _ _ => trivial, ?_, fun h => by simp [Fence.wide] at h, ?_⟩
  · rw [← hW1, hrec]; exact run_enterLoop_outer _ _ _ _ _
  · simp only [resolve, hg]
    simp [go_sem]
  · simp [invoke, go_sem, eg]
  refine (hseq W1 hb1 (w.heap.size + 1)
    (fun B k W => I B k W ∧ W.heap[w.heap.size + 1]? = some (.loop (rec .ready)) ∧ W.heap[w.heap.size]? = some (.deferred (some [])))
    (fun W2 hb => ⟨h0 W2 (hb1.trans (hb.mono hb1.size)), (hb.block _ (by omega)).trans hL1, (hb.block _ (by omega)).trans hD1⟩)
    (fun B k W2 W3 hB h hk => ⟨hI B k W2 W3 (by omega) h.1 (hk.mono fun b hb => Or.elim hb (fun h => Or.inl (by omega)) Or.inr), hk.heap (Or.inl (by omega)) h.2.1, hk.heap (Or.inl (by omega)) h.2.2⟩)
    ?_).mono ?_
  · -- one round
    intro B k x W v hB hBW h hx hv
    obtain ⟨hi, hl, hd⟩ := h
    have hlt : w.heap.size + 1 < W.heap.size := (Array.getElem?_eq_some_iff.1 hl).1
    have hy := run_yield (P := P) (args := #[v]) hl (by rw [hrec]; rfl)
    rw [hrec] at hy
    obtain ⟨W2, hW2⟩ : ∃ W2, W.putObj (w.heap.size + 1) (.loop (rec .busy)) = W2 := ⟨_, rfl⟩
    have hk2 : ∀ O : Nat → Prop, ¬ O (w.heap.size + 1) → Keep O W W2 := fun O hO => by rw [← hW2]; exact Keep.putObj _ _ _ hO
    have hs2 : W2.heap.size = W.heap.size := by rw [← hW2]; simp
    have hl2 : W2.heap[w.heap.size + 1]? = some (.loop (rec .busy)) := by rw [← hW2]; exact World.putObj_heap_same hlt
    have hbeg : (Instr.beginRound (w.heap.size + 1)).run P W = .ok () W2 := by
      have h := run_beginRound (P := P) hl (by rw [hrec])
      rw [hrec] at h hW2; rw [← hW2]; exact h
    refine ⟨fn, _, assign, body, hy, roundIn_of_wpIn trivial ?_⟩
    have hz : (#[p].zip #[v]).foldl (fun (t : Array Value) (q : Tmp × Value) => t.setIfInBounds q.1 q.2) a.tmps = a.tmps.setIfInBounds p v := by simp
    rw [hz]
    refine hassign _ v W _ ⟨W2, hbeg, ?_⟩
    have hI2 := hI B k W W2 (by omega) hi (hk2 _ (by unfold Mine; omega))
    have hItem2 := hItem B v x W W2 (by omega) hv (hk2 _ (by omega))
    refine wpIn_mono (hbody _ B k x v W2 (by omega) (by omega) hI2 hx hItem2) ?_
    rintro e a3 W3 ⟨rfl, hi3, hk3⟩
    have hl3 := hk3.heap (Or.inr ⟨by omega, by omega⟩) hl2
    have hd3 : W3.heap[w.heap.size]? = some (.deferred (some [])) := hk3.heap (Or.inr ⟨by omega, by omega⟩) ((hk2 (fun b => b = w.heap.size) (by omega)).heap rfl hd)
    have hend := run_endRound (P := P) none hl3
    obtain ⟨W4, hW4⟩ : ∃ W4, W3.putObj (w.heap.size + 1) (.loop (rec .ready)) = W4 := ⟨_, rfl⟩
    have hk4 : ∀ O : Nat → Prop, ¬ O (w.heap.size + 1) → Keep O W3 W4 := fun O hO => by rw [← hW4]; exact Keep.putObj _ _ _ hO
    refine ⟨.bool true, W4, ?_, rfl, ⟨hI B (k + 1) W3 W4 (by omega) hi3 (hk4 _ (by unfold Mine; omega)), ?_, (hk4 (fun b => b = w.heap.size) (by omega)).heap rfl hd3⟩, ?_⟩
    · rw [hend]
      rw [hrec] at hW4 ⊢
      rw [← hW4]
      rfl
    · rw [← hW4]; exact World.putObj_heap_same (Array.getElem?_eq_some_iff.1 hl3).1
    · have hm : Keep (Theirs n0 W1.heap.size B) W2 W3 := hk3.mono fun b hb => Or.elim hb Or.inl (fun h => Or.inr ⟨by omega, h.2⟩)
      exact ((hk2 _ (by unfold Theirs; omega)).trans hm).trans (hk4 _ (by unfold Theirs; omega))
  · -- behind the iterator
    rintro e W2 ⟨⟨v, rfl⟩, B, hB, hBW, hi, hl, hd⟩
    have hend := run_endLoop (P := P) hl (by rw [hrec]; simp)
    obtain ⟨W3, hW3⟩ : ∃ W3, W2.putObj (w.heap.size + 1) (.loop (rec .exhausted)) = W3 := ⟨_, rfl⟩
    have hk3 : ∀ O : Nat → Prop, ¬ O (w.heap.size + 1) → Keep O W2 W3 := fun O hO => by rw [← hW3]; exact Keep.putObj _ _ _ hO
    refine ⟨none, W3, ?_, ?_⟩
    · rw [hend]
      rw [hrec] at hW3 ⊢
      rw [← hW3]
    · exact hdone w.heap.size B W3 (Nat.le_refl _) (by omega) (by have := (hk3 (fun _ => False) id).size; omega) (hI B _ W2 W3 (by omega) hi (hk3 _ (by unfold Mine; omega))) ((hk3 (fun b => b = w.heap.size) (by omega)).heap rfl hd)

end
end Go.Proofs.Ytippbkooaonajaa
