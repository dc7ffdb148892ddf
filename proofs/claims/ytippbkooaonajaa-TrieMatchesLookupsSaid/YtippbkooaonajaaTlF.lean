/-
  Tries in the statements' walks; lists without a prefix: plain mathematics.
-/
import Derived.Test.YtippbkooaonajaaTlE
namespace Go.Proofs.Ytippbkooaonajaa
open Go.RowKit Dg Tr
set_option linter.unusedVariables false
set_option linter.unusedSimpArgs false

/-- A trie that is read, in a box. -/
structure TrV (W : World) (g : Nat) (A : Option Addr) (n c : Nat) (F : List Int) : Prop where
  blk : Blk W g 24 [.slice A n c]
  nds : Nds W W.heap.size n (.slice A n c) F
theorem TrV.go {W W' : World} {g n c : Nat} {A : Option Addr} {F : List Int} (h : TrV W g A n c F) (b : Below W.heap.size W W') : TrV W' g A n c F := ⟨h.blk.past b h.blk.lt, Row.past h.nds b⟩
theorem TrV.cell {W : World} {g n c : Nat} {A : Option Addr} {F : List Int} (h : TrV W g A n c F) : W.cell? ⟨g, 0, none⟩ = some (.slice A n c) := h.blk.cell (j := 0) rfl

/-- A result, laid into a box of its own. -/
theorem TrV.laid {W W' : World} {base n c : Nat} {A : Option Addr} {F : List Int} (h : OwnN W base n (.slice A n c) F) (b : Below W.heap.size W W') (hb : Blk W' W.heap.size 24 [.slice A n c]) : TrV W' W.heap.size A n c F := ⟨hb, Row.past h.nds b⟩

theorem mem_wout {l : List (Str × Int)} {p : Str} {x : Str × Int} : x ∈ wout l p ↔ x ∈ l ∧ x.1 ≠ p := by
  unfold wout
  rw [List.mem_filter]
  simp
theorem asc_wout {l : List (Str × Int)} (h : Asc l) (p : Str) : Asc (wout l p) := List.Pairwise.filter _ h
theorem entR_ok {F : List Int} {n : Nat} (h : Ok F n) (hn : n ≤ 4096) : entR F n = ents F := by unfold entR; rw [if_pos (chk_ok h hn)]
theorem entR_len (F : List Int) (n : Nat) : (entR F n).length ≤ 4096 := by
  unfold entR
  by_cases h : chk F n = 0
  · rw [if_pos h]
    obtain ⟨⟨⟨E, ht⟩, _⟩, hn⟩ := chk_zero h
    have := ents_len ht
    omega
  · rw [if_neg h]; simp
/-- Putting what is there. -/
theorem put_again {F : List Int} {n : Nat} {s : Str} {v : Int} (h : Ok F n) (hv : v ≠ 0) (hg : get F s = v) : put F n s v = F ∧ putn F n s = n := by
  obtain ⟨⟨E, ht⟩, _⟩ := h
  obtain ⟨j, hj⟩ := get_has (by rw [hg]; exact hv)
  have hjn := (nod_lt ht ht.pos hj).1
  have e := ins_along (n := n) s [] hj
  rw [List.append_nil] at e
  have e2 : ins F n 0 s = (F, n, j) := e
  refine ⟨?_, by unfold putn; rw [e2]⟩
  unfold put
  rw [e2]
  unfold sv
  rw [get_some hj] at hg
  unfold vl at hg
  apply List.ext_getElem?
  intro i
  rw [List.getElem?_set]
  split
  · rename_i hi
    subst hi
    have hl := ht.len
    have hlt : 11 * j + 10 < F.length := by omega
    rw [if_pos hlt, List.getElem?_eq_getElem hlt]
    rw [List.getD_eq_getElem?_getD, List.getElem?_eq_getElem hlt] at hg
    simp at hg
    rw [hg]
  · rfl

/-- What the update of one prefix leaves of the entries. -/
theorem wout_put {F G : List Int} {n k : Nat} {s : Str} {v : Int} (h : Ok F n) (hp : Put F n s v G k) : wout (ents G) s = wout (ents F) s := by
  obtain ⟨⟨E, ht⟩, _⟩ := h
  obtain ⟨⟨E', ht'⟩, _⟩ := hp.ok
  refine asc_ext (asc_wout (ents_asc ht') s) (asc_wout (ents_asc ht) s) fun x => ?_
  rw [mem_wout, mem_wout, mem_ents ht', mem_ents ht, hp.get]
  constructor
  · rintro ⟨⟨h1, h2⟩, h3⟩
    rw [if_neg h3] at h1
    exact ⟨⟨h1, h2⟩, h3⟩
  · rintro ⟨⟨h1, h2⟩, h3⟩
    exact ⟨⟨by rw [if_neg h3]; exact h1, h2⟩, h3⟩
theorem wout_drp {F G H : List Int} {n k : Nat} {s : Str} {v : Int} (h : Ok F n) (hp : Put F n s v G k) (hd : Drp G k s H) : ents H = wout (ents F) s := by
  obtain ⟨⟨E, ht⟩, _⟩ := h
  obtain ⟨⟨E', ht'⟩, _⟩ := hd.ok
  refine asc_ext (ents_asc ht') (asc_wout (ents_asc ht) s) fun x => ?_
  rw [mem_wout, mem_ents ht', mem_ents ht, hd.get, hp.get]
  by_cases hx : x.1 = s
  · simp only [hx, if_true]
    constructor
    · rintro ⟨h1, h2⟩; exact absurd h1 h2
    · rintro ⟨_, h3⟩; exact absurd rfl h3
  · rw [if_neg hx, if_neg hx]
    exact ⟨fun h => ⟨h, hx⟩, fun h => h.1⟩
theorem putn_le {F : List Int} {n : Nat} {s : Str} (h : Ok F n) (hs : ∀ b ∈ s, isD b = true) : n ≤ putn F n s ∧ putn F n s ≤ n + s.length := by
  obtain ⟨⟨E, ht⟩, _⟩ := h
  obtain ⟨m, hm⟩ := mx_of F hs
  rw [putn_eq ht hs hm]
  omega
end Go.Proofs.Ytippbkooaonajaa
