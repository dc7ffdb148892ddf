/-
  Putting entries one by one: plain mathematics.
-/
import Derived.Test.YtippbkooaonajaaTlF
namespace Go.Proofs.Ytippbkooaonajaa
open Go.RowKit Dg Tr
set_option linter.unusedVariables false
set_option linter.unusedSimpArgs false

theorem entR_eq {F G : List Int} {n k : Nat} (h : Ok F n) (h' : Ok G k) (hn : n ≤ 4096) (hk : k ≤ 4096) (he : ∀ q, get F q = get G q) : entR F n = entR G k := by
  rw [entR_ok h hn, entR_ok h' hk]; exact ents_eq h h' he
theorem lonR_eq {F G : List Int} {n k : Nat} (h : Ok F n) (h' : Ok G k) (hn : n ≤ 4096) (hk : k ≤ 4096) (he : ∀ q, get F q = get G q) (s : Str) : lonR F n s = lonR G k s := by
  unfold lonR
  by_cases hs : s.all isD = true
  · rw [if_pos ⟨hs, chk_ok h hn⟩, if_pos ⟨hs, chk_ok h' hk⟩]
    have hd : ∀ b ∈ s, isD b = true := by simpa using hs
    have h1 := lon_spec F hd
    have h2 := lon_spec G hd
    have : get F = get G := funext he
    rw [this] at h1
    exact h1.unique h2
  · rw [if_neg (fun h => hs h.1), if_neg (fun h => hs h.1)]

/-- The trie x holds the first i entries of M, all of them entries of F. -/
structure Rb (F : List Int) (n : Nat) (M : List (Str × Int)) (i : Nat) (X : List Int) (nx : Nat) : Prop where
  ok : Ok X nx
  get : ∀ q, Tr.get X q = if q ∈ (M.take i).map (·.1) then Tr.get F q else 0
  has : ∀ q, Tr.has X q → Tr.has F q
theorem Rb.le {F X : List Int} {n nx i : Nat} {M : List (Str × Int)} (hF : Ok F n) (h : Rb F n M i X nx) : nx ≤ n := by
  obtain ⟨⟨E, ht⟩, _⟩ := hF
  obtain ⟨⟨E', ht'⟩, _⟩ := h.ok
  exact nodes_le ht' ht h.has
theorem rb_zero {F : List Int} {n : Nat} (M : List (Str × Int)) : Rb F n M 0 T0 1 :=
  ⟨t0_ok, fun q => by rw [t0_get]; simp, fun q h => by rw [t0_has] at h; subst h; exact ⟨0, rfl⟩⟩
theorem rb_succ {F X : List Int} {n nx i : Nat} {M : List (Str × Int)} {s : Str} {v : Int} (hF : Ok F n) (hn : n ≤ 4096) (hM : ∀ x ∈ M, x ∈ ents F) (h : Rb F n M i X nx) (hx : M[i]? = some (s, v)) :
    putE X nx s v = 0 ∧ Rb F n M (i + 1) (putF X nx s v) (putN X nx s v) := by
  have hF' := hF
  obtain ⟨⟨E, ht⟩, hV⟩ := hF'
  obtain ⟨h1, h2⟩ := (mem_ents ht (s, v)).1 (hM _ (List.mem_of_getElem? hx))
  simp only at h1 h2
  have hhas : Tr.has F s := get_has (by rw [← h1]; exact h2)
  have hd := has_digits hhas
  have hl := has_len ht hhas
  have hb : 1 ≤ v ∧ v ≤ 1099511627776 := by
    obtain ⟨j, hj⟩ := hhas
    have hjn := (nod_lt ht ht.pos hj).1
    have := hV j hjn
    rw [get_some hj] at h1
    rw [← h1] at this
    omega
  have hP := put_put h.ok hd hl hb
  have hh : ∀ q, Tr.has (put X nx s v) q → Tr.has F q := fun q hq => by
    rcases (hP.has q).1 hq with h' | h'
    · exact h.has q h'
    · exact has_pre hhas h'
  have hle : putn X nx s ≤ n := by
    obtain ⟨⟨E', ht'⟩, _⟩ := hP.ok
    exact nodes_le ht' ht hh
  have hnx := h.le hF
  obtain ⟨e1, e2, e3⟩ := putE_ok h.ok (by omega) hl hd hb (by omega)
  refine ⟨e1, ?_⟩
  rw [e2, e3]
  refine ⟨hP.ok, fun q => ?_, hh⟩
  rw [hP.get, h.get, List.take_add_one, hx]
  by_cases hq : q = s
  · subst hq; rw [if_pos rfl, if_pos (by simp), h1]
  · rw [if_neg hq]
    have : (q ∈ List.map (·.1) (List.take i M ++ (some (s, v)).toList)) ↔ q ∈ List.map (·.1) (List.take i M) := by
      simp [List.map_append, hq]
    by_cases hm : q ∈ List.map (·.1) (List.take i M)
    · rw [if_pos hm, if_pos (this.2 hm)]
    · rw [if_neg hm, if_neg (fun h => hm (this.1 h))]
theorem rb_end {F X : List Int} {n nx i : Nat} {M : List (Str × Int)} (hF : Ok F n) (hM : ∀ x, x ∈ M ↔ x ∈ ents F) (h : Rb F n M i X nx) (hi : M.length ≤ i) (q : Str) : Tr.get F q = Tr.get X q := by
  obtain ⟨⟨E, ht⟩, _⟩ := hF
  rw [h.get, List.take_of_length_le hi]
  split
  · rfl
  · rename_i hm
    by_cases hz : Tr.get F q = 0
    · exact hz
    · exact absurd (List.mem_map.2 ⟨(q, Tr.get F q), (hM _).2 ((mem_ents ht _).2 ⟨rfl, hz⟩), rfl⟩) hm
/-- The order in which the entries are put. -/
def ordr (r : Bool) (l : List (Str × Int)) : List (Str × Int) := if r = true then l.reverse else l
theorem mem_ordr (r : Bool) (l : List (Str × Int)) (x : Str × Int) : x ∈ ordr r l ↔ x ∈ l := by unfold ordr; cases r <;> simp
theorem len_ordr (r : Bool) (l : List (Str × Int)) : (ordr r l).length = l.length := by unfold ordr; cases r <;> simp
theorem ordr_f (l : List (Str × Int)) (i : Nat) : (ordr false l)[i]? = l[i]? := rfl
theorem ordr_t (l : List (Str × Int)) {i : Nat} (hi : i < l.length) : (ordr true l)[i]? = l[l.length - 1 - i]? := by unfold ordr; rw [if_pos rfl, List.getElem?_reverse hi]
end Go.Proofs.Ytippbkooaonajaa
