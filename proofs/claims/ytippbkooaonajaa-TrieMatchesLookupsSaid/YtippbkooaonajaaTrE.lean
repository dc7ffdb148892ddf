/-
  What a script leaves, and the answers of Extends and Longest: plain mathematics.
-/
import Derived.Test.YtippbkooaonajaaTrD
namespace Go.Proofs.Ytippbkooaonajaa
open Go.RowKit Dg Tr
set_option linter.unusedVariables false
set_option linter.unusedSimpArgs false

theorem TrV.laidN {W W' : World} {n c : Nat} {A : Option Addr} {F : List Int} (h : Nds W W.heap.size n (.slice A n c) F) (b : Below W.heap.size W W') (hb : Blk W' W.heap.size 24 [.slice A n c]) : TrV W' W.heap.size A n c F := ⟨hb, Row.past h b⟩

theorem Kp.has {X : List Int} {nx : Nat} {K : List (Str × Int)} (h : Kp X nx K) {x : Str × Int} (hx : x ∈ K) : x.1.length ≤ 15 ∧ ∀ b ∈ x.1, isD b = true := by
  obtain ⟨h1, h2⟩ := (h.mem x).1 hx
  obtain ⟨⟨E, ht⟩, _⟩ := h.ok
  have hh := get_has (F := X) (s := x.1) (by rw [← h1]; exact h2)
  exact ⟨has_len ht hh, has_digits hh⟩

/-- A stored prefix that is longer than s and starts with it. -/
def Lo (K : List (Str × Int)) (s : Str) : Prop := ∃ x ∈ K, s.length < x.1.length ∧ s <+: x.1
theorem lo_ext {X : List Int} {nx : Nat} {K : List (Str × Int)} (h : Kp X nx K) (s : Str) : extP X nx s ↔ Lo K s := by
  constructor
  · rintro ⟨_, _, q, hq, hg⟩
    refine ⟨(s ++ q, get X (s ++ q)), (h.mem _).2 ⟨rfl, hg⟩, ?_, ⟨q, rfl⟩⟩
    have : 0 < q.length := List.length_pos_iff.2 hq
    simp; omega
  · rintro ⟨x, hx, hl, q, hq⟩
    have hx2 := h.has hx
    obtain ⟨h1, h2⟩ := (h.mem x).1 hx
    refine ⟨?_, chk_ok h.ok h.le, q, ?_, ?_⟩
    · simp only [List.all_eq_true]
      intro b hb
      exact hx2.2 b (by rw [← hq]; exact List.mem_append_left _ hb)
    · rintro rfl
      rw [← hq] at hl
      simp at hl
    · rw [hq, ← h1]; exact h2
theorem lo_snoc {K : List (Str × Int)} {i : Nat} {x : Str × Int} (hx : K[i]? = some x) (s : Str) : Lo (K.take (i + 1)) s ↔ Lo (K.take i) s ∨ (s.length < x.1.length ∧ s <+: x.1) := by
  unfold Lo
  rw [List.take_add_one, hx]
  constructor
  · rintro ⟨y, hy, h⟩
    simp only [Option.toList, List.mem_append, List.mem_singleton] at hy
    rcases hy with hy | rfl
    · exact Or.inl ⟨y, hy, h⟩
    · exact Or.inr h
  · rintro (⟨y, hy, h⟩ | h)
    · exact ⟨y, List.mem_append_left _ hy, h⟩
    · exact ⟨x, by simp, h⟩
theorem lo_nil (K : List (Str × Int)) (s : Str) : ¬ Lo (K.take 0) s := by
  rintro ⟨x, hx, _⟩; simp at hx

/-- The entry of the longest prefix of s among those of K, so far. -/
def Be (K : List (Str × Int)) (s : Str) (r : Option (Str × Int)) : Prop :=
  match r with
  | none => ∀ x ∈ K, ¬ x.1 <+: s
  | some y => y ∈ K ∧ y.1 <+: s ∧ ∀ x ∈ K, x.1 <+: s → x.1.length ≤ y.1.length
theorem be_nil (K : List (Str × Int)) (s : Str) : Be (K.take 0) s none := fun x hx => by simp at hx
theorem be_snoc {K : List (Str × Int)} {i : Nat} {x : Str × Int} (hx : K[i]? = some x) {s : Str} {r : Option (Str × Int)} (h : Be (K.take i) s r) :
    Be (K.take (i + 1)) s (if x.1 <+: s ∧ (r = none ∨ ∃ y, r = some y ∧ y.1.length < x.1.length) then some x else r) := by
  have hm : ∀ z, z ∈ K.take (i + 1) ↔ z ∈ K.take i ∨ z = x := fun z => by rw [List.take_add_one, hx]; simp
  split
  · rename_i hc
    refine ⟨(hm x).2 (Or.inr rfl), hc.1, fun z hz hp => ?_⟩
    rcases (hm z).1 hz with hz | rfl
    · rcases hc.2 with rfl | ⟨y, rfl, hy⟩
      · exact absurd hp (h z hz)
      · have := h.2.2 z hz hp
        omega
    · exact Nat.le_refl _
  · rename_i hc
    cases r with
    | none =>
      intro z hz hp
      rcases (hm z).1 hz with hz | rfl
      · exact h z hz hp
      · exact hc ⟨hp, Or.inl rfl⟩
    | some y =>
      refine ⟨(hm y).2 (Or.inl h.1), h.2.1, fun z hz hp => ?_⟩
      rcases (hm z).1 hz with hz | rfl
      · exact h.2.2 z hz hp
      · rcases Nat.lt_or_ge y.1.length z.1.length with hl | hl
        · exact absurd ⟨hp, Or.inr ⟨y, rfl, hl⟩⟩ hc
        · exact hl
/-- What Longest answers, of a script's trie. -/
theorem lon_be {X : List Int} {nx : Nat} {K : List (Str × Int)} (h : Kp X nx K) {s : Str} {r : Option (Str × Int)} (hb : Be K s r) :
    lonR X nx s = if s.all isD = true then (match r with | none => (0, 0, false) | some y => (y.2, y.1.length, true)) else (0, 0, false) := by
  unfold lonR
  by_cases hs : s.all isD = true
  · rw [if_pos ⟨hs, chk_ok h.ok h.le⟩, if_pos hs]
    have hd : ∀ b ∈ s, isD b = true := by simpa using hs
    refine (lon_spec X hd).unique ?_
    cases r with
    | none =>
      refine Or.inl ⟨rfl, fun m hm => ?_⟩
      by_cases hz : get X (s.take m) = 0
      · exact hz
      · exact absurd (List.take_prefix m s) (hb _ ((h.mem (s.take m, get X (s.take m))).2 ⟨rfl, hz⟩))
    | some y =>
      obtain ⟨h1, h2, h3⟩ := hb
      have hy : s.take y.1.length = y.1 := by obtain ⟨t, rfl⟩ := h2; simp
      obtain ⟨g1, g2⟩ := (h.mem y).1 h1
      refine Or.inr ⟨y.1.length, h2.length_le, by rw [hy, ← g1], by rw [hy, ← g1]; exact g2, fun k hk hks => ?_⟩
      by_cases hz : get X (s.take k) = 0
      · exact hz
      · have := h3 (s.take k, get X (s.take k)) ((h.mem _).2 ⟨rfl, hz⟩) (List.take_prefix k s)
        simp at this; omega
  · rw [if_neg (fun h => hs h.1), if_neg hs]
end Go.Proofs.Ytippbkooaonajaa
