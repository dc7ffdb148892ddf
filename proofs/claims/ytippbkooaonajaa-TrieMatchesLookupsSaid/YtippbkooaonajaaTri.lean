/-
  Plain mathematics of digit tries: a list of numbers, eleven to a node (ten children and a value). Nothing of a program is named here.
-/
import Derived.Test.YtippbkooaonajaaDig
namespace Go.Proofs.Ytippbkooaonajaa
namespace Tr
open Dg
set_option linter.unusedVariables false
set_option linter.unusedSimpArgs false

def kI (F : List Int) (i d : Nat) : Int := F.getD (11 * i + d) 0
def kd (F : List Int) (i d : Nat) : Nat := (kI F i d).toNat
def vl (F : List Int) (i : Nat) : Int := F.getD (11 * i + 10) 0
def dg (b : UInt8) : Nat := b.toNat - 48
def db (d : Nat) : UInt8 := UInt8.ofNat (48 + d)

theorem isD_iff (b : UInt8) : isD b = true ↔ 48 ≤ b.toNat ∧ b.toNat ≤ 57 := by unfold isD; simp
theorem dg_lt {b : UInt8} (h : isD b = true) : dg b < 10 := by have := (isD_iff b).1 h; unfold dg; omega
theorem db_nat {d : Nat} (h : d < 10) : (db d).toNat = 48 + d := by unfold db; rw [UInt8.toNat_ofNat']; omega
theorem isD_db {d : Nat} (h : d < 10) : isD (db d) = true := by rw [isD_iff, db_nat h]; omega
theorem dg_db {d : Nat} (h : d < 10) : dg (db d) = d := by unfold dg; rw [db_nat h]; omega
theorem db_dg {b : UInt8} (h : isD b = true) : db (dg b) = b := by
  have := (isD_iff b).1 h
  apply UInt8.toNat_inj.1
  rw [db_nat (dg_lt h)]; unfold dg; omega

/-- A tree: what makes a trie valid, values aside. E: the edges between the root and each node. -/
structure Tree (F : List Int) (n : Nat) (E : Nat → Nat) : Prop where
  pos : 0 < n
  len : F.length = 11 * n
  zero : E 0 = 0
  kid : ∀ i d, i < n → d < 10 → kI F i d ≠ 0 → i < kd F i d ∧ kd F i d < n ∧ kI F i d = (kd F i d : Int) ∧ E (kd F i d) = E i + 1 ∧ E i < 15
  one : ∀ i d i' d', i < n → d < 10 → i' < n → d' < 10 → kI F i d ≠ 0 → kI F i d = kI F i' d' → i = i' ∧ d = d'
  all : ∀ j, 0 < j → j < n → ∃ i d, i < n ∧ d < 10 ∧ kI F i d = (j : Int)
def Vals (F : List Int) (n : Nat) : Prop := ∀ i, i < n → 0 ≤ vl F i ∧ vl F i ≤ 1099511627776
/-- A valid trie. -/
def Ok (F : List Int) (n : Nat) : Prop := (∃ E, Tree F n E) ∧ Vals F n

theorem Tree.le {F : List Int} {n : Nat} {E : Nat → Nat} (h : Tree F n E) {j : Nat} (hj : j < n) : E j ≤ 15 := by
  by_cases h0 : j = 0
  · subst h0; rw [h.zero]; omega
  · obtain ⟨i, d, hi, hd, hk⟩ := h.all j (by omega) hj
    have hne : kI F i d ≠ 0 := by rw [hk]; omega
    obtain ⟨_, _, h3, h4, h5⟩ := h.kid i d hi hd hne
    have : kd F i d = j := by unfold kd; rw [hk]; omega
    rw [this] at h4; omega

/-- The node of a digit string. -/
def nod (F : List Int) : Nat → Str → Option Nat
  | a, [] => some a
  | a, b :: s => if isD b = true ∧ kI F a (dg b) ≠ 0 then nod F (kd F a (dg b)) s else none

theorem nod_append (F : List Int) : ∀ (s t : Str) (a : Nat), nod F a (s ++ t) = (nod F a s).bind fun j => nod F j t
  | [], t, a => rfl
  | b :: s, t, a => by
    simp only [List.cons_append, nod]
    split
    · exact nod_append F s t _
    · rfl
theorem nod_one {F : List Int} {a : Nat} {b : UInt8} (hb : isD b = true) (hk : kI F a (dg b) ≠ 0) : nod F a [b] = some (kd F a (dg b)) := by
  simp [nod, hb, hk]
theorem nod_digits {F : List Int} : ∀ {s : Str} {a j : Nat}, nod F a s = some j → ∀ b ∈ s, isD b = true
  | [], _, _, _ => fun b hb => by cases hb
  | c :: s, a, j, h => by
    simp only [nod] at h
    split at h
    · rename_i hc
      intro b hb
      rcases List.mem_cons.1 hb with rfl | hb
      · exact hc.1
      · exact nod_digits h b hb
    · cases h
theorem nod_lt {F : List Int} {n : Nat} {E : Nat → Nat} (h : Tree F n E) : ∀ {s : Str} {a j : Nat}, a < n → nod F a s = some j → j < n ∧ E j = E a + s.length ∧ a ≤ j
  | [], a, j, ha, hn => by simp only [nod, Option.some.injEq] at hn; subst hn; exact ⟨ha, rfl, Nat.le_refl _⟩
  | b :: s, a, j, ha, hn => by
    simp only [nod] at hn
    split at hn
    · rename_i hc
      obtain ⟨k1, k2, _, k4, _⟩ := h.kid a (dg b) ha (dg_lt hc.1) hc.2
      obtain ⟨r1, r2, r3⟩ := nod_lt h k2 hn
      exact ⟨r1, by rw [r2, k4, List.length_cons]; omega, by omega⟩
    · cases hn
theorem nod_len {F : List Int} {n : Nat} {E : Nat → Nat} (h : Tree F n E) {s : Str} {j : Nat} (hn : nod F 0 s = some j) : s.length ≤ 15 := by
  obtain ⟨h1, h2, _⟩ := nod_lt h h.pos hn
  have := h.le h1
  rw [h.zero] at h2; omega
/-- The last step. -/
theorem nod_snoc {F : List Int} {s : Str} {b : UInt8} {a j : Nat} (h : nod F a (s ++ [b]) = some j) : ∃ i, nod F a s = some i ∧ isD b = true ∧ kI F i (dg b) ≠ 0 ∧ kd F i (dg b) = j := by
  rw [nod_append] at h
  cases hs : nod F a s with
  | none => rw [hs] at h; cases h
  | some i =>
    rw [hs] at h
    simp only [Option.bind, nod] at h
    split at h
    · rename_i hc
      injection h with h
      exact ⟨i, rfl, hc.1, hc.2, h⟩
    · cases h
theorem nod_inj {F : List Int} {n : Nat} {E : Nat → Nat} (h : Tree F n E) : ∀ (m : Nat) {s t : Str} {j : Nat}, s.length = m → nod F 0 s = some j → nod F 0 t = some j → s = t := by
  intro m
  induction m with
  | zero =>
    intro s t j hl hs ht
    obtain rfl : s = [] := List.length_eq_zero_iff.1 hl
    simp only [nod, Option.some.injEq] at hs
    subst hs
    have := (nod_lt h h.pos ht).2.1
    rw [h.zero] at this
    exact (List.length_eq_zero_iff.1 (by omega)).symm
  | succ m ih =>
    intro s t j hl hs ht
    have l1 := (nod_lt h h.pos hs).2.1
    have l2 := (nod_lt h h.pos ht).2.1
    have hs0 : s ≠ [] := by intro h; rw [h] at hl; cases hl
    have ht0 : t ≠ [] := by intro h0; rw [h0] at l2; simp at l2; omega
    obtain ⟨s', b, rfl⟩ : ∃ s' b, s = s' ++ [b] := ⟨s.dropLast, s.getLast hs0, (List.dropLast_concat_getLast hs0).symm⟩
    obtain ⟨t', c, rfl⟩ : ∃ t' c, t = t' ++ [c] := ⟨t.dropLast, t.getLast ht0, (List.dropLast_concat_getLast ht0).symm⟩
    obtain ⟨i, hi, hb, hk, hj⟩ := nod_snoc hs
    obtain ⟨i', hi', hc, hk', hj'⟩ := nod_snoc ht
    have a1 := (nod_lt h h.pos hi).1
    have a2 := (nod_lt h h.pos hi').1
    have e1 := (h.kid i (dg b) a1 (dg_lt hb) hk).2.2.1
    have e2 := (h.kid i' (dg c) a2 (dg_lt hc) hk').2.2.1
    have he : kI F i (dg b) = kI F i' (dg c) := by rw [e1, e2, hj, hj']
    obtain ⟨rfl, hd⟩ := h.one i (dg b) i' (dg c) a1 (dg_lt hb) a2 (dg_lt hc) hk he
    have hbc : b = c := by rw [← db_dg hb, ← db_dg hc, hd]
    have := ih (by simp at hl; exact hl) hi hi'
    rw [this, hbc]
theorem nod_all {F : List Int} {n : Nat} {E : Nat → Nat} (h : Tree F n E) : ∀ j, j < n → ∃ s, nod F 0 s = some j := by
  intro j
  induction j using Nat.strongRecOn with
  | ind j ih =>
    intro hj
    by_cases h0 : j = 0
    · subst h0; exact ⟨[], rfl⟩
    · obtain ⟨i, d, hi, hd, hk⟩ := h.all j (by omega) hj
      have hne : kI F i d ≠ 0 := by rw [hk]; omega
      have hkd : kd F i d = j := by unfold kd; rw [hk]; omega
      obtain ⟨k1, _⟩ := h.kid i d hi hd hne
      rw [hkd] at k1
      obtain ⟨s, hs⟩ := ih i k1 hi
      refine ⟨s ++ [db d], ?_⟩
      rw [nod_append, hs]
      show nod F i [db d] = some j
      rw [nod_one (isD_db hd) (by rw [dg_db hd]; exact hne), dg_db hd, hkd]

/-- What is stored. -/
def get (F : List Int) (s : Str) : Int := match nod F 0 s with | some j => vl F j | none => 0
def has (F : List Int) (s : Str) : Prop := ∃ j, nod F 0 s = some j
theorem get_some {F : List Int} {s : Str} {j : Nat} (h : nod F 0 s = some j) : get F s = vl F j := by unfold get; rw [h]
theorem get_none {F : List Int} {s : Str} (h : nod F 0 s = none) : get F s = 0 := by unfold get; rw [h]
theorem get_has {F : List Int} {s : Str} (h : get F s ≠ 0) : has F s := by
  cases hn : nod F 0 s with
  | none => exact absurd (get_none hn) h
  | some j => exact ⟨j, hn⟩
theorem has_pre {F : List Int} {s t : Str} (h : has F t) (hp : s <+: t) : has F s := by
  obtain ⟨r, rfl⟩ := hp
  obtain ⟨j, hj⟩ := h
  rw [nod_append] at hj
  cases hs : nod F 0 s with
  | none => rw [hs] at hj; cases hj
  | some i => exact ⟨i, hs⟩
theorem has_len {F : List Int} {n : Nat} {E : Nat → Nat} (h : Tree F n E) {s : Str} (hs : has F s) : s.length ≤ 15 := hs.elim fun _ hj => nod_len h hj
theorem has_digits {F : List Int} {s : Str} (hs : has F s) : ∀ b ∈ s, isD b = true := hs.elim fun _ hj => nod_digits hj

/-! ### A new node, a new value -/
def add (F : List Int) (n a d : Nat) : List Int := F.set (11 * a + d) (n : Int) ++ List.replicate 11 0
theorem add_len {F : List Int} {n a d : Nat} (h : F.length = 11 * n) : (add F n a d).length = 11 * (n + 1) := by simp [add, h]; omega
theorem set_getD {F : List Int} {p : Nat} {x : Int} (h : p < F.length) (q : Nat) : (F.set p x).getD q 0 = if q = p then x else F.getD q 0 := by
  simp only [List.getD_eq_getElem?_getD, List.getElem?_set]
  by_cases hq : p = q
  · subst hq; simp [h]
  · simp [hq, Ne.symm hq]
theorem add_getD {F : List Int} {p : Nat} {x : Int} (h : p < F.length) (q : Nat) : (F.set p x ++ List.replicate 11 0).getD q 0 = if q = p then x else F.getD q 0 := by
  rw [← set_getD h]
  simp only [List.getD_eq_getElem?_getD]
  by_cases hq : q < (F.set p x).length
  · rw [List.getElem?_append_left hq]
  · rw [List.getElem?_append_right (by omega), List.getElem?_eq_none (l := F.set p x) (by omega), List.getElem?_replicate]
    split <;> rfl
theorem add_kI {F : List Int} {n a d : Nat} (hl : F.length = 11 * n) (ha : a < n) (hd : d < 10) (i e : Nat) : kI (add F n a d) i e = if 11 * i + e = 11 * a + d then (n : Int) else kI F i e := by
  unfold kI add
  rw [add_getD (by omega)]
theorem add_vl {F : List Int} {n a d : Nat} (hl : F.length = 11 * n) (ha : a < n) (hd : d < 10) (i : Nat) : vl (add F n a d) i = vl F i := by
  unfold vl add
  rw [add_getD (by omega), if_neg (by omega)]
theorem kI_out {F : List Int} {n : Nat} (hl : F.length = 11 * n) (d : Nat) : kI F n d = 0 := by
  unfold kI
  rw [List.getD_eq_getElem?_getD, List.getElem?_eq_none (by omega)]; rfl
theorem vl_out {F : List Int} {n : Nat} (hl : F.length = 11 * n) : vl F n = 0 := by
  unfold vl
  rw [List.getD_eq_getElem?_getD, List.getElem?_eq_none (by omega)]; rfl

theorem add_tree {F : List Int} {n a d : Nat} {E : Nat → Nat} (h : Tree F n E) (ha : a < n) (hd : d < 10) (hk : kI F a d = 0) (hE : E a < 15) :
    Tree (add F n a d) (n + 1) (fun j => if j = n then E a + 1 else E j) := by
  have hK := add_kI h.len ha hd (F := F)
  have hat : ∀ i e, i < n + 1 → e < 10 → kI (add F n a d) i e ≠ 0 → (i = a ∧ e = d ∧ kI (add F n a d) i e = (n : Int)) ∨ (i < n ∧ kI F i e ≠ 0 ∧ kI (add F n a d) i e = kI F i e) := by
    intro i e hi he hne
    rw [hK] at hne ⊢
    by_cases hc : 11 * i + e = 11 * a + d
    · left; refine ⟨by omega, by omega, by rw [if_pos hc]⟩
    · right
      rw [if_neg hc] at hne ⊢
      refine ⟨?_, hne, rfl⟩
      refine Classical.byContradiction fun h2 => hne ?_
      obtain rfl : i = n := by omega
      exact kI_out h.len e
  have hn0 := h.pos
  refine ⟨by omega, add_len h.len, by (try simp only); rw [if_neg (by omega)]; exact h.zero, ?_, ?_, ?_⟩
  · intro i e hi he hne
    rcases hat i e hi he hne with ⟨rfl, rfl, hv⟩ | ⟨h1, h2, hv⟩
    · have hkd : kd (add F n i e) i e = n := by unfold kd; rw [hv]; omega
      rw [hkd]
      refine ⟨ha, by omega, hv, ?_, ?_⟩
      · (try simp only [if_true]); rw [if_neg (by omega)]
      · (try simp only); rw [if_neg (by omega)]; exact hE
    · have hkd : kd (add F n a d) i e = kd F i e := by unfold kd; rw [hv]
      obtain ⟨k1, k2, k3, k4, k5⟩ := h.kid i e h1 he h2
      rw [hkd, hv]
      refine ⟨k1, by omega, k3, ?_, ?_⟩
      · (try simp only); rw [if_neg (by omega), if_neg (by omega)]; exact k4
      · (try simp only); rw [if_neg (by omega)]; exact k5
  · intro i e i' e' hi he hi' he' hne heq
    rcases hat i e hi he hne with ⟨rfl, rfl, hv⟩ | ⟨h1, h2, hv⟩
    · rcases hat i' e' hi' he' (by rw [← heq]; exact hne) with ⟨rfl, rfl, hv'⟩ | ⟨h1', h2', hv'⟩
      · exact ⟨rfl, rfl⟩
      · exfalso
        have := h.kid i' e' h1' he' h2'
        rw [hv, hv'] at heq
        omega
    · rcases hat i' e' hi' he' (by rw [← heq]; exact hne) with ⟨rfl, rfl, hv'⟩ | ⟨h1', h2', hv'⟩
      · exfalso
        have := h.kid i e h1 he h2
        rw [hv, hv'] at heq
        omega
      · exact h.one i e i' e' h1 he h1' he' h2 (by rw [hv, hv'] at heq; exact heq)
  · intro j hj hjn
    by_cases hc : j = n
    · subst hc
      exact ⟨a, d, by omega, hd, by rw [hK, if_pos rfl]⟩
    · obtain ⟨i, e, hi, he, hv⟩ := h.all j hj (by omega)
      refine ⟨i, e, by omega, he, ?_⟩
      rw [hK, if_neg, hv]
      intro hx
      obtain rfl : i = a := by omega
      obtain rfl : e = d := by omega
      rw [hk] at hv; omega

theorem add_nod {F : List Int} {n a d : Nat} {E : Nat → Nat} (h : Tree F n E) (ha : a < n) (hd : d < 10) (hk : kI F a d = 0) : ∀ (q : Str) (x j : Nat), x < n →
    (nod (add F n a d) x q = some j ↔ nod F x q = some j ∨ (j = n ∧ ∃ q', q = q' ++ [db d] ∧ nod F x q' = some a))
  | [], x, j, hx => by simp [nod]
  | b :: q, x, j, hx => by
    have hK := add_kI h.len ha hd (F := F)
    by_cases hb : isD b = true
    · have hlt := dg_lt hb
      by_cases hc : 11 * x + dg b = 11 * a + d
      · obtain rfl : x = a := by omega
        have hde : dg b = d := by omega
        have hv : kI (add F n x d) x (dg b) = (n : Int) := by rw [hK, if_pos hc]
        have hne : kI (add F n x d) x (dg b) ≠ 0 := by rw [hv]; omega
        have hkd : kd (add F n x d) x (dg b) = n := by unfold kd; rw [hv]; omega
        have hbd : b = db d := by rw [← hde, db_dg hb]
        have hz : kI F x (dg b) = 0 := by rw [hde]; exact hk
        simp only [nod, hb, hne, hz, true_and, ne_eq, not_true_eq_false, not_false_eq_true, if_true, if_false, hkd, reduceCtorEq, false_or]
        have hleaf : ∀ e, kI (add F n x d) n e = 0 := fun e => by
          by_cases he : 11 * n + e = 11 * x + d
          · omega
          · rw [hK, if_neg he]; exact kI_out h.len e
        constructor
        · intro hq
          cases q with
          | nil =>
            simp only [nod, Option.some.injEq] at hq
            exact ⟨hq.symm, [], by rw [hbd]; rfl, by simp [nod]⟩
          | cons c q =>
            exfalso
            simp only [nod, hleaf, ne_eq, not_true_eq_false, and_false, if_false, reduceCtorEq] at hq
        · rintro ⟨rfl, q', he, hq'⟩
          cases q' with
          | nil =>
            simp only [List.nil_append, List.cons.injEq] at he
            rw [he.2]; rfl
          | cons c q' =>
            exfalso
            simp only [List.cons_append, List.cons.injEq] at he
            obtain ⟨rfl, _⟩ := he
            simp only [nod, hz, ne_eq, not_true_eq_false, and_false, if_false, reduceCtorEq] at hq'
      · have hv : kI (add F n a d) x (dg b) = kI F x (dg b) := by rw [hK, if_neg hc]
        by_cases hz : kI F x (dg b) = 0
        · simp only [nod, hb, hv, hz, ne_eq, not_true_eq_false, and_false, if_false, reduceCtorEq, false_or, false_iff]
          rintro ⟨rfl, q', he, hq'⟩
          cases q' with
          | nil =>
            simp only [List.nil_append, List.cons.injEq] at he
            simp only [nod, Option.some.injEq] at hq'
            subst hq'
            have := he.1
            subst this
            rw [dg_db hd] at hc
            omega
          | cons c q' =>
            simp only [List.cons_append, List.cons.injEq] at he
            obtain ⟨rfl, _⟩ := he
            simp only [nod, hz, ne_eq, not_true_eq_false, and_false, if_false, reduceCtorEq] at hq'
        · have hkd : kd (add F n a d) x (dg b) = kd F x (dg b) := by unfold kd; rw [hv]
          have hx2 := (h.kid x (dg b) hx hlt hz).2.1
          simp only [nod, hb, hv, hz, ne_eq, not_false_eq_true, and_self, if_true, hkd]
          rw [add_nod h ha hd hk q _ j hx2]
          constructor
          · rintro (h1 | ⟨rfl, q', rfl, hq'⟩)
            · exact Or.inl h1
            · refine Or.inr ⟨rfl, b :: q', rfl, ?_⟩
              simp only [nod, hb, hz, ne_eq, not_false_eq_true, and_self, if_true]; exact hq'
          · rintro (h1 | ⟨rfl, q', he, hq'⟩)
            · exact Or.inl h1
            · cases q' with
              | nil =>
                exfalso
                simp only [List.nil_append, List.cons.injEq] at he
                simp only [nod, Option.some.injEq] at hq'
                subst hq'
                have := he.1
                subst this
                rw [dg_db hd] at hc
                omega
              | cons c q' =>
                simp only [List.cons_append, List.cons.injEq] at he
                obtain ⟨rfl, rfl⟩ := he
                simp only [nod, hb, hz, ne_eq, not_false_eq_true, and_self, if_true] at hq'
                exact Or.inr ⟨rfl, q', rfl, hq'⟩
    · simp only [nod, hb, false_and, if_false, reduceCtorEq, false_or, false_iff, Bool.false_eq_true]
      rintro ⟨rfl, q', he, hq'⟩
      cases q' with
      | nil =>
        simp only [List.nil_append, List.cons.injEq] at he
        exact hb (by rw [he.1]; exact isD_db hd)
      | cons c q' =>
        simp only [List.cons_append, List.cons.injEq] at he
        obtain ⟨rfl, _⟩ := he
        simp only [nod, hb, false_and, if_false, reduceCtorEq, Bool.false_eq_true] at hq'

theorem add_get {F : List Int} {n a d : Nat} {E : Nat → Nat} (h : Tree F n E) (ha : a < n) (hd : d < 10) (hk : kI F a d = 0) (q : Str) : get (add F n a d) q = get F q := by
  have hn := add_nod h ha hd hk q 0
  cases hq : nod (add F n a d) 0 q with
  | none =>
    rw [get_none hq]
    cases hf : nod F 0 q with
    | none => rw [get_none hf]
    | some j => have := (hn j h.pos).2 (Or.inl hf); rw [hq] at this; cases this
  | some j =>
    rw [get_some hq, add_vl h.len ha hd]
    rcases (hn j h.pos).1 hq with h1 | ⟨rfl, q', rfl, hq'⟩
    · rw [get_some h1]
    · rw [vl_out h.len]
      have : nod F 0 (q' ++ [db d]) = none := by
        rw [nod_append, hq']
        simp only [Option.bind, nod, isD_db hd, dg_db hd, hk, ne_eq, not_true_eq_false, and_false, if_false]
      rw [get_none this]
theorem add_has {F : List Int} {n a d : Nat} {E : Nat → Nat} (h : Tree F n E) (ha : a < n) (hd : d < 10) (hk : kI F a d = 0) {p : Str} (hp : nod F 0 p = some a) (q : Str) : has (add F n a d) q ↔ has F q ∨ q = p ++ [db d] := by
  constructor
  · rintro ⟨j, hj⟩
    rcases (add_nod h ha hd hk q 0 j h.pos).1 hj with h1 | ⟨rfl, q', rfl, hq'⟩
    · exact Or.inl ⟨j, h1⟩
    · right; rw [nod_inj h _ rfl hq' hp]
  · rintro (⟨j, hj⟩ | rfl)
    · exact ⟨j, (add_nod h ha hd hk q 0 j h.pos).2 (Or.inl hj)⟩
    · exact ⟨n, (add_nod h ha hd hk _ 0 n h.pos).2 (Or.inr ⟨rfl, p, rfl, hp⟩)⟩

/-- A path that is laid where it lacks. -/
def ins : List Int → Nat → Nat → Str → List Int × Nat × Nat
  | F, n, a, [] => (F, n, a)
  | F, n, a, b :: s => if kI F a (dg b) = 0 then ins (add F n a (dg b)) (n + 1) n s else ins F n (kd F a (dg b)) s

structure Grew (F : List Int) (n : Nat) (p : Str) (F' : List Int) (n' a' : Nat) (E' : Nat → Nat) : Prop where
  tree : Tree F' n' E'
  le : n ≤ n'
  at_ : nod F' 0 p = some a'
  get : ∀ q, Tr.get F' q = Tr.get F q
  has : ∀ q, Tr.has F' q ↔ Tr.has F q ∨ q <+: p
  vals : Vals F n → Vals F' n'

theorem ins_grew : ∀ (s : Str) {F : List Int} {n a : Nat} {E : Nat → Nat} {p : Str}, Tree F n E → (∀ b ∈ s, isD b = true) → (p ++ s).length ≤ 15 → nod F 0 p = some a →
    ∃ E', Grew F n (p ++ s) (ins F n a s).1 (ins F n a s).2.1 (ins F n a s).2.2 E'
  | [], F, n, a, E, p, h, _, hl, hp => by
    refine ⟨E, h, Nat.le_refl _, by simpa [ins] using hp, fun _ => rfl, fun q => ⟨Or.inl, ?_⟩, id⟩
    rintro (h1 | h1)
    · exact h1
    · exact has_pre ⟨a, hp⟩ (by simpa using h1)
  | b :: s, F, n, a, E, p, h, hs, hl, hp => by
    have hb := hs b List.mem_cons_self
    have hlt := dg_lt hb
    obtain ⟨ha, hEa, _⟩ := nod_lt h h.pos hp
    rw [h.zero] at hEa
    have hl2 : ((p ++ [b]) ++ s).length ≤ 15 := by simpa using hl
    have happ : (p ++ [b]) ++ s = p ++ b :: s := by simp
    simp only [ins]
    by_cases hk : kI F a (dg b) = 0
    · rw [if_pos hk]
      have h2 := add_tree h ha hlt hk (by simp at hl; omega)
      have hn2 : nod (add F n a (dg b)) 0 (p ++ [b]) = some n := (add_nod h ha hlt hk _ 0 n h.pos).2 (Or.inr ⟨rfl, p, by rw [db_dg hb], hp⟩)
      obtain ⟨E', g⟩ := ins_grew s h2 (fun c hc => hs c (List.mem_cons_of_mem _ hc)) hl2 hn2
      rw [happ] at g
      refine ⟨E', g.tree, by have := g.le; omega, g.at_, fun q => by rw [g.get, add_get h ha hlt hk], fun q => ?_, fun hv => g.vals ?_⟩
      · rw [g.has, add_has h ha hlt hk hp, db_dg hb]
        constructor
        · rintro ((h1 | rfl) | h1)
          · exact Or.inl h1
          · exact Or.inr ⟨s, by simp⟩
          · exact Or.inr h1
        · rintro (h1 | h1)
          · exact Or.inl (Or.inl h1)
          · exact Or.inr h1
      · intro i hi
        rw [add_vl h.len ha hlt]
        by_cases hin : i < n
        · exact hv i hin
        · obtain rfl : i = n := by omega
          rw [vl_out h.len]; omega
    · rw [if_neg hk]
      have hn2 : nod F 0 (p ++ [b]) = some (kd F a (dg b)) := by
        rw [nod_append, hp]; exact nod_one hb hk
      obtain ⟨E', g⟩ := ins_grew s h (fun c hc => hs c (List.mem_cons_of_mem _ hc)) hl2 hn2
      rw [happ] at g
      exact ⟨E', g⟩

def sv (F : List Int) (a : Nat) (v : Int) : List Int := F.set (11 * a + 10) v
theorem sv_len (F : List Int) (a : Nat) (v : Int) : (sv F a v).length = F.length := by simp [sv]
theorem sv_kI {F : List Int} {n a : Nat} {v : Int} (hl : F.length = 11 * n) (ha : a < n) (i : Nat) {d : Nat} (hd : d < 10) : kI (sv F a v) i d = kI F i d := by
  unfold kI sv
  rw [set_getD (by omega), if_neg (by omega)]
theorem sv_vl {F : List Int} {n a : Nat} {v : Int} (hl : F.length = 11 * n) (ha : a < n) (i : Nat) : vl (sv F a v) i = if i = a then v else vl F i := by
  unfold vl sv
  rw [set_getD (by omega)]
  by_cases h : i = a
  · subst h; simp
  · rw [if_neg h, if_neg (by omega)]
theorem sv_kd {F : List Int} {n a : Nat} {v : Int} (hl : F.length = 11 * n) (ha : a < n) (i : Nat) {d : Nat} (hd : d < 10) : kd (sv F a v) i d = kd F i d := by unfold kd; rw [sv_kI hl ha i hd]
theorem sv_tree {F : List Int} {n a : Nat} {v : Int} {E : Nat → Nat} (h : Tree F n E) (ha : a < n) : Tree (sv F a v) n E := by
  refine ⟨h.pos, by rw [sv_len]; exact h.len, h.zero, ?_, ?_, ?_⟩
  · intro i d hi hd hne
    rw [sv_kI h.len ha i hd] at hne ⊢
    rw [sv_kd h.len ha i hd]
    exact h.kid i d hi hd hne
  · intro i d i' d' hi hd hi' hd' hne he
    rw [sv_kI h.len ha i hd] at hne he
    rw [sv_kI h.len ha i' hd'] at he
    exact h.one i d i' d' hi hd hi' hd' hne he
  · intro j hj hjn
    obtain ⟨i, d, hi, hd, hk⟩ := h.all j hj hjn
    exact ⟨i, d, hi, hd, by rw [sv_kI h.len ha i hd]; exact hk⟩
theorem sv_nod {F : List Int} {n a : Nat} {v : Int} (hl : F.length = 11 * n) (ha : a < n) : ∀ (s : Str) (x : Nat), nod (sv F a v) x s = nod F x s
  | [], x => rfl
  | b :: s, x => by
    by_cases hb : isD b = true
    · simp only [nod, sv_kI hl ha x (dg_lt hb), sv_kd hl ha x (dg_lt hb), sv_nod hl ha s]
    · simp [nod, hb]
theorem sv_has {F : List Int} {n a : Nat} {v : Int} (hl : F.length = 11 * n) (ha : a < n) (s : Str) : has (sv F a v) s ↔ has F s := by unfold has; rw [sv_nod hl ha]
theorem sv_get {F : List Int} {n a : Nat} {v : Int} {E : Nat → Nat} (h : Tree F n E) {p : Str} (hp : nod F 0 p = some a) (s : Str) : get (sv F a v) s = if s = p then v else get F s := by
  have ha := (nod_lt h h.pos hp).1
  unfold get
  rw [sv_nod h.len ha]
  by_cases hs : s = p
  · subst hs
    rw [if_pos rfl, hp]
    simp only [sv_vl h.len ha, if_true]
  · rw [if_neg hs]
    cases hn : nod F 0 s with
    | none => rfl
    | some j =>
      simp only
      rw [sv_vl h.len ha, if_neg]
      intro hj
      subst hj
      exact hs (nod_inj h _ rfl hn hp)
theorem sv_vals {F : List Int} {n a : Nat} {v : Int} (hl : F.length = 11 * n) (ha : a < n) (h : Vals F n) (hv : 0 ≤ v ∧ v ≤ 1099511627776) : Vals (sv F a v) n := by
  intro i hi
  rw [sv_vl hl ha]
  split
  · exact hv
  · exact h i hi

/-- Put. -/
def put (F : List Int) (n : Nat) (s : Str) (v : Int) : List Int := sv (ins F n 0 s).1 (ins F n 0 s).2.2 v
def putn (F : List Int) (n : Nat) (s : Str) : Nat := (ins F n 0 s).2.1
/-- Drop. -/
def drp (F : List Int) (s : Str) : List Int := match nod F 0 s with | some j => sv F j 0 | none => F

structure Put (F : List Int) (n : Nat) (s : Str) (v : Int) (F' : List Int) (n' : Nat) : Prop where
  ok : Ok F' n'
  le : n ≤ n'
  get : ∀ q, Tr.get F' q = if q = s then v else Tr.get F q
  has : ∀ q, Tr.has F' q ↔ Tr.has F q ∨ q <+: s
theorem put_put {F : List Int} {n : Nat} {s : Str} {v : Int} (h : Ok F n) (hs : ∀ b ∈ s, isD b = true) (hl : s.length ≤ 15) (hv : 1 ≤ v ∧ v ≤ 1099511627776) : Put F n s v (put F n s v) (putn F n s) := by
  obtain ⟨⟨E, ht⟩, hV⟩ := h
  obtain ⟨E', g⟩ := ins_grew s (p := []) ht hs (by simpa using hl) rfl
  have g := g
  rw [List.nil_append] at g
  have ha := (nod_lt g.tree g.tree.pos g.at_).1
  refine ⟨⟨⟨E', sv_tree g.tree ha⟩, sv_vals g.tree.len ha (g.vals hV) ⟨by omega, hv.2⟩⟩, g.le, fun q => ?_, fun q => ?_⟩
  · unfold put
    rw [sv_get g.tree g.at_, g.get]
  · unfold put
    rw [sv_has g.tree.len ha, g.has]
structure Drp (F : List Int) (n : Nat) (s : Str) (F' : List Int) : Prop where
  ok : Ok F' n
  get : ∀ q, Tr.get F' q = if q = s then 0 else Tr.get F q
  has : ∀ q, Tr.has F' q ↔ Tr.has F q
theorem drp_drp {F : List Int} {n : Nat} (s : Str) (h : Ok F n) : Drp F n s (drp F s) := by
  obtain ⟨⟨E, ht⟩, hV⟩ := h
  cases hn : nod F 0 s with
  | none =>
    have hd : drp F s = F := by unfold drp; rw [hn]
    rw [hd]
    refine ⟨⟨⟨E, ht⟩, hV⟩, fun q => ?_, fun q => Iff.rfl⟩
    split
    · rename_i h; rw [h, get_none hn]
    · rfl
  | some j =>
    have ha := (nod_lt ht ht.pos hn).1
    have hd : drp F s = sv F j 0 := by unfold drp; rw [hn]
    rw [hd]
    exact ⟨⟨⟨E, sv_tree ht ha⟩, sv_vals ht.len ha hV (by omega)⟩, fun q => sv_get ht hn q, fun q => sv_has ht.len ha q⟩
end Tr
end Go.Proofs.Ytippbkooaonajaa
