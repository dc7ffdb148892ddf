/-
  Plain mathematics of telephone numbers and of sets of prefixes. Nothing of a program is named here.
-/
import Derived.WalkKit
namespace Go.Proofs.Ytippbkooaonajaa
namespace Dg
set_option linter.unusedVariables false
set_option linter.unusedSimpArgs false

abbrev Str := List UInt8
/-- A digit. -/
def isD (b : UInt8) : Bool := decide (48 ≤ b.toNat) && decide (b.toNat ≤ 57)
/-- A string of lo to hi digits. -/
def num (lo hi : Nat) (l : Str) : Bool := decide (lo ≤ l.length) && (decide (l.length ≤ hi) && l.all isD)
/-- p is a prefix of s. -/
def pre (p s : Str) : Bool := decide (p.length ≤ s.length) && (s.take p.length == p)

theorem pre_iff {p s : Str} : pre p s = true ↔ p <+: s := by
  unfold pre
  rw [List.prefix_iff_eq_take]
  simp only [Bool.and_eq_true, decide_eq_true_eq, beq_iff_eq]
  constructor
  · rintro ⟨_, h⟩; exact h.symm
  · intro h
    refine ⟨?_, h.symm⟩
    have := congrArg List.length h
    rw [List.length_take] at this
    omega

theorem pre_false {p s : Str} : pre p s = false ↔ ¬ p <+: s := by rw [← pre_iff]; simp

/-! ### Numbers -/
def reached (d c a : Str) : Str := if pre [48, 48] d = true then d.drop 2 else if pre [48] d = true then c ++ d.drop 1 else c ++ a ++ d
def norm (d c a : Str) : Option Str :=
  if (num 1 20 d && (num 1 15 c && num 0 15 a)) = true then (if num 1 15 (reached d c a) = true then some (reached d c a) else none) else none
def cands (n c a : Str) : List Str := (if pre (c ++ a) n = true then [n.drop (c ++ a).length] else []) ++ ((if pre c n = true then [48 :: n.drop c.length] else []) ++ [48 :: 48 :: n])
def shorten (n c a : Str) : Option Str := (cands n c a).find? (fun s => norm s c a == some n)
def ok (n c a : Str) : Bool := num 1 15 n && (num 1 15 c && num 0 15 a)

theorem num_iff {lo hi : Nat} {l : Str} : num lo hi l = true ↔ lo ≤ l.length ∧ l.length ≤ hi ∧ ∀ b ∈ l, isD b = true := by
  unfold num; simp

theorem num_append {lo hi : Nat} {l m : Str} (h : num lo hi (l ++ m) = true) : (∀ b ∈ l, isD b = true) ∧ (∀ b ∈ m, isD b = true) := by
  obtain ⟨_, _, h⟩ := num_iff.1 h
  exact ⟨fun b hb => h b (List.mem_append_left _ hb), fun b hb => h b (List.mem_append_right _ hb)⟩

theorem norm_some {d c a n : Str} : norm d c a = some n ↔ num 1 20 d = true ∧ num 1 15 c = true ∧ num 0 15 a = true ∧ num 1 15 n = true ∧ reached d c a = n := by
  unfold norm
  constructor
  · intro h
    split at h
    · rename_i h1
      simp only [Bool.and_eq_true] at h1
      split at h
      · rename_i h2
        injection h with h
        subst h
        exact ⟨h1.1, h1.2.1, h1.2.2, h2, rfl⟩
      · cases h
    · cases h
  · rintro ⟨h1, h2, h3, h4, h5⟩
    subst h5
    rw [h1, h2, h3, h4]
    simp

theorem pre_at (p r : Str) : pre p (p ++ r) = true := pre_iff.2 ⟨r, rfl⟩
theorem pre_one (r : Str) : pre [48] (48 :: r) = true := pre_iff.2 ⟨r, rfl⟩
theorem pre_two (r : Str) : pre [48, 48] (48 :: 48 :: r) = true := pre_iff.2 ⟨r, rfl⟩
theorem pre_cons {x : UInt8} {p s : Str} (h : pre (x :: p) s = true) : ∃ r, s = x :: (p ++ r) := by
  obtain ⟨r, hr⟩ := pre_iff.1 h
  exact ⟨r, hr.symm⟩

theorem reached_intl (n c a : Str) : reached (48 :: 48 :: n) c a = n := by
  unfold reached
  rw [if_pos (pre_two n)]
  rfl

theorem reached_nat {r : Str} (c a : Str) (h : ∀ t, r ≠ 48 :: t) : reached (48 :: r) c a = c ++ r := by
  unfold reached
  rw [if_neg, if_pos (pre_one r)]
  · rfl
  · intro hp
    obtain ⟨t, ht⟩ := pre_cons hp
    injection ht with _ ht
    exact h t ht

theorem reached_local {r : Str} (c a : Str) (h : ∀ t, r ≠ 48 :: t) : reached r c a = c ++ a ++ r := by
  unfold reached
  rw [if_neg, if_neg]
  · intro hp
    obtain ⟨t, ht⟩ := pre_cons hp
    exact h t ht
  · intro hp
    obtain ⟨t, ht⟩ := pre_cons hp
    exact h _ ht

theorem norm_intl {n c a : Str} (h : ok n c a = true) : norm (48 :: 48 :: n) c a = some n := by
  unfold ok at h
  simp only [Bool.and_eq_true] at h
  obtain ⟨h1, h2, h3⟩ := h
  refine norm_some.2 ⟨?_, h2, h3, h1, reached_intl n c a⟩
  obtain ⟨a1, a2, a3⟩ := num_iff.1 h1
  refine num_iff.2 ⟨by simp, by simp; omega, fun b hb => ?_⟩
  rcases List.mem_cons.1 hb with e | hb
  · rw [e]; decide
  · rcases List.mem_cons.1 hb with e | hb
    · rw [e]; decide
    · exact a3 b hb

/-- The first candidate of the three that exists. -/
def short (n c a : Str) : Option Str :=
  if ok n c a = true then
    if (pre (c ++ a) n && (decide ((c ++ a).length < n.length) && !(n[(c ++ a).length]? == some 48))) = true then some (n.drop (c ++ a).length)
    else if (pre c n && !pre (c ++ [48]) n) = true then some (48 :: n.drop c.length)
    else some (48 :: 48 :: n)
  else none

theorem drop_ne {n p : Str} (h : (n[p.length]? == some 48) = false) : ∀ t, n.drop p.length ≠ 48 :: t := by
  intro t ht
  have : (n.drop p.length)[0]? = some 48 := by rw [ht]; rfl
  rw [List.getElem?_drop] at this
  simp at this
  simp [this] at h

theorem find_bad {n c a : Str} (h : ok n c a = false) (s : Str) : (norm s c a == some n) = false := by
  rw [Bool.eq_false_iff]
  intro h2
  have h2 := eq_of_beq h2
  obtain ⟨_, h3, h4, h5, _⟩ := norm_some.1 h2
  unfold ok at h
  rw [h5, h3, h4] at h
  cases h

theorem local_ok {n c a : Str} (h : ok n c a = true) (hp : pre (c ++ a) n = true) : (norm (n.drop (c ++ a).length) c a == some n) = (decide ((c ++ a).length < n.length) && !(n[(c ++ a).length]? == some 48)) := by
  obtain ⟨r, rfl⟩ := pre_iff.1 hp
  have hk := h
  unfold ok at h
  simp only [Bool.and_eq_true] at h
  obtain ⟨h1, h2, h3⟩ := h
  obtain ⟨a1, a2, a3⟩ := num_iff.1 h1
  have hr : (c ++ a ++ r).drop (c ++ a).length = r := by simp
  rw [hr]
  by_cases hl : (c ++ a).length < (c ++ a ++ r).length
  · by_cases hz : ((c ++ a ++ r)[(c ++ a).length]? == some 48) = true
    · rw [hz, Bool.not_true, Bool.and_false, Bool.eq_false_iff]
      intro h5
      obtain ⟨_, _, _, _, h6⟩ := norm_some.1 (eq_of_beq h5)
      have hz := eq_of_beq hz
      rw [List.getElem?_append_right (Nat.le_refl _), Nat.sub_self] at hz
      cases r with
      | nil => simp at hz
      | cons x t =>
        simp at hz
        subst hz
        have hlen := congrArg List.length h6
        unfold reached at hlen
        split at hlen
        · simp at hlen; omega
        · rw [if_pos (pre_one t)] at hlen
          simp at hlen
          omega
    · have hz' : ((c ++ a ++ r)[(c ++ a).length]? == some 48) = false := by simpa using hz
      rw [hz', Bool.not_false, Bool.and_true, decide_eq_true hl]
      have hne := drop_ne (n := c ++ a ++ r) (p := c ++ a) hz'
      rw [hr] at hne
      refine beq_iff_eq.2 (norm_some.2 ⟨num_iff.2 ⟨?_, ?_, (num_append h1).2⟩, h2, h3, h1, reached_local c a hne⟩)
      · simp at hl; cases r with
        | nil => simp at hl
        | cons x t => simp
      · simp at a2; omega
  · have : r = [] := by cases r with
      | nil => rfl
      | cons x t => simp at hl
    subst this
    rw [decide_eq_false hl, Bool.false_and, Bool.eq_false_iff]
    intro h5
    obtain ⟨h6, _⟩ := norm_some.1 (eq_of_beq h5)
    cases h6

theorem pre_more {n c : Str} (hp : pre c n = true) : pre (c ++ [48]) n = (n[c.length]? == some 48) := by
  obtain ⟨r, rfl⟩ := pre_iff.1 hp
  rw [List.getElem?_append_right (Nat.le_refl _), Nat.sub_self]
  cases r with
  | nil =>
    rw [List.append_nil]
    have : ¬ pre (c ++ [48]) c = true := by
      intro h
      have := (pre_iff.1 h).length_le
      simp at this
      omega
    simpa using this
  | cons x t =>
    by_cases hx : x = 48
    · subst hx
      have : pre (c ++ [48]) (c ++ 48 :: t) = true := pre_iff.2 ⟨t, by simp⟩
      rw [this]; simp
    · have : ¬ pre (c ++ [48]) (c ++ x :: t) = true := by
        intro h
        obtain ⟨u, hu⟩ := pre_iff.1 h
        rw [List.append_assoc, List.append_cancel_left_eq] at hu
        simp at hu
        exact hx hu.1.symm
      have hx2 : (x == (48 : UInt8)) = false := by simpa using hx
      have t2 : pre (c ++ [48]) (c ++ x :: t) = false := by simpa using this
      rw [t2]
      show false = (some x == some (48 : UInt8))
      exact (Bool.eq_false_iff.2 (by simpa using hx)).symm

theorem nat_ok {n c a : Str} (h : ok n c a = true) (hp : pre c n = true) : (norm (48 :: n.drop c.length) c a == some n) = !pre (c ++ [48]) n := by
  rw [pre_more hp]
  obtain ⟨r, rfl⟩ := pre_iff.1 hp
  unfold ok at h
  simp only [Bool.and_eq_true] at h
  obtain ⟨h1, h2, h3⟩ := h
  obtain ⟨a1, a2, a3⟩ := num_iff.1 h1
  have hr : (c ++ r).drop c.length = r := by simp
  rw [hr]
  by_cases hz : ((c ++ r)[c.length]? == some 48) = true
  · rw [hz, Bool.not_true, Bool.eq_false_iff]
    intro h5
    obtain ⟨_, _, _, _, h6⟩ := norm_some.1 (eq_of_beq h5)
    have hz := eq_of_beq hz
    rw [List.getElem?_append_right (Nat.le_refl _), Nat.sub_self] at hz
    cases r with
    | nil => simp at hz
    | cons x t =>
      simp at hz
      subst hz
      have hlen := congrArg List.length h6
      rw [reached_intl] at hlen
      simp at hlen
      omega
  · have hz' : ((c ++ r)[c.length]? == some 48) = false := by simpa using hz
    rw [hz', Bool.not_false]
    have hne := drop_ne (n := c ++ r) (p := c) hz'
    rw [hr] at hne
    refine beq_iff_eq.2 (norm_some.2 ⟨num_iff.2 ⟨by simp, by simp at a2 ⊢; omega, fun b hb => ?_⟩, h2, h3, h1, reached_nat c a hne⟩)
    rcases List.mem_cons.1 hb with e | hb
    · rw [e]; decide
    · exact (num_append h1).2 b hb

theorem find_hit {α : Type} {p : α → Bool} {x : α} {l : List α} (h : p x = true) : (x :: l).find? p = some x := by simp [h]
theorem find_miss {α : Type} {p : α → Bool} {x : α} {l : List α} (h : p x = false) : (x :: l).find? p = l.find? p := by simp [h]

theorem shorten_eq (n c a : Str) : shorten n c a = short n c a := by
  unfold shorten short cands
  by_cases h : ok n c a = true
  · rw [if_pos h]
    have h3 : (([48 :: 48 :: n] : List Str).find? fun s => norm s c a == some n) = some (48 :: 48 :: n) := find_hit (p := fun s => norm s c a == some n) (beq_iff_eq.2 (norm_intl h))
    have h2 : (((if pre c n = true then [48 :: n.drop c.length] else []) ++ [48 :: 48 :: n] : List Str).find? fun s => norm s c a == some n) =
        (if (pre c n && !pre (c ++ [48]) n) = true then some (48 :: n.drop c.length) else some (48 :: 48 :: n)) := by
      by_cases hp : pre c n = true
      · have hn := nat_ok h hp
        rw [if_pos hp, hp, Bool.true_and]
        rw [List.cons_append, List.nil_append]
        cases hb : !pre (c ++ [48]) n
        · rw [hb] at hn
          rw [find_miss (p := fun s => norm s c a == some n) hn, h3]; rfl
        · rw [hb] at hn
          rw [find_hit (p := fun s => norm s c a == some n) hn]; rfl
      · have hp' : pre c n = false := by simpa using hp
        rw [if_neg hp, hp', List.nil_append, h3]; rfl
    by_cases hp : pre (c ++ a) n = true
    · have hn := local_ok h hp
      rw [if_pos hp, hp, Bool.true_and, List.cons_append, List.nil_append]
      cases hb : (decide ((c ++ a).length < n.length) && !(n[(c ++ a).length]? == some 48))
      · rw [hb] at hn
        rw [find_miss (p := fun s => norm s c a == some n) hn, h2]; rfl
      · rw [hb] at hn
        rw [find_hit (p := fun s => norm s c a == some n) hn]; rfl
    · have hp' : pre (c ++ a) n = false := by simpa using hp
      rw [if_neg hp, hp', List.nil_append, h2]; rfl
  · rw [if_neg h, List.find?_eq_none.2]
    intro x _
    have := find_bad (n := n) (c := c) (a := a) (by simpa using h) x
    simp [this]

theorem shorten_norm {n c a s : Str} (h : shorten n c a = some s) : norm s c a = some n := by
  have := List.find?_some h
  exact eq_of_beq this

theorem shorten_none {n c a : Str} : shorten n c a = none ↔ ok n c a = false := by
  rw [shorten_eq]
  unfold short
  by_cases h : ok n c a = true
  · rw [if_pos h]
    constructor
    · intro h2
      split at h2
      · cases h2
      · split at h2 <;> cases h2
    · intro h2; rw [h] at h2; cases h2
  · rw [if_neg h]
    simpa using h

/-- The shortened form of a number is shorter than, or is, whatever was dialled. -/
theorem shorten_least {d c a n s : Str} (hn : norm d c a = some n) (hs : shorten n c a = some s) : s.length < d.length ∨ s = d := by
  rw [shorten_eq] at hs
  obtain ⟨h1, h2, h3, h4, h5⟩ := norm_some.1 hn
  have hok : ok n c a = true := by unfold ok; rw [h4, h2, h3]; rfl
  unfold short at hs
  rw [if_pos hok] at hs
  unfold reached at h5
  by_cases p2 : pre [48, 48] d = true
  · rw [if_pos p2] at h5
    obtain ⟨r, rfl⟩ := pre_cons p2
    have : n = r := by rw [← h5]; rfl
    subst this
    split at hs
    · injection hs with hs; subst hs; left; simp; omega
    · split at hs
      · rename_i h6
        injection hs with hs; subst hs
        simp only [Bool.and_eq_true] at h6
        have hc := (num_iff.1 h2).1
        left; simp; omega
      · injection hs with hs; subst hs; right; rfl
  · rw [if_neg p2] at h5
    by_cases p1 : pre [48] d = true
    · rw [if_pos p1] at h5
      obtain ⟨r, rfl⟩ := pre_cons p1
      have h5' : n = c ++ r := by rw [← h5]; rfl
      have hr : ∀ t, r ≠ 48 :: t := by
        intro t ht; subst ht
        exact p2 (pre_iff.2 ⟨t, rfl⟩)
      have hpc : pre c n = true := pre_iff.2 ⟨r, h5'.symm⟩
      have hd : n.drop c.length = r := by rw [h5']; simp
      have hl : n.length = c.length + r.length := by rw [h5']; simp
      split at hs
      · rename_i h6
        injection hs with hs; subst hs
        left; simp; omega
      · have hz : pre (c ++ [48]) n = false := by
          rw [pre_more hpc, h5', List.getElem?_append_right (Nat.le_refl _), Nat.sub_self]
          cases r with
          | nil => rfl
          | cons x t =>
            have : x ≠ 48 := fun e => hr t (by rw [e])
            simpa using this
        rw [hpc, hz, Bool.not_false, Bool.and_self, if_pos rfl] at hs
        injection hs with hs; subst hs
        right; rw [hd]; rfl
    · rw [if_neg p1] at h5
      have hd : n.drop (c ++ a).length = d := by rw [← h5]; simp
      have hp : pre (c ++ a) n = true := pre_iff.2 ⟨d, h5⟩
      have hlen : (c ++ a).length < n.length := by
        rw [← h5]
        have := (num_iff.1 h1).1
        simp only [List.length_append]
        omega
      have hz : (n[(c ++ a).length]? == some 48) = false := by
        rw [← h5, List.getElem?_append_right (Nat.le_refl _), Nat.sub_self]
        cases d with
        | nil => rfl
        | cons x t =>
          have : x ≠ 48 := fun e => p1 (pre_iff.2 ⟨t, by rw [e]; rfl⟩)
          simpa using this
      rw [hp, hz, decide_eq_true hlen] at hs
      simp only [Bool.not_false, Bool.and_self, if_true] at hs
      injection hs with hs
      right; rw [← hs, hd]

/-! ### Common prefixes -/
def com : Str → Str → Nat
  | x :: a, y :: b => if x = y then com a b + 1 else 0
  | _, _ => 0
def mat (ps : List Str) (n : Str) : Bool := ps.any fun p => pre p n

theorem com_le_left : ∀ a b : Str, com a b ≤ a.length
  | [], _ => by simp [com]
  | _ :: _, [] => by simp [com]
  | x :: a, y :: b => by
    unfold com; split
    · have := com_le_left a b; simp; omega
    · simp
theorem com_comm : ∀ a b : Str, com a b = com b a
  | [], [] => rfl
  | [], _ :: _ => rfl
  | _ :: _, [] => rfl
  | x :: a, y :: b => by
    unfold com
    by_cases h : x = y
    · subst h; simp [com_comm a b]
    · rw [if_neg h, if_neg (fun e => h e.symm)]
theorem com_le_right (a b : Str) : com a b ≤ b.length := by rw [com_comm]; exact com_le_left b a
theorem com_take : ∀ a b : Str, a.take (com a b) = b.take (com a b)
  | [], _ => by simp [com]
  | _ :: _, [] => by simp [com]
  | x :: a, y :: b => by
    unfold com; split
    · rename_i h; subst h; simp [com_take a b]
    · simp
theorem com_end : ∀ a b : Str, com a b = a.length ∨ com a b = b.length ∨ a[com a b]? ≠ b[com a b]?
  | [], _ => by simp [com]
  | _ :: _, [] => by simp [com]
  | x :: a, y :: b => by
    unfold com
    by_cases h : x = y
    · rw [if_pos h]
      rcases com_end a b with h | h | h
      · left; simp [h]
      · right; left; simp [h]
      · right; right; simpa using h
    · rw [if_neg h]
      right; right; simpa using h
theorem com_self : ∀ a : Str, com a a = a.length
  | [] => rfl
  | x :: a => by unfold com; simp [com_self a]
theorem com_ultra : ∀ a b c : Str, min (com a b) (com b c) ≤ com a c
  | [], _, _ => by simp [com]
  | _ :: _, [], _ => by simp [com]
  | _ :: _, _ :: _, [] => by simp [com]
  | x :: a, y :: b, z :: c => by
    have ih := com_ultra a b c
    unfold com
    by_cases h : x = y <;> by_cases k : y = z
    · subst h k; simp only [if_true]; omega
    · rw [if_neg k]; omega
    · rw [if_neg h]; omega
    · rw [if_neg h]; omega
theorem com_pre : ∀ a b : Str, (com a b = a.length) ↔ a <+: b
  | [], b => by simp [com]
  | x :: a, [] => by simp [com]
  | x :: a, y :: b => by
    unfold com
    by_cases h : x = y
    · subst h
      have := com_pre a b
      simp [List.cons_prefix_cons, this]
    · rw [if_neg h]; simp [List.cons_prefix_cons, h]
/-- Where the two first differ. -/
theorem com_is {a b : Str} {n : Nat} (ht : a.take n = b.take n) (hn : n ≤ a.length) (hm : n ≤ b.length) (he : n = a.length ∨ n = b.length ∨ a[n]? ≠ b[n]?) : com a b = n := by
  induction n generalizing a b with
  | zero =>
    cases a with
    | nil => rfl
    | cons x a => cases b with
      | nil => rfl
      | cons y b =>
        unfold com
        rw [if_neg]
        intro e; subst e
        rcases he with h | h | h
        · simp at h
        · simp at h
        · simp at h
  | succ n ih =>
    cases a with
    | nil => simp at hn
    | cons x a => cases b with
      | nil => simp at hm
      | cons y b =>
        simp only [List.take_succ_cons, List.cons.injEq] at ht
        unfold com
        rw [if_pos ht.1, ih ht.2 (by simpa using hn) (by simpa using hm) (by simpa using he)]

/-! ### Sets of prefixes -/
def digs : List UInt8 := [48, 49, 50, 51, 52, 53, 54, 55, 56, 57]
def exts (p : Str) : List Str := digs.map fun d => p ++ [d]

theorem digs_iff (d : UInt8) : d ∈ digs ↔ isD d = true := by
  unfold isD digs
  simp only [Bool.and_eq_true, decide_eq_true_eq]
  constructor
  · intro h
    simp at h
    rcases h with rfl | rfl | rfl | rfl | rfl | rfl | rfl | rfl | rfl | rfl <;> decide
  · rintro ⟨h1, h2⟩
    have hd : d = UInt8.ofNat d.toNat := by simp
    have : d.toNat = 48 ∨ d.toNat = 49 ∨ d.toNat = 50 ∨ d.toNat = 51 ∨ d.toNat = 52 ∨ d.toNat = 53 ∨ d.toNat = 54 ∨ d.toNat = 55 ∨ d.toNat = 56 ∨ d.toNat = 57 := by omega
    rcases this with h | h | h | h | h | h | h | h | h | h <;> rw [h] at hd <;> rw [hd] <;> decide

theorem mem_exts {p x : Str} : x ∈ exts p ↔ ∃ d, isD d = true ∧ x = p ++ [d] := by
  unfold exts
  simp only [List.mem_map]
  constructor
  · rintro ⟨d, hd, rfl⟩; exact ⟨d, (digs_iff d).1 hd, rfl⟩
  · rintro ⟨d, hd, rfl⟩; exact ⟨d, (digs_iff d).2 hd, rfl⟩
theorem exts_len {p x : Str} (h : x ∈ exts p) : x.length = p.length + 1 := by
  obtain ⟨d, _, rfl⟩ := mem_exts.1 h; simp
theorem exts_nodup (p : Str) : (exts p).Nodup := by
  unfold exts
  refine List.pairwise_map.2 ((by decide : digs.Pairwise (· ≠ ·)).imp fun {a b} h e => h ?_)
  simpa using e
theorem exts_ten (p : Str) : (exts p).length = 10 := by simp [exts, digs]

/-- Every long enough string of digits behind p starts with one of the prefixes. -/
inductive Full (P : List Str) : Str → Prop
  | cov {p q : Str} : q ∈ P → q <+: p → Full P p
  | join {p : Str} : (∀ x ∈ exts p, Full P x) → Full P p

def digits (p : Str) : Prop := ∀ b ∈ p, isD b = true
def Anti (P : List Str) : Prop := ∀ p ∈ P, ∀ q ∈ P, p <+: q → p = q
def NoTen (P : List Str) : Prop := ∀ q, ¬ ∀ x ∈ exts q, x ∈ P
def Short (P : List Str) : Prop := ∀ p ∈ P, digits p ∧ p.length ≤ 14

theorem Full.mem {P : List Str} {p : Str} (h : p ∈ P) : Full P p := .cov h (List.prefix_refl _)

theorem digits_ext {p x : Str} (hp : digits p) (h : x ∈ exts p) : digits x := by
  obtain ⟨d, hd, rfl⟩ := mem_exts.1 h
  intro b hb
  rcases List.mem_append.1 hb with hb | hb
  · exact hp b hb
  · simp at hb; subst hb; exact hd
theorem digits_pre {p q : Str} (hq : digits q) (h : p <+: q) : digits p := fun b hb => hq b (h.subset hb)

theorem Full.up {P : List Str} {q : Str} (h : Full P q) : ∀ p, q <+: p → digits p → Full P p := by
  induction h with
  | cov hm hp => exact fun p h _ => .cov hm (hp.trans h)
  | @join q hx ih =>
    intro p h hd
    obtain ⟨r, rfl⟩ := h
    cases r with
    | nil => rw [List.append_nil]; exact .join hx
    | cons d r =>
      have hd' : isD d = true := hd d (by simp)
      exact ih (q ++ [d]) (mem_exts.2 ⟨d, hd', rfl⟩) _ ⟨r, by simp⟩ hd

theorem Full.sub {P Q : List Str} (h : ∀ q ∈ P, Full Q q) {p : Str} (hf : Full P p) : digits p → Full Q p := by
  induction hf with
  | cov hm hp => exact fun hd => (h _ hm).up _ hp hd
  | @join q hx ih => exact fun hd => .join fun x hxm => ih x hxm (digits_ext hd hxm)

def Eqv (P Q : List Str) : Prop := ∀ p, digits p → (Full P p ↔ Full Q p)
theorem Eqv.refl (P : List Str) : Eqv P P := fun _ _ => Iff.rfl
theorem Eqv.symm {P Q : List Str} (h : Eqv P Q) : Eqv Q P := fun p hp => (h p hp).symm
theorem Eqv.trans {P Q R : List Str} (h : Eqv P Q) (k : Eqv Q R) : Eqv P R := fun p hp => (h p hp).trans (k p hp)
theorem Eqv.of {P Q : List Str} (h : ∀ q ∈ P, Full Q q) (k : ∀ q ∈ Q, Full P q) : Eqv P Q :=
  fun _ hp => ⟨fun hf => hf.sub h hp, fun hf => hf.sub k hp⟩

/-- Strings of fourteen digits or more: being full is having a prefix in the set. -/
theorem Full.long {P : List Str} (h : Short P) {p : Str} (hf : Full P p) : 14 ≤ p.length → ∃ q ∈ P, q <+: p := by
  induction hf with
  | cov hm hp => exact fun _ => ⟨_, hm, hp⟩
  | @join p hx ih =>
    intro hl
    have hm : p ++ [48] ∈ exts p := mem_exts.2 ⟨48, rfl, rfl⟩
    obtain ⟨q, hq, hp⟩ := ih _ hm (by simp; omega)
    refine ⟨q, hq, ?_⟩
    obtain ⟨_, hlen⟩ := h q hq
    rw [List.prefix_iff_eq_take] at hp ⊢
    rw [List.take_append_of_le_length (by omega)] at hp
    exact hp

theorem Full.reduced {P : List Str} (h : NoTen P) {p : Str} (hf : Full P p) : ∃ q ∈ P, q <+: p := by
  induction hf with
  | cov hm hp => exact ⟨_, hm, hp⟩
  | @join p hx ih =>
    refine Classical.byContradiction fun hn => h p fun x hxm => ?_
    obtain ⟨q, hq, hp⟩ := ih x hxm
    obtain ⟨d, _, rfl⟩ := mem_exts.1 hxm
    rcases List.prefix_concat_iff.1 hp with rfl | hp
    · exact hq
    · exact absurd ⟨q, hq, hp⟩ hn

/-- The smallest set of prefixes that matches what P does, in order. -/
structure Red (P ls : List Str) : Prop where
  sorted : ls.Pairwise (· < ·)
  anti : Anti ls
  noten : NoTen ls
  short : Short ls
  eqv : Eqv P ls
  len : ls.length ≤ P.length

theorem sorted_ext {l m : List Str} (hl : l.Pairwise (· < ·)) (hm : m.Pairwise (· < ·)) (h : ∀ x, x ∈ l ↔ x ∈ m) : l = m := by
  have nd : ∀ {l : List Str}, l.Pairwise (· < ·) → l.Nodup := fun hl => hl.imp fun {a b} hab e => by subst e; exact List.lt_irrefl _ hab
  have hp : l.Perm m := (List.perm_ext_iff_of_nodup (nd hl) (nd hm)).2 h
  exact hp.eq_of_pairwise (le := fun a b => a < b) (fun a b _ _ h1 h2 => absurd (List.lt_trans h1 h2) (List.lt_irrefl _)) hl hm

theorem Red.sub {P Q l m : List Str} (hl : Red P l) (hm : Red Q m) (h : Eqv P Q) : ∀ x ∈ l, x ∈ m := by
  have hlm : Eqv l m := hl.eqv.symm.trans (h.trans hm.eqv)
  intro x hx
  have hd := (hl.short x hx).1
  obtain ⟨q, hq, hp⟩ := ((hlm x hd).1 (Full.mem hx)).reduced hm.noten
  obtain ⟨r, hr, hp2⟩ := ((hlm q (hm.short q hq).1).2 (Full.mem hq)).reduced hl.noten
  have := hl.anti r hr x hx (hp2.trans hp)
  subst this
  have : q = r := by
    obtain ⟨s, hs⟩ := hp
    obtain ⟨t, ht⟩ := hp2
    have h1 := congrArg List.length hs
    have h2 := congrArg List.length ht
    simp at h1 h2
    have : t = [] := by cases t with
      | nil => rfl
      | cons _ _ => simp at h2; omega
    rw [← ht, this, List.append_nil]
  rw [← this]; exact hq

theorem Red.unique {P Q l m : List Str} (hl : Red P l) (hm : Red Q m) (h : Eqv P Q) : l = m :=
  sorted_ext hl.sorted hm.sorted fun x => ⟨hl.sub hm h x, hm.sub hl h.symm x⟩

/-- What has a prefix of the set as a prefix is matched. -/
theorem mat_iff {ps : List Str} {n : Str} : mat ps n = true ↔ ∃ q ∈ ps, q <+: n := by
  unfold mat
  rw [List.any_eq_true]
  exact ⟨fun ⟨q, hq, h⟩ => ⟨q, hq, pre_iff.1 h⟩, fun ⟨q, hq, h⟩ => ⟨q, hq, pre_iff.2 h⟩⟩

theorem mat_eqv {P Q : List Str} (hP : Short P) (hQ : Short Q) (h : Eqv P Q) {n : Str} (hd : digits n) (hn : 14 ≤ n.length) : mat P n = mat Q n := by
  have key : ∀ {A B : List Str}, Short A → Short B → Eqv A B → mat A n = true → mat B n = true := by
    intro A B hA hB hE hm
    obtain ⟨q, hq, hp⟩ := mat_iff.1 hm
    exact mat_iff.2 (((hE n hd).1 (.cov hq hp)).long hB hn)
  rw [Bool.eq_iff_iff]
  exact ⟨key hP hQ h, key hQ hP h.symm⟩

end Dg
end Go.Proofs.Ytippbkooaonajaa
