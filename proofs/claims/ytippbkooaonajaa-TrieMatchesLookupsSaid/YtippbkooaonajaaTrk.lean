/-
  Plain mathematics of digit tries, third part: what the two checks of validity keep while they go through the nodes. Nothing of a program is named here.
-/
import Derived.Test.YtippbkooaonajaaTrj
namespace Go.Proofs.Ytippbkooaonajaa
namespace Tr
open Dg
set_option linter.unusedVariables false
set_option linter.unusedSimpArgs false

theorem setD {F : List Int} {p : Nat} {x : Int} (h : p < F.length) (q : Nat) : (F.set p x).getD q 0 = if q = p then x else F.getD q 0 := set_getD h q
theorem getD_out {F : List Int} {q : Nat} (h : F.length ≤ q) : F.getD q 0 = 0 := by
  rw [List.getD_eq_getElem?_getD, List.getElem?_eq_none h]; rfl
theorem rep_getD (n q : Nat) : (List.replicate n (0 : Int)).getD q 0 = 0 := by
  rw [List.getD_eq_getElem?_getD, List.getElem?_replicate]; split <;> rfl

/-- The pairs of a node and a digit that were gone through. -/
def done (i d i' d' : Nat) : Prop := (i' < i ∧ d' < 10) ∨ (i' = i ∧ d' < d)
theorem done_next {i i' d' : Nat} : done (i + 1) 0 i' d' ↔ done i 10 i' d' := by unfold done; omega
theorem done_succ {i d i' d' : Nat} : done i (d + 1) i' d' ↔ done i d i' d' ∨ (i' = i ∧ d' = d) := by unfold done; omega

structure PI (F : List Int) (n : Nat) (E : List Int) (i d m : Nat) : Prop where
  len : E.length = n
  zero : E.getD 0 0 = 0
  nn : ∀ k, 0 ≤ E.getD k 0 ∧ E.getD k 0 ≤ 15
  kid : ∀ i' d', done i d i' d' → kI F i' d' ≠ 0 → (i' : Int) < kI F i' d' ∧ kI F i' d' < n ∧ E.getD (kd F i' d') 0 = E.getD i' 0 + 1
  one : ∀ i' d' i'' d'', done i d i' d' → done i d i'' d'' → kI F i' d' ≠ 0 → kI F i' d' = kI F i'' d'' → i' = i'' ∧ d' = d''
  par : ∀ k, E.getD k 0 ≠ 0 → ∃ i' d', done i d i' d' ∧ kI F i' d' = (k : Int)
  seen : ∀ j, 0 < j → j < m → E.getD j 0 ≠ 0
  ord : i < m ∨ (i = m ∧ d = 0)

theorem PI.start (F : List Int) (n : Nat) : PI F n (List.replicate n 0) 0 0 0 :=
  ⟨by simp, rep_getD _ _, fun k => by rw [rep_getD]; omega, fun i' d' h => by unfold done at h; omega, fun i' d' _ _ h => by unfold done at h; omega, fun k h => absurd (rep_getD _ _) h, fun j h1 h2 => by omega, Or.inr ⟨rfl, rfl⟩⟩
theorem PI.visit {F : List Int} {n : Nat} {E : List Int} {i : Nat} (h : PI F n E i 0 i) (hi : i = 0 ∨ E.getD i 0 ≠ 0) : PI F n E i 0 (i + 1) :=
  ⟨h.len, h.zero, h.nn, h.kid, h.one, h.par, fun j h1 h2 => by
    by_cases hc : j = i
    · subst hc; rcases hi with rfl | hi
      · omega
      · exact hi
    · exact h.seen j h1 (by omega), Or.inl (by omega)⟩
theorem PI.skip {F : List Int} {n : Nat} {E : List Int} {i d : Nat} (h : PI F n E i d (i + 1)) (hk : kI F i d = 0) : PI F n E i (d + 1) (i + 1) := by
  have hd : ∀ i' d', done i (d + 1) i' d' → kI F i' d' ≠ 0 → done i d i' d' := fun i' d' hd hne => by
    rcases done_succ.1 hd with h1 | ⟨rfl, rfl⟩
    · exact h1
    · exact absurd hk hne
  refine ⟨h.len, h.zero, h.nn, fun i' d' h1 h2 => h.kid i' d' (hd _ _ h1 h2) h2, fun i' d' i'' d'' h1 h2 h3 h4 => h.one _ _ _ _ (hd _ _ h1 h3) (hd _ _ h2 (by rw [← h4]; exact h3)) h3 h4, fun k hk => ?_, h.seen, Or.inl (by omega)⟩
  obtain ⟨i', d', h1, h2⟩ := h.par k hk
  exact ⟨i', d', done_succ.2 (Or.inl h1), h2⟩
theorem PI.step {F : List Int} {n : Nat} {E : List Int} {i d k : Nat} (h : PI F n E i d (i + 1)) (hd : d < 10) (hi : i < n) (hk : kI F i d = (k : Int)) (h1 : i < k) (h2 : k < n) (h3 : E.getD k 0 = 0) (h4 : E.getD i 0 ≠ 15) :
    PI F n (E.set k (E.getD i 0 + 1)) i (d + 1) (i + 1) := by
  have hs := fun q => setD (F := E) (x := E.getD i 0 + 1) (p := k) (by rw [h.len]; exact h2) q
  have hkd : kd F i d = k := by unfold kd; rw [hk]; omega
  have hold : ∀ i' d', done i d i' d' → kI F i' d' ≠ 0 → kd F i' d' ≠ k := fun i' d' hh hne he => by
    have := h.kid i' d' hh hne
    rw [he, h3] at this
    have := (h.nn i').1
    omega
  have hnn := h.nn i
  refine ⟨by simp [h.len], by rw [hs, if_neg (by omega)]; exact h.zero, fun q => ?_, fun i' d' hh hne => ?_, fun i' d' i'' d'' hh hh' hne he => ?_, fun q hq => ?_, fun j hj hj2 => ?_, Or.inl (by omega)⟩
  · rw [hs]; split
    · omega
    · exact h.nn q
  · rcases done_succ.1 hh with hc | ⟨rfl, rfl⟩
    · obtain ⟨k1, k2, k3⟩ := h.kid i' d' hc hne
      refine ⟨k1, k2, ?_⟩
      rw [hs, hs, if_neg (hold _ _ hc hne), if_neg]
      · exact k3
      · unfold done at hc; omega
    · refine ⟨by omega, by omega, ?_⟩
      rw [hkd, hs, hs, if_pos rfl, if_neg (by omega)]
  · rcases done_succ.1 hh with hc | ⟨rfl, rfl⟩ <;> rcases done_succ.1 hh' with hc' | ⟨rfl, rfl⟩
    · exact h.one _ _ _ _ hc hc' hne he
    · exact absurd (by unfold kd; rw [he, hk]; omega) (hold _ _ hc hne)
    · exact absurd (by unfold kd; rw [← he, hk]; omega) (hold _ _ hc' (by rw [← he]; exact hne))
    · exact ⟨rfl, rfl⟩
  · rw [hs] at hq
    by_cases hc : q = k
    · subst hc; exact ⟨i, d, done_succ.2 (Or.inr ⟨rfl, rfl⟩), hk⟩
    · rw [if_neg hc] at hq
      obtain ⟨i', d', g1, g2⟩ := h.par q hq
      exact ⟨i', d', done_succ.2 (Or.inl g1), g2⟩
  · rw [hs]; split
    · omega
    · exact h.seen j hj hj2
theorem PI.next {F : List Int} {n : Nat} {E : List Int} {i : Nat} (h : PI F n E i 10 (i + 1)) : PI F n E (i + 1) 0 (i + 1) :=
  ⟨h.len, h.zero, h.nn, fun i' d' hh => h.kid i' d' (done_next.1 hh), fun i' d' i'' d'' h1 h2 => h.one _ _ _ _ (done_next.1 h1) (done_next.1 h2), fun k hk => by
    obtain ⟨i', d', h1, h2⟩ := h.par k hk
    exact ⟨i', d', done_next.2 h1, h2⟩, h.seen, Or.inr ⟨rfl, rfl⟩⟩
theorem PI.tree {F : List Int} {n : Nat} {E : List Int} (h : PI F n E n 0 n) (hn : 0 < n) (hl : F.length = 11 * n) : ∃ E', Tree F n E' := by
  refine ⟨fun j => (E.getD j 0).toNat, hn, hl, by simp only [h.zero]; rfl, fun i d hi hd hne => ?_, fun i d i' d' hi hd hi' hd' hne he => h.one _ _ _ _ (Or.inl ⟨hi, hd⟩) (Or.inl ⟨hi', hd'⟩) hne he, fun j hj hjn => ?_⟩
  · obtain ⟨k1, k2, k3⟩ := h.kid i d (Or.inl ⟨hi, hd⟩) hne
    have hkd : kI F i d = (kd F i d : Int) := by unfold kd; omega
    have a1 := h.nn i
    have a2 := h.nn (kd F i d)
    refine ⟨by omega, by omega, hkd, ?_, ?_⟩ <;> (try simp only) <;> omega
  · obtain ⟨i', d', g1, g2⟩ := h.par j (h.seen j hj hjn)
    unfold done at g1
    exact ⟨i', d', by omega, by omega, g2⟩
theorem PI.agree {F : List Int} {n : Nat} {E : List Int} {i d m : Nat} {E' : Nat → Nat} (h : PI F n E i d m) (ht : Tree F n E') (hin : i < n ∨ (i = n ∧ d = 0)) (hd : d ≤ 10) : ∀ k, E.getD k 0 ≠ 0 ∨ k = 0 → E.getD k 0 = (E' k : Int) := by
  intro k
  induction k using Nat.strongRecOn with
  | ind k ih =>
    intro hk
    by_cases h0 : k = 0
    · subst h0; rw [h.zero, ht.zero]; rfl
    · have hk : E.getD k 0 ≠ 0 := hk.resolve_right h0
      obtain ⟨i', d', g1, g2⟩ := h.par k hk
      have hne : kI F i' d' ≠ 0 := by rw [g2]; omega
      obtain ⟨k1, k2, k3⟩ := h.kid i' d' g1 hne
      have hkd : kd F i' d' = k := by unfold kd; rw [g2]; omega
      have hi' : i' < n ∧ d' < 10 := by unfold done at g1; omega
      have ht2 := (ht.kid i' d' hi'.1 hi'.2 hne).2.2.2.1
      rw [hkd] at k3 ht2
      have := ih i' (by rw [g2] at k1; omega) (by
        by_cases hz : i' = 0
        · exact Or.inr hz
        · exact Or.inl (h.seen i' (by omega) (by have := h.ord; unfold done at g1; omega)))
      omega
theorem PI.bad1 {F : List Int} {n : Nat} {E : List Int} {i : Nat} {E' : Nat → Nat} (h : PI F n E i 0 i) (ht : Tree F n E') (h0 : 0 < i) (hi : i < n) (hz : E.getD i 0 = 0) : False := by
  obtain ⟨i', d', hi', hd', hk⟩ := ht.all i h0 hi
  have hne : kI F i' d' ≠ 0 := by rw [hk]; omega
  have k1 := (ht.kid i' d' hi' hd' hne).1
  have hkd : kd F i' d' = i := by unfold kd; rw [hk]; omega
  rw [hkd] at k1
  have k3 := (h.kid i' d' (Or.inl ⟨k1, hd'⟩) hne).2.2
  rw [hkd, hz] at k3
  have := (h.nn i').1
  omega
theorem Tree.bad2 {F : List Int} {n i d : Nat} {E' : Nat → Nat} (ht : Tree F n E') (hi : i < n) (hd : d < 10) (hne : kI F i d ≠ 0) (hb : kI F i d ≤ i ∨ (n : Int) ≤ kI F i d) : False := by
  have := ht.kid i d hi hd hne
  omega
theorem PI.bad3 {F : List Int} {n : Nat} {E : List Int} {i d m k : Nat} {E' : Nat → Nat} (h : PI F n E i d m) (ht : Tree F n E') (hi : i < n) (hd : d < 10) (hk : kI F i d = (k : Int)) (h0 : 0 < k) (hb : E.getD k 0 ≠ 0) : False := by
  obtain ⟨i', d', g1, g2⟩ := h.par k hb
  have hne : kI F i d ≠ 0 := by rw [hk]; omega
  have := ht.one i d i' d' hi hd (by unfold done at g1; omega) (by unfold done at g1; omega) hne (by rw [hk, g2])
  unfold done at g1; omega
theorem PI.bad4 {F : List Int} {n : Nat} {E : List Int} {i d : Nat} {E' : Nat → Nat} (h : PI F n E i d (i + 1)) (ht : Tree F n E') (hi : i < n) (hd : d < 10) (hne : kI F i d ≠ 0) (hb : E.getD i 0 = 15) : False := by
  have := h.agree ht (Or.inl hi) (by omega) i (Or.inl (by omega))
  have := (ht.kid i d hi hd hne).2.2.2.2
  omega

/-! ### The reference's way: numbers of parents, and depths -/
structure RI (F : List Int) (n : Nat) (P D : List Int) (i d : Nat) : Prop where
  lenP : P.length = n
  lenD : D.length = n
  zero : D.getD 0 0 = 0
  nnP : ∀ k, 0 ≤ P.getD k 0 ∧ P.getD k 0 ≤ 10 * i + d
  nnD : ∀ k, 0 ≤ D.getD k 0 ∧ D.getD k 0 ≤ k
  kid : ∀ i' d', done i d i' d' → kI F i' d' ≠ 0 → (i' : Int) < kI F i' d' ∧ kI F i' d' < n ∧ 1 ≤ P.getD (kd F i' d') 0 ∧ (P.getD (kd F i' d') 0 = 1 → D.getD (kd F i' d') 0 = D.getD i' 0 + 1)
  some_ : ∀ k, 1 ≤ P.getD k 0 → ∃ i' d', done i d i' d' ∧ kI F i' d' = (k : Int)
  two : ∀ k, 2 ≤ P.getD k 0 → ∃ i' d' i'' d'', done i d i' d' ∧ done i d i'' d'' ∧ kI F i' d' = (k : Int) ∧ kI F i'' d'' = (k : Int) ∧ ¬ (i' = i'' ∧ d' = d'')
  one : ∀ i' d' i'' d'', done i d i' d' → done i d i'' d'' → kI F i' d' ≠ 0 → kI F i' d' = kI F i'' d'' → P.getD (kd F i' d') 0 = 1 → i' = i'' ∧ d' = d''
theorem RI.start (F : List Int) (n : Nat) : RI F n (List.replicate n 0) (List.replicate n 0) 0 0 := by
  refine ⟨by simp, by simp, rep_getD _ _, fun k => by rw [rep_getD]; omega, fun k => by rw [rep_getD]; omega, fun i' d' h => by unfold done at h; omega, fun k h => ?_, fun k h => ?_, fun i' d' _ _ h => by unfold done at h; omega⟩
  · rw [rep_getD] at h; omega
  · rw [rep_getD] at h; omega
theorem RI.skip {F : List Int} {n : Nat} {P D : List Int} {i d : Nat} (h : RI F n P D i d) (hk : kI F i d = 0) : RI F n P D i (d + 1) := by
  have hd : ∀ i' d', done i (d + 1) i' d' → kI F i' d' ≠ 0 → done i d i' d' := fun i' d' hd hne => by
    rcases done_succ.1 hd with h1 | ⟨rfl, rfl⟩
    · exact h1
    · exact absurd hk hne
  refine ⟨h.lenP, h.lenD, h.zero, fun k => ?_, h.nnD, fun i' d' h1 h2 => h.kid i' d' (hd _ _ h1 h2) h2, fun k hk => ?_, fun k hk => ?_, fun i' d' i'' d'' h1 h2 h3 h4 => h.one _ _ _ _ (hd _ _ h1 h3) (hd _ _ h2 (by rw [← h4]; exact h3)) h3 h4⟩
  · have := h.nnP k; omega
  · obtain ⟨i', d', h1, h2⟩ := h.some_ k hk
    exact ⟨i', d', done_succ.2 (Or.inl h1), h2⟩
  · obtain ⟨i', d', i'', d'', h1, h2, h3⟩ := h.two k hk
    exact ⟨i', d', i'', d'', done_succ.2 (Or.inl h1), done_succ.2 (Or.inl h2), h3⟩
theorem RI.step {F : List Int} {n : Nat} {P D : List Int} {i d k : Nat} (h : RI F n P D i d) (hd : d < 10) (hi : i < n) (hk : kI F i d = (k : Int)) (h1 : i < k) (h2 : k < n) :
    RI F n (P.set k (P.getD k 0 + 1)) (D.set k (D.getD i 0 + 1)) i (d + 1) := by
  have hP := fun q => setD (F := P) (x := P.getD k 0 + 1) (p := k) (by rw [h.lenP]; exact h2) q
  have hD := fun q => setD (F := D) (x := D.getD i 0 + 1) (p := k) (by rw [h.lenD]; exact h2) q
  have hkd : kd F i d = k := by unfold kd; rw [hk]; omega
  have hnd : ¬ done i d i d := by unfold done; omega
  have hpk := h.nnP k
  have hge : ∀ i' d', done i d i' d' → kI F i' d' = (k : Int) → 1 ≤ P.getD k 0 := fun i' d' hh he => by
    have hne : kI F i' d' ≠ 0 := by rw [he]; omega
    have := (h.kid i' d' hh hne).2.2.1
    rwa [show kd F i' d' = k by unfold kd; rw [he]; omega] at this
  refine ⟨by simp [h.lenP], by simp [h.lenD], by rw [hD, if_neg (by omega)]; exact h.zero, fun q => ?_, fun q => ?_, fun i' d' hh hne => ?_, fun q hq => ?_, fun q hq => ?_, fun i' d' i'' d'' hh hh' hne he hp => ?_⟩
  · rw [hP]; split
    · have := h.nnP k; omega
    · have := h.nnP q; omega
  · rw [hD]; split
    · have := h.nnD i; omega
    · exact h.nnD q
  · rcases done_succ.1 hh with hc | ⟨rfl, rfl⟩
    · obtain ⟨k1, k2, k3, k4⟩ := h.kid i' d' hc hne
      refine ⟨k1, k2, ?_, fun hp => ?_⟩
      · rw [hP]; split
        · omega
        · exact k3
      · rw [hP] at hp
        by_cases hq : kd F i' d' = k
        · exfalso
          rw [if_pos hq] at hp
          rw [hq] at k3; omega
        · rw [if_neg hq] at hp
          rw [hD, hD, if_neg hq, if_neg (by unfold done at hc; omega)]
          exact k4 hp
    · refine ⟨by omega, by omega, ?_, fun _ => ?_⟩
      · rw [hkd, hP, if_pos rfl]; omega
      · rw [hkd, hD, hD, if_pos rfl, if_neg (by omega)]
  · rw [hP] at hq
    by_cases hc : q = k
    · subst hc; exact ⟨i, d, done_succ.2 (Or.inr ⟨rfl, rfl⟩), hk⟩
    · rw [if_neg hc] at hq
      obtain ⟨i', d', g1, g2⟩ := h.some_ q hq
      exact ⟨i', d', done_succ.2 (Or.inl g1), g2⟩
  · rw [hP] at hq
    by_cases hc : q = k
    · subst hc
      rw [if_pos rfl] at hq
      obtain ⟨i', d', g1, g2⟩ := h.some_ q (by omega)
      exact ⟨i', d', i, d, done_succ.2 (Or.inl g1), done_succ.2 (Or.inr ⟨rfl, rfl⟩), g2, hk, fun hx => by rw [hx.1, hx.2] at g1; exact hnd g1⟩
    · rw [if_neg hc] at hq
      obtain ⟨i', d', i'', d'', g1, g2, g3⟩ := h.two q hq
      exact ⟨i', d', i'', d'', done_succ.2 (Or.inl g1), done_succ.2 (Or.inl g2), g3⟩
  · rw [hP] at hp
    have hi1 : ∀ i' d', done i d i' d' → kI F i' d' = (k : Int) → (if kd F i' d' = k then P.getD k 0 + 1 else P.getD (kd F i' d') 0) = 1 → False := fun i' d' hh he hp => by
      have := hge i' d' hh he
      rw [if_pos (by unfold kd; rw [he]; omega)] at hp
      omega
    rcases done_succ.1 hh with hc | ⟨rfl, rfl⟩ <;> rcases done_succ.1 hh' with hc' | ⟨rfl, rfl⟩
    · by_cases hx : kd F i' d' = k
      · exfalso
        have := (h.kid i' d' hc hne).2.2.1
        rw [if_pos hx] at hp
        rw [hx] at this; omega
      · rw [if_neg hx] at hp
        exact h.one _ _ _ _ hc hc' hne he hp
    · exact (hi1 i' d' hc (by rw [he, hk]) hp).elim
    · refine (hi1 i'' d'' hc' (by rw [← he, hk]) ?_).elim
      have e : kd F i' d' = kd F i'' d'' := by unfold kd; rw [he]
      rw [← e]; exact hp
    · exact ⟨rfl, rfl⟩
theorem RI.next {F : List Int} {n : Nat} {P D : List Int} {i : Nat} (h : RI F n P D i 10) : RI F n P D (i + 1) 0 := by
  refine ⟨h.lenP, h.lenD, h.zero, fun k => by have := h.nnP k; omega, h.nnD, fun i' d' hh => h.kid i' d' (done_next.1 hh), fun k hk => ?_, fun k hk => ?_, fun i' d' i'' d'' h1 h2 => h.one _ _ _ _ (done_next.1 h1) (done_next.1 h2)⟩
  · obtain ⟨i', d', h1, h2⟩ := h.some_ k hk
    exact ⟨i', d', done_next.2 h1, h2⟩
  · obtain ⟨i', d', i'', d'', h1, h2, h3⟩ := h.two k hk
    exact ⟨i', d', i'', d'', done_next.2 h1, done_next.2 h2, h3⟩
theorem RI.tree {F : List Int} {n : Nat} {P D : List Int} (h : RI F n P D n 0) (hn : 0 < n) (hl : F.length = 11 * n) (hP : ∀ j, 0 < j → j < n → P.getD j 0 = 1) (hD : ∀ j, 0 < j → j < n → D.getD j 0 ≤ 15) : ∃ E', Tree F n E' := by
  have hk : ∀ i d, i < n → d < 10 → kI F i d ≠ 0 → i < kd F i d ∧ kd F i d < n ∧ kI F i d = (kd F i d : Int) ∧ D.getD (kd F i d) 0 = D.getD i 0 + 1 ∧ P.getD (kd F i d) 0 = 1 := fun i d hi hd hne => by
    obtain ⟨k1, k2, k3, k4⟩ := h.kid i d (Or.inl ⟨hi, hd⟩) hne
    have hkd : kI F i d = (kd F i d : Int) := by unfold kd; omega
    have hp := hP (kd F i d) (by omega) (by omega)
    exact ⟨by omega, by omega, hkd, k4 hp, hp⟩
  refine ⟨fun j => (D.getD j 0).toNat, hn, hl, by simp only [h.zero]; rfl, fun i d hi hd hne => ?_, fun i d i' d' hi hd hi' hd' hne he => h.one _ _ _ _ (Or.inl ⟨hi, hd⟩) (Or.inl ⟨hi', hd'⟩) hne he (hk i d hi hd hne).2.2.2.2, fun j hj hjn => ?_⟩
  · obtain ⟨k1, k2, k3, k4, _⟩ := hk i d hi hd hne
    have a1 := h.nnD i
    have a2 := hD (kd F i d) (by omega) k2
    refine ⟨k1, k2, k3, ?_, ?_⟩ <;> (try simp only) <;> omega
  · obtain ⟨i', d', g1, g2⟩ := h.some_ j (by rw [hP j hj hjn]; omega)
    unfold done at g1
    exact ⟨i', d', by omega, by omega, g2⟩
theorem RI.isOne {F : List Int} {n : Nat} {P D : List Int} {E' : Nat → Nat} (h : RI F n P D n 0) (ht : Tree F n E') (j : Nat) (hj : 0 < j) (hjn : j < n) : P.getD j 0 = 1 := by
  obtain ⟨i, d, hi, hd, hk⟩ := ht.all j hj hjn
  have hne : kI F i d ≠ 0 := by rw [hk]; omega
  have h1 := (h.kid i d (Or.inl ⟨hi, hd⟩) hne).2.2.1
  rw [show kd F i d = j by unfold kd; rw [hk]; omega] at h1
  refine Classical.byContradiction fun hc => ?_
  obtain ⟨i', d', i'', d'', g1, g2, g3, g4, g5⟩ := h.two j (by omega)
  refine g5 (ht.one i' d' i'' d'' ?_ ?_ ?_ ?_ (by rw [g3]; omega) (by rw [g3, g4])) <;> unfold done at g1 g2 <;> omega
theorem RI.isLow {F : List Int} {n : Nat} {P D : List Int} {E' : Nat → Nat} (h : RI F n P D n 0) (ht : Tree F n E') : ∀ j, j < n → D.getD j 0 = (E' j : Int) := by
  intro j
  induction j using Nat.strongRecOn with
  | ind j ih =>
    intro hj
    by_cases h0 : j = 0
    · subst h0; rw [h.zero, ht.zero]; rfl
    · have hp := h.isOne ht j (by omega) hj
      obtain ⟨i', d', g1, g2⟩ := h.some_ j (by omega)
      have hb : i' < n ∧ d' < 10 := by unfold done at g1; omega
      have hne : kI F i' d' ≠ 0 := by rw [g2]; omega
      have hkd : kd F i' d' = j := by unfold kd; rw [g2]; omega
      obtain ⟨k1, _, _, k4⟩ := h.kid i' d' g1 hne
      have ht2 := (ht.kid i' d' hb.1 hb.2 hne).2.2.2.1
      rw [hkd] at k4 ht2
      have := ih i' (by omega) hb.1
      have := k4 hp
      omega
theorem RI.isLe {F : List Int} {n : Nat} {P D : List Int} {E' : Nat → Nat} (h : RI F n P D n 0) (ht : Tree F n E') (j : Nat) (hj : j < n) : D.getD j 0 ≤ 15 := by
  have := h.isLow ht j hj
  have := ht.le hj
  omega
end Tr
end Go.Proofs.Ytippbkooaonajaa
