/-
  Plain mathematics of digit tries, second part: paths, longest prefixes, entries in order, numbers of nodes. Nothing of a program is named here.
-/
import Derived.Test.YtippbkooaonajaaTri
namespace Go.Proofs.Ytippbkooaonajaa
namespace Tr
open Dg
set_option linter.unusedVariables false
set_option linter.unusedSimpArgs false

/-! ### Paths -/
def pth (F : List Int) : Nat → Nat → Str → List (Nat × Nat)
  | a, i, [] => [(a, i)]
  | a, i, b :: s => (a, i) :: (if kI F a (dg b) = 0 then [] else pth F (kd F a (dg b)) (i + 1) s)
theorem pth_get {F : List Int} : ∀ {s : Str} {a i : Nat} (k : Nat), (∀ b ∈ s, isD b = true) → (pth F a i s)[k]? = if k ≤ s.length then (nod F a (s.take k)).map (fun j => (j, i + k)) else none
  | [], a, i, 0, _ => by simp [pth, nod]
  | [], a, i, k + 1, _ => by simp [pth]
  | b :: s, a, i, 0, _ => by simp [pth, nod]
  | b :: s, a, i, k + 1, h => by
    have hb := h b List.mem_cons_self
    simp only [pth, List.getElem?_cons_succ, List.length_cons, List.take_succ_cons, nod, hb, true_and, Nat.add_le_add_iff_right]
    by_cases hk : kI F a (dg b) = 0
    · simp [hk]
    · simp only [hk, if_false, ne_eq, not_false_eq_true, if_true]
      rw [pth_get k (fun c hc => h c (List.mem_cons_of_mem _ hc))]
      split
      · congr 1; funext j; congr 1; omega
      · rfl
theorem pth_pos (F : List Int) (a i : Nat) (s : Str) : 0 < (pth F a i s).length := by cases s <;> simp [pth]
theorem pth_le {F : List Int} {a i : Nat} {s : Str} (h : ∀ b ∈ s, isD b = true) : (pth F a i s).length ≤ s.length + 1 := by
  refine Classical.byContradiction fun hc => ?_
  have h1 : (pth F a i s)[s.length + 1]? = some ((pth F a i s)[s.length + 1]'(by omega)) := List.getElem?_eq_getElem _
  rw [pth_get _ h, if_neg (by omega)] at h1
  cases h1

/-- The k-th node of the path so far, and its number of digits. -/
def lastOf (l : List (Nat × Nat)) (k : Nat) : Nat × Nat := if k = 0 then (0, 0) else l.getD (k - 1) (0, 0)
theorem lastOf_succ {l : List (Nat × Nat)} {k : Nat} {x : Nat × Nat} (h : l[k]? = some x) : lastOf l (k + 1) = x := by
  unfold lastOf
  rw [if_neg (by omega), Nat.add_sub_cancel, List.getD_eq_getElem?_getD, h]; rfl
def dp (F : List Int) (s : Str) : Nat × Nat := lastOf (pth F 0 0 s) (pth F 0 0 s).length
/-- m digits of s have a node, no more. -/
def Mx (F : List Int) (s : Str) (m : Nat) : Prop := m ≤ s.length ∧ ∀ k, k ≤ s.length → (has F (s.take k) ↔ k ≤ m)
theorem dp_spec (F : List Int) {s : Str} (h : ∀ b ∈ s, isD b = true) : ∃ j m, dp F s = (j, m) ∧ m ≤ s.length ∧ nod F 0 (s.take m) = some j ∧ Mx F s m := by
  have hp := pth_pos F 0 0 s
  obtain ⟨m, hm⟩ : ∃ m, (pth F 0 0 s).length = m + 1 := ⟨(pth F 0 0 s).length - 1, by omega⟩
  have h1 : (pth F 0 0 s)[m]? = some ((pth F 0 0 s)[m]'(by omega)) := List.getElem?_eq_getElem _
  have hg := pth_get (F := F) (a := 0) (i := 0) m h
  rw [h1] at hg
  have hle : m ≤ s.length := by
    refine Classical.byContradiction fun hc => ?_
    rw [if_neg hc] at hg; cases hg
  rw [if_pos hle] at hg
  cases hn : nod F 0 (s.take m) with
  | none => rw [hn] at hg; cases hg
  | some j =>
    rw [hn] at hg
    simp only [Option.map_some, Nat.zero_add, Option.some.injEq] at hg
    refine ⟨j, m, ?_, hle, hn, hle, fun k hk => ⟨fun hh => ?_, fun hkm => ?_⟩⟩
    · unfold dp
      rw [hm, lastOf_succ h1, hg]
    · refine Classical.byContradiction fun hc => ?_
      obtain ⟨x, hx⟩ := hh
      have h2 := pth_get (F := F) (a := 0) (i := 0) k h
      rw [if_pos hk, hx, List.getElem?_eq_none (by omega)] at h2
      cases h2
    · refine has_pre ⟨j, hn⟩ ?_
      rw [show s.take k = (s.take m).take k by rw [List.take_take, Nat.min_eq_left hkm]]
      exact List.take_prefix _ _
theorem Mx.unique {F : List Int} {s : Str} {m m' : Nat} (h : Mx F s m) (h' : Mx F s m') : m = m' := by
  have h1 := (h'.2 m h.1).1 ((h.2 m h.1).2 (Nat.le_refl _))
  have h2 := (h.2 m' h'.1).1 ((h'.2 m' h'.1).2 (Nat.le_refl _))
  omega

/-! ### The longest prefix -/
def stepL (F : List Int) (r : Int × Nat × Bool) (x : Nat × Nat) : Int × Nat × Bool := if vl F x.1 ≠ 0 then (vl F x.1, x.2, true) else r
def lon (F : List Int) (l : List (Nat × Nat)) (k : Nat) : Int × Nat × Bool := (l.take k).foldl (stepL F) (0, 0, false)
theorem lon_succ {F : List Int} {l : List (Nat × Nat)} {k : Nat} {x : Nat × Nat} (h : l[k]? = some x) : lon F l (k + 1) = stepL F (lon F l k) x := by
  unfold lon
  rw [List.take_add_one, h]
  simp [List.foldl_append]
def Lon (g : Str → Int) (s : Str) (r : Int × Nat × Bool) : Prop :=
  (r = (0, 0, false) ∧ ∀ m, m ≤ s.length → g (s.take m) = 0) ∨ ∃ m, m ≤ s.length ∧ r = (g (s.take m), m, true) ∧ g (s.take m) ≠ 0 ∧ ∀ k, m < k → k ≤ s.length → g (s.take k) = 0
theorem Lon.unique {g : Str → Int} {s : Str} {r r' : Int × Nat × Bool} (h : Lon g s r) (h' : Lon g s r') : r = r' := by
  rcases h with ⟨rfl, h⟩ | ⟨m, h1, rfl, h2, h3⟩ <;> rcases h' with ⟨rfl, h'⟩ | ⟨m', h1', rfl, h2', h3'⟩
  · rfl
  · exact absurd (h m' h1') h2'
  · exact absurd (h' m h1) h2
  · obtain rfl : m = m' := by
      rcases Nat.lt_trichotomy m m' with hc | hc | hc
      · exact absurd (h3 m' hc h1') h2'
      · exact hc
      · exact absurd (h3' m hc h1) h2
    rfl
theorem lon_spec (F : List Int) {s : Str} (h : ∀ b ∈ s, isD b = true) : Lon (get F) s (lon F (pth F 0 0 s) (pth F 0 0 s).length) := by
  have inv : ∀ k, k ≤ (pth F 0 0 s).length → (lon F (pth F 0 0 s) k = (0, 0, false) ∧ ∀ m, m < k → get F (s.take m) = 0) ∨
      ∃ m, m < k ∧ lon F (pth F 0 0 s) k = (get F (s.take m), m, true) ∧ get F (s.take m) ≠ 0 ∧ ∀ j, m < j → j < k → get F (s.take j) = 0 := by
    intro k
    induction k with
    | zero => intro _; exact Or.inl ⟨rfl, fun m hm => absurd hm (Nat.not_lt_zero _)⟩
    | succ k ih =>
      intro hk
      have h1 : (pth F 0 0 s)[k]? = some ((pth F 0 0 s)[k]'(by omega)) := List.getElem?_eq_getElem _
      have hg := pth_get (F := F) (a := 0) (i := 0) k h
      have hle := pth_le (F := F) (a := 0) (i := 0) h
      rw [h1, if_pos (by omega)] at hg
      cases hn : nod F 0 (s.take k) with
      | none => rw [hn] at hg; cases hg
      | some j =>
        rw [hn] at hg
        simp only [Option.map_some, Nat.zero_add, Option.some.injEq] at hg
        rw [lon_succ h1, hg]
        unfold stepL
        by_cases hv : vl F j = 0
        · simp only [hv, ne_eq, not_true_eq_false, if_false]
          have hz : get F (s.take k) = 0 := by rw [get_some hn, hv]
          rcases ih (by omega) with ⟨e, hh⟩ | ⟨m, hm, e, h2, h3⟩
          · refine Or.inl ⟨e, fun m hm => ?_⟩
            by_cases hmk : m = k
            · subst hmk; exact hz
            · exact hh m (by omega)
          · refine Or.inr ⟨m, by omega, e, h2, fun j' hj hj2 => ?_⟩
            by_cases hmk : j' = k
            · subst hmk; exact hz
            · exact h3 j' hj (by omega)
        · simp only [hv, ne_eq, not_false_eq_true, if_true]
          refine Or.inr ⟨k, by omega, by rw [get_some hn], by rw [get_some hn]; exact hv, fun j' hj hj2 => by omega⟩
  have hle := pth_le (F := F) (a := 0) (i := 0) h
  have hout : ∀ m, (pth F 0 0 s).length ≤ m → m ≤ s.length → get F (s.take m) = 0 := by
    intro m hm hms
    have hg := pth_get (F := F) (a := 0) (i := 0) m h
    rw [List.getElem?_eq_none hm, if_pos hms] at hg
    cases hn : nod F 0 (s.take m) with
    | none => exact get_none hn
    | some j => rw [hn] at hg; cases hg
  rcases inv _ (Nat.le_refl _) with ⟨e, hh⟩ | ⟨m, hm, e, h2, h3⟩
  · refine Or.inl ⟨e, fun m hm => ?_⟩
    by_cases hc : m < (pth F 0 0 s).length
    · exact hh m hc
    · exact hout m (by omega) hm
  · refine Or.inr ⟨m, by omega, e, h2, fun j hj hj2 => ?_⟩
    by_cases hc : j < (pth F 0 0 s).length
    · exact h3 j hj hc
    · exact hout j (by omega) hj2

/-! ### The program's way to lay a path -/
def gro : List Int → Nat → Nat → Str → List Int × Nat × Nat
  | F, n, a, [] => (F, n, a)
  | F, n, a, b :: s => gro (add F n a (dg b)) (n + 1) n s
theorem gro_n : ∀ (s : Str) (F : List Int) (n a : Nat), (gro F n a s).2.1 = n + s.length
  | [], F, n, a => rfl
  | b :: s, F, n, a => by simp only [gro]; rw [gro_n s]; simp; omega
theorem ins_leaf : ∀ (s : Str) {F : List Int} {n a : Nat}, F.length = 11 * n → a < n → (∀ b ∈ s, isD b = true) → (∀ d, d < 10 → kI F a d = 0) → ins F n a s = gro F n a s
  | [], F, n, a, _, _, _, _ => rfl
  | b :: s, F, n, a, hl, ha, hs, hz => by
    have hlt := dg_lt (hs b List.mem_cons_self)
    simp only [ins, gro]
    rw [if_pos (hz _ hlt)]
    refine ins_leaf s (add_len hl) (by omega) (fun c hc => hs c (List.mem_cons_of_mem _ hc)) (fun d hd => ?_)
    rw [add_kI hl ha hlt, if_neg (by omega)]
    exact kI_out hl d
theorem ins_first {b : UInt8} {s : Str} {F : List Int} {n a : Nat} (hl : F.length = 11 * n) (ha : a < n) (hs : ∀ c ∈ b :: s, isD c = true) (hz : kI F a (dg b) = 0) : ins F n a (b :: s) = gro F n a (b :: s) := by
  have hlt := dg_lt (hs b List.mem_cons_self)
  simp only [ins, gro]
  rw [if_pos hz]
  refine ins_leaf s (add_len hl) (by omega) (fun c hc => hs c (List.mem_cons_of_mem _ hc)) (fun d hd => ?_)
  rw [add_kI hl ha hlt, if_neg (by omega)]
  exact kI_out hl d
theorem ins_along {F : List Int} {n : Nat} : ∀ (p s : Str) {a j : Nat}, nod F a p = some j → ins F n a (p ++ s) = ins F n j s
  | [], s, a, j, h => by simp only [nod, Option.some.injEq] at h; subst h; rfl
  | b :: p, s, a, j, h => by
    simp only [nod] at h
    split at h
    · rename_i hc
      simp only [List.cons_append, ins]
      rw [if_neg hc.2]
      exact ins_along p s h
    · cases h
theorem ins_gro {F : List Int} {n : Nat} {E : Nat → Nat} (h : Tree F n E) {s : Str} (hs : ∀ b ∈ s, isD b = true) {m j : Nat} (hm : Mx F s m) (hj : nod F 0 (s.take m) = some j) : ins F n 0 s = gro F n j (s.drop m) := by
  have ha := (nod_lt h h.pos hj).1
  have e1 : ins F n 0 s = ins F n j (s.drop m) := by
    have := ins_along (n := n) (s.take m) (s.drop m) hj
    rwa [List.take_append_drop] at this
  rw [e1]
  cases hd : s.drop m with
  | nil => rfl
  | cons b r =>
    have hb : ∀ c ∈ b :: r, isD c = true := fun c hc => hs c (List.mem_of_mem_drop (by rw [hd]; exact hc))
    refine ins_first h.len ha hb ?_
    refine Classical.byContradiction fun hne => ?_
    have hml : m < s.length := by
      have := congrArg List.length hd
      simp at this; omega
    have htk : s.take (m + 1) = s.take m ++ [b] := by
      rw [List.take_add_one]
      congr 1
      have : s[m]? = some b := by
        have h0 := congrArg (fun l => l[0]?) hd
        simpa using h0
      rw [this]; rfl
    have hhas : has F (s.take (m + 1)) := ⟨kd F j (dg b), by rw [htk, nod_append, hj]; exact nod_one (hb b List.mem_cons_self) hne⟩
    have := (hm.2 (m + 1) (by omega)).1 hhas
    omega
theorem putn_eq {F : List Int} {n : Nat} {E : Nat → Nat} (h : Tree F n E) {s : Str} (hs : ∀ b ∈ s, isD b = true) {m : Nat} (hm : Mx F s m) : putn F n s = n + (s.length - m) := by
  obtain ⟨j, hj⟩ := (hm.2 m hm.1).2 (Nat.le_refl _)
  unfold putn
  rw [ins_gro h hs hm hj, gro_n, List.length_drop]
theorem mx_of (F : List Int) {s : Str} (h : ∀ b ∈ s, isD b = true) : ∃ m, Mx F s m := by obtain ⟨_, m, _, _, _, hm⟩ := dp_spec F h; exact ⟨m, hm⟩

/-- The number of nodes does not depend on the order of two prefixes. -/
theorem take_pre_iff {p q : Str} {k : Nat} (hk : k ≤ q.length) : q.take k <+: p ↔ k ≤ com q p := by
  constructor
  · intro h
    have hp : k ≤ p.length := by have := h.length_le; simp at this; omega
    refine Classical.byContradiction fun hc => ?_
    have h1 := com_end q p
    have h2 : q.take k = p.take k := by
      have h3 := List.prefix_iff_eq_take.1 h
      rw [List.length_take, Nat.min_eq_left hk] at h3
      exact h3
    rcases h1 with h1 | h1 | h1
    · omega
    · omega
    · apply h1
      have h4 := congrArg (fun l => l[com q p]?) h2
      simp only [List.getElem?_take, if_pos (show com q p < k by omega)] at h4
      exact h4
  · intro h
    have h1 := com_take q p
    have : q.take k = p.take k := by
      have h2 := congrArg (List.take k) h1
      rwa [List.take_take, List.take_take, Nat.min_eq_left h] at h2
    rw [this]
    exact List.take_prefix _ _
theorem mx_max {F F' : List Int} {p q : Str} {b : Nat} (hq : Mx F q b) (hF : ∀ x, has F' x ↔ has F x ∨ x <+: p) : Mx F' q (max b (com q p)) := by
  refine ⟨by have := hq.1; have := com_le_left q p; omega, fun k hk => ?_⟩
  rw [hF, hq.2 k hk, take_pre_iff hk]
  omega
theorem mx_same {F : List Int} {p q : Str} {a b : Nat} (hp : Mx F p a) (hq : Mx F q b) (hc : a < com p q) : b = a := by
  have hl1 := com_le_left p q
  have hl2 := com_le_right p q
  have ht : ∀ k, k ≤ com p q → q.take k = p.take k := fun k hk => by
    have h2 := congrArg (List.take k) (com_take p q)
    rw [List.take_take, List.take_take, Nat.min_eq_left hk] at h2
    exact h2.symm
  have h1 : a ≤ b := (hq.2 a (by omega)).1 (by rw [ht a (by omega)]; exact (hp.2 a hp.1).2 (Nat.le_refl _))
  have h2 : ¬ a + 1 ≤ b := fun h => by
    have := (hq.2 (a + 1) (by omega)).2 h
    rw [ht (a + 1) (by omega)] at this
    have := (hp.2 (a + 1) (by omega)).1 this
    omega
  omega
theorem putn_comm {F P Q : List Int} {n np nq : Nat} {p q : Str} {v w : Int} (h : Ok F n) (hp : Put F n p v P np) (hq : Put F n q w Q nq) (dp_ : ∀ b ∈ p, isD b = true) (dq : ∀ b ∈ q, isD b = true)
    (hnp : np = putn F n p) (hnq : nq = putn F n q) : putn P np q = putn Q nq p := by
  obtain ⟨⟨E, ht⟩, _⟩ := h
  obtain ⟨⟨E1, ht1⟩, _⟩ := hp.ok
  obtain ⟨⟨E2, ht2⟩, _⟩ := hq.ok
  obtain ⟨a, ha⟩ := mx_of F dp_
  obtain ⟨b, hb⟩ := mx_of F dq
  rw [putn_eq ht1 dq (mx_max hb hp.has), putn_eq ht2 dp_ (mx_max ha hq.has), hnp, hnq, putn_eq ht dp_ ha, putn_eq ht dq hb, com_comm q p]
  have c1 := com_le_left p q
  have c2 := com_le_right p q
  have l1 := ha.1
  have l2 := hb.1
  by_cases h1 : a < com p q
  · have := mx_same ha hb h1; omega
  · by_cases h2 : b < com p q
    · have := mx_same hb ha (by rw [com_comm]; exact h2); omega
    · omega

/-! ### Entries -/
def own (F : List Int) (a : Nat) (r : Str) : List (Str × Int) := if vl F a = 0 then [] else [(r, vl F a)]
def ent (F : List Int) : Nat → Nat → Str → List (Str × Int)
  | 0, a, r => own F a r
  | f + 1, a, r => own F a r ++ (List.range 10).flatMap fun d => if kI F a d = 0 then [] else ent F f (kd F a d) (r ++ [db d])
def kids (F : List Int) (f a : Nat) (r : Str) (k : Nat) : List (Str × Int) := (List.range k).flatMap fun d => if kI F a d = 0 then [] else ent F (f - 1) (kd F a d) (r ++ [db d])
theorem kids_succ (F : List Int) (f a : Nat) (r : Str) (k : Nat) : kids F f a r (k + 1) = kids F f a r k ++ (if kI F a k = 0 then [] else ent F (f - 1) (kd F a k) (r ++ [db k])) := by
  unfold kids; rw [List.range_succ, List.flatMap_append]; simp
theorem leaf_of {F : List Int} {n : Nat} {E : Nat → Nat} (h : Tree F n E) {a d : Nat} (ha : a < n) (hd : d < 10) (hE : 15 ≤ E a) : kI F a d = 0 := by
  refine Classical.byContradiction fun hne => ?_
  have := (h.kid a d ha hd hne).2.2.2.2
  omega
theorem ent_eq {F : List Int} {n : Nat} {E : Nat → Nat} (h : Tree F n E) {f a : Nat} (ha : a < n) (hf : 15 ≤ f + E a) (r : Str) : ent F f a r = own F a r ++ kids F f a r 10 := by
  cases f with
  | succ f => rfl
  | zero =>
    have : kids F 0 a r 10 = [] := by
      unfold kids
      rw [List.flatMap_eq_nil_iff]
      intro d hd
      rw [if_pos (leaf_of h ha (by simpa using hd) (by omega))]
    rw [this, List.append_nil]; rfl
theorem mem_kids {F : List Int} {f a : Nat} {r : Str} {k : Nat} {x : Str × Int} : x ∈ kids F f a r k ↔ ∃ d, d < k ∧ kI F a d ≠ 0 ∧ x ∈ ent F (f - 1) (kd F a d) (r ++ [db d]) := by
  unfold kids
  simp only [List.mem_flatMap, List.mem_range]
  constructor
  · rintro ⟨d, hd, hx⟩
    by_cases hk : kI F a d = 0
    · rw [if_pos hk] at hx; cases hx
    · rw [if_neg hk] at hx; exact ⟨d, hd, hk, hx⟩
  · rintro ⟨d, hd, hk, hx⟩
    exact ⟨d, hd, by rw [if_neg hk]; exact hx⟩
theorem mem_ent {F : List Int} {n : Nat} {E : Nat → Nat} (h : Tree F n E) : ∀ (f : Nat) {a : Nat} {r : Str} (x : Str × Int), a < n → 15 ≤ f + E a →
    (x ∈ ent F f a r ↔ ∃ u j, x.1 = r ++ u ∧ nod F a u = some j ∧ x.2 = vl F j ∧ x.2 ≠ 0) := by
  intro f
  induction f with
  | zero =>
    intro a r x ha hf
    show x ∈ own F a r ↔ _
    unfold own
    constructor
    · intro hx
      split at hx
      · cases hx
      · rename_i hv
        simp only [List.mem_cons, List.not_mem_nil, or_false] at hx
        subst hx
        exact ⟨[], a, by simp, rfl, rfl, hv⟩
    · rintro ⟨u, j, h1, h2, h3, h4⟩
      cases u with
      | nil =>
        simp only [nod, Option.some.injEq] at h2
        subst h2
        rw [if_neg (by rw [← h3]; exact h4)]
        simp only [List.append_nil] at h1
        rw [← h3, ← h1]; simp
      | cons b u =>
        simp only [nod] at h2
        split at h2
        · rename_i hc
          exact absurd (leaf_of h ha (dg_lt hc.1) (by omega)) hc.2
        · cases h2
  | succ f ih =>
    intro a r x ha hf
    rw [ent_eq h ha hf, List.mem_append, mem_kids]
    constructor
    · rintro (hx | ⟨d, hd, hk, hx⟩)
      · unfold own at hx
        split at hx
        · cases hx
        · rename_i hv
          simp only [List.mem_cons, List.not_mem_nil, or_false] at hx
          subst hx
          exact ⟨[], a, by simp, rfl, rfl, hv⟩
      · obtain ⟨k1, k2, k3, k4, k5⟩ := h.kid a d ha hd hk
        obtain ⟨u, j, h1, h2, h3, h4⟩ := (ih x k2 (by omega)).1 hx
        refine ⟨db d :: u, j, by rw [h1]; simp, ?_, h3, h4⟩
        simp only [nod, isD_db hd, dg_db hd, hk, ne_eq, not_false_eq_true, and_self, if_true]
        exact h2
    · rintro ⟨u, j, h1, h2, h3, h4⟩
      cases u with
      | nil =>
        left
        simp only [nod, Option.some.injEq] at h2
        subst h2
        unfold own
        rw [if_neg (by rw [← h3]; exact h4)]
        simp only [List.append_nil] at h1
        rw [← h3, ← h1]; simp
      | cons b u =>
        right
        simp only [nod] at h2
        split at h2
        · rename_i hc
          have hlt := dg_lt hc.1
          obtain ⟨k1, k2, k3, k4, k5⟩ := h.kid a (dg b) ha hlt hc.2
          exact ⟨dg b, hlt, hc.2, (ih x k2 (by omega)).2 ⟨u, j, by rw [h1, db_dg hc.1]; simp, h2, h3, h4⟩⟩
        · cases h2
theorem ent_pre {F : List Int} {n : Nat} {E : Nat → Nat} (h : Tree F n E) {f a : Nat} {r : Str} {x : Str × Int} (ha : a < n) (hf : 15 ≤ f + E a) (hx : x ∈ ent F f a r) : r <+: x.1 := by
  obtain ⟨u, j, h1, _⟩ := (mem_ent h f x ha hf).1 hx
  exact ⟨u, h1.symm⟩

theorem lt_ext : ∀ (r : Str) (c : UInt8) (u : Str), r < r ++ c :: u
  | [], c, u => List.nil_lt_cons _ _
  | x :: r, c, u => List.cons_lt_cons_iff.2 (Or.inr ⟨rfl, lt_ext r c u⟩)
theorem lt_dig : ∀ (r : Str) (b c : UInt8) (u t : Str), b < c → (r ++ [b]) ++ u < (r ++ [c]) ++ t
  | [], b, c, u, t, h => List.cons_lt_cons_iff.2 (Or.inl h)
  | x :: r, b, c, u, t, h => List.cons_lt_cons_iff.2 (Or.inr ⟨rfl, lt_dig r b c u t h⟩)
def Asc (l : List (Str × Int)) : Prop := l.Pairwise fun x y => x.1 < y.1
theorem ent_asc {F : List Int} {n : Nat} {E : Nat → Nat} (h : Tree F n E) : ∀ (f : Nat) {a : Nat} {r : Str}, a < n → 15 ≤ f + E a → Asc (ent F f a r) := by
  intro f
  induction f with
  | zero =>
    intro a r ha hf
    show Asc (own F a r)
    unfold own Asc
    split <;> simp
  | succ f ih =>
    intro a r ha hf
    rw [ent_eq h ha hf]
    have hk : ∀ k, k ≤ 10 → Asc (kids F (f + 1) a r k) := by
      intro k
      induction k with
      | zero => intro _; exact List.Pairwise.nil
      | succ k ihk =>
        intro hk
        rw [kids_succ]
        unfold Asc
        rw [List.pairwise_append]
        by_cases hz : kI F a k = 0
        · rw [if_pos hz]
          exact ⟨ihk (by omega), List.Pairwise.nil, fun x _ y hy => by cases hy⟩
        · rw [if_neg hz]
          obtain ⟨k1, k2, k3, k4, k5⟩ := h.kid a k ha (by omega) hz
          refine ⟨ihk (by omega), ih k2 (by omega), fun x hx y hy => ?_⟩
          obtain ⟨d, hd, hkd, hx⟩ := mem_kids.1 hx
          obtain ⟨q1, q2, q3, q4, q5⟩ := h.kid a d ha (by omega) hkd
          obtain ⟨u, hu⟩ := ent_pre h q2 (by simp; omega) hx
          obtain ⟨t, ht⟩ := ent_pre h k2 (by omega) hy
          rw [← hu, ← ht]
          refine lt_dig r _ _ u t ?_
          rw [UInt8.lt_iff_toNat_lt, db_nat (by omega), db_nat (by omega)]
          omega
    unfold Asc
    rw [List.pairwise_append]
    refine ⟨?_, hk 10 (Nat.le_refl _), fun x hx y hy => ?_⟩
    · unfold own; split <;> simp
    · unfold own at hx
      split at hx
      · cases hx
      · simp only [List.mem_cons, List.not_mem_nil, or_false] at hx
        subst hx
        obtain ⟨d, hd, hkd, hy⟩ := mem_kids.1 hy
        obtain ⟨q1, q2, q3, q4, q5⟩ := h.kid a d ha hd hkd
        obtain ⟨u, hu⟩ := ent_pre h q2 (by simp; omega) hy
        rw [← hu, List.append_assoc]
        exact lt_ext r _ _
theorem str_irrefl (x : Str) : ¬ x < x := List.lt_irrefl x
theorem str_asymm {x y : Str} (h : x < y) (h' : y < x) : False := List.lt_irrefl x (List.lt_trans h h')
theorem asc_ext : ∀ {l m : List (Str × Int)}, Asc l → Asc m → (∀ x, x ∈ l ↔ x ∈ m) → l = m
  | [], [], _, _, _ => rfl
  | [], y :: m, _, _, h => by have := (h y).2 List.mem_cons_self; cases this
  | x :: l, [], _, _, h => by have := (h x).1 List.mem_cons_self; cases this
  | x :: l, y :: m, hl, hm, h => by
    have h1 := List.pairwise_cons.1 hl
    have h2 := List.pairwise_cons.1 hm
    have hxy : x = y := by
      rcases List.mem_cons.1 ((h x).1 List.mem_cons_self) with e | hx
      · exact e
      · rcases List.mem_cons.1 ((h y).2 List.mem_cons_self) with e | hy
        · exact e.symm
        · exact absurd (h2.1 x hx) (fun a => str_asymm a (h1.1 y hy))
    subst hxy
    congr 1
    refine asc_ext h1.2 h2.2 fun z => ?_
    constructor
    · intro hz
      rcases List.mem_cons.1 ((h z).1 (List.mem_cons_of_mem _ hz)) with e | hz'
      · subst e; exact absurd (h1.1 z hz) (str_irrefl _)
      · exact hz'
    · intro hz
      rcases List.mem_cons.1 ((h z).2 (List.mem_cons_of_mem _ hz)) with e | hz'
      · subst e; exact absurd (h2.1 z hz) (str_irrefl _)
      · exact hz'

def ents (F : List Int) : List (Str × Int) := ent F 15 0 []
theorem mem_ents {F : List Int} {n : Nat} {E : Nat → Nat} (h : Tree F n E) (x : Str × Int) : x ∈ ents F ↔ x.2 = get F x.1 ∧ x.2 ≠ 0 := by
  unfold ents
  rw [mem_ent h 15 x h.pos (by omega)]
  constructor
  · rintro ⟨u, j, h1, h2, h3, h4⟩
    rw [List.nil_append] at h1
    exact ⟨by rw [h1, get_some h2, h3], h4⟩
  · rintro ⟨h1, h2⟩
    obtain ⟨j, hj⟩ := get_has (by rw [← h1]; exact h2 : get F x.1 ≠ 0)
    exact ⟨x.1, j, by simp, hj, by rw [h1, get_some hj], h2⟩
theorem ents_asc {F : List Int} {n : Nat} {E : Nat → Nat} (h : Tree F n E) : Asc (ents F) := ent_asc h 15 h.pos (by omega)
theorem ents_eq {F F' : List Int} {n n' : Nat} (h : Ok F n) (h' : Ok F' n') (he : ∀ q, get F q = get F' q) : ents F = ents F' := by
  obtain ⟨⟨E, ht⟩, _⟩ := h
  obtain ⟨⟨E', ht'⟩, _⟩ := h'
  refine asc_ext (ents_asc ht) (ents_asc ht') fun x => ?_
  rw [mem_ents ht, mem_ents ht', he]

/-! ### Numbers of nodes -/
theorem nodup_len : ∀ (n : Nat) {l : List Nat}, l.Nodup → (∀ x ∈ l, x < n) → l.length ≤ n
  | 0, [], _, _ => Nat.le_refl _
  | 0, x :: l, _, h => absurd (h x List.mem_cons_self) (Nat.not_lt_zero _)
  | n + 1, l, hn, h => by
    have h1 : (l.erase n).length ≤ n := nodup_len n (hn.erase _) fun x hx => by
      have := (hn.mem_erase_iff).1 hx
      have := h x this.2
      omega
    have h2 := List.length_erase (l := l) (a := n)
    split at h2 <;> omega
theorem nodes_le {F F' : List Int} {n n' : Nat} {E E' : Nat → Nat} (h : Tree F n E) (h' : Tree F' n' E') (hs : ∀ q, has F q → has F' q) : n ≤ n' := by
  have hex : ∀ j, ∃ s k, j < n → nod F 0 s = some j ∧ nod F' 0 s = some k := fun j => by
    by_cases hj : j < n
    · obtain ⟨s, hs1⟩ := nod_all h j hj
      obtain ⟨k, hk⟩ := hs s ⟨j, hs1⟩
      exact ⟨s, k, fun _ => ⟨hs1, hk⟩⟩
    · exact ⟨[], 0, fun h => absurd h hj⟩
  let s : Nat → Str := fun j => Classical.choose (hex j)
  let f : Nat → Nat := fun j => Classical.choose (Classical.choose_spec (hex j))
  have hf : ∀ j, j < n → nod F 0 (s j) = some j ∧ nod F' 0 (s j) = some (f j) := fun j => Classical.choose_spec (Classical.choose_spec (hex j))
  have hlen := nodup_len n' (l := (List.range n).map f) ?_ ?_
  · simpa using hlen
  · rw [List.nodup_iff_pairwise_ne, List.pairwise_map]
    have h1 : (List.range n).Pairwise fun a b => a ≠ b := List.nodup_iff_pairwise_ne.1 List.nodup_range
    refine List.Pairwise.imp_of_mem ?_ h1
    intro a b ha hb hab he
    obtain ⟨a1, a2⟩ := hf a (by simpa using ha)
    obtain ⟨b1, b2⟩ := hf b (by simpa using hb)
    rw [he] at a2
    have := nod_inj h' _ rfl a2 b2
    rw [this, b1] at a1
    injection a1 with a1
    exact hab a1.symm
  · intro x hx
    simp only [List.mem_map, List.mem_range] at hx
    obtain ⟨j, hj, rfl⟩ := hx
    exact (nod_lt h' h'.pos (hf j hj).2).1
end Tr
end Go.Proofs.Ytippbkooaonajaa
