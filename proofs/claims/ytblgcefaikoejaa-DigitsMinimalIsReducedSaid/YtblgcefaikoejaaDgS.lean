/-
  Plain mathematics of the two steps by which a set of prefixes is made smallest. Nothing of a program is named here.
-/
import Derived.Test.YtblgcefaikoejaaDig
namespace Go.Proofs.Ytblgcefaikoejaa
namespace Dg
set_option linter.unusedVariables false
set_option linter.unusedSimpArgs false

/-- The parent of a prefix. -/
def par (p : Str) : Str := p.take (p.length - 1)
theorem par_ext {q : Str} {d : UInt8} : par (q ++ [d]) = q := by simp [par]
theorem par_of_mem {p q : Str} (h : p ∈ exts q) : par p = q := by obtain ⟨d, _, rfl⟩ := mem_exts.1 h; exact par_ext
theorem ext_ne {p q : Str} (h : p ∈ exts q) : p ≠ [] := by obtain ⟨d, _, rfl⟩ := mem_exts.1 h; simp
theorem self_not_ext (q : Str) : q ∉ exts q := fun h => by have := exts_len h; omega

def strike (E K : List Str) : List Str := E.foldl (fun K x => K.erase x) K
theorem strike_cons (x : Str) (E K : List Str) : strike (x :: E) K = strike E (K.erase x) := rfl
theorem strike_snoc (E K : List Str) (x : Str) : strike (E ++ [x]) K = (strike E K).erase x := by simp [strike, List.foldl_append]
theorem strike_nodup : ∀ (E : List Str) {K : List Str}, K.Nodup → (strike E K).Nodup
  | [], _, h => h
  | x :: E, _, h => strike_nodup E (h.erase x)
theorem mem_strike : ∀ (E : List Str) {K : List Str}, K.Nodup → ∀ y, y ∈ strike E K ↔ y ∈ K ∧ y ∉ E
  | [], _, _, y => by simp [strike]
  | x :: E, K, h, y => by
    rw [strike_cons, mem_strike E (h.erase x), h.mem_erase_iff]
    simp only [List.mem_cons, not_or, ne_eq]
    constructor
    · rintro ⟨⟨h1, h2⟩, h3⟩; exact ⟨h2, h1, h3⟩
    · rintro ⟨h2, h1, h3⟩; exact ⟨⟨h1, h2⟩, h3⟩
theorem strike_len : ∀ (E : List Str) {K : List Str}, K.Nodup → E.Nodup → (∀ x ∈ E, x ∈ K) → (strike E K).length + E.length = K.length
  | [], _, _, _, _ => by simp [strike]
  | x :: E, K, h, hE, hs => by
    have h1 := List.nodup_cons.1 hE
    have := strike_len E (h.erase x) h1.2 (fun y hy => h.mem_erase_iff.2 ⟨fun e => h1.1 (e ▸ hy), hs y (by simp [hy])⟩)
    have hl := List.length_erase_of_mem (hs x (by simp))
    have hp : 0 < K.length := List.length_pos_of_mem (hs x (by simp))
    rw [strike_cons, List.length_cons]
    omega

/-- How far the joining has come: K0 the set at the start, K the set now; T: what is still to be looked at. -/
structure JI (K0 : List Str) (T : Str → Prop) (K : List Str) : Prop where
  anti : Anti K
  short : Short K
  eqv : Eqv K0 K
  len : K.length ≤ K0.length
  ten : ∀ q, (∀ x ∈ exts q, x ∈ K) → ∃ x ∈ exts q, T x

theorem JI.start {K0 ss : List Str} (ha : Anti K0) (hs : Short K0) (hp : ss.Perm K0) : JI K0 (· ∈ ss) K0 := by
  refine ⟨ha, hs, Eqv.refl _, Nat.le_refl _, fun q h => ?_⟩
  have h0 : q ++ [48] ∈ exts q := mem_exts.2 ⟨48, rfl, rfl⟩
  exact ⟨_, h0, hp.mem_iff.2 (h _ h0)⟩

theorem JI.imp {K0 K : List Str} {T T' : Str → Prop} (h : JI K0 T K) (hT : ∀ x, T x → T' x) : JI K0 T' K :=
  ⟨h.anti, h.short, h.eqv, h.len, fun q hq => by obtain ⟨x, hx, hxT⟩ := h.ten q hq; exact ⟨x, hx, hT x hxT⟩⟩

theorem JI.finish {K0 K : List Str} (h : JI K0 (fun _ => False) K) : NoTen K := fun q hq => by obtain ⟨x, _, hx⟩ := h.ten q hq; exact hx

theorem JI.leave {K0 K R : List Str} {p : Str} (h : JI K0 (fun x => x ∈ R ∨ x = p) K) (hp : p = [] ∨ ¬ ∀ x ∈ exts (par p), x ∈ K) : JI K0 (· ∈ R) K := by
  refine ⟨h.anti, h.short, h.eqv, h.len, fun q hq => ?_⟩
  obtain ⟨x, hx, hxR | rfl⟩ := h.ten q hq
  · exact ⟨x, hx, hxR⟩
  · rcases hp with rfl | hn
    · exact absurd rfl (ext_ne hx)
    · rw [par_of_mem hx] at hn
      exact absurd hq hn

theorem JI.step {K0 K R : List Str} {p : Str} (h : JI K0 (fun x => x ∈ R ∨ x = p) K) (hn : K.Nodup) (hall : ∀ x ∈ exts (par p), x ∈ K) :
    JI K0 (fun x => x ∈ R ∨ x = par p) ((strike (exts (par p)) K).insert (par p)) := by
  obtain ⟨q0, hq0⟩ : ∃ q, par p = q := ⟨_, rfl⟩
  rw [hq0] at hall ⊢
  have hm : ∀ y, y ∈ (strike (exts q0) K).insert q0 ↔ y = q0 ∨ (y ∈ K ∧ y ∉ exts q0) := fun y => by rw [List.mem_insert_iff, mem_strike _ hn]
  have h0 : q0 ++ [48] ∈ exts q0 := mem_exts.2 ⟨48, rfl, rfl⟩
  have hd0 : digits q0 ∧ q0.length ≤ 14 := by
    obtain ⟨a, b⟩ := h.short _ (hall _ h0)
    exact ⟨digits_pre a (List.prefix_append _ _), by have := exts_len h0; omega⟩
  refine ⟨?_, ?_, ?_, ?_, ?_⟩
  · intro x hx y hy hxy
    rcases (hm x).1 hx with rfl | ⟨hxK, hxE⟩
    · rcases (hm y).1 hy with rfl | ⟨hyK, hyE⟩
      · rfl
      · obtain ⟨r, rfl⟩ := hxy
        cases r with
        | nil => simp
        | cons d r =>
          have hd : isD d = true := (h.short _ hyK).1 d (by simp)
          have hxd : x ++ [d] ∈ exts x := mem_exts.2 ⟨d, hd, rfl⟩
          have := h.anti _ (hall _ hxd) _ hyK ⟨r, by simp⟩
          rw [← this] at hyE
          exact absurd hxd hyE
    · rcases (hm y).1 hy with rfl | ⟨hyK, hyE⟩
      · have := h.anti x hxK _ (hall _ h0) (hxy.trans (List.prefix_append _ _))
        rw [this] at hxE
        exact absurd h0 hxE
      · exact h.anti x hxK y hyK hxy
  · intro x hx
    rcases (hm x).1 hx with rfl | ⟨hxK, _⟩
    · exact hd0
    · exact h.short x hxK
  · refine h.eqv.trans (Eqv.of (fun x hx => ?_) (fun x hx => ?_))
    · by_cases hxE : x ∈ exts q0
      · obtain ⟨d, _, rfl⟩ := mem_exts.1 hxE
        exact .cov ((hm q0).2 (Or.inl rfl)) (List.prefix_append _ _)
      · exact Full.mem ((hm x).2 (Or.inr ⟨hx, hxE⟩))
    · rcases (hm x).1 hx with rfl | ⟨hxK, _⟩
      · exact .join fun y hy => Full.mem (hall y hy)
      · exact Full.mem hxK
  · have hl := strike_len (exts q0) hn (exts_nodup q0) hall
    rw [exts_ten] at hl
    have hi : ((strike (exts q0) K).insert q0).length ≤ (strike (exts q0) K).length + 1 := by
      by_cases hmm : q0 ∈ strike (exts q0) K
      · rw [List.insert_of_mem hmm]; omega
      · rw [List.insert_of_not_mem hmm, List.length_cons]; omega
    have := h.len
    omega
  · intro q hq
    by_cases hqq : q0 ∈ exts q
    · exact ⟨q0, hqq, Or.inr rfl⟩
    · have hK : ∀ x ∈ exts q, x ∈ K ∧ x ∉ exts q0 := fun x hx => by
        rcases (hm x).1 (hq x hx) with rfl | h
        · exact absurd hx hqq
        · exact h
      obtain ⟨x, hx, hxR | rfl⟩ := h.ten q (fun x hx => (hK x hx).1)
      · exact ⟨x, hx, Or.inl hxR⟩
      · have : q0 = q := by rw [← hq0]; exact par_of_mem hx
        rw [this] at hK
        exact absurd hx (hK x hx).2

/-- The removal of what is covered keeps what is matched. -/
theorem eqv_uncovered {K0 K : List Str} (h1 : ∀ x ∈ K, x ∈ K0) (h2 : ∀ s ∈ K0, ∃ t ∈ K, t <+: s) : Eqv K0 K :=
  Eqv.of (fun s hs => by obtain ⟨t, ht, hp⟩ := h2 s hs; exact .cov ht hp) (fun x hx => Full.mem (h1 x hx))

theorem nodup_le : ∀ {K K0 : List Str}, K.Nodup → (∀ x ∈ K, x ∈ K0) → K.length ≤ K0.length
  | [], _, _, _ => Nat.zero_le _
  | x :: E, K0, hn, h => by
    have h1 := List.nodup_cons.1 hn
    have hx := h x (by simp)
    have := nodup_le (K0 := K0.erase x) h1.2 (fun y hy => (List.mem_erase_of_ne (fun e => h1.1 (by rw [← e]; exact hy))).2 (h y (by simp [hy])))
    have hl := List.length_erase_of_mem hx
    have hp := List.length_pos_of_mem hx
    rw [List.length_cons]
    omega

/-- The sorted list of a set without repeats. -/
theorem sorted_of {K : List Str} (hn : K.Nodup) : (K.mergeSort fun x y => decide (x ≤ y)).Pairwise (· < ·) := by
  have tr : ∀ a b c : Str, decide (a ≤ b) = true → decide (b ≤ c) = true → decide (a ≤ c) = true := fun a b c h1 h2 => decide_eq_true (List.le_trans (of_decide_eq_true h1) (of_decide_eq_true h2))
  have to : ∀ a b : Str, (decide (a ≤ b) || decide (b ≤ a)) = true := fun a b => by simp only [Bool.or_eq_true, decide_eq_true_eq]; exact List.le_total a b
  have hs := List.pairwise_mergeSort tr to K
  have hnd : (K.mergeSort fun x y => decide (x ≤ y)).Nodup := (List.mergeSort_perm K _).nodup_iff.2 hn
  refine (hs.and hnd).imp fun {a b} h => ?_
  have hle := of_decide_eq_true h.1
  refine Classical.byContradiction fun hlt => h.2 ?_
  exact List.le_antisymm hle (List.not_lt.1 hlt)
end Dg
end Go.Proofs.Ytblgcefaikoejaa
