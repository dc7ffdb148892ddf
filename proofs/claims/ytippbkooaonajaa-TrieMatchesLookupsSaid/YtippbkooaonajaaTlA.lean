/-
  The statements' example of tries: plain mathematics.
-/
import Derived.Test.YtippbkooaonajaaTtN
namespace Go.Proofs.Ytippbkooaonajaa
open Go.RowKit Dg Tr
set_option linter.unusedVariables false
set_option linter.unusedSimpArgs false

/-- The empty trie. -/
def T0 : List Int := List.replicate 11 0
theorem t0_kI (i d : Nat) : kI T0 i d = 0 := by unfold kI T0; exact rep_getD 11 _
theorem t0_vl (i : Nat) : vl T0 i = 0 := by unfold vl T0; exact rep_getD 11 _
theorem t0_tree : Tree T0 1 (fun _ => 0) :=
  ⟨by decide, rfl, rfl, fun i d _ _ h => absurd (t0_kI i d) h, fun i d i' d' _ _ _ _ h => absurd (t0_kI i d) h, fun j h1 h2 => by omega⟩
theorem t0_ok : Ok T0 1 := ⟨⟨_, t0_tree⟩, fun i _ => by rw [t0_vl]; omega⟩
theorem t0_get (s : Str) : get T0 s = 0 := by
  cases h : nod T0 0 s with
  | none => exact get_none h
  | some j => rw [get_some h, t0_vl]
theorem t0_has (s : Str) : has T0 s ↔ s = [] := by
  constructor
  · rintro ⟨j, hj⟩
    cases s with
    | nil => rfl
    | cons b s => simp [nod, t0_kI] at hj
  · rintro rfl; exact ⟨0, rfl⟩

theorem chp_ok {F : List Int} {n : Nat} {s : Str} (h : Ok F n) (hn : n ≤ 4096) (hl : s.length ≤ 15) (hs : ∀ b ∈ s, isD b = true) : chp F n s = 0 := by
  unfold chp
  rw [if_neg (by rw [chk_ok h hn]; simp), if_pos (by simp only [Bool.and_eq_true, decide_eq_true_eq, List.all_eq_true]; exact ⟨hl, hs⟩)]
theorem putE_ok {F : List Int} {n : Nat} {s : Str} {v : Int} (h : Ok F n) (hn : n ≤ 4096) (hl : s.length ≤ 15) (hs : ∀ b ∈ s, isD b = true) (hv : 1 ≤ v ∧ v ≤ 1099511627776) (hp : putn F n s ≤ 4096) : putE F n s v = 0 ∧ putF F n s v = put F n s v ∧ putN F n s v = putn F n s := by
  have h0 : putE F n s v = 0 := by
    unfold putE
    rw [if_neg (by rw [chp_ok h hn hl hs]; simp), if_neg (by omega), if_neg (by omega)]
  exact ⟨h0, by unfold putF; rw [if_pos h0], by unfold putN; rw [if_pos h0]⟩
theorem putE_zero {F : List Int} {n : Nat} {s : Str} {v : Int} (h : putE F n s v = 0) : chp F n s = 0 ∧ (1 ≤ v ∧ v ≤ 1099511627776) ∧ putn F n s ≤ 4096 ∧ putF F n s v = put F n s v ∧ putN F n s v = putn F n s := by
  have hF : putF F n s v = put F n s v := by unfold putF; rw [if_pos h]
  have hN : putN F n s v = putn F n s := by unfold putN; rw [if_pos h]
  unfold putE at h
  by_cases hc : chp F n s = 0
  · rw [if_neg (by simp [hc])] at h
    by_cases hv : v < 1 ∨ 1099511627776 < v
    · rw [if_pos hv] at h; cases h
    · rw [if_neg hv] at h
      by_cases hp : 4096 < putn F n s
      · rw [if_pos hp] at h; cases h
      · exact ⟨hc, by omega, by omega, hF, hN⟩
  · rw [if_pos hc] at h; exact absurd h hc

def s49 : Str := [52, 57]
def s4989 : Str := [52, 57, 56, 57]
def s4 : Str := [52]
def exA : List Int := put T0 1 s49 1
def exB : List Int := put exA 3 s4989 2
def exT : List Int := put exB 5 s4 3
theorem n_A : putn T0 1 s49 = 3 := by decide +kernel
theorem n_B : putn exA 3 s4989 = 5 := by decide +kernel
theorem n_T : putn exB 5 s4 = 5 := by decide +kernel
theorem ok_A : Ok exA 3 := by have := (put_put (v := 1) t0_ok (s := s49) (by decide) (by decide) (by omega)).ok; rwa [n_A] at this
theorem ok_B : Ok exB 5 := by have := (put_put (v := 2) ok_A (s := s4989) (by decide) (by decide) (by omega)).ok; rwa [n_B] at this
theorem ok_T : Ok exT 5 := by have := (put_put (v := 3) ok_B (s := s4) (by decide) (by decide) (by omega)).ok; rwa [n_T] at this
theorem put_A : putE T0 1 s49 1 = 0 ∧ putF T0 1 s49 1 = exA ∧ putN T0 1 s49 1 = 3 := by
  obtain ⟨h1, h2, h3⟩ := putE_ok (v := 1) t0_ok (s := s49) (by decide) (by decide) (by decide) (by omega) (by rw [n_A]; omega)
  exact ⟨h1, h2, h3.trans n_A⟩
theorem put_B : putE exA 3 s4989 2 = 0 ∧ putF exA 3 s4989 2 = exB ∧ putN exA 3 s4989 2 = 5 := by
  obtain ⟨h1, h2, h3⟩ := putE_ok (v := 2) ok_A (s := s4989) (by decide) (by decide) (by decide) (by omega) (by rw [n_B]; omega)
  exact ⟨h1, h2, h3.trans n_B⟩
theorem put_T : putE exB 5 s4 3 = 0 ∧ putF exB 5 s4 3 = exT ∧ putN exB 5 s4 3 = 5 := by
  obtain ⟨h1, h2, h3⟩ := putE_ok (v := 3) ok_B (s := s4) (by decide) (by decide) (by decide) (by omega) (by rw [n_T]; omega)
  exact ⟨h1, h2, h3.trans n_T⟩
theorem lon_1 : lonR exT 5 [52, 57, 56, 57, 49] = (2, 4, true) := by
  unfold lonR
  rw [if_pos ⟨by decide, chk_ok ok_T (by decide)⟩]
  decide +kernel
theorem lon_2 : lonR exT 5 [52, 55, 49, 49] = (3, 1, true) := by
  unfold lonR
  rw [if_pos ⟨by decide, chk_ok ok_T (by decide)⟩]
  decide +kernel
theorem put_bad : putE exT 5 [52, 120] 1 = 60 := by
  have h : chp exT 5 [52, 120] = 60 := by
    unfold chp
    rw [if_neg (by rw [chk_ok ok_T (by decide)]; simp), if_neg (by decide)]
  unfold putE
  rw [h, if_pos (by decide)]
theorem ext_1 : extP exT 5 [52, 57, 56] := ⟨by decide, chk_ok ok_T (by decide), [57], by decide, by decide +kernel⟩
theorem ext_2 : ¬ extP exT 5 s4989 := by
  rintro ⟨_, _, q, hq, hg⟩
  obtain ⟨⟨E, ht⟩, _⟩ := ok_T
  obtain ⟨j, hj⟩ := get_has hg
  cases q with
  | nil => exact hq rfl
  | cons b q =>
    rw [nod_append, show nod exT 0 s4989 = some 4 by decide +kernel] at hj
    simp only [Option.bind, nod] at hj
    split at hj
    · rename_i hc
      have hz : ∀ d, d < 10 → kI exT 4 d = 0 := by decide +kernel
      exact hc.2 (hz _ (dg_lt hc.1))
    · cases hj
theorem ents_3 : (entR exT 5).length = 3 := by
  unfold entR
  rw [if_pos (chk_ok ok_T (by decide))]
  decide +kernel
end Go.Proofs.Ytippbkooaonajaa
