/-
  Scripts of updates: short, starts; what a script leaves: plain mathematics.
-/
import Derived.Test.YtippbkooaonajaaTrB
import Derived.Test.YtippbkooaonajaaOpU
namespace Go.Proofs.Ytippbkooaonajaa
open Go.RowKit Dg Tr
set_option linter.unusedVariables false
set_option linter.unusedSimpArgs false

theorem info_upd2 : (Try.prog.info? 74).map (·.size) = some 2 := by kernel_rfl

set_option maxRecDepth 100000 in
theorem starts_any (s p : Str) (w : World) (hs : s.length ≤ maxLen) (hp : p.length ≤ maxLen) :
    Calls Try.prog 29 #[str s, str p] w fun e w' => e = .returned (.bool (pre p s)) ∧ w' = w := by
  unfold str
  by_cases h : p.length ≤ s.length
  · go_enter Try.func29, Try.ntmps29
    go_wp2_with fail
    rw [str_cut]
    go_ret
    refine ⟨?_, rfl⟩
    unfold pre
    simp [h]
  · go_enter Try.func29, Try.ntmps29
    go_wp2_with fail
    go_ret
    refine ⟨?_, rfl⟩
    unfold pre
    simp [h]

set_option maxRecDepth 100000 in
set_option maxHeartbeats 2000000 in
theorem short_any (v : Value) (l : List (Str × Int)) (w : World) (hv : Pl w w.heap.size v l) (hu : ∀ x ∈ l, Upd x) :
    Calls Try.prog 27 #[v] w fun e w' => (∃ r : Bool, e = .returned (.bool r) ∧ (r = true → l.length ≤ 60 ∧ ∀ x ∈ l, x.1.length ≤ 40)) ∧ Below w.heap.size w w' := by
  obtain ⟨A, c, rfl⟩ := row_form hv
  have HV := Lib.hid hv
  have HU := Lib.hid hu
  have hll : l.length ≤ 9223372036854775807 := by
    obtain ⟨_, _, e, h1, h2, _⟩ := hv
    injection e with _ _ e3
    simp only [maxLen] at h2; omega
  have hml : maxLen = 9223372036854775807 := rfl
  clear hv hu
  go_enter Try.func27, Try.ntmps27
  go_wp2_with fail
  go_loopw [3] (fun vi wr => ∃ i : Nat, vi = .int .i64 (i : Int) ∧ i ≤ l.length ∧ i ≤ 100 ∧ (∀ x ∈ l.take i, x.1.length ≤ 40) ∧ Below w.heap.size w wr) (fun vi wr => ixn l.length vi)
  case atStart => exact ⟨0, rfl, Nat.zero_le _, Nat.zero_le _, fun x hx => by simp at hx, Below.refl _ _⟩
  case round =>
    obtain ⟨i, rfl, hi', hi100, hsh, hbw⟩ := hrel
    have HSH := Lib.hid hsh
    clear hsh
    by_cases hlt : i < l.length
    · by_cases hi9 : i < 100
      · obtain ⟨x, hx⟩ : ∃ x, l[i]? = some x := ⟨l[i], List.getElem?_eq_getElem hlt⟩
        obtain ⟨ad, q, px, hA, hqe, hpx, hpx2, hqb, hcx, hcs, _⟩ := HV.out.elem hbw hx
        subst hA
        have hxl : x.1.length ≤ maxLen := (HU.out x (List.mem_of_getElem? hx)).1
        have HQE := Lib.hid hqe
        have HX := Lib.hid hx
        obtain ⟨p, hp⟩ : ∃ p, x.1 = p := ⟨_, rfl⟩
        rw [hp] at hcs hxl
        have HP := Lib.hid hp
        have hsz := str_size p
        unfold str at hcs
        clear hqe hcx hpx hpx2 hx hp
        by_cases hbg : 40 < p.length
        · go_wp2_with (first | (refine wp_run rfl (exec_ixS 40 74 2 Try.underlying40 info_upd2 _ rfl rfl .i64 (i : Int) i rfl rfl hlt HQE.out) ?_))
          go_ret
          exact ⟨⟨false, rfl, fun h => by cases h⟩, hbw⟩
        · go_wp2_with (first | (refine wp_run rfl (exec_ixS 40 74 2 Try.underlying40 info_upd2 _ rfl rfl .i64 (i : Int) i rfl rfl hlt HQE.out) ?_))
          go_roundw
          case measure => show l.length - ((i : Int) + 1).toNat < l.length - ((i : Int)).toNat; omega
          case rel =>
            refine ⟨i + 1, by simp, by omega, by omega, fun y hy => ?_, hbw⟩
            rw [List.take_add_one, HX.out] at hy
            simp only [Option.toList, List.mem_append, List.mem_singleton] at hy
            rcases hy with hy | rfl
            · exact HSH.out y hy
            · rw [HP.out]; omega
      · go_wp2_with fail
        go_ret
        refine ⟨?_, hbw⟩
        refine ⟨_, rfl, fun h => ?_⟩
        simp at h
        omega
    · obtain rfl : i = l.length := by omega
      go_wp2_with fail
      go_ret
      refine ⟨?_, hbw⟩
      refine ⟨_, rfl, fun h => ?_⟩
      have h2 := HSH.out
      rw [List.take_length] at h2
      refine ⟨?_, h2⟩
      simp at h
      omega

/-- 'kept' is the trie's entries in any order. -/
structure Kp (X : List Int) (nx : Nat) (K : List (Str × Int)) : Prop where
  ok : Ok X nx
  le : nx ≤ 4096
  nd : (K.map (·.1)).Nodup
  mem : ∀ x, x ∈ K ↔ x.2 = get X x.1 ∧ x.2 ≠ 0
theorem kp_zero : Kp T0 1 [] := ⟨t0_ok, by omega, by simp, fun x => by rw [t0_get]; constructor
                                                                       · intro h; cases h
                                                                       · rintro ⟨h1, h2⟩; exact absurd h1 h2⟩
theorem wout_keys {K : List (Str × Int)} (h : (K.map (·.1)).Nodup) (p : Str) : ((wout K p).map (·.1)).Nodup := by
  unfold wout
  exact List.Nodup.sublist (List.Sublist.map _ List.filter_sublist) h
theorem Kp.put {X : List Int} {nx : Nat} {K : List (Str × Int)} {p : Str} {v : Int} (h : Kp X nx K) (hv : 0 < v) (he : putE X nx p v = 0) : Kp (putF X nx p v) (putN X nx p v) (wout K p ++ [(p, v)]) := by
  obtain ⟨c1, v1, h1, g1, k1⟩ := putE_zero he
  obtain ⟨hOk, h4, l1, d1⟩ := chp_zero c1
  have hP := put_put hOk d1 l1 v1
  rw [g1, k1]
  refine ⟨hP.ok, h1, ?_, fun x => ?_⟩
  · rw [List.map_append, List.nodup_append]
    refine ⟨wout_keys h.nd p, by simp, ?_⟩
    intro a ha b hb hab
    simp at hb
    subst hb hab
    simp only [List.mem_map] at ha
    obtain ⟨y, hy, hy2⟩ := ha
    exact (mem_wout.1 hy).2 hy2
  · rw [List.mem_append, mem_wout, h.mem, hP.get, List.mem_singleton]
    constructor
    · rintro (⟨⟨h2, h3⟩, h4⟩ | rfl)
      · rw [if_neg h4]; exact ⟨h2, h3⟩
      · rw [if_pos rfl]; exact ⟨rfl, by show v ≠ 0; omega⟩
    · rintro ⟨h2, h3⟩
      by_cases hx : x.1 = p
      · rw [if_pos hx] at h2
        exact Or.inr (by rw [← hx, ← h2])
      · rw [if_neg hx] at h2
        exact Or.inl ⟨⟨h2, h3⟩, hx⟩
theorem Kp.drop {X : List Int} {nx : Nat} {K : List (Str × Int)} {p : Str} (h : Kp X nx K) (he : chp X nx p = 0) : Kp (drpF X nx p) (drpN X nx p) (wout K p) := by
  have hd := drp_drp p h.ok
  have e1 : drpF X nx p = drp X p := by unfold drpF; rw [if_pos he]
  have e2 : drpN X nx p = nx := by unfold drpN; rw [if_pos he]
  rw [e1, e2]
  refine ⟨hd.ok, h.le, wout_keys h.nd p, fun x => ?_⟩
  rw [mem_wout, h.mem, hd.get]
  by_cases hx : x.1 = p
  · rw [if_pos hx]
    exact ⟨fun h => absurd hx h.2, fun h => absurd h.1 h.2⟩
  · rw [if_neg hx]
    exact ⟨fun h => h.1, fun h => ⟨h, hx⟩⟩
end Go.Proofs.Ytippbkooaonajaa
