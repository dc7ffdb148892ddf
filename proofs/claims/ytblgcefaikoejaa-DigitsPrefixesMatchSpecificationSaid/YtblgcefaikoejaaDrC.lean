/-
  Walks of the reference's functions on lists of prefixes: Common, Matches, has.
-/
import Derived.Test.YtblgcefaikoejaaDrB
import Derived.Test.YtblgcefaikoejaaDrA
namespace Go.Proofs.Ytblgcefaikoejaa
open Go.RowKit Dg
set_option linter.unusedVariables false
set_option linter.unusedSimpArgs false

set_option maxRecDepth 100000 in
set_option maxHeartbeats 1000000 in
theorem rcommon_any (a b : Str) (w : World) (ha : a.length ≤ 1000) (hb : b.length ≤ 1000) :
    Calls Try.prog 25 #[str a, str b] w fun e w' => e = .returned (.int .i64 (com a b : Int)) ∧ Below w.heap.size w w' := by
  unfold str
  go_enter Try.func25, Try.ntmps25
  go_wp2_with fail
  go_loopw [5] (fun vi wr => ∃ i : Nat, vi = .int .i64 (i : Int) ∧ i ≤ a.length ∧ i ≤ b.length ∧ a.take i = b.take i ∧ Below w.heap.size w wr)
    (fun vi wr => ixn a.length vi)
  case atStart => exact ⟨0, rfl, Nat.zero_le _, Nat.zero_le _, by simp, Below.refl _ _⟩
  case round =>
    obtain ⟨i, rfl, hia, hib, ht, hB⟩ := hrel
    have HT := Lib.hid ht
    clear ht
    by_cases h1 : i < a.length
    · have d1 : decide (i < a.length) = true := decide_eq_true h1
      by_cases h2 : i < b.length
      · have d2 : decide (i < b.length) = true := decide_eq_true h2
        obtain ⟨x, hx⟩ : ∃ x, a[i]? = some x := ⟨a[i], List.getElem?_eq_getElem h1⟩
        obtain ⟨y, hy⟩ : ∃ y, b[i]? = some y := ⟨b[i], List.getElem?_eq_getElem h2⟩
        have hga : (⟨a.toArray⟩ : ByteArray)[i]'(by rw [str_size]; exact h1) = x := by
          obtain ⟨h, rfl⟩ := List.getElem?_eq_some_iff.1 hx
          simp [ByteArray.getElem_eq_getElem_data]
        have hgb : (⟨b.toArray⟩ : ByteArray)[i]'(by rw [str_size]; exact h2) = y := by
          obtain ⟨h, rfl⟩ := List.getElem?_eq_some_iff.1 hy
          simp [ByteArray.getElem_eq_getElem_data]
        by_cases hxy : x = y
        · subst hxy
          have hbe : ((x.toNat : Int) == (x.toNat : Int)) = true := by simp
          have ht2 : a.take (i + 1) = b.take (i + 1) := by rw [List.take_add_one, List.take_add_one, HT.out, hx, hy]
          have HT2 := Lib.hid ht2
          clear ht2 hx hy
          go_wp2_with fail
          go_region
          all_goals go_wp2_with fail
          go_roundw
          case measure => show a.length - ((i : Int) + 1).toNat < a.length - ((i : Int)).toNat; omega
          case rel => exact ⟨i + 1, by simp, by omega, by omega, HT2.out, hB.drew⟩
        · have hbe : ((x.toNat : Int) == (y.toNat : Int)) = false := by
            rw [Bool.eq_false_iff]
            intro e
            have e := eq_of_beq e
            exact hxy (by apply UInt8.toNat_inj.1; omega)
          have hc := com_is HT.out hia hib (Or.inr (Or.inr (by rw [hx, hy]; simpa using hxy)))
          have HC := Lib.hid hc
          clear hc hx hy
          go_wp2_with fail
          go_region
          all_goals go_wp2_with fail
          go_ret
          exact ⟨by rw [HC.out]; rfl, hB.drew⟩
      · have d2 : decide (i < b.length) = false := decide_eq_false h2
        have HC := Lib.hid (com_is HT.out hia hib (Or.inr (Or.inl (by omega))))
        go_wp2_with fail
        go_region
        all_goals go_wp2_with fail
        go_ret
        exact ⟨by rw [HC.out]; rfl, hB.drew⟩
    · have d1 : decide (i < a.length) = false := decide_eq_false h1
      have HC := Lib.hid (com_is HT.out hia hib (Or.inl (by omega)))
      go_wp2_with fail
      go_region
      all_goals go_wp2_with fail
      go_ret
      exact ⟨by rw [HC.out]; rfl, hB.drew⟩

set_option maxRecDepth 100000 in
set_option maxHeartbeats 1000000 in
theorem rmatches_any (s : Str) (v : Value) (l : List Str) (w : World) (hs : s.length ≤ 1000) (hv : Sl w w.heap.size 1000 v l) (hl : l.length ≤ 10000) :
    Calls Try.prog 27 #[v, str s] w fun e w' => e = .returned (.bool (mat l s)) ∧ w' = w := by
  obtain ⟨A, cap, rfl⟩ := hv.form
  obtain ⟨q, hq⟩ : ∃ q, mat l s = q := ⟨_, rfl⟩
  rw [hq]
  have HQ := Lib.hid hq
  clear hq
  have hst := fun (p : Str) (hp : p.length ≤ 1000) => starts_any s p w (by simp only [maxLen]; omega) (by simp only [maxLen]; omega)
  unfold str at hst ⊢
  go_enter Try.func27, Try.ntmps27
  go_wp2_with fail
  go_loopw [5] (fun vi wr => ∃ i : Nat, vi = .int .i64 (i : Int) ∧ i ≤ l.length ∧ wr = w ∧ (∀ x ∈ l.take i, pre x s = false))
    (fun vi wr => ixn l.length vi)
  case atStart => exact ⟨0, rfl, Nat.zero_le _, rfl, fun x hx => by simp at hx⟩
  case round =>
    obtain ⟨i, rfl, hi, rfl, ht⟩ := hrel
    have HT := Lib.hid ht
    clear ht
    by_cases hlt : i < l.length
    · obtain ⟨x, hx, hxs, hxl⟩ := hv.at_ hlt
      have hm := hst x hxl
      have HX := Lib.hid hx
      clear hx hst
      cases hp : pre x s
      · rw [hp] at hm
        have HN : Hid (∀ y ∈ l.take (i + 1), pre y s = false) := Lib.hid fun y hy => by
          rw [List.take_add_one, HX.out] at hy
          rcases List.mem_append.1 hy with hy | hy
          · exact HT.out y hy
          · simp at hy; subst hy; exact hp
        clear hp
        go_wp2_with (refine wp_atg 28 9 Try.underlying28 size_strM (.tmp 13) (.tmp 14) rfl rfl rfl hv.1 .i64 _ i (str x) rfl rfl hxs ?_; intro ad had hcad; unfold str at hcad; go_frame)
        refine hm.mono ?_
        rintro e w' ⟨rfl, rfl⟩
        go_wp2_with fail
        go_roundw
        case measure => show l.length - ((i : Int) + 1).toNat < l.length - ((i : Int)).toNat; omega
        case rel => exact ⟨i + 1, by simp, by omega, by first | trivial | rfl, HN.out⟩
      · rw [hp] at hm
        have HN : Hid (q = true) := Lib.hid (HQ.out.symm.trans (by
          unfold mat
          rw [List.any_eq_true]
          exact ⟨x, List.mem_of_getElem? HX.out, hp⟩))
        clear hp
        go_wp2_with (refine wp_atg 28 9 Try.underlying28 size_strM (.tmp 13) (.tmp 14) rfl rfl rfl hv.1 .i64 _ i (str x) rfl rfl hxs ?_; intro ad had hcad; unfold str at hcad; go_frame)
        refine hm.mono ?_
        rintro e w' ⟨rfl, rfl⟩
        go_wp2_with fail
        go_ret
        exact ⟨ret_bool HN.out.symm, rfl⟩
    · have HN : Hid (q = false) := Lib.hid (HQ.out.symm.trans (by
        unfold mat
        rw [List.any_eq_false]
        intro x hx
        have ht := HT.out
        rw [List.take_of_length_le (by omega)] at ht
        simp [ht x hx]))
      clear hst
      go_wp2_with fail
      go_ret
      exact ⟨ret_bool HN.out.symm, rfl⟩

set_option maxRecDepth 100000 in
set_option maxHeartbeats 1000000 in
theorem has_any (s : Str) (v : Value) (l : List Str) (B : Nat) (w : World) (hv : Sl w B 1000 v l) (hl : l.length ≤ 10000) :
    Calls Try.prog 55 #[v, str s] w fun e w' => e = .returned (.bool (decide (s ∈ l))) ∧ w' = w := by
  obtain ⟨A, cap, rfl⟩ := hv.form
  obtain ⟨q, hq⟩ : ∃ q, decide (s ∈ l) = q := ⟨_, rfl⟩
  rw [hq]
  have HQ := Lib.hid hq
  clear hq
  unfold str
  go_enter Try.func55, Try.ntmps55
  go_wp2_with fail
  go_loopw [5] (fun vi wr => ∃ i : Nat, vi = .int .i64 (i : Int) ∧ i ≤ l.length ∧ wr = w ∧ (∀ x ∈ l.take i, x ≠ s))
    (fun vi wr => ixn l.length vi)
  case atStart => exact ⟨0, rfl, Nat.zero_le _, rfl, fun x hx => by simp at hx⟩
  case round =>
    obtain ⟨i, rfl, hi, rfl, ht⟩ := hrel
    have HT := Lib.hid ht
    clear ht
    by_cases hlt : i < l.length
    · obtain ⟨x, hx, hxs, hxl⟩ := hv.at_ hlt
      have HX := Lib.hid hx
      clear hx
      by_cases hp : x = s
      · have hbe : (x == s) = true := by simpa using hp
        have HN : Hid (q = true) := Lib.hid (HQ.out.symm.trans (decide_eq_true (by rw [← hp]; exact List.mem_of_getElem? HX.out)))
        clear hp
        go_wp2_with (refine wp_atg 28 9 Try.underlying28 size_strM (.tmp 12) (.tmp 13) rfl rfl rfl hv.1 .i64 _ i (str x) rfl rfl hxs ?_; intro ad had hcad; unfold str at hcad; go_frame)
        go_ret
        exact ⟨ret_bool HN.out.symm, rfl⟩
      · have hbe : (x == s) = false := by simpa using hp
        have HN : Hid (∀ y ∈ l.take (i + 1), y ≠ s) := Lib.hid fun y hy => by
          rw [List.take_add_one, HX.out] at hy
          rcases List.mem_append.1 hy with hy | hy
          · exact HT.out y hy
          · simp at hy; subst hy; exact hp
        clear hp
        go_wp2_with (refine wp_atg 28 9 Try.underlying28 size_strM (.tmp 12) (.tmp 13) rfl rfl rfl hv.1 .i64 _ i (str x) rfl rfl hxs ?_; intro ad had hcad; unfold str at hcad; go_frame)
        go_roundw
        case measure => show l.length - ((i : Int) + 1).toNat < l.length - ((i : Int)).toNat; omega
        case rel => exact ⟨i + 1, by simp, by omega, by first | trivial | rfl, HN.out⟩
    · have HN : Hid (q = false) := Lib.hid (HQ.out.symm.trans (decide_eq_false fun hm => by
        have ht := HT.out
        rw [List.take_of_length_le (by omega)] at ht
        exact ht s hm rfl))
      go_wp2_with fail
      go_ret
      exact ⟨ret_bool HN.out.symm, rfl⟩

end Go.Proofs.Ytblgcefaikoejaa
