/-
  The reference: comparing lists of strings.
-/
import Derived.Test.YtblgcefaikoejaaDgM
namespace Go.Proofs.Ytblgcefaikoejaa
open Go.RowKit Dg
set_option linter.unusedVariables false
set_option linter.unusedSimpArgs false

theorem Sl.cellat {w : World} {B m : Nat} {A : Option Addr} {cap : Nat} {l : List Str} (h : Sl w B m (.slice A l.length cap) l) {i : Nat} {x : Str} (hx : l[i]? = some x) : ∃ ad, A = some ad ∧ ad.block < B ∧ w.cell? (ad.add i) = some (str x) ∧ l.length ≤ cap := by
  obtain ⟨A', cap', hv, h1, h2, h3, h4, h5⟩ := h.1
  injection hv with e1 _ e2
  subst e1 e2
  have hi := (List.getElem?_eq_some_iff.1 hx).1
  cases A with
  | none => have := h3 rfl; omega
  | some ad =>
    obtain ⟨a1, a2⟩ := h5 ad rfl (by omega)
    exact ⟨ad, rfl, a1, a2 i _ (by rw [List.getElem?_map, hx]; rfl), h1⟩

theorem take_ext {l m : List Str} {i : Nat} {x y : Str} (ht : l.take i = m.take i) (hx : l[i]? = some x) (hy : m[i]? = some y) (e : x = y) : l.take (i + 1) = m.take (i + 1) := by
  rw [List.take_add_one, List.take_add_one, ht, hx, hy, e]

set_option maxRecDepth 100000 in
set_option maxHeartbeats 1000000 in
theorem strings_any (v u : Value) (l m : List Str) (w : World) (hv : Sl w w.heap.size 1000 v l) (hu : Sl w w.heap.size 1000 u m) (hl : l.length ≤ 10000) (hm : m.length ≤ 10000) :
    Calls Try.prog 23 #[v, u] w fun e w' => e = .returned (.bool (decide (l = m))) ∧ Below w.heap.size w w' := by
  obtain ⟨A, cap, rfl⟩ := hv.form
  obtain ⟨A2, cap2, rfl⟩ := hu.form
  by_cases hlen : l.length = m.length
  · go_enter Try.func23, Try.ntmps23
    go_wp2_with fail
    go_loopw [5] (fun vi wr => ∃ i : Nat, vi = .int .i64 (i : Int) ∧ i ≤ l.length ∧ l.take i = m.take i ∧ Below w.heap.size w wr)
      (fun vi wr => ixn l.length vi)
    case atStart => exact ⟨0, rfl, Nat.zero_le _, by simp, Below.refl _ _⟩
    case round =>
      obtain ⟨i, rfl, hi, ht, hB⟩ := hrel
      have HT := Lib.hid ht
      have HLEN := Lib.hid hlen
      clear ht
      by_cases hlt : i < l.length
      · have hbd : Below w.heap.size w wr.drew := hB.drew
        obtain ⟨x, hx, _, hxl⟩ := hv.at_ hlt
        obtain ⟨y, hy, _, hyl⟩ := hu.at_ (i := i) (by omega)
        obtain ⟨ad, rfl, had, hcx, hca⟩ := (hv.carry hbd (Nat.le_refl _)).cellat hx
        obtain ⟨ad2, rfl, had2, hcy, hca2⟩ := (hu.carry hbd (Nat.le_refl _)).cellat hy
        have hltm : i < m.length := by omega
        unfold str at hcx hcy
        by_cases hxy : x = y
        · have HT2 := Lib.hid (take_ext HT.out hx hy hxy)
          subst hxy
          clear hx hy hv hu hlen
          go_wp2_with fail
          go_region
          all_goals go_wp2_with fail
          go_roundw
          case measure => show l.length - ((i : Int) + 1).toNat < l.length - ((i : Int)).toNat; omega
          case rel => exact ⟨i + 1, by simp, by omega, HT2.out, hbd⟩
        · have hbe : (x == y) = false := by simpa using hxy
          have HNE : Hid (decide (l = m) = false) := Lib.hid (decide_eq_false fun e => by
            subst e
            rw [hx] at hy
            injection hy with hy
            exact hxy hy)
          clear hx hy hv hu hlen
          go_wp2_with fail
          go_region
          all_goals go_wp2_with fail
          go_ret
          exact ⟨ret_bool HNE.out.symm, hbd⟩
      · have HEQ : Hid (decide (l = m) = true) := Lib.hid (decide_eq_true (by
          have := HT.out
          rwa [List.take_of_length_le (by omega), List.take_of_length_le (by omega)] at this))
        clear hlen
        go_wp2_with fail
        go_ret
        exact ⟨ret_bool HEQ.out.symm, hB⟩
  · go_enter Try.func23, Try.ntmps23
    go_wp2_with fail
    go_ret
    exact ⟨ret_bool (by rw [decide_eq_false (fun e => hlen (by rw [e]))]), Below.refl _ _⟩

/-- Few: at most 60 prefixes, the first 60 of at most 40 bytes each. -/
def few (l : List Str) : Bool := ((l.take 60).all fun x => decide (x.length ≤ 40)) && decide (l.length ≤ 60)
theorem few_iff {l : List Str} : few l = true ↔ l.length ≤ 60 ∧ ∀ x ∈ l, x.length ≤ 40 := by
  unfold few
  simp only [Bool.and_eq_true, List.all_eq_true, decide_eq_true_eq]
  constructor
  · rintro ⟨h1, h2⟩
    rw [List.take_of_length_le h2] at h1
    exact ⟨h2, h1⟩
  · rintro ⟨h1, h2⟩
    rw [List.take_of_length_le h1]
    exact ⟨h2, h1⟩

set_option maxRecDepth 100000 in
theorem short_any (a b c : Str) (w : World) (ha : a.length ≤ maxLen) (hb : b.length ≤ maxLen) (hc : c.length ≤ maxLen) :
    Calls Try.prog 13 #[str a, str b, str c] w fun e w' => e = .returned (.bool (decide (a.length ≤ 200) && (decide (b.length ≤ 200) && decide (c.length ≤ 200)))) ∧ w' = w := by
  unfold str
  by_cases h1 : a.length ≤ 200
  · by_cases h2 : b.length ≤ 200
    · by_cases h3 : c.length ≤ 200
      all_goals
        rw [decide_eq_true h1, decide_eq_true h2, Bool.true_and, Bool.true_and]
        go_enter Try.func13, Try.ntmps13
        go_wp2_with fail
        go_ret
        exact ⟨ret_bool (by first | (simp [h3]; done) | (simp [h3]; omega)), rfl⟩
    · rw [decide_eq_false h2, Bool.false_and, Bool.and_false]
      go_enter Try.func13, Try.ntmps13
      go_wp2_with fail
      go_ret
      exact ⟨rfl, rfl⟩
  · rw [decide_eq_false h1, Bool.false_and]
    go_enter Try.func13, Try.ntmps13
    go_wp2_with fail
    go_ret
    exact ⟨rfl, rfl⟩

end Go.Proofs.Ytblgcefaikoejaa
