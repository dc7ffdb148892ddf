/-
  The walks of Common and Matches.
-/
import Derived.Test.YtblgcefaikoejaaDgA
import Derived.Test.YtblgcefaikoejaaMps
import Derived.RegionTactic
import Derived.BigRegion
namespace Go.Proofs.Ytblgcefaikoejaa
open Go.RowKit Dg
set_option linter.unusedVariables false
set_option linter.unusedSimpArgs false

def ixn (n : Nat) : Value → Nat
  | .int _ z => n - z.toNat
  | _ => 0

set_option maxRecDepth 100000 in
set_option maxHeartbeats 1000000 in
theorem common_any (a b : Str) (w : World) (ha : a.length ≤ 1000) (hb : b.length ≤ 1000) :
    Calls Try.prog 24 #[str a, str b] w fun e w' => e = .returned (.int .i64 (com a b : Int)) ∧ Below w.heap.size w w' := by
  unfold str
  go_enter Try.func24, Try.ntmps24
  go_wp2_with fail
  go_loopw [5] (fun vi wr => ∃ i : Nat, vi = .int .i64 (i : Int) ∧ i ≤ a.length ∧ i ≤ b.length ∧ a.take i = b.take i ∧ Below w.heap.size w wr)
    (fun vi wr => ixn a.length vi)
  case atStart => exact ⟨0, rfl, Nat.zero_le _, Nat.zero_le _, by simp, Below.refl _ _⟩
  case round =>
    obtain ⟨i, rfl, hia, hib, ht, hB⟩ := hrel
    have HT := Lib.hid ht
    clear ht
    by_cases hlt : i < a.length ∧ i < b.length
    · obtain ⟨h1, h2⟩ := hlt
      obtain ⟨x, hx⟩ : ∃ x, a[i]? = some x := ⟨a[i], List.getElem?_eq_getElem h1⟩
      obtain ⟨y, hy⟩ : ∃ y, b[i]? = some y := ⟨b[i], List.getElem?_eq_getElem h2⟩
      have hga : (⟨a.toArray⟩ : ByteArray)[i]'(by rw [str_size]; exact h1) = x := by
        obtain ⟨h, rfl⟩ := List.getElem?_eq_some_iff.1 hx
        simp [ByteArray.getElem_eq_getElem_data]
      have hgb : (⟨b.toArray⟩ : ByteArray)[i]'(by rw [str_size]; exact h2) = y := by
        obtain ⟨h, rfl⟩ := List.getElem?_eq_some_iff.1 hy
        simp [ByteArray.getElem_eq_getElem_data]
      by_cases hxy : x = y
      · subst hxy
        have hbe : ((x.toNat : Int) == (x.toNat : Int)) = true := by simp
        have ht2 : a.take (i + 1) = b.take (i + 1) := by rw [List.take_add_one, List.take_add_one, HT.out, hx, hy]
        have HT2 := Lib.hid ht2
        clear ht2 hx hy
        by_cases hab : b.length < a.length
        all_goals
          go_wp2_with fail
          go_region
          all_goals go_wp2_with fail
          go_roundw
          case measure => show a.length - ((i : Int) + 1).toNat < a.length - ((i : Int)).toNat; omega
          case rel => exact ⟨i + 1, by simp, by omega, by omega, HT2.out, hB.drew⟩
      · have hbe : ((x.toNat : Int) == (y.toNat : Int)) = false := by
          rw [Bool.eq_false_iff]
          intro e
          have e := eq_of_beq e
          exact hxy (by apply UInt8.toNat_inj.1; omega)
        have hc := com_is HT.out hia hib (Or.inr (Or.inr (by rw [hx, hy]; simpa using hxy)))
        have HC := Lib.hid hc
        clear hc hx hy
        by_cases hab : b.length < a.length
        all_goals
          go_wp2_with fail
          go_region
          all_goals go_wp2_with fail
          go_ret
          exact ⟨by rw [HC.out]; rfl, hB.drew⟩
    · by_cases hab : b.length < a.length
      · have hbi : decide (i < b.length) = false := decide_eq_false (by omega)
        have HC := Lib.hid (com_is HT.out hia hib (Or.inr (Or.inl (by omega))))
        clear hlt
        go_wp2_with fail
        go_region
        all_goals go_wp2_with fail
        go_ret
        exact ⟨by rw [HC.out]; rfl, hB.drew⟩
      · have hai : decide (i < a.length) = false := decide_eq_false (by omega)
        have HC := Lib.hid (com_is HT.out hia hib (Or.inl (by omega)))
        clear hlt
        go_wp2_with fail
        go_region
        all_goals go_wp2_with fail
        go_ret
        exact ⟨by rw [HC.out]; rfl, hB.drew⟩

/-- A list of strings that is read, each of at most so many bytes. -/
def Sl (w : World) (B m : Nat) (v : Value) (l : List Str) : Prop := Row w B 1 l.length v (l.map str) ∧ ∀ x ∈ l, x.length ≤ m
theorem Sl.past {w w' : World} {v : Value} {l : List Str} {m : Nat} (h : Sl w w.heap.size m v l) (hb : Below w.heap.size w w') : Sl w' w'.heap.size m v l := ⟨h.1.past hb, h.2⟩
theorem Sl.carry {w w' : World} {B B' m : Nat} {v : Value} {l : List Str} (h : Sl w B m v l) (hb : Below B w w') (hB : B ≤ B') : Sl w' B' m v l := ⟨h.1.carry hb hB, h.2⟩
theorem Sl.at_ {w : World} {B m : Nat} {v : Value} {l : List Str} (h : Sl w B m v l) {i : Nat} (hi : i < l.length) : ∃ x, l[i]? = some x ∧ (l.map str)[i]? = some (str x) ∧ x.length ≤ m :=
  ⟨l[i], List.getElem?_eq_getElem hi, by rw [List.getElem?_map, List.getElem?_eq_getElem hi]; rfl, h.2 _ (List.getElem_mem hi)⟩
theorem Sl.form {w : World} {B m : Nat} {v : Value} {l : List Str} (h : Sl w B m v l) : ∃ A cap, v = .slice A l.length cap := by
  obtain ⟨⟨A, cap, h, _⟩, _⟩ := h; exact ⟨A, cap, h⟩
theorem size_strM : (Try.prog.info? 9).map (·.size) = some 1 := by kernel_rfl

set_option maxRecDepth 100000 in
theorem matches1_any (c : Nat) (s p : Str) (w : World) (hc : w.cell? ⟨c, 0, none⟩ = some (str s)) (hs : s.length ≤ 1000) (hp : p.length ≤ 1000) :
    Calls Try.prog 41 #[str p, .pointer (some ⟨c, 0, none⟩)] w fun e w' => e = .returned (.bool (pre p s)) ∧ w' = w := by
  have hh := hasPrefix_any s p w (by simp only [maxLen]; omega) (by simp only [maxLen]; omega)
  unfold str at hh hc ⊢
  go_enter Try.func41, Try.ntmps41
  go_wp2_with fail
  refine hh.mono ?_
  rintro e w' ⟨rfl, rfl⟩
  go_wp2_with fail
  go_ret
  exact ⟨rfl, rfl⟩

set_option maxRecDepth 100000 in
set_option maxHeartbeats 1000000 in
theorem indexFuncS_any (c : Nat) (s : Str) (v : Value) (l : List Str) (w : World) (hc : w.cell? ⟨c, 0, none⟩ = some (str s)) (hs : s.length ≤ 1000) (hv : Sl w w.heap.size 1000 v l) (hl : l.length ≤ 10000) :
    Calls Try.prog 56 #[v, .func (.func 41) #[] #[.pointer (some ⟨c, 0, none⟩)]] w fun e w' => ∃ r : Int, e = .returned (.int .i64 r) ∧ decide (0 ≤ r) = mat l s ∧ w' = w := by
  obtain ⟨A, cap, rfl⟩ := hv.form
  go_enter Try.func56, Try.ntmps56
  go_wp2_with fail
  go_loopw [8] (fun vi wr => ∃ i : Nat, vi = .int .i64 (i : Int) ∧ i ≤ l.length ∧ wr = w ∧ (∀ x ∈ l.take i, pre x s = false))
    (fun vi wr => ixn l.length vi)
  case atStart => exact ⟨0, rfl, Nat.zero_le _, rfl, fun x hx => by simp at hx⟩
  case round =>
    obtain ⟨i, rfl, hi, rfl, ht⟩ := hrel
    by_cases hlt : i < l.length
    · obtain ⟨x, hx, hxs, hxl⟩ := hv.at_ hlt
      have hm := matches1_any c s x _ hc hs hxl
      have HX := Lib.hid hx
      have HT := Lib.hid ht
      clear hx ht
      cases hq : pre x s
      · rw [hq] at hm
        have HN : Hid (∀ y ∈ l.take (i + 1), pre y s = false) := Lib.hid fun y hy => by
          rw [List.take_add_one, HX.out] at hy
          rcases List.mem_append.1 hy with hy | hy
          · exact HT.out y hy
          · simp at hy; subst hy; exact hq
        clear hq
        unfold str at hm
        go_wp2_with (refine wp_atg 28 9 Try.underlying28 size_strM (.tmp 12) (.tmp 13) rfl rfl rfl hv.1 .i64 _ i (str x) rfl rfl hxs ?_; intro ad had hcad; unfold str at hcad; go_frame)
        refine hm.mono ?_
        rintro e w' ⟨rfl, rfl⟩
        go_wp2_with fail
        go_roundw
        case measure => show l.length - ((i : Int) + 1).toNat < l.length - ((i : Int)).toNat; omega
        case rel => exact ⟨i + 1, by simp, by omega, by first | trivial | rfl, HN.out⟩
      · rw [hq] at hm
        have HN : Hid (mat l s = true) := Lib.hid (by
          unfold mat
          rw [List.any_eq_true]
          exact ⟨x, List.mem_of_getElem? HX.out, hq⟩)
        clear hq
        unfold str at hm
        go_wp2_with (refine wp_atg 28 9 Try.underlying28 size_strM (.tmp 12) (.tmp 13) rfl rfl rfl hv.1 .i64 _ i (str x) rfl rfl hxs ?_; intro ad had hcad; unfold str at hcad; go_frame)
        refine hm.mono ?_
        rintro e w' ⟨rfl, rfl⟩
        go_wp2_with fail
        go_ret
        exact ⟨_, rfl, by rw [HN.out]; simp, rfl⟩
    · have HN : Hid (mat l s = false) := Lib.hid (by
        unfold mat
        rw [List.any_eq_false]
        intro x hx
        rw [List.take_of_length_le (by omega)] at ht
        simp [ht x hx])
      clear ht
      go_wp2_with fail
      go_ret
      exact ⟨_, rfl, by rw [HN.out]; rfl, rfl⟩

set_option maxRecDepth 100000 in
theorem containsFuncS_any (c : Nat) (s : Str) (v : Value) (l : List Str) (w : World) (hc : w.cell? ⟨c, 0, none⟩ = some (str s)) (hs : s.length ≤ 1000) (hv : Sl w w.heap.size 1000 v l) (hl : l.length ≤ 10000) :
    Calls Try.prog 40 #[v, .func (.func 41) #[] #[.pointer (some ⟨c, 0, none⟩)]] w fun e w' => e = .returned (.bool (mat l s)) ∧ w' = w := by
  have hh := indexFuncS_any c s v l w hc hs hv hl
  clear hc
  go_enter Try.func40, Try.ntmps40
  go_wp2_with fail
  refine hh.mono ?_
  rintro e w' ⟨r, rfl, hr, rfl⟩
  have HR := Lib.hid hr
  clear hr hh
  go_wp2_with fail
  go_ret
  exact ⟨ret_bool HR.out, rfl⟩

set_option maxRecDepth 100000 in
theorem matches_any (s : Str) (v : Value) (l : List Str) (w : World) (hs : s.length ≤ 1000) (hv : Sl w w.heap.size 1000 v l) (hl : l.length ≤ 10000) :
    Calls Try.prog 26 #[v, str s] w fun e w' => e = .returned (.bool (mat l s)) ∧ Below w.heap.size w w' := by
  have hb1 : Below w.heap.size w (w.alloc (.cells #[str s] 9)) := (Below.refl _ _).alloc (Nat.le_refl _) _
  have hh := containsFuncS_any w.heap.size s v l (w.alloc (.cells #[str s] 9)) (by rw [cell_of_row _ _ 0 _ _ _ (heap_alloc_new _ _)]; rfl) hs (hv.past hb1) hl
  unfold str at hh hb1 ⊢
  go_enter Try.func26, Try.ntmps26
  go_wp2_with fail
  refine hh.mono ?_
  rintro e w' ⟨rfl, rfl⟩
  go_wp2_with fail
  go_ret
  exact ⟨rfl, hb1⟩

end Go.Proofs.Ytblgcefaikoejaa
