/-
  Walks of the reference's functions on lists of prefixes: full, uncovered.
-/
import Derived.Test.YtblgcefaikoejaaDrC
import Derived.Test.YtblgcefaikoejaaDgR
import Derived.Test.YtblgcefaikoejaaDgS
import Derived.Test.YtblgcefaikoejaaSts
namespace Go.Proofs.Ytblgcefaikoejaa
open Go.RowKit Dg
set_option linter.unusedVariables false
set_option linter.unusedSimpArgs false

namespace Dg
/-- The distinct prefixes of the first i that nothing in l covers, in order. -/
structure UI (l O : List Str) (i : Nat) : Prop where
  sorted : O.Pairwise (· < ·)
  mem : ∀ x, x ∈ O ↔ x ∈ l.take i ∧ cvd l x = false

theorem UI.skip {l O : List Str} {i : Nat} {x : Str} (h : UI l O i) (hx : l[i]? = some x) (hc : x ∈ O ∨ cvd l x = true) : UI l O (i + 1) := by
  refine ⟨h.sorted, fun y => ?_⟩
  rw [h.mem y, List.take_add_one, hx, List.mem_append]
  constructor
  · rintro ⟨h1, h2⟩; exact ⟨Or.inl h1, h2⟩
  · rintro ⟨h1 | h1, h2⟩
    · exact ⟨h1, h2⟩
    · simp at h1
      subst h1
      rcases hc with hc | hc
      · exact (h.mem y).1 hc
      · rw [hc] at h2; cases h2

theorem lt_of {x y : Str} (h : ¬ y < x) (hne : x ≠ y) : x < y := by
  have hle : x ≤ y := List.not_lt.1 h
  exact Classical.byContradiction fun hn => hne (List.le_antisymm hle (List.not_lt.1 hn))

theorem UI.add {l O : List Str} {i at_ : Nat} {x : Str} (h : UI l O i) (hx : l[i]? = some x) (hn : x ∉ O) (hc : cvd l x = false) (hat : at_ ≤ O.length) (hlt : ∀ j y, j < at_ → O[j]? = some y → y < x) (hend : ∀ y, O[at_]? = some y → ¬ y < x) :
    UI l (O.take at_ ++ [x] ++ O.drop at_) (i + 1) := by
  refine ⟨?_, fun y => ?_⟩
  · have hs := h.sorted
    have hs2 : (O.take at_ ++ O.drop at_).Pairwise (· < ·) := by rw [List.take_append_drop]; exact hs
    obtain ⟨p1, p2, p3⟩ := List.pairwise_append.1 hs2
    have hx2 : ∀ y ∈ O.drop at_, x < y := by
      intro y hy
      obtain ⟨j, hj⟩ := List.mem_iff_getElem?.1 hy
      rw [List.getElem?_drop] at hj
      have hne : x ≠ y := fun e => hn (by rw [e]; exact List.mem_of_getElem? hj)
      refine lt_of (fun hyx => ?_) hne
      have hjl := (List.getElem?_eq_some_iff.1 hj).1
      obtain ⟨z, hz⟩ : ∃ z, O[at_]? = some z := ⟨O[at_], List.getElem?_eq_getElem (by omega)⟩
      have hzx := hend z hz
      cases j with
      | zero => rw [Nat.add_zero, hz] at hj; injection hj with hj; subst hj; exact hzx hyx
      | succ j =>
        have hzy : z < y := by
          obtain ⟨a1, rfl⟩ := List.getElem?_eq_some_iff.1 hz
          obtain ⟨a2, rfl⟩ := List.getElem?_eq_some_iff.1 hj
          exact (List.pairwise_iff_getElem.1 hs) _ _ a1 a2 (by omega)
        exact hzx (List.lt_trans hzy hyx)
    rw [List.append_assoc]
    refine List.pairwise_append.2 ⟨p1, List.pairwise_append.2 ⟨by simp, p2, fun a ha b hb => by simp at ha; subst ha; exact hx2 b hb⟩, fun a ha b hb => ?_⟩
    rcases List.mem_append.1 hb with hb | hb
    · simp at hb
      subst hb
      obtain ⟨j, hj⟩ := List.mem_iff_getElem?.1 ha
      have hjl := (List.getElem?_eq_some_iff.1 hj).1
      rw [List.length_take] at hjl
      rw [List.getElem?_take] at hj
      split at hj
      · exact hlt j a (by omega) hj
      · cases hj
    · exact p3 a ha b hb
  · have : y ∈ O.take at_ ++ [x] ++ O.drop at_ ↔ y ∈ O ∨ y = x := by
      have he : y ∈ O ↔ y ∈ O.take at_ ∨ y ∈ O.drop at_ := by rw [← List.mem_append, List.take_append_drop]
      rw [he]
      simp only [List.mem_append, List.mem_singleton]
      constructor
      · rintro ((h | h) | h)
        · exact Or.inl (Or.inl h)
        · exact Or.inr h
        · exact Or.inl (Or.inr h)
      · rintro ((h | h) | h)
        · exact Or.inl (Or.inl h)
        · exact Or.inr h
        · exact Or.inl (Or.inr h)
    rw [this, h.mem y, List.take_add_one, hx, List.mem_append]
    constructor
    · rintro (⟨h1, h2⟩ | rfl)
      · exact ⟨Or.inl h1, h2⟩
      · exact ⟨Or.inr (by simp), hc⟩
    · rintro ⟨h1 | h1, h2⟩
      · exact Or.inl ⟨h1, h2⟩
      · simp at h1; exact Or.inr h1
end Dg

theorem digit_cut (d : Nat) (hd : d < 10) : (⟨#[48, 49, 50, 51, 52, 53, 54, 55, 56, 57]⟩ : ByteArray).extract d (d + 1) = ⟨#[UInt8.ofNat (48 + d)]⟩ := by
  rcases (by omega : d = 0 ∨ d = 1 ∨ d = 2 ∨ d = 3 ∨ d = 4 ∨ d = 5 ∨ d = 6 ∨ d = 7 ∨ d = 8 ∨ d = 9) with rfl | rfl | rfl | rfl | rfl | rfl | rfl | rfl | rfl | rfl <;> rfl

theorem exts_snoc (p : Str) (k : Nat) (hk : k < 10) : (exts p).take (k + 1) = (exts p).take k ++ [p ++ [UInt8.ofNat (48 + k)]] := by
  have hd : digs[k]? = some (UInt8.ofNat (48 + k)) := by
    rcases (by omega : k = 0 ∨ k = 1 ∨ k = 2 ∨ k = 3 ∨ k = 4 ∨ k = 5 ∨ k = 6 ∨ k = 7 ∨ k = 8 ∨ k = 9) with rfl | rfl | rfl | rfl | rfl | rfl | rfl | rfl | rfl | rfl <;> rfl
  have h : (exts p)[k]? = some (p ++ [UInt8.ofNat (48 + k)]) := by unfold exts; rw [List.getElem?_map, hd]; rfl
  rw [List.take_add_one, h]; rfl

/-- How many of the first k extensions are in the list. -/
def cnt (l : List Str) (p : Str) (k : Nat) : Nat := ((exts p).take k).countP fun y => decide (y ∈ l)
theorem cnt_le (l : List Str) (p : Str) (k : Nat) (hk : k ≤ 10) : cnt l p k ≤ k := by
  unfold cnt
  have := List.countP_le_length (p := fun y => decide (y ∈ l)) (l := (exts p).take k)
  rw [List.length_take] at this
  omega
theorem cnt_succ (l : List Str) (p : Str) (k : Nat) (hk : k < 10) : cnt l p (k + 1) = cnt l p k + if p ++ [UInt8.ofNat (48 + k)] ∈ l then 1 else 0 := by
  unfold cnt
  rw [exts_snoc p k hk, List.countP_append]
  by_cases h : p ++ [UInt8.ofNat (48 + k)] ∈ l <;> simp [h]
theorem cnt_all (l : List Str) (p : Str) : cnt l p 10 = 10 ↔ ∀ y ∈ exts p, y ∈ l := by
  have h10 : (exts p).take 10 = exts p := List.take_of_length_le (by rw [exts_ten]; omega)
  unfold cnt
  rw [h10]
  have := List.countP_eq_length (p := fun y => decide (y ∈ l)) (l := exts p)
  rw [exts_ten] at this
  simpa using this

set_option maxRecDepth 100000 in
set_option maxHeartbeats 2000000 in
theorem full_any (v : Value) (l : List Str) (w : World) (hv : Sl w w.heap.size 100 v l) (hl : l.length ≤ 1000) :
    Calls Try.prog 39 #[v] w fun e w' => Below w.heap.size w w' ∧ ((∃ p, p.length ≤ 100 ∧ e = .returned (.tuple #[str p, .bool true]) ∧ ∀ y ∈ exts p, y ∈ l) ∨ (e = .returned (.tuple #[str [], .bool false]) ∧ NoTen l)) := by
  obtain ⟨A, cap, rfl⟩ := hv.form
  unfold str
  go_enter Try.func39, Try.ntmps39
  go_wp2_with fail
  go_loopw [4] (fun vi wr => ∃ i : Nat, vi = .int .i64 (i : Int) ∧ i ≤ l.length ∧ (∀ j x, j < i → l[j]? = some x → x ≠ [] → ¬ ∀ y ∈ exts (par x), y ∈ l) ∧ Below w.heap.size w wr)
    (fun vi wr => ixn l.length vi)
  case atStart => exact ⟨0, rfl, Nat.zero_le _, fun j x hj => absurd hj (by omega), Below.refl _ _⟩
  case round =>
    obtain ⟨i, rfl, hi, hno, hB⟩ := hrel
    have HNO := Lib.hid hno
    clear hno
    by_cases hlt : i < l.length
    · have vr := hv.carry hB (Nat.le_refl _)
      obtain ⟨x, hx, hxs, hxl⟩ := vr.at_ hlt
      have HX := Lib.hid hx
      have step : ((x ≠ [] → ¬ ∀ y ∈ exts (par x), y ∈ l)) → ∀ j z, j < i + 1 → l[j]? = some z → z ≠ [] → ¬ ∀ y ∈ exts (par z), y ∈ l := fun h j z hj hz hne => by
        by_cases hji : j < i
        · exact HNO.out j z hji hz hne
        · have : j = i := by omega
          subst this
          rw [HX.out] at hz
          injection hz with hz
          subst hz
          exact h hne
      have HST := Lib.hid step
      clear step
      by_cases hx0 : x = []
      · have hbe : (x == ([] : Str)) = true := by simpa using hx0
        have HN := Lib.hid (HST.out (fun h => absurd hx0 h))
        clear hx hx0
        go_wp2_with (refine wp_atg 28 9 Try.underlying28 size_strM (.tmp 14) (.tmp 15) rfl rfl rfl vr.1 .i64 _ i (str x) rfl rfl hxs ?_; intro ad had hcad; unfold str at hcad; go_frame)
        go_roundw
        case measure => show l.length - ((i : Int) + 1).toNat < l.length - ((i : Int)).toNat; omega
        case rel => exact ⟨i + 1, by simp, by omega, HN.out, hB⟩
      · have hbe : (x == ([] : Str)) = false := by simpa using hx0
        obtain ⟨L, hL⟩ : ∃ L, x.length = L + 1 := ⟨x.length - 1, by
          have : 0 < x.length := List.length_pos_iff.2 hx0
          omega⟩
        have hcut := str_cut x 0 L
        have hpar : x.take L = par x := by unfold par; rw [hL]; rfl
        rw [List.drop_zero, hpar] at hcut
        obtain ⟨p, hp⟩ : ∃ p, par x = p := ⟨_, rfl⟩
        have hpl : p.length ≤ 100 := by rw [← hp, ← hpar, List.length_take]; omega
        rw [hp] at hcut
        have HP := Lib.hid hp
        obtain ⟨ad, rfl, had, hcx, hca⟩ := (hv.carry hB.drew (Nat.le_refl _)).cellat hx
        have hcx0 : wr.cell? (ad.add i) = some (str x) := by simpa using hcx
        have HX0 := Lib.hid hx0
        unfold str at hcx
        clear hx hx0 hpar hp
        go_wp2_with (refine wp_atg 28 9 Try.underlying28 size_strM (.tmp 14) (.tmp 15) rfl rfl rfl vr.1 .i64 _ i (str x) rfl rfl hxs ?_; intro ad9 had9 hcad9; unfold str at hcad9; go_frame)
        go_region
        all_goals go_wp2_with fail
        have hBd : Below w.heap.size w wr.drew := hB.drew
        have hvd : Sl wr.drew w.heap.size 100 (.slice (some ad) l.length cap) l := hv.carry hBd (Nat.le_refl _)
        obtain ⟨W0, hW0⟩ : ∃ W0, W0 = wr.drew := ⟨_, rfl⟩
        rw [← hW0] at hBd hvd ⊢
        clear hW0 hcx hcx0 hB vr
        go_loopw [6, 7] (fun vn vk wx => ∃ k : Nat, vk = .int .i64 (k : Int) ∧ vn = .int .i64 (cnt l p k : Int) ∧ k ≤ 10 ∧ wx = W0)
          (fun vn vk wx => ixn 10 vk)
        case atStart => exact ⟨0, rfl, rfl, by omega, rfl⟩
        case round =>
          obtain ⟨k, rfl, rfl, hk, rfl⟩ := hrel
          have hcl := cnt_le l p k hk
          by_cases hk10 : k < 10
          · have hext := fun w => run_digit k hk10 w
            have hcs := cnt_succ l p k hk10
            obtain ⟨c, hc⟩ : ∃ c, UInt8.ofNat (48 + k) = c := ⟨_, rfl⟩
            simp only [hc] at hext
            rw [hc] at hcs
            have hadd := str_add p [c]
            have hh := has_any (p ++ [c]) _ l _ wr ⟨hvd.1, fun x hx => by have := hvd.2 x hx; omega⟩ (by omega)
            by_cases hm : p ++ [c] ∈ l
            · rw [decide_eq_true hm] at hh
              rw [if_pos hm] at hcs
              have HCS := Lib.hid hcs
              unfold str at hh
              clear hcs hc hm
              go_wp2_with fail
              refine hh.mono ?_
              rintro e w' ⟨rfl, rfl⟩
              go_wp2_with fail
              go_roundw
              case measure => show 10 - ((k : Int) + 1).toNat < 10 - ((k : Int)).toNat; omega
              case rel => exact ⟨k + 1, by simp, by rw [HCS.out]; simp, by omega, by first | trivial | rfl⟩
            · rw [decide_eq_false hm] at hh
              rw [if_neg hm] at hcs
              have HCS := Lib.hid hcs
              unfold str at hh
              clear hcs hc hm
              go_wp2_with fail
              refine hh.mono ?_
              rintro e w' ⟨rfl, rfl⟩
              go_wp2_with fail
              go_roundw
              case measure => show 10 - ((k : Int) + 1).toNat < 10 - ((k : Int)).toNat; omega
              case rel => exact ⟨k + 1, by simp, by rw [HCS.out]; simp, by omega, by first | trivial | rfl⟩
          · obtain rfl : k = 10 := by omega
            by_cases h10 : cnt l p 10 = 10
            · have hb10 : ((cnt l p 10 : Int) == 10) = true := by rw [h10]; rfl
              have hall := (cnt_all l p).1 h10
              have HALL := Lib.hid hall
              clear hall h10
              go_wp2_with fail
              go_ret2
              exact ⟨hBd, Or.inl ⟨p, hpl, rfl, HALL.out⟩⟩
            · have hb10 : ((cnt l p 10 : Int) == 10) = false := beq_eq_false_iff_ne.2 (by omega)
              have HN := Lib.hid (HST.out (fun _ h => by rw [HP.out] at h; exact h10 ((cnt_all l p).2 h)))
              clear h10
              go_wp2_with fail
              go_roundw
              case measure => show l.length - ((i : Int) + 1).toNat < l.length - ((i : Int)).toNat; omega
              case rel => exact ⟨i + 1, by simp, by omega, HN.out, hBd⟩
    · have HN : Hid (NoTen l) := Lib.hid fun q hq => by
        have h0 : q ++ [48] ∈ exts q := mem_exts.2 ⟨48, rfl, rfl⟩
        obtain ⟨j, hj⟩ := List.mem_iff_getElem?.1 (hq _ h0)
        have hjl := (List.getElem?_eq_some_iff.1 hj).1
        refine HNO.out j _ (by omega) hj (by simp) ?_
        rw [par_ext]
        exact hq
      go_wp2_with fail
      go_ret2
      exact ⟨hB, Or.inr ⟨rfl, HN.out⟩⟩

end Go.Proofs.Ytblgcefaikoejaa
