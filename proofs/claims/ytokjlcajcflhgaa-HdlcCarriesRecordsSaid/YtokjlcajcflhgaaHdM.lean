/-
  The helpers of the laws of layer 2: Few at any length, stream.
-/
import Derived.Test.YtokjlcajcflhgaaHdL
import Derived.Test.YtokjlcajcflhgaaStr
namespace Go.Proofs.Ytokjlcajcflhgaa
open Go.RowKit
set_option linter.unusedVariables false
set_option linter.unusedSimpArgs false

set_option maxRecDepth 100000 in
set_option maxHeartbeats 800000 in
theorem few_wide (v : Value) (ls : List (List UInt8)) (most : Nat) (w : World) (B : Nat) (hv : Ls w B v ls) (hl : ls.length ≤ 9223372036854775807) (hm : most ≤ 1000) :
    Calls Try.prog 21 #[v, .int .i64 most] w fun e w' => e = .returned (.bool (fewB ls most)) ∧ w = w' := by
  obtain ⟨A, cap, rfl⟩ := hv.form
  go_enter Try.func21, Try.ntmps21
  go_wp2
  go_loop [5] (fun i => ∃ k : Nat, i = .int .i64 k ∧ k ≤ ls.length ∧ k ≤ most + 1 ∧ ∀ j x, j < k → ls[j]? = some x → x.length ≤ 300) (fun i => (most + 1 - intOf i).toNat)
  case atStart => exact ⟨0, rfl, by omega, by omega, fun j x h => by omega⟩
  case round =>
    obtain ⟨k, rfl, hk, hkm, hall⟩ := hrel
    have HALL := Lib.hid hall
    clear hall
    by_cases hlt : k < ls.length
    · by_cases hle : k ≤ most
      · obtain ⟨x, hx⟩ : ∃ x, ls[k]? = some x := ⟨_, List.getElem?_eq_getElem hlt⟩
        obtain ⟨vs, Ax, cx, hrv, hvk, hbx⟩ := hv.at_ hx
        have t1 : decide ((k : Int) ≤ (most : Int)) = true := by simp; omega
        by_cases h3 : x.length ≤ 300
        · have HA := Lib.hid (show ∀ j y, j < k + 1 → ls[j]? = some y → y.length ≤ 300 by
            intro j y hj hy
            by_cases hjk : j = k
            · subst hjk; rw [hx] at hy; injection hy with hy; subst hy; exact h3
            · exact HALL.out j y (by omega) hy)
          clear hx hbx
          go_wp2_with (refine wp_at 24 22 Try.underlying24 size_bs (.tmp 17) (.tmp 18) rfl rfl rfl hrv _ _ k _ rfl rfl hvk ?_; intro p hp hcell)
          go_round
          case rel => exact ⟨k + 1, by go_num, by omega, by omega, HA.out⟩
          case measure => simp [intOf]; omega
        · have HR := Lib.hid (show fewB ls most = false by
            unfold fewB
            rw [Bool.and_eq_false_iff]
            right
            rw [List.all_eq_false]
            exact ⟨x, List.mem_of_getElem? hx, by simpa using h3⟩)
          clear hx hbx
          go_wp2_with (refine wp_at 24 22 Try.underlying24 size_bs (.tmp 17) (.tmp 18) rfl rfl rfl hrv _ _ k _ rfl rfl hvk ?_; intro p hp hcell)
          go_ret
          exact ⟨by rw [HR.out]; rfl, rfl⟩
      · have t1 : decide ((k : Int) ≤ (most : Int)) = false := by simp; omega
        have t2 : decide (ls.length ≤ most) = false := by simp; omega
        have HR := Lib.hid (show fewB ls most = false by unfold fewB; rw [decide_eq_false (by omega)]; rfl)
        go_wp2
        go_ret
        exact ⟨by rw [HR.out]; rfl, rfl⟩
    · have t1 : decide ((k : Int) < (ls.length : Int)) = false := by simp; omega
      have hall : ls.all (fun x => decide (x.length ≤ 300)) = true := by
        rw [List.all_eq_true]
        intro x hx
        obtain ⟨j, hj⟩ := List.mem_iff_getElem?.1 hx
        have := HALL.out j x (by have := (List.getElem?_eq_some_iff.1 hj).1; omega) hj
        simpa using this
      by_cases hle : ls.length ≤ most
      · have t2 : decide (ls.length ≤ most) = true := by simp; omega
        have HR := Lib.hid (show fewB ls most = true by unfold fewB; rw [hall, decide_eq_true hle]; rfl)
        clear hall
        go_wp2
        go_ret
        exact ⟨by rw [HR.out]; rfl, rfl⟩
      · have t2 : decide (ls.length ≤ most) = false := by simp; omega
        have HR := Lib.hid (show fewB ls most = false by unfold fewB; rw [decide_eq_false hle]; rfl)
        clear hall
        go_wp2
        go_ret
        exact ⟨by rw [HR.out]; rfl, rfl⟩

theorem Ls.le {w : World} {B : Nat} {v : Value} {ls : List (List UInt8)} (h : Ls w B v ls) : ls.length ≤ 9223372036854775807 := by
  obtain ⟨vs, ⟨A, cap, _, h1, h2, _⟩, _⟩ := h
  have : maxLen = 9223372036854775807 := by decide
  omega
theorem few_true {ls : List (List UInt8)} {m : Nat} (h : fewB ls m = true) : ls.length ≤ m ∧ ∀ x ∈ ls, x.length ≤ 300 := by
  unfold fewB at h
  rw [Bool.and_eq_true] at h
  exact ⟨by simpa using h.1, fun x hx => by simpa using List.all_eq_true.1 h.2 x hx⟩

set_option maxRecDepth 100000 in
set_option maxHeartbeats 1600000 in
theorem stream_any (v : Value) (ls : List (List UInt8)) (sh : Bool) (w : World) (hv : Ls w w.heap.size v ls) (hl : ls.length ≤ 10) (hx : ∀ x ∈ ls, x.length ≤ 300) :
    Calls Try.prog 22 #[v, .bool sh] w fun e w' => ∃ v', e = .returned (.tuple #[v', .bool true]) ∧ Own w' w.heap.size v' (strm sh ls) ∧ Below w.heap.size w w' := by
  have HV := Lib.hid hv
  have HX := Lib.hid hx
  obtain ⟨A, cap, rfl⟩ := hv.form
  clear hv hx
  go_enter Try.func22, Try.ntmps22
  go_wp2
  go_loopw [6, 13] (fun b i wr => ∃ k : Nat, i = .int .i64 k ∧ k ≤ ls.length ∧ (strm sh (ls.take k)).length ≤ 700 * k ∧ Own wr w.heap.size b (strm sh (ls.take k)) ∧ Below w.heap.size w wr) (fun _ i _ => (ls.length - intOf i).toNat)
  case atStart => exact ⟨0, rfl, by omega, by simp [strm], Own.nil_ _ _, Below.refl _ _⟩
  case round =>
    obtain ⟨k, rfl, hk, hle, hown, hbel⟩ := hrel
    by_cases hlt : k < ls.length
    · obtain ⟨x, hx⟩ : ∃ x, ls[k]? = some x := ⟨_, List.getElem?_eq_getElem hlt⟩
      have hxl := HX.out x (List.mem_of_getElem? hx)
      have HV1 := HV.out.carry hbel (Nat.le_refl _)
      obtain ⟨vs, Ax, cx, hrv, hvk, hbx⟩ := HV1.at_ hx
      have hst := strm_take (sh := sh) hx
      obtain ⟨S, hS⟩ : ∃ S, S = strm sh (ls.take k) := ⟨_, rfl⟩
      rw [← hS] at hst hle hown
      have hl1 := strm1_length sh S x
      obtain ⟨F, hF⟩ : ∃ F, F = frm x (fcsN x) := ⟨_, rfl⟩
      have hFl := frm_length x (fcsN x)
      unfold strm1 at hst hl1
      rw [← hF] at hst hl1 hFl
      have HST := Lib.hid hst
      have HF := Lib.hid hF
      obtain ⟨AS, cS, rfl⟩ := hown.bs.form
      have hws := hbel.size
      have hbx2 := hbx.carry (Below.refl _ _) hws
      clear hst hF hS hbx HV1 hx
      by_cases hsh : (sh && decide (0 < S.length)) = true
      · have hc := hsh
        rw [Bool.and_eq_true] at hc
        obtain ⟨rfl, hS0⟩ := hc
        rw [if_pos hsh] at hl1
        have HST2 := Lib.hid (HST.out.trans (by rw [if_pos hsh]))
        have t1 : decide (0 < S.length) = true := hS0
        clear hsh hS0
        go_wp2_with (refine wp_at 24 22 Try.underlying24 size_bs (.tmp 11) (.tmp 13) rfl rfl rfl hrv _ _ k _ rfl rfl hvk ?_; intro p hp hcell)
        refine (encode_yes _ x _ hbx2 (by omega)).mono ?_
        rintro e w1 ⟨v1, rfl, o1, b1⟩
        rw [← HF.out] at o1
        have ho1 := hown.past b1
        have hb1 := hbel.trans (b1.mono hws)
        have r1 := o1.bs
        obtain ⟨AF, cF, rfl⟩ := r1.form
        have hcF := Row.cap r1
        obtain ⟨vu, hvu⟩ : ∃ vu, vu = behind AF F.length cF 1 := ⟨_, rfl⟩
        have HVU := Lib.hid hvu
        have r1u := r1.behind 1 (by omega)
        rw [← hvu] at r1u
        clear hcell o1 hown hrv hvk hvu
        go_wp2_with (first
          | refine wp_run rfl (exec_from _ rfl rfl 1 _ _ rfl rfl (by omega) hcF HVU.out) ?_
          | (refine wp_apps w.heap.size (.tmp 37) (.tmp 38) rfl rfl _ _ S (F.drop 1) rfl rfl ho1 hb1.size r1u (by rw [List.length_drop]; omega) ?_; intro v2 w2 o2 b2))
        go_roundw
        case rel => exact ⟨k + 1, by go_num, by omega, by rw [HST2.out]; omega, by rw [HST2.out]; exact o2, hb1.trans b2⟩
        case measure => simp [intOf]; omega
      · rw [if_neg hsh] at hl1
        have HST2 := Lib.hid (HST.out.trans (by rw [if_neg hsh]))
        have key : sh = false ∨ (sh = true ∧ decide (0 < S.length) = false) := by
          cases sh with
          | false => exact Or.inl rfl
          | true => exact Or.inr ⟨rfl, by simpa using hsh⟩
        clear hsh
        rcases key with rfl | ⟨rfl, t1⟩
        · go_wp2_with (refine wp_at 24 22 Try.underlying24 size_bs (.tmp 11) (.tmp 13) rfl rfl rfl hrv _ _ k _ rfl rfl hvk ?_; intro p hp hcell)
          refine (encode_yes _ x _ hbx2 (by omega)).mono ?_
          rintro e w1 ⟨v1, rfl, o1, b1⟩
          rw [← HF.out] at o1
          have ho1 := hown.past b1
          have hb1 := hbel.trans (b1.mono hws)
          have r1 := o1.bs
          obtain ⟨AF, cF, rfl⟩ := r1.form
          clear hcell o1 hown hrv hvk
          go_wp2_with (refine wp_apps w.heap.size (.tmp 37) (.tmp 38) rfl rfl _ _ S F rfl rfl ho1 hb1.size r1 (by omega) ?_; intro v2 w2 o2 b2)
          go_roundw
          case rel => exact ⟨k + 1, by go_num, by omega, by rw [HST2.out]; omega, by rw [HST2.out]; exact o2, hb1.trans b2⟩
          case measure => simp [intOf]; omega
        · go_wp2_with (refine wp_at 24 22 Try.underlying24 size_bs (.tmp 11) (.tmp 13) rfl rfl rfl hrv _ _ k _ rfl rfl hvk ?_; intro p hp hcell)
          refine (encode_yes _ x _ hbx2 (by omega)).mono ?_
          rintro e w1 ⟨v1, rfl, o1, b1⟩
          rw [← HF.out] at o1
          have ho1 := hown.past b1
          have hb1 := hbel.trans (b1.mono hws)
          have r1 := o1.bs
          obtain ⟨AF, cF, rfl⟩ := r1.form
          clear hcell o1 hown hrv hvk
          go_wp2_with (refine wp_apps w.heap.size (.tmp 37) (.tmp 38) rfl rfl _ _ S F rfl rfl ho1 hb1.size r1 (by omega) ?_; intro v2 w2 o2 b2)
          go_roundw
          case rel => exact ⟨k + 1, by go_num, by omega, by rw [HST2.out]; omega, by rw [HST2.out]; exact o2, hb1.trans b2⟩
          case measure => simp [intOf]; omega
    · obtain rfl : k = ls.length := by omega
      rw [List.take_length] at hown
      go_wp2
      go_ret2
      exact ⟨_, rfl, hown, hbel⟩
end Go.Proofs.Ytokjlcajcflhgaa
