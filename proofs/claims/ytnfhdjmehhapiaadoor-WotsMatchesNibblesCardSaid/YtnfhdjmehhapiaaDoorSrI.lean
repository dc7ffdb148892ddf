/-
  Walks of the reference's package for layer 3: tagged hashes, pairs, chains.
-/
import Derived.Test.YtnfhdjmehhapiaaDoorSrH
import Derived.Test.YtnfhdjmehhapiaaDoorShJ
import Derived.Test.YtnfhdjmehhapiaaDoorShN
namespace Go.Proofs.YtnfhdjmehhapiaaDoor
open Go.RowKit
set_option linter.unusedVariables false
set_option linter.unusedSimpArgs false

set_option maxRecDepth 100000 in
set_option maxHeartbeats 2000000 in
theorem rtagged_any (v : Value) (t l : List UInt8) (w : World) (hv : Bs w w.heap.size v l) (hk : KIs 2 w) (hi : InIs 1 w) (hl : l.length ≤ 90000) (ht : t.length ≤ 100000) :
    Calls Tryd.prog 43 #[str t, v] w fun e w' => e = .returned (.agg (u8s (Sha.tag t l)).toArray) ∧ Below w.heap.size w w' := by
  obtain ⟨A, cap, rfl⟩ := hv.form
  obtain ⟨T, hT⟩ : ∃ T, T = t.take 255 := ⟨_, rfl⟩
  obtain ⟨R, hR⟩ : ∃ R, R = Sha.tag t l := ⟨_, rfl⟩
  have HTG := Lib.hid (show R = Sha.sum (Sha.b8 T.length :: (T ++ l)) by rw [hR, hT]; rfl)
  have HDL : Hid ((u8s R).length = 32) := Lib.hid (by rw [u8s_length, hR, Sha.tag_len])
  rw [← hR]
  clear hR
  have hTl : T.length ≤ 255 := by rw [hT, List.length_take]; omega
  have hz := zero_dig
  unfold str
  have hor : (t.length ≤ 255 ∧ T = t) ∨ (255 < t.length ∧ (ByteArray.mk t.toArray).extract 0 255 = ⟨T.toArray⟩) := by
    by_cases h : t.length ≤ 255
    · exact Or.inl ⟨h, by rw [hT, List.take_of_length_le h]⟩
    · exact Or.inr ⟨by omega, by rw [extract_str, hT]⟩
  clear hT
  obtain ⟨W1, hW1⟩ : ∃ W1, W1 = w.alloc (.cells (u8s z32).toArray 23) := ⟨_, rfl⟩
  have hb1 : Below w.heap.size w W1 := by rw [hW1]; exact (Below.refl _ _).alloc (Nat.le_refl _) _
  have hr1 : Blk W1 w.heap.size 23 (u8s z32) := by rw [hW1]; exact Blk.new w _ _
  have hv1 := hv.past hb1
  have hk1 := hk.past hb1
  have hi1 := hi.past hb1
  have HW1 := Lib.hid hW1
  have hs1 : w.heap.size < W1.heap.size := hr1.lt
  clear hW1 hv hk hi
  have hlit : Own (W1.alloc (.cells #[.int .u8 (T.length : Int)] 5)) W1.heap.size (.slice (some ⟨W1.heap.size, 0, none⟩) 1 1) [Sha.b8 T.length] := by
    have h := own_lit_n W1 [Sha.b8 T.length] (by simp [maxLen])
    have e : (u8s [Sha.b8 T.length]).toArray = #[.int .u8 (T.length : Int)] := by
      simp only [u8s, List.map_cons, List.map_nil, u8, Sha.b8_nat]
      rw [Nat.mod_eq_of_lt (by omega)]
    rw [e] at h
    exact h
  have a1 : Below W1.heap.size W1 (W1.alloc (.cells #[.int .u8 (T.length : Int)] 5)) := (Below.refl _ _).alloc (Nat.le_refl _) _
  have e1 : [Sha.b8 T.length].length + T.length ≤ 140737488355328 := by simp; omega
  have e2 : ([Sha.b8 T.length] ++ T).length + l.length ≤ 140737488355328 := by simp; omega
  rcases hor with ⟨h255, hx⟩ | ⟨h255, hx⟩
  case' inl => subst hx
  all_goals
    go_enter Tryd.func43, Tryd.ntmps43
    go_upto_region 1 with (fail)
    rw [← HW1.out]
    go_upto_region 6 with (first
      | (refine wp_appstr W1.heap.size (.tmp 15) (.tmp 16) rfl rfl _ [Sha.b8 T.length] T rfl rfl hlit a1.size e1 ?_; intro v4 w4 ho4 hb4)
      | (refine wp_apps W1.heap.size (.tmp 18) (.tmp 19) rfl rfl v4 _ _ l rfl rfl ho4 (a1.trans hb4).size (hv1.carry (a1.trans hb4) (a1.trans hb4).size) e2 ?_; intro v5 w5 ho5 hb5))
    have hb15 : Below W1.heap.size W1 w5 := a1.trans (hb4.trans hb5)
    have hlist : [Sha.b8 T.length] ++ T ++ l = Sha.b8 T.length :: (T ++ l) := by simp
    rw [hlist] at ho5
    have hr5 := hr1.past hb15 hs1
    have hb05 : Below w.heap.size w w5 := hb1.trans (hb15.mono hb1.size)
    have hcall := rsum_any v5 (Sha.b8 T.length :: (T ++ l)) w5 ho5.bs (hk1.past hb15) (hi1.past hb15) (by simp; omega)
    rw [← HTG.out] at hcall
    have HCALL := Lib.hid hcall
    clear hcall ho4 ho5 hb4 hb5 hb15 hlist hz
    go_wp2_with fail
    refine HCALL.out.mono ?_
    rintro e w6 ⟨rfl, hb6⟩
    have hr6 := hr5.past hb6 hr5.lt
    have hb06 := hb05.trans (hb6.mono hb05.size)
    clear HCALL hr5 hb6
    go_wp2_with (refine wp_storeA 23 (.tmp 4) (.tmp 22) rfl rfl w.heap.size rfl 23 (u8s z32) _ rfl hr6 (by rw [info_dig, HDL.out]) (by rw [HDL.out]; rfl) (u8s_one _) rfl ?_; intro w8 hr8 hk8)
    have hb08 : Below w.heap.size w w8 := hb06.trans (hk8.below (fun q hq => by omega) hb06.size)
    refine ret_arr Tryd.results43 rfl w.heap.size 23 _ 32 5 rfl hr8 Tryd.underlying23 (by rw [info_dig, HDL.out]) ?_
    exact ⟨rfl, hb08⟩
end Go.Proofs.YtnfhdjmehhapiaaDoor
