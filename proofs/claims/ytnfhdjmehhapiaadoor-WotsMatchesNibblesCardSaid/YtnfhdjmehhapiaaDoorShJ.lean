/-
  Walks of package sha256: the hash in a domain; pairs; chains.
-/
import Derived.Test.YtnfhdjmehhapiaaDoorShI
namespace Go.Proofs.YtnfhdjmehhapiaaDoor
open Go.RowKit
set_option linter.unusedVariables false
set_option linter.unusedSimpArgs false

theorem extract_str (t : List UInt8) (k : Nat) : (ByteArray.mk t.toArray).extract 0 k = ⟨(t.take k).toArray⟩ := by
  apply ByteArray.ext
  simp [ByteArray.data_extract]

set_option maxRecDepth 100000 in
set_option maxHeartbeats 2000000 in
theorem tagged_any (v : Value) (t l : List UInt8) (w : World) (hv : Bs w w.heap.size v l) (hk : KIs 0 w) (hl : l.length ≤ 100000) (ht : t.length ≤ 100000) :
    Calls Tryd.prog 26 #[str t, v] w fun e w' => e = .returned (.agg (u8s (Sha.tag t l)).toArray) ∧ Below w.heap.size w w' := by
  obtain ⟨A, cap, rfl⟩ := hv.form
  obtain ⟨T, hT⟩ : ∃ T, T = t.take 255 := ⟨_, rfl⟩
  have HTG := Lib.hid (show Sha.tag t l = Sha.sum (Sha.b8 T.length :: (T ++ l)) by rw [hT]; rfl)
  have hTl : T.length ≤ 255 := by rw [hT, List.length_take]; omega
  have HT := Lib.hid hT
  have hz := zero_dig
  have hb1 : Below w.heap.size w (w.alloc (.cells (u8s z32).toArray 23)) := (Below.refl _ _).alloc (Nat.le_refl _) _
  have hv1 := hv.carry hb1 hb1.size
  have hr1 : Blk (w.alloc (.cells (u8s z32).toArray 23)) w.heap.size 23 (u8s z32) := Blk.new w _ _
  unfold str
  have hor : (t.length ≤ 255 ∧ (ByteArray.mk t.toArray).extract 0 t.length = ⟨T.toArray⟩) ∨ (255 < t.length ∧ (ByteArray.mk t.toArray).extract 0 255 = ⟨T.toArray⟩) := by
    by_cases h : t.length ≤ 255
    · exact Or.inl ⟨h, by rw [extract_str, hT, List.take_of_length_le (Nat.le_refl _), List.take_of_length_le h]⟩
    · exact Or.inr ⟨by omega, by rw [extract_str, hT]⟩
  clear hT
  obtain ⟨W1, hW1⟩ : ∃ W1, W1 = w.alloc (.cells (u8s z32).toArray 23) := ⟨_, rfl⟩
  rw [← hW1] at hb1 hv1 hr1
  have hs1 : w.heap.size < W1.heap.size := hr1.lt
  have HW1 := Lib.hid hW1
  clear hW1 hv
  have hcT : ((T.length : Nat) : Int) = ((Sha.b8 T.length).toNat : Int) := by rw [Sha.b8_nat]; omega
  have HCT := Lib.hid hcT
  have hkW : KIs 0 W1 := hk.past hb1
  clear hcT hk
  rcases hor with ⟨h255, hx⟩ | ⟨h255, hx⟩
  all_goals
    go_enter Tryd.func26, Tryd.ntmps26
    go_wp2_with (first
      | (rw [← HW1.out])
      | (refine wp_make0 W1.heap.size _ _ rfl rfl _ (1 + T.length + l.length) rfl rfl (by push_cast; omega) (by omega) (Nat.le_refl _) ?_; intro v2 w2 ho2 hb2)
      | (refine wp_app1 W1.heap.size (.tmp 17) (.tmp 21) rfl rfl v2 [] _ (Sha.b8 T.length) rfl rfl ho2 hb2.size (by simp) HCT.out ?_; intro v3 w3 ho3 hb3)
      | (refine wp_appstr W1.heap.size (.tmp 23) (.tmp 24) rfl rfl v3 _ T rfl rfl ho3 (by have := hb2.size; have := hb3.size; omega) (by simp; omega) ?_; intro v4 w4 ho4 hb4)
      | (refine wp_apps W1.heap.size (.tmp 26) (.tmp 27) rfl rfl v4 _ _ l rfl rfl ho4 (by have := hb2.size; have := hb3.size; have := hb4.size; omega) (hv1.carry (hb2.trans (hb3.trans hb4)) (hb2.trans (hb3.trans hb4)).size) (by simp; omega) ?_; intro v5 w5 ho5 hb5))
    have hb15 : Below W1.heap.size W1 w5 := hb2.trans (hb3.trans (hb4.trans hb5))
    have hlist : ([] ++ [Sha.b8 T.length]) ++ T ++ l = Sha.b8 T.length :: (T ++ l) := by simp
    rw [hlist] at ho5
    have hr5 := hr1.past hb15 hs1
    have hb05 : Below w.heap.size w w5 := hb1.trans (hb15.mono hb1.size)
    have hcall := sum_any v5 (Sha.b8 T.length :: (T ++ l)) w5 ho5.bs (hkW.past hb15) (by simp; omega)
    rw [← HTG.out] at hcall
    have HCALL := Lib.hid hcall
    have HDL : Hid ((u8s (Sha.tag t l)).length = 32) := Lib.hid (by rw [u8s_length, Sha.tag_len])
    clear hcall ho2 ho3 ho4 ho5 hb2 hb3 hb4 hb5 hb15 hlist hx hz
    refine HCALL.out.mono ?_
    rintro e w6 ⟨rfl, hb6⟩
    have hr6 := hr5.past hb6 hr5.lt
    have hb06 := hb05.trans (hb6.mono hb05.size)
    obtain ⟨D, hD⟩ : ∃ D, D = Sha.tag t l := ⟨_, rfl⟩
    rw [← hD] at HDL ⊢
    have HD := Lib.hid hD
    clear hD HCALL hr5 hb6
    go_wp2_with (refine wp_storeA 23 (.tmp 4) (.tmp 29) rfl rfl w.heap.size rfl 23 (u8s z32) _ rfl hr6 (by rw [info_dig, HDL.out]) (by rw [HDL.out]; rfl) (u8s_one _) rfl ?_; intro w8 hr8 hk8)
    have hb08 : Below w.heap.size w w8 := hb06.trans (hk8.below (fun q hq => by omega) hb06.size)
    refine ret_arr Tryd.results26 rfl w.heap.size 23 _ 32 5 rfl hr8 Tryd.underlying23 (by rw [info_dig, HDL.out]) ?_
    rw [HD.out]
    exact ⟨rfl, hb08⟩
end Go.Proofs.YtnfhdjmehhapiaaDoor
