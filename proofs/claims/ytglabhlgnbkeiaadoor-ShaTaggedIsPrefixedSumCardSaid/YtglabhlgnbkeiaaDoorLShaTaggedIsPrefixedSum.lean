/-
  The walk of ShaTaggedIsPrefixedSum.
-/
import Derived.Test.YtglabhlgnbkeiaaDoorShM
import Derived.Test.YtglabhlgnbkeiaaDoorOpA
namespace Go.Proofs.YtglabhlgnbkeiaaDoor
open Go.RowKit
set_option linter.unusedVariables false
set_option linter.unusedSimpArgs false

set_option maxRecDepth 100000 in
set_option maxHeartbeats 2000000 in
theorem shaTaggedIsPrefixedSum_walk (t : List UInt8) (v : Value) (l : List UInt8) (W : World) (ht : t.length ≤ maxLen) (hv : Bs W W.heap.size v l) (hk : KIs 1 W) :
    Calls Tryd.prog 6 #[str t, v] W fun e w' => e = .returned (.bool true) ∧ Below W.heap.size W w' := by
  obtain ⟨A, cap, rfl⟩ := hv.form
  have hlm : l.length ≤ maxLen := by
    obtain ⟨_, _, e, h1, h2, _⟩ := hv
    omega
  unfold maxLen at ht hlm
  unfold str
  by_cases h1 : t.length ≤ 255
  · by_cases h2 : l.length ≤ 1000
    · have i1 : ¬ (255 : Int) < (t.length : Int) := by omega
      have i2 : ¬ (1000 : Int) < (l.length : Int) := by omega
      have HTG := Lib.hid (show Sha.tag t l = Sha.sum (Sha.b8 t.length :: (t ++ l)) by unfold Sha.tag; rw [List.take_of_length_le h1])
      have hlit : ∀ w : World, Own (w.alloc (.cells #[.int .u8 (t.length : Int)] 5)) w.heap.size (.slice (some ⟨w.heap.size, 0, none⟩) 1 1) [Sha.b8 t.length] := by
        intro w
        have h := own_lit_n w [Sha.b8 t.length] (by simp [maxLen])
        have e : (u8s [Sha.b8 t.length]).toArray = #[.int .u8 (t.length : Int)] := by
          simp only [u8s, List.map_cons, List.map_nil, u8, Sha.b8_nat]
          rw [Nat.mod_eq_of_lt (by omega)]
        rw [e] at h
        exact h
      have HLIT := Lib.hid hlit
      clear hlit
      go_enter Tryd.func6, Tryd.ntmps6
      go_wp2_with fail
      refine (sane_any W hk).mono ?_
      rintro e w1 ⟨rfl, b1⟩
      have hv1 := hv.past b1
      have hk1 := hk.past b1
      have a1 : Below w1.heap.size w1 (w1.alloc (.cells #[.int .u8 (t.length : Int)] 5)) := (Below.refl _ _).alloc (Nat.le_refl _) _
      go_wp2_with (first
        | (refine wp_appstr w1.heap.size (.tmp 20) (.tmp 21) rfl rfl _ [Sha.b8 t.length] t rfl rfl (HLIT.out w1) a1.size (by simp; omega) ?_; intro v2 w2 ho2 b2)
        | (refine wp_apps w1.heap.size (.tmp 23) (.tmp 24) rfl rfl v2 _ _ l rfl rfl ho2 (a1.trans b2).size (hv1.carry (a1.trans b2) (a1.trans b2).size) (by simp; omega) ?_; intro v3 w3 ho3 b3))
      have b13 : Below w1.heap.size w1 w3 := a1.trans (b2.trans b3)
      have hlist : [Sha.b8 t.length] ++ t ++ l = Sha.b8 t.length :: (t ++ l) := by simp
      rw [hlist] at ho3
      have hv3 := hv1.past b13
      have hk3 := hk1.past b13
      have bl3 : Below W.heap.size W w3 := b1.trans (b13.mono b1.size)
      clear a1 b2 b3 b13 hlist ho2 hv1 hk1 b1
      refine (tagged_any _ t l w3 hv3 hk3 (by omega) (by omega)).mono ?_
      rintro e w4 ⟨rfl, b4⟩
      have ho4 := (Own.bs ho3).past b4
      have hk4 := hk3.past b4
      have bl4 := bl3.trans (b4.mono bl3.size)
      clear ho3 hv3 hk3 b4 bl3
      go_wp2_with fail
      refine (sum_any v3 _ w4 ho4 hk4 (by simp; omega)).mono ?_
      rintro e w5 ⟨rfl, b5⟩
      have bl5 := bl4.trans (b5.mono bl4.size)
      rw [← HTG.out]
      clear ho4 hk4 b5 bl4
      go_wp2_with (refine wp_run rfl (exec_eqT rfl (Sha.tag t l) (Sha.tag t l) rfl rfl rfl (Sha.tag_len _ _) (Sha.tag_len _ _) _) ?_)
      go_ret
      exact ⟨rfl, bl5⟩
    · have i1 : ¬ (255 : Int) < (t.length : Int) := by omega
      have i2 : (1000 : Int) < (l.length : Int) := by omega
      go_enter Tryd.func6, Tryd.ntmps6
      go_wp2_with fail
      refine (sane_any W hk).mono ?_
      rintro e w1 ⟨rfl, b1⟩
      go_wp2
      go_ret
      exact ⟨rfl, b1⟩
  · have i1 : (255 : Int) < (t.length : Int) := by omega
    go_enter Tryd.func6, Tryd.ntmps6
    go_wp2_with fail
    refine (sane_any W hk).mono ?_
    rintro e w1 ⟨rfl, b1⟩
    go_wp2
    go_ret
    exact ⟨rfl, b1⟩
end Go.Proofs.YtglabhlgnbkeiaaDoor
