/-
  The walk of ShaLengthExtension.
-/
import Derived.Test.YtglabhlgnbkeiaaDoorShM
import Derived.Test.YtglabhlgnbkeiaaDoorOpA
import Derived.Test.YtglabhlgnbkeiaaDoorSrK
namespace Go.Proofs.YtglabhlgnbkeiaaDoor
open Go.RowKit
set_option linter.unusedVariables false
set_option linter.unusedSimpArgs false

set_option maxRecDepth 100000 in
set_option maxHeartbeats 2000000 in
theorem shaLengthExtension_walk (v : Value) (l : List UInt8) (u : Value) (m : List UInt8) (W : World) (hv : Bs W W.heap.size v l) (hu : Bs W W.heap.size u m) (hk : KIs 2 W) (hr : KIs 1 W) :
    Calls Tryd.prog 5 #[v, u] W fun e w' => e = .returned (.bool true) ∧ Below W.heap.size W w' := by
  obtain ⟨A, cap, rfl⟩ := hv.form
  obtain ⟨B, cbp, rfl⟩ := hu.form
  by_cases h1 : (600 : Int) < (l.length : Int)
  · go_enter Tryd.func5, Tryd.ntmps5
    go_wp2_with fail
    refine (sane_any W hr).mono ?_
    rintro e w1 ⟨rfl, b1⟩
    go_wp2
    go_ret
    exact ⟨rfl, b1⟩
  · by_cases h2 : (600 : Int) < (m.length : Int)
    · go_enter Tryd.func5, Tryd.ntmps5
      go_wp2_with fail
      refine (sane_any W hr).mono ?_
      rintro e w1 ⟨rfl, b1⟩
      go_wp2
      go_ret
      exact ⟨rfl, b1⟩
    · have hpl := Sha.pad_len l.length
      have hzs : Sha.zs l.length < 64 := by unfold Sha.zs; omega
      have HMORE := Lib.hid (Sha.sum_more l m)
      have hpc := rpadding_any l.length
      have hrc := fun w hv hk => rresume_any (Sha.sum l) l.length (.slice B m.length cbp) m w (Sha.sum_len l) hv hk (by omega) (by omega)
      obtain ⟨R, hR⟩ : ∃ R, R = Sha.dgs (Sha.blks ((m.length + (Sha.pad (l.length + (Sha.pad l.length).length + m.length)).length) / 64) (Sha.stt (Sha.sum l)) (m ++ Sha.pad (l.length + (Sha.pad l.length).length + m.length))) := ⟨_, rfl⟩
      have hRl : R.length = 32 := by rw [hR, Sha.dgs_len]
      rw [← hR] at hrc HMORE
      obtain ⟨P, hP⟩ : ∃ P, P = Sha.pad l.length := ⟨_, rfl⟩
      rw [← hP] at hpl hpc HMORE
      have hPb : P.length ≤ 100 := by omega
      obtain ⟨SX, hSX⟩ : ∃ SX, SX = Sha.sum (l ++ P ++ m) := ⟨_, rfl⟩
      rw [← hSX] at HMORE
      have hSXl : SX.length = 32 := by rw [hSX, Sha.sum_len]
      have hsc := fun v w hv hk => sum_any v (l ++ P ++ m) w hv hk (by simp; omega)
      rw [← hSX] at hsc
      obtain ⟨SL, hSL⟩ : ∃ SL, SL = Sha.sum l := ⟨_, rfl⟩
      rw [← hSL] at hrc
      have hsl := fun w hv hk => sum_any (.slice A l.length cap) l w hv hk (by omega)
      rw [← hSL] at hsl
      have HPC := Lib.hid hpc
      have HRC := Lib.hid hrc
      have HSC := Lib.hid hsc
      have HSLC := Lib.hid hsl
      have HRL := Lib.hid hRl
      have HSXL := Lib.hid hSXl
      have HLL : Hid (l.length ≤ 600 ∧ m.length ≤ 600 ∧ P.length ≤ 100) := Lib.hid (by omega)
      clear hpc hrc hsc hsl hR hP hSX hSL hRl hSXl hpl hzs
      go_enter Tryd.func5, Tryd.ntmps5
      go_wp2_with fail
      refine (sane_any W hr).mono ?_
      rintro e w1 ⟨rfl, b1⟩
      have hv1 := hv.past b1
      have hu1 := hu.past b1
      have hk1 := hk.past b1
      have hr1 := hr.past b1
      clear hv hu hk hr
      have a2 : Below w1.heap.size w1 (w1.alloc (.cells #[] 5)) := (Below.refl _ _).alloc (Nat.le_refl _) _
      have o2 : Own (w1.alloc (.cells #[] 5)) w1.heap.size (.slice (some ⟨w1.heap.size, 0, none⟩) 0 0) [] := own_lit_n w1 [] (by simp [maxLen])
      have v2 := hv1.past a2
      have e2 : ([] : List UInt8).length + l.length ≤ 140737488355328 := by have := HLL.out; simp; omega
      go_upto_region 6 with (refine wp_apps w1.heap.size (.tmp 16) (.tmp 17) rfl rfl _ _ [] l rfl rfl o2 a2.size v2 e2 ?_; intro va w2 ho2 b2)
      rw [List.nil_append] at ho2
      have b12 : Below w1.heap.size w1 w2 := a2.trans b2
      clear a2 o2 v2 e2 b2
      go_wp2_with fail
      refine (HPC.out w2 (by have := HLL.out; omega)).mono ?_
      rintro e w3 ⟨vp, rfl, hop, b3⟩
      have ho3 := ho2.past b3
      have hvp := Own.bs hop
      have b13 : Below w1.heap.size w1 w3 := b12.trans (b3.mono b12.size)
      have e3 : l.length + P.length ≤ 140737488355328 := by have := HLL.out; omega
      clear hop ho2 b12 b3
      go_upto_region 7 with (refine wp_apps w1.heap.size (.tmp 19) (.tmp 22) rfl rfl _ _ l P rfl rfl ho3 b13.size hvp e3 ?_; intro vb w4 ho4 b4)
      have b14 := b13.trans b4
      have hu4 := hu1.past b14
      have e4 : (l ++ P).length + m.length ≤ 140737488355328 := by have := HLL.out; simp; omega
      clear ho3 hvp e3 b13 b4
      go_upto_region 8 with (refine wp_apps w1.heap.size (.tmp 24) (.tmp 25) rfl rfl _ _ (l ++ P) m rfl rfl ho4 b14.size hu4 e4 ?_; intro vc w5 ho5 b5)
      have b15 := b14.trans b5
      have hv5 := hv1.past b15
      have hu5 := hu1.past b15
      have hk5 := hk1.past b15
      have hr5 := hr1.past b15
      have hc5 := Own.bs ho5
      have bl5 := b1.trans (b15.mono b1.size)
      clear ho4 hu4 e4 b14 b5 b15 ho5 hv1 hu1 hk1 hr1 b1
      go_wp2_with fail
      refine (HSC.out _ w5 hc5 hr5).mono ?_
      rintro e w6 ⟨rfl, b6⟩
      have hv6 := hv5.past b6
      have hu6 := hu5.past b6
      have hk6 := hk5.past b6
      have hr6 := hr5.past b6
      have bl6 := bl5.trans (b6.mono bl5.size)
      clear hv5 hu5 hk5 hr5 hc5 bl5 b6
      go_wp2_with fail
      refine (HSLC.out w6 hv6 hr6).mono ?_
      rintro e w7 ⟨rfl, b7⟩
      have hu7 := hu6.past b7
      have hk7 := hk6.past b7
      have bl7 := bl6.trans (b7.mono bl6.size)
      clear hv6 hu6 hk6 hr6 bl6 b7
      go_wp2_with fail
      refine (HRC.out w7 hu7 hk7).mono ?_
      rintro e w8 ⟨rfl, b8⟩
      have bl8 := bl7.trans (b8.mono bl7.size)
      clear hu7 hk7 bl7 b8
      go_wp2_with (refine wp_run rfl (exec_eqT rfl SX R rfl rfl HMORE.out HSXL.out HRL.out _) ?_)
      go_ret
      exact ⟨rfl, bl8⟩
end Go.Proofs.YtglabhlgnbkeiaaDoor
