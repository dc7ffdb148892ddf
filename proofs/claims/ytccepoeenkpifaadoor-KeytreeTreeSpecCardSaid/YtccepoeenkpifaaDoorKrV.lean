/-
  The reference of layer 5: Verify.
-/
import Derived.Test.YtccepoeenkpifaaDoorKrC
import Derived.Test.YtccepoeenkpifaaDoorKtG
import Derived.Test.YtccepoeenkpifaaDoorWtU
namespace Go.Proofs.YtccepoeenkpifaaDoor
open Go.RowKit
set_option linter.unusedVariables false
set_option linter.unusedSimpArgs false

set_option maxRecDepth 100000 in
set_option maxHeartbeats 1000000 in
theorem rverify5_no (r : List UInt8) (v : Value) (l : List UInt8) (ix : Int) (A B : Option Addr) (n c m d : Nat) (w : World) (hr : r.length = 32) (hv : Bs w w.heap.size v l) (h : ¬ (0 ≤ ix ∧ ix ≤ 3 ∧ n = 18 ∧ m = 2)) :
    Calls Tryd.prog 23 #[.agg (u8s r).toArray, v, .agg (sg ix (.slice A n c) (.slice B m d)).toArray] w fun e w' => e = .returned (.bool false) ∧ Below w.heap.size w w' := by
  obtain ⟨A0, cap0, rfl⟩ := hv.form
  have HR := Lib.hid hr
  have HUR := Lib.hid (show (u8s r).length = 32 by rw [u8s_length, hr])
  have b0 : Below w.heap.size w ((w.alloc (.cells (u8s r).toArray 25)).alloc (.cells (sg ix (.slice A n c) (.slice B m d)).toArray 31)) := ((Below.refl _ _).alloc (Nat.le_refl _) _).alloc (by simp) _
  have r0 : Blk ((w.alloc (.cells (u8s r).toArray 25)).alloc (.cells (sg ix (.slice A n c) (.slice B m d)).toArray 31)) w.heap.size 25 (u8s r) := (Blk.new w _ _).past ((Below.refl _ _).alloc (Nat.le_refl _) _) (by simp)
  have q0 : Blk ((w.alloc (.cells (u8s r).toArray 25)).alloc (.cells (sg ix (.slice A n c) (.slice B m d)).toArray 31)) (w.heap.size + 1) 31 (sg ix (.slice A n c) (.slice B m d)) := by
    have h := Blk.new (w.alloc (.cells (u8s r).toArray 25)) 31 (sg ix (.slice A n c) (.slice B m d))
    rw [World.size_alloc] at h
    exact h
  obtain ⟨W0, hW0⟩ : ∃ W, W = (w.alloc (.cells (u8s r).toArray 25)).alloc (.cells (sg ix (.slice A n c) (.slice B m d)).toArray 31) := ⟨_, rfl⟩
  rw [← hW0] at b0 r0 q0
  have HW := Lib.hid hW0
  have d0 : W0.cell? ⟨w.heap.size + 1, 0, none⟩ = some (.int .i64 ix) := q0.cell (j := 0) rfl
  have d1 : W0.cell? ⟨w.heap.size + 1, 1, none⟩ = some (.slice A n c) := q0.cell (j := 1) rfl
  have d2 : W0.cell? ⟨w.heap.size + 1, 2, none⟩ = some (.slice B m d) := q0.cell (j := 2) rfl
  clear hW0 hv hr r0 q0
  by_cases h0 : ix < 0
  · skip
    clear h
    go_enter Tryd.func23, Tryd.ntmps23
    go_upto_region 1 with (fail)
    rw [← HW.out]
    go_wp2
    go_ret
    exact ⟨rfl, b0⟩
  · skip
    by_cases h3 : 3 < ix
    · skip
      clear h
      go_enter Tryd.func23, Tryd.ntmps23
      go_upto_region 1 with (fail)
      rw [← HW.out]
      go_wp2
      go_ret
      exact ⟨rfl, b0⟩
    · skip
      by_cases hn : n = 18
      · subst hn
        have hm : m ≠ 2 := fun hm => h ⟨by omega, by omega, rfl, hm⟩
        have hme : ((m : Int) == 2) = false := beq_eq_false_iff_ne.2 (by omega)
        have hmi : ¬ ((m : Int) = 2) := by omega
        clear h hm
        go_enter Tryd.func23, Tryd.ntmps23
        go_upto_region 1 with (fail)
        rw [← HW.out]
        go_wp2
        go_ret
        exact ⟨rfl, b0⟩
      · skip
        have hne : ((n : Int) == 18) = false := beq_eq_false_iff_ne.2 (by omega)
        have hni : ¬ ((n : Int) = 18) := by omega
        clear h hn
        go_enter Tryd.func23, Tryd.ntmps23
        go_upto_region 1 with (fail)
        rw [← HW.out]
        go_wp2
        go_ret
        exact ⟨rfl, b0⟩

set_option maxRecDepth 100000 in
set_option maxHeartbeats 4000000 in
theorem rverify5_yes (r l : List UInt8) (v : Value) (ix : Nat) (A B : Option Addr) (c d : Nat) (C PP : List UInt8) (w : World) (hr : r.length = 32) (hv : Bs w w.heap.size v l) (hl : l.length ≤ 80000) (hix : ix ≤ 3) (hc : Row w w.heap.size 32 18 (.slice A 18 c) (u8s C)) (hp : Row w w.heap.size 32 2 (.slice B 2 d) (u8s PP)) (hk : KIs 2 w) (hin : InIs 0 w) :
    Calls Tryd.prog 23 #[.agg (u8s r).toArray, v, .agg (sg (ix : Int) (.slice A 18 c) (.slice B 2 d)).toArray] w fun e w' => e = .returned (.bool (Kt.climb (Wt.rec_ (msgD l) C) ix PP 2 == r)) ∧ Below w.heap.size w w' := by
  obtain ⟨A0, cap0, rfl⟩ := hv.form
  have HR := Lib.hid hr
  have HUR := Lib.hid (show (u8s r).length = 32 by rw [u8s_length, hr])
  have b0 : Below w.heap.size w ((w.alloc (.cells (u8s r).toArray 25)).alloc (.cells (sg (ix : Int) (.slice A 18 c) (.slice B 2 d)).toArray 31)) := ((Below.refl _ _).alloc (Nat.le_refl _) _).alloc (by simp) _
  have r0 : Blk ((w.alloc (.cells (u8s r).toArray 25)).alloc (.cells (sg (ix : Int) (.slice A 18 c) (.slice B 2 d)).toArray 31)) w.heap.size 25 (u8s r) := (Blk.new w _ _).past ((Below.refl _ _).alloc (Nat.le_refl _) _) (by simp)
  have q0 : Blk ((w.alloc (.cells (u8s r).toArray 25)).alloc (.cells (sg (ix : Int) (.slice A 18 c) (.slice B 2 d)).toArray 31)) (w.heap.size + 1) 31 (sg (ix : Int) (.slice A 18 c) (.slice B 2 d)) := by
    have h := Blk.new (w.alloc (.cells (u8s r).toArray 25)) 31 (sg (ix : Int) (.slice A 18 c) (.slice B 2 d))
    rw [World.size_alloc] at h
    exact h
  obtain ⟨W0, hW0⟩ : ∃ W, W = (w.alloc (.cells (u8s r).toArray 25)).alloc (.cells (sg (ix : Int) (.slice A 18 c) (.slice B 2 d)).toArray 31) := ⟨_, rfl⟩
  rw [← hW0] at b0 r0 q0
  have HW := Lib.hid hW0
  have m0 := hv.past b0
  have k0 := hk.past b0
  have i0 := hin.past b0
  have c0 := hc.past b0
  have p0 := hp.past b0
  have d0 : W0.cell? ⟨w.heap.size + 1, 0, none⟩ = some (.int .i64 (ix : Int)) := q0.cell (j := 0) rfl
  have d1 : W0.cell? ⟨w.heap.size + 1, 1, none⟩ = some (.slice A 18 c) := q0.cell (j := 1) rfl
  have d2 : W0.cell? ⟨w.heap.size + 1, 2, none⟩ = some (.slice B 2 d) := q0.cell (j := 2) rfl
  have hx0 : ((ix : Int) < 0) = False := by simp
  have hx3 : (3 < (ix : Int)) = False := by simp; omega
  clear hW0 hv hk hr hc hp hin
  go_enter Tryd.func23, Tryd.ntmps23
  go_upto_region 1 with (fail)
  rw [← HW.out]
  go_upto_region 3 with (fail)
  clear d0 d1 d2 hx0 hx3
  have hz := zero_dig
  obtain ⟨gr, hgr⟩ : ∃ g, g = w.heap.size := ⟨_, rfl⟩
  obtain ⟨gq, hgq⟩ : ∃ g, g = w.heap.size + 1 := ⟨_, rfl⟩
  rw [← hgq] at q0 ⊢
  rw [← hgr] at r0 ⊢
  have HGR := Lib.hid hgr
  clear hgr hgq
  obtain ⟨MD, hMD⟩ : ∃ MD, MD = msgD l := ⟨_, rfl⟩
  have HMD := Lib.hid hMD
  have HMDL := Lib.hid (show MD.length = 32 by rw [hMD, msgD_len])
  clear hMD
  have HMSG : Hid (∀ w1 : World, Bs w1 w1.heap.size (.slice A0 l.length cap0) l → KIs 2 w1 → InIs 0 w1 → Calls Tryd.prog 37 #[str [109, 115, 103], .slice A0 l.length cap0] w1 fun e w' => e = .returned (.agg (u8s MD).toArray) ∧ Below w1.heap.size w1 w') := Lib.hid fun w1 h1 h2 h3 => by
    rw [HMD.out]; exact rtagged_any _ [109, 115, 103] l w1 h1 h2 h3 (by omega) (by decide)
  obtain ⟨D, hD⟩ : ∃ D, D = Wt.rec_ MD C := ⟨_, rfl⟩
  have HD := Lib.hid hD
  have HDL := Lib.hid (show D.length = 32 by rw [hD, Wt.rec_len])
  have HUD := Lib.hid (show (u8s D).length = 32 by rw [u8s_length, HDL.out])
  clear hD
  have HREC : Hid (∀ w1 : World, Row w1 w1.heap.size 32 18 (.slice A 18 c) (u8s C) → KIs 2 w1 → InIs 0 w1 → Calls Tryd.prog 42 #[.agg (u8s MD).toArray, .slice A 18 c] w1 fun e w' => e = .returned (.tuple #[.agg (u8s D).toArray, .int .i64 0]) ∧ Below w1.heap.size w1 w') := Lib.hid fun w1 h1 h2 h3 => by
    rw [HD.out]; exact rrecover_yes MD C _ w1 h1 HMDL.out h2 h3
  have lq := Blk.lt q0
  refine wp_region_pt (W0.heap.size) (.take 0 (.take 2 (.take 3 (.two 1 (.two 4 (.take 5 (.take 6 (.take 7 (.step 8 (.step 9 (.take 10 .done)))))) 8 (.step 4 (.take 5 (.take 6 (.take 7 (.step 9 (.take 10 .done))))))) 8 (.step 1 (.step 4 (.take 5 (.take 6 (.take 7 (.step 9 (.take 10 .done))))))))))) (by kernel_rfl) (by kernel_rfl) (by kernel_rfl) (fun _ _ h => h) ?_
  have bd1 : Below W0.heap.size W0 W0.drew := (Below.refl _ _).drew
  have zB1 : W0.heap.size ≤ W0.drew.heap.size := bd1.size
  have f_r1 := r0.past bd1 r0.lt
  have f_q1 := q0.past bd1 q0.lt
  have f_m1 := m0.past bd1
  have f_k1 := k0.past bd1
  have f_in1 := i0.past bd1
  have f_bel1 := b0.trans (bd1.mono b0.size)
  have f_p1 := p0.past bd1
  have f_c1 := c0.past bd1
  clear r0 q0 m0 k0 i0 b0 p0 c0
  obtain ⟨u1, hu1⟩ : ∃ u, u = W0.drew := ⟨_, rfl⟩
  rw [← hu1] at f_r1 f_q1 f_m1 f_k1 f_in1 f_bel1 f_p1 f_c1 zB1 bd1 ⊢
  clear hu1 bd1
  have cq : u1.cell? ⟨gq, 1, none⟩ = some (.slice A 18 c) := Blk.cell f_q1 (j := 1) rfl
  first | refine pt_skip rfl rfl rfl rfl ?_ | (refine pt_take rfl rfl rfl rfl ?_; apply Exists.intro; refine ⟨fun w' hw' => ?_, ?_⟩; focus ((repeat (first | go_skip | go_guarded | go_step | go_upon | go_back)); exact ⟨rfl, rfl, rfl⟩))
  first | refine pt_skip rfl rfl rfl rfl ?_ | (refine pt_take rfl rfl rfl rfl ?_; apply Exists.intro; refine ⟨fun w' hw' => ?_, ?_⟩; focus ((repeat (first | go_skip | go_guarded | go_step | go_upon | go_back)); exact ⟨rfl, rfl, rfl⟩))
  refine pt_take rfl rfl rfl rfl ?_
  apply Exists.intro
  refine ⟨fun w' hw' => ?_, ?_⟩
  · have hcell := (hw'.cell (p := ⟨gq, 1, none⟩) lq).trans cq
    focus ((repeat (first | go_skip | go_guarded | go_step | go_upon | go_back)); exact ⟨rfl, rfl, rfl⟩)
  clear cq
  refine pt_two rfl rfl ?_ ?_
  · skip
    go_wp2_with fail
    refine (HMSG.out _ f_m1 f_k1 f_in1).mono ?_
    rintro e t2 ⟨rfl, c2⟩
    go_wp2_with fail
    refine ⟨rfl, c2.mono zB1, ?_⟩
    have f_r2 := f_r1.past c2 f_r1.lt
    have f_q2 := f_q1.past c2 f_q1.lt
    have f_m2 := f_m1.past c2
    have f_k2 := f_k1.past c2
    have f_in2 := f_in1.past c2
    have f_bel2 := f_bel1.trans (c2.mono f_bel1.size)
    have f_p2 := f_p1.past c2
    have f_c2 := f_c1.past c2
    have f_zB2 := Nat.le_trans zB1 c2.size
    clear f_r1 f_q1 f_m1 f_k1 f_in1 f_bel1 f_p1 f_c1 zB1 c2
    refine pt_two rfl rfl ?_ ?_
    · skip
      go_wp2_with fail
      refine (HREC.out _ f_c2 f_k2 f_in2).mono ?_
      rintro e t3 ⟨rfl, c3⟩
      go_wp2_with fail
      refine ⟨rfl, c3.mono f_zB2, ?_⟩
      have f_r3 := f_r2.past c3 f_r2.lt
      have f_q3 := f_q2.past c3 f_q2.lt
      have f_m3 := f_m2.past c3
      have f_k3 := f_k2.past c3
      have f_in3 := f_in2.past c3
      have f_bel3 := f_bel2.trans (c3.mono f_bel2.size)
      have f_p3 := f_p2.past c3
      have f_c3 := f_c2.past c3
      have f_zB3 := Nat.le_trans f_zB2 c3.size
      clear f_r2 f_q2 f_m2 f_k2 f_in2 f_bel2 f_p2 f_c2 f_zB2 c3
      first | refine pt_skip rfl rfl rfl rfl ?_ | (refine pt_take rfl rfl rfl rfl ?_; apply Exists.intro; refine ⟨fun w' hw' => ?_, ?_⟩; focus ((repeat (first | go_skip | go_guarded | go_step | go_upon | go_back)); exact ⟨rfl, rfl, rfl⟩))
      first | refine pt_skip rfl rfl rfl rfl ?_ | (refine pt_take rfl rfl rfl rfl ?_; apply Exists.intro; refine ⟨fun w' hw' => ?_, ?_⟩; focus ((repeat (first | go_skip | go_guarded | go_step | go_upon | go_back)); exact ⟨rfl, rfl, rfl⟩))
      first | refine pt_skip rfl rfl rfl rfl ?_ | (refine pt_take rfl rfl rfl rfl ?_; apply Exists.intro; refine ⟨fun w' hw' => ?_, ?_⟩; focus ((repeat (first | go_skip | go_guarded | go_step | go_upon | go_back)); exact ⟨rfl, rfl, rfl⟩))
      have s4 := Blk.new t3 25 (u8s z32)
      have d4 : Below t3.heap.size t3 (t3.alloc (.cells (u8s z32).toArray 25)) := (Below.refl _ _).alloc (Nat.le_refl _) _
      refine pt_step rfl ?_
      go_wp2_with fail
      refine ⟨rfl, d4.mono f_zB3, ?_⟩
      have e4 := Nat.le_trans f_zB3 d4.size
      refine pt_step rfl ?_
      have zpre4 := f_zB3
      go_wp2_with (refine wp_storeA 25 (.tmp 7) (.tmp 37) rfl rfl t3.heap.size rfl 25 (u8s z32) (u8s D) rfl s4 (by rw [info_dig, HUD.out]) (by first | (rw [HUD.out]; rfl) | rfl) (u8s_one _) rfl ?_; intro y4 h4 k4)
      have f4 : Below t3.heap.size t3 y4 := (d4).trans ((k4.mono (O' := fun q => q < t3.heap.size) (fun q hq => by omega)).below (fun q hq => hq) (d4).size)
      refine ⟨rfl, (k4.mono (O' := fun q => q < t3.heap.size) (fun q hq => by omega)).below (fun q hq => by have := f_zB3; omega) (e4), ?_⟩
      have f_r4 := f_r3.past f4 f_r3.lt
      have f_q4 := f_q3.past f4 f_q3.lt
      have f_m4 := f_m3.past f4
      have f_k4 := f_k3.past f4
      have f_in4 := f_in3.past f4
      have f_bel4 := f_bel3.trans (f4.mono f_bel3.size)
      have f_p4 := f_p3.past f4
      have f_c4 := f_c3.past f4
      have f_zB4 := Nat.le_trans f_zB3 f4.size
      clear f_r3 f_q3 f_m3 f_k3 f_in3 f_bel3 f_p3 f_c3 f_zB3 k4 f4 d4 e4 s4
      obtain ⟨gd, hgd⟩ : ∃ g, g = t3.heap.size := ⟨_, rfl⟩
      have zg_d := zpre4
      rw [← hgd] at h4 zg_d ⊢
      clear hgd
      first | refine pt_skip rfl rfl rfl rfl ?_ | (refine pt_take rfl rfl rfl rfl ?_; apply Exists.intro; refine ⟨fun w' hw' => ?_, ?_⟩; focus ((repeat (first | go_skip | go_guarded | go_step | go_upon | go_back)); exact ⟨rfl, rfl, rfl⟩))
      change Exit.then _ _ Exit.normal _ _
      clear f_zB4
      have lq6 := Blk.lt f_q4
      go_upto_region 6 with (fail)
      have e0 : y4.cell? ⟨gq, 0, none⟩ = some (.int .i64 (ix : Int)) := Blk.cell f_q4 (j := 0) rfl
      have e2 : y4.cell? ⟨gq, 2, none⟩ = some (.slice B 2 d) := Blk.cell f_q4 (j := 2) rfl
      have HC5 := Lib.hid (rclimb_yes _ D PP 2 ix y4 f_p4 HDL.out (by decide) (by omega) f_k4 f_in4)
      go_wp2_with (first | (refine wp_run rfl (exec_loadA 25 rfl gd rfl 25 _ 32 5 h4 Tryd.underlying25 (by rw [info_dig, HUD.out])) ?_))
      refine HC5.out.mono ?_
      rintro e v5 ⟨rfl, b5⟩
      clear e0 e2
      have f_r5 := f_r4.past b5 f_r4.lt
      have f_q5 := f_q4.past b5 f_q4.lt
      have f_m5 := f_m4.past b5
      have f_k5 := f_k4.past b5
      have f_in5 := f_in4.past b5
      have f_bel5 := f_bel4.trans (b5.mono f_bel4.size)
      have f_p5 := f_p4.past b5
      have f_c5 := f_c4.past b5
      have f_d5 := h4.past b5 h4.lt
      clear f_r4 f_q4 f_m4 f_k4 f_in4 f_bel4 f_p4 f_c4 h4 HC5 b5
      obtain ⟨X, hX⟩ : ∃ X, X = Kt.climb D ix PP 2 := ⟨_, rfl⟩
      have HX := Lib.hid hX
      have HXL := Lib.hid (show X.length = 32 by rw [hX, Kt.climb_len HDL.out])
      have HUX := Lib.hid (show (u8s X).length = 32 by rw [u8s_length, HXL.out])
      rw [← hX]
      clear hX
      have x6 := Blk.new v5 25 (u8s z32)
      have bx6 : Below v5.heap.size v5 (v5.alloc (.cells (u8s z32).toArray 25)) := (Below.refl _ _).alloc (Nat.le_refl _) _
      go_upto_region 7 with (refine wp_storeA 25 (.tmp 9) (.tmp 48) rfl rfl v5.heap.size rfl 25 (u8s z32) _ rfl x6 (by rw [info_dig, HUX.out]) (by first | (rw [HUX.out]; rfl) | rfl) (u8s_one _) rfl ?_; intro y6 h6 k6)
      have bb6 : Below v5.heap.size v5 y6 := ((Keep.of_below bx6).trans (k6.mono (O' := fun q => q < v5.heap.size) (fun q hq => by omega))).below (fun q hq => hq) (Nat.le_refl _)
      have f_r6 := f_r5.past bb6 f_r5.lt
      have f_q6 := f_q5.past bb6 f_q5.lt
      have f_m6 := f_m5.past bb6
      have f_k6 := f_k5.past bb6
      have f_in6 := f_in5.past bb6
      have f_bel6 := f_bel5.trans (bb6.mono f_bel5.size)
      have f_p6 := f_p5.past bb6
      have f_c6 := f_c5.past bb6
      have f_d6 := f_d5.past bb6 f_d5.lt
      clear f_r5 f_q5 f_m5 f_k5 f_in5 f_bel5 f_p5 f_c5 f_d5 x6 bx6 k6 bb6
      obtain ⟨gx, hgx⟩ : ∃ g, g = v5.heap.size := ⟨_, rfl⟩
      rw [← hgx] at h6 ⊢
      clear hgx
      obtain ⟨Q, hQ⟩ : ∃ Q, (X == r) = Q := ⟨_, rfl⟩
      have HQ := Lib.hid hQ
      have HRES := Lib.hid (show (Kt.climb (Wt.rec_ (msgD l) C) ix PP 2 == r) = Q by rw [← hQ, HX.out, HD.out, HMD.out])
      clear hQ hz
      go_wp2_with (first
        | (refine wp_run rfl (exec_loadA 25 rfl gx rfl 25 _ 32 5 h6 Tryd.underlying25 (by rw [info_dig, HUX.out])) ?_)
        | (refine wp_run rfl (exec_loadA 25 rfl gr rfl 25 _ 32 5 f_r6 Tryd.underlying25 (by rw [info_dig, HUR.out])) ?_)
        | (refine wp_run rfl (exec_eqB rfl X r rfl rfl HXL.out HR.out Q HQ.out _) ?_))
      go_ret
      rw [HGR.out] at *
      rw [HRES.out]
      exact ⟨rfl, f_bel6⟩
    · skip
      have s7 := Blk.new t2 25 (u8s z32)
      have d7 : Below t2.heap.size t2 (t2.alloc (.cells (u8s z32).toArray 25)) := (Below.refl _ _).alloc (Nat.le_refl _) _
      go_wp2_with fail
      refine ⟨rfl, d7.mono f_zB2, ?_⟩
      have f_r7 := f_r2.past d7 f_r2.lt
      have f_q7 := f_q2.past d7 f_q2.lt
      have f_m7 := f_m2.past d7
      have f_k7 := f_k2.past d7
      have f_in7 := f_in2.past d7
      have f_bel7 := f_bel2.trans (d7.mono f_bel2.size)
      have f_p7 := f_p2.past d7
      have f_c7 := f_c2.past d7
      have f_zB7 := Nat.le_trans f_zB2 d7.size
      have m7 := d7
      have q7 := s7
      clear d7 s7
      refine pt_step rfl ?_
      go_wp2_with fail
      refine (HREC.out _ f_c7 f_k7 f_in7).mono ?_
      rintro e t8 ⟨rfl, c8⟩
      go_wp2_with fail
      refine ⟨rfl, c8.mono f_zB7, ?_⟩
      have q8 := q7.past c8 q7.lt
      have m8 := m7.trans (c8.mono m7.size)
      clear q7 m7
      have f_r8 := f_r7.past c8 f_r7.lt
      have f_q8 := f_q7.past c8 f_q7.lt
      have f_m8 := f_m7.past c8
      have f_k8 := f_k7.past c8
      have f_in8 := f_in7.past c8
      have f_bel8 := f_bel7.trans (c8.mono f_bel7.size)
      have f_p8 := f_p7.past c8
      have f_c8 := f_c7.past c8
      have f_zB8 := Nat.le_trans f_zB7 c8.size
      clear f_r7 f_q7 f_m7 f_k7 f_in7 f_bel7 f_p7 f_c7 f_zB7 c8
      have e8 := f_zB8
      clear f_r8 f_q8 f_m8 f_k8 f_in8 f_bel8 f_p8 f_c8 f_zB8
      first | refine pt_skip rfl rfl rfl rfl ?_ | (refine pt_take rfl rfl rfl rfl ?_; apply Exists.intro; refine ⟨fun w' hw' => ?_, ?_⟩; focus ((repeat (first | go_skip | go_guarded | go_step | go_upon | go_back)); exact ⟨rfl, rfl, rfl⟩))
      first | refine pt_skip rfl rfl rfl rfl ?_ | (refine pt_take rfl rfl rfl rfl ?_; apply Exists.intro; refine ⟨fun w' hw' => ?_, ?_⟩; focus ((repeat (first | go_skip | go_guarded | go_step | go_upon | go_back)); exact ⟨rfl, rfl, rfl⟩))
      first | refine pt_skip rfl rfl rfl rfl ?_ | (refine pt_take rfl rfl rfl rfl ?_; apply Exists.intro; refine ⟨fun w' hw' => ?_, ?_⟩; focus ((repeat (first | go_skip | go_guarded | go_step | go_upon | go_back)); exact ⟨rfl, rfl, rfl⟩))
      refine pt_step rfl ?_
      have s8 := q8
      clear q8
      have zpre8 := f_zB2
      go_wp2_with (refine wp_storeA 25 (.tmp 7) (.tmp 37) rfl rfl t2.heap.size rfl 25 (u8s z32) (u8s D) rfl s8 (by rw [info_dig, HUD.out]) (by first | (rw [HUD.out]; rfl) | rfl) (u8s_one _) rfl ?_; intro y8 h8 k8)
      have f8 : Below t2.heap.size t2 y8 := (m8).trans ((k8.mono (O' := fun q => q < t2.heap.size) (fun q hq => by omega)).below (fun q hq => hq) (m8).size)
      refine ⟨rfl, (k8.mono (O' := fun q => q < t2.heap.size) (fun q hq => by omega)).below (fun q hq => by have := f_zB2; omega) (e8), ?_⟩
      have f_r8 := f_r2.past f8 f_r2.lt
      have f_q8 := f_q2.past f8 f_q2.lt
      have f_m8 := f_m2.past f8
      have f_k8 := f_k2.past f8
      have f_in8 := f_in2.past f8
      have f_bel8 := f_bel2.trans (f8.mono f_bel2.size)
      have f_p8 := f_p2.past f8
      have f_c8 := f_c2.past f8
      have f_zB8 := Nat.le_trans f_zB2 f8.size
      clear f_r2 f_q2 f_m2 f_k2 f_in2 f_bel2 f_p2 f_c2 f_zB2 k8 f8 m8 e8 s8
      obtain ⟨gd, hgd⟩ : ∃ g, g = t2.heap.size := ⟨_, rfl⟩
      have zg_d := zpre8
      rw [← hgd] at h8 zg_d ⊢
      clear hgd
      first | refine pt_skip rfl rfl rfl rfl ?_ | (refine pt_take rfl rfl rfl rfl ?_; apply Exists.intro; refine ⟨fun w' hw' => ?_, ?_⟩; focus ((repeat (first | go_skip | go_guarded | go_step | go_upon | go_back)); exact ⟨rfl, rfl, rfl⟩))
      change Exit.then _ _ Exit.normal _ _
      clear f_zB8
      have lq6 := Blk.lt f_q8
      go_upto_region 6 with (fail)
      have e0 : y8.cell? ⟨gq, 0, none⟩ = some (.int .i64 (ix : Int)) := Blk.cell f_q8 (j := 0) rfl
      have e2 : y8.cell? ⟨gq, 2, none⟩ = some (.slice B 2 d) := Blk.cell f_q8 (j := 2) rfl
      have HC9 := Lib.hid (rclimb_yes _ D PP 2 ix y8 f_p8 HDL.out (by decide) (by omega) f_k8 f_in8)
      go_wp2_with (first | (refine wp_run rfl (exec_loadA 25 rfl gd rfl 25 _ 32 5 h8 Tryd.underlying25 (by rw [info_dig, HUD.out])) ?_))
      refine HC9.out.mono ?_
      rintro e v9 ⟨rfl, b9⟩
      clear e0 e2
      have f_r9 := f_r8.past b9 f_r8.lt
      have f_q9 := f_q8.past b9 f_q8.lt
      have f_m9 := f_m8.past b9
      have f_k9 := f_k8.past b9
      have f_in9 := f_in8.past b9
      have f_bel9 := f_bel8.trans (b9.mono f_bel8.size)
      have f_p9 := f_p8.past b9
      have f_c9 := f_c8.past b9
      have f_d9 := h8.past b9 h8.lt
      clear f_r8 f_q8 f_m8 f_k8 f_in8 f_bel8 f_p8 f_c8 h8 HC9 b9
      obtain ⟨X, hX⟩ : ∃ X, X = Kt.climb D ix PP 2 := ⟨_, rfl⟩
      have HX := Lib.hid hX
      have HXL := Lib.hid (show X.length = 32 by rw [hX, Kt.climb_len HDL.out])
      have HUX := Lib.hid (show (u8s X).length = 32 by rw [u8s_length, HXL.out])
      rw [← hX]
      clear hX
      have x10 := Blk.new v9 25 (u8s z32)
      have bx10 : Below v9.heap.size v9 (v9.alloc (.cells (u8s z32).toArray 25)) := (Below.refl _ _).alloc (Nat.le_refl _) _
      go_upto_region 7 with (refine wp_storeA 25 (.tmp 9) (.tmp 48) rfl rfl v9.heap.size rfl 25 (u8s z32) _ rfl x10 (by rw [info_dig, HUX.out]) (by first | (rw [HUX.out]; rfl) | rfl) (u8s_one _) rfl ?_; intro y10 h10 k10)
      have bb10 : Below v9.heap.size v9 y10 := ((Keep.of_below bx10).trans (k10.mono (O' := fun q => q < v9.heap.size) (fun q hq => by omega))).below (fun q hq => hq) (Nat.le_refl _)
      have f_r10 := f_r9.past bb10 f_r9.lt
      have f_q10 := f_q9.past bb10 f_q9.lt
      have f_m10 := f_m9.past bb10
      have f_k10 := f_k9.past bb10
      have f_in10 := f_in9.past bb10
      have f_bel10 := f_bel9.trans (bb10.mono f_bel9.size)
      have f_p10 := f_p9.past bb10
      have f_c10 := f_c9.past bb10
      have f_d10 := f_d9.past bb10 f_d9.lt
      clear f_r9 f_q9 f_m9 f_k9 f_in9 f_bel9 f_p9 f_c9 f_d9 x10 bx10 k10 bb10
      obtain ⟨gx, hgx⟩ : ∃ g, g = v9.heap.size := ⟨_, rfl⟩
      rw [← hgx] at h10 ⊢
      clear hgx
      obtain ⟨Q, hQ⟩ : ∃ Q, (X == r) = Q := ⟨_, rfl⟩
      have HQ := Lib.hid hQ
      have HRES := Lib.hid (show (Kt.climb (Wt.rec_ (msgD l) C) ix PP 2 == r) = Q by rw [← hQ, HX.out, HD.out, HMD.out])
      clear hQ hz
      go_wp2_with (first
        | (refine wp_run rfl (exec_loadA 25 rfl gx rfl 25 _ 32 5 h10 Tryd.underlying25 (by rw [info_dig, HUX.out])) ?_)
        | (refine wp_run rfl (exec_loadA 25 rfl gr rfl 25 _ 32 5 f_r10 Tryd.underlying25 (by rw [info_dig, HUR.out])) ?_)
        | (refine wp_run rfl (exec_eqB rfl X r rfl rfl HXL.out HR.out Q HQ.out _) ?_))
      go_ret
      rw [HGR.out] at *
      rw [HRES.out]
      exact ⟨rfl, f_bel10⟩
  · skip
    have s11 := Blk.new u1 25 (u8s z32)
    have d11 : Below u1.heap.size u1 (u1.alloc (.cells (u8s z32).toArray 25)) := (Below.refl _ _).alloc (Nat.le_refl _) _
    go_wp2_with fail
    refine ⟨rfl, d11.mono zB1, ?_⟩
    have f_r11 := f_r1.past d11 f_r1.lt
    have f_q11 := f_q1.past d11 f_q1.lt
    have f_m11 := f_m1.past d11
    have f_k11 := f_k1.past d11
    have f_in11 := f_in1.past d11
    have f_bel11 := f_bel1.trans (d11.mono f_bel1.size)
    have f_p11 := f_p1.past d11
    have f_c11 := f_c1.past d11
    have f_zB11 := Nat.le_trans zB1 d11.size
    have m11 := d11
    have q11 := s11
    clear d11 s11
    refine pt_step rfl ?_
    go_wp2_with fail
    refine (HMSG.out _ f_m11 f_k11 f_in11).mono ?_
    rintro e t12 ⟨rfl, c12⟩
    go_wp2_with fail
    refine ⟨rfl, c12.mono f_zB11, ?_⟩
    have q12 := q11.past c12 q11.lt
    have m12 := m11.trans (c12.mono m11.size)
    clear q11 m11
    have f_r12 := f_r11.past c12 f_r11.lt
    have f_q12 := f_q11.past c12 f_q11.lt
    have f_m12 := f_m11.past c12
    have f_k12 := f_k11.past c12
    have f_in12 := f_in11.past c12
    have f_bel12 := f_bel11.trans (c12.mono f_bel11.size)
    have f_p12 := f_p11.past c12
    have f_c12 := f_c11.past c12
    have f_zB12 := Nat.le_trans f_zB11 c12.size
    clear f_r11 f_q11 f_m11 f_k11 f_in11 f_bel11 f_p11 f_c11 f_zB11 c12
    refine pt_step rfl ?_
    go_wp2_with fail
    refine (HREC.out _ f_c12 f_k12 f_in12).mono ?_
    rintro e t13 ⟨rfl, c13⟩
    go_wp2_with fail
    refine ⟨rfl, c13.mono f_zB12, ?_⟩
    have q13 := q12.past c13 q12.lt
    have m13 := m12.trans (c13.mono m12.size)
    clear q12 m12
    have f_r13 := f_r12.past c13 f_r12.lt
    have f_q13 := f_q12.past c13 f_q12.lt
    have f_m13 := f_m12.past c13
    have f_k13 := f_k12.past c13
    have f_in13 := f_in12.past c13
    have f_bel13 := f_bel12.trans (c13.mono f_bel12.size)
    have f_p13 := f_p12.past c13
    have f_c13 := f_c12.past c13
    have f_zB13 := Nat.le_trans f_zB12 c13.size
    clear f_r12 f_q12 f_m12 f_k12 f_in12 f_bel12 f_p12 f_c12 f_zB12 c13
    have e13 := f_zB13
    clear f_r13 f_q13 f_m13 f_k13 f_in13 f_bel13 f_p13 f_c13 f_zB13
    first | refine pt_skip rfl rfl rfl rfl ?_ | (refine pt_take rfl rfl rfl rfl ?_; apply Exists.intro; refine ⟨fun w' hw' => ?_, ?_⟩; focus ((repeat (first | go_skip | go_guarded | go_step | go_upon | go_back)); exact ⟨rfl, rfl, rfl⟩))
    first | refine pt_skip rfl rfl rfl rfl ?_ | (refine pt_take rfl rfl rfl rfl ?_; apply Exists.intro; refine ⟨fun w' hw' => ?_, ?_⟩; focus ((repeat (first | go_skip | go_guarded | go_step | go_upon | go_back)); exact ⟨rfl, rfl, rfl⟩))
    first | refine pt_skip rfl rfl rfl rfl ?_ | (refine pt_take rfl rfl rfl rfl ?_; apply Exists.intro; refine ⟨fun w' hw' => ?_, ?_⟩; focus ((repeat (first | go_skip | go_guarded | go_step | go_upon | go_back)); exact ⟨rfl, rfl, rfl⟩))
    refine pt_step rfl ?_
    have s13 := q13
    clear q13
    have zpre13 := zB1
    go_wp2_with (refine wp_storeA 25 (.tmp 7) (.tmp 37) rfl rfl u1.heap.size rfl 25 (u8s z32) (u8s D) rfl s13 (by rw [info_dig, HUD.out]) (by first | (rw [HUD.out]; rfl) | rfl) (u8s_one _) rfl ?_; intro y13 h13 k13)
    have f13 : Below u1.heap.size u1 y13 := (m13).trans ((k13.mono (O' := fun q => q < u1.heap.size) (fun q hq => by omega)).below (fun q hq => hq) (m13).size)
    refine ⟨rfl, (k13.mono (O' := fun q => q < u1.heap.size) (fun q hq => by omega)).below (fun q hq => by have := zB1; omega) (e13), ?_⟩
    have f_r13 := f_r1.past f13 f_r1.lt
    have f_q13 := f_q1.past f13 f_q1.lt
    have f_m13 := f_m1.past f13
    have f_k13 := f_k1.past f13
    have f_in13 := f_in1.past f13
    have f_bel13 := f_bel1.trans (f13.mono f_bel1.size)
    have f_p13 := f_p1.past f13
    have f_c13 := f_c1.past f13
    have f_zB13 := Nat.le_trans zB1 f13.size
    clear f_r1 f_q1 f_m1 f_k1 f_in1 f_bel1 f_p1 f_c1 zB1 k13 f13 m13 e13 s13
    obtain ⟨gd, hgd⟩ : ∃ g, g = u1.heap.size := ⟨_, rfl⟩
    have zg_d := zpre13
    rw [← hgd] at h13 zg_d ⊢
    clear hgd
    first | refine pt_skip rfl rfl rfl rfl ?_ | (refine pt_take rfl rfl rfl rfl ?_; apply Exists.intro; refine ⟨fun w' hw' => ?_, ?_⟩; focus ((repeat (first | go_skip | go_guarded | go_step | go_upon | go_back)); exact ⟨rfl, rfl, rfl⟩))
    change Exit.then _ _ Exit.normal _ _
    clear f_zB13
    have lq6 := Blk.lt f_q13
    go_upto_region 6 with (fail)
    have e0 : y13.cell? ⟨gq, 0, none⟩ = some (.int .i64 (ix : Int)) := Blk.cell f_q13 (j := 0) rfl
    have e2 : y13.cell? ⟨gq, 2, none⟩ = some (.slice B 2 d) := Blk.cell f_q13 (j := 2) rfl
    have HC14 := Lib.hid (rclimb_yes _ D PP 2 ix y13 f_p13 HDL.out (by decide) (by omega) f_k13 f_in13)
    go_wp2_with (first | (refine wp_run rfl (exec_loadA 25 rfl gd rfl 25 _ 32 5 h13 Tryd.underlying25 (by rw [info_dig, HUD.out])) ?_))
    refine HC14.out.mono ?_
    rintro e v14 ⟨rfl, b14⟩
    clear e0 e2
    have f_r14 := f_r13.past b14 f_r13.lt
    have f_q14 := f_q13.past b14 f_q13.lt
    have f_m14 := f_m13.past b14
    have f_k14 := f_k13.past b14
    have f_in14 := f_in13.past b14
    have f_bel14 := f_bel13.trans (b14.mono f_bel13.size)
    have f_p14 := f_p13.past b14
    have f_c14 := f_c13.past b14
    have f_d14 := h13.past b14 h13.lt
    clear f_r13 f_q13 f_m13 f_k13 f_in13 f_bel13 f_p13 f_c13 h13 HC14 b14
    obtain ⟨X, hX⟩ : ∃ X, X = Kt.climb D ix PP 2 := ⟨_, rfl⟩
    have HX := Lib.hid hX
    have HXL := Lib.hid (show X.length = 32 by rw [hX, Kt.climb_len HDL.out])
    have HUX := Lib.hid (show (u8s X).length = 32 by rw [u8s_length, HXL.out])
    rw [← hX]
    clear hX
    have x15 := Blk.new v14 25 (u8s z32)
    have bx15 : Below v14.heap.size v14 (v14.alloc (.cells (u8s z32).toArray 25)) := (Below.refl _ _).alloc (Nat.le_refl _) _
    go_upto_region 7 with (refine wp_storeA 25 (.tmp 9) (.tmp 48) rfl rfl v14.heap.size rfl 25 (u8s z32) _ rfl x15 (by rw [info_dig, HUX.out]) (by first | (rw [HUX.out]; rfl) | rfl) (u8s_one _) rfl ?_; intro y15 h15 k15)
    have bb15 : Below v14.heap.size v14 y15 := ((Keep.of_below bx15).trans (k15.mono (O' := fun q => q < v14.heap.size) (fun q hq => by omega))).below (fun q hq => hq) (Nat.le_refl _)
    have f_r15 := f_r14.past bb15 f_r14.lt
    have f_q15 := f_q14.past bb15 f_q14.lt
    have f_m15 := f_m14.past bb15
    have f_k15 := f_k14.past bb15
    have f_in15 := f_in14.past bb15
    have f_bel15 := f_bel14.trans (bb15.mono f_bel14.size)
    have f_p15 := f_p14.past bb15
    have f_c15 := f_c14.past bb15
    have f_d15 := f_d14.past bb15 f_d14.lt
    clear f_r14 f_q14 f_m14 f_k14 f_in14 f_bel14 f_p14 f_c14 f_d14 x15 bx15 k15 bb15
    obtain ⟨gx, hgx⟩ : ∃ g, g = v14.heap.size := ⟨_, rfl⟩
    rw [← hgx] at h15 ⊢
    clear hgx
    obtain ⟨Q, hQ⟩ : ∃ Q, (X == r) = Q := ⟨_, rfl⟩
    have HQ := Lib.hid hQ
    have HRES := Lib.hid (show (Kt.climb (Wt.rec_ (msgD l) C) ix PP 2 == r) = Q by rw [← hQ, HX.out, HD.out, HMD.out])
    clear hQ hz
    go_wp2_with (first
      | (refine wp_run rfl (exec_loadA 25 rfl gx rfl 25 _ 32 5 h15 Tryd.underlying25 (by rw [info_dig, HUX.out])) ?_)
      | (refine wp_run rfl (exec_loadA 25 rfl gr rfl 25 _ 32 5 f_r15 Tryd.underlying25 (by rw [info_dig, HUR.out])) ?_)
      | (refine wp_run rfl (exec_eqB rfl X r rfl rfl HXL.out HR.out Q HQ.out _) ?_))
    go_ret
    rw [HGR.out] at *
    rw [HRES.out]
    exact ⟨rfl, f_bel15⟩
end Go.Proofs.YtccepoeenkpifaaDoor
