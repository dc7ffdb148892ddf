/-
  The laws' own check of layer 5: the chapter's examples.
-/
import Derived.Test.YtccepoeenkpifaaDoorKtE
import Derived.Test.YtccepoeenkpifaaDoorKtI
namespace Go.Proofs.YtccepoeenkpifaaDoor
open Go.RowKit
set_option linter.unusedVariables false
set_option linter.unusedSimpArgs false

def dga : List UInt8 := [1, 0, 0, 0, 0, 0, 0, 0, 0, 0, 0, 0, 0, 0, 0, 0, 0, 0, 0, 0, 0, 0, 0, 0, 0, 0, 0, 0, 0, 0, 0, 0]
def dgb : List UInt8 := [2, 0, 0, 0, 0, 0, 0, 0, 0, 0, 0, 0, 0, 0, 0, 0, 0, 0, 0, 0, 0, 0, 0, 0, 0, 0, 0, 0, 0, 0, 0, 0]
theorem build_a (w : World) : (Instr.build 25 #[(0, .int .u8 1)]).run Tryd.prog w = .ok (.agg (u8s dga).toArray) w := by kernel_rfl
theorem build_b (w : World) : (Instr.build 25 #[(0, .int .u8 2)]).run Tryd.prog w = .ok (.agg (u8s dgb).toArray) w := by kernel_rfl

theorem exec_build1 {P : Program} {o : Oper} {a : Act} (ty : TypeId) (x : Operand) (ho : o.op = .build ty #[(0, x)]) (u v : Value) (hx : a.eval x = u) (w : World) (hr : (Instr.build ty #[(0, u)]).run P w = .ok v w) : (execOp a.eval o).run P w = .ok (.value v) w := by
  unfold execOp
  have e : (#[(0, x)] : Array (Nat × Operand)).map (fun (i, x) => (i, a.eval x)) = #[(0, u)] := by simp [hx]
  simp only [ho, e, Sem.run_bind, hr, Result.andThen_ok, Sem.run_pure]

theorem exec_buildD {o : Oper} {a : Act} {w : World} (x : Operand) (ho : o.op = .buildSlice 29 1 #[(0, x)]) (D : List UInt8) (hD : D.length = 32) (hx : a.eval x = .agg (u8s D).toArray) :
    (execOp a.eval o).run Tryd.prog w = .ok (.value (.slice (some ⟨w.heap.size, 0, none⟩) 1 1)) (w.alloc (.cells (u8s D).toArray 25)) := by
  unfold execOp
  have e : (#[(0, x)] : Array (Nat × Operand)).map (fun (i, x) => (i, a.eval x)) = #[(0, .agg (u8s D).toArray)] := by simp [hx]
  simp only [ho, e, Sem.run_bind, run_buildD D hD w, Result.andThen_ok, Sem.run_pure]

theorem fill_two (cs ds zs : Array Value) (hc : cs.size = 32) (hd : ds.size = 32) (hz : zs.size = 64) : Instr.fill (fun i => some (i * 32, 32)) zs [(0, .agg cs), (1, .agg ds)] = some (cs ++ ds) := by
  have h := Great.fill_whole (s := 32) (by decide) [.agg cs, .agg ds] zs (fun v hv => by simp at hv; rcases hv with rfl | rfl <;> assumption) (by simp [hz])
  simp [Value.cells] at h
  rw [h]
  simp
/-- A slice literal of two digests. -/
theorem run_buildD2 (D E : List UInt8) (hD : D.length = 32) (hE : E.length = 32) (w : World) : (Instr.buildSlice 29 2 #[(0, .agg (u8s D).toArray), (1, .agg (u8s E).toArray)]).run Tryd.prog w = .ok (.slice (some ⟨w.heap.size, 0, none⟩) 2 2) (w.alloc (.cells (u8s (D ++ E)).toArray 25)) := by
  obtain ⟨i0, hi, hz0, hz1, hz2⟩ := info_parts info_dg
  refine run_buildSlice w 29 25 2 _ (u8s (D ++ E)).toArray i0 (.agg (u8s z32).toArray) Tryd.underlying29 hi hz0 (by rw [hz1]; decide) (by rw [hz1]; decide) ?_
  rw [hz1, u8s_append, ← List.append_toArray]
  exact fill_two _ _ _ (by simp [u8s_length, hD]) (by simp [u8s_length, hE]) (by simp)
theorem wp_buildD2 {ops : Array Oper} {rest : List Oper} {o : Oper} {a : Act} {Q : Exit → Act → World → Prop} {w : World} (x y : Operand) (ho : o.op = .buildSlice 29 2 #[(0, x), (1, y)]) (hgd : o.guard = none) (D E : List UInt8) (hD : D.length = 32) (hE : E.length = 32) (hx : a.eval x = .agg (u8s D).toArray) (hy : a.eval y = .agg (u8s E).toArray)
    (h : wpList Tryd.prog ops Q rest (a.put o.dst (.slice (some ⟨w.heap.size, 0, none⟩) 2 2)) (w.alloc (.cells (u8s (D ++ E)).toArray 25))) : wpList Tryd.prog ops Q (o :: rest) a w := by
  refine wpList_plain hgd fun K hK => ?_
  unfold Oper.wp execOp
  have e : (#[(0, x), (1, y)] : Array (Nat × Operand)).map (fun (i, x) => (i, a.eval x)) = #[(0, .agg (u8s D).toArray), (1, .agg (u8s E).toArray)] := by simp [hx, hy]
  simp only [ho, e, Sem.run_bind, run_buildD2 D E hD hE w, Result.andThen_ok]
  exact hK _ _ h

theorem pth_ab : Kt.pth (dga ++ dgb) 1 1 = dga := by decide +kernel
theorem el_dga : Wt.el dga 0 = dga := by decide +kernel
theorem climb_ab : Kt.climb dgb 1 dga 1 = Sha.tag Sha.pairT (dga ++ dgb) := by
  have h : Kt.climb dgb 1 dga 1 = Kt.stp dgb (Wt.el dga 0) 1 := rfl
  rw [h, el_dga]; rfl

set_option maxRecDepth 100000 in
set_option maxHeartbeats 2000000 in
theorem sane_any (w : World) (hk : KIs 1 w) : Calls Tryd.prog 11 #[] w fun e w' => e = .returned (.bool true) ∧ Below w.heap.size w w' := by
  have hz := zero_dig
  have hba := build_a
  have hbb := build_b
  obtain ⟨a, ha⟩ : ∃ a, a = dga := ⟨_, rfl⟩
  obtain ⟨b, hb⟩ : ∃ b, b = dgb := ⟨_, rfl⟩
  rw [← ha] at hba
  rw [← hb] at hbb
  have HA := Lib.hid ha
  have HB := Lib.hid hb
  have HAL := Lib.hid (show a.length = 32 by rw [ha]; rfl)
  have HBL := Lib.hid (show b.length = 32 by rw [hb]; rfl)
  have HUA := Lib.hid (show (u8s a).length = 32 by rw [u8s_length, HAL.out])
  have HUB := Lib.hid (show (u8s b).length = 32 by rw [u8s_length, HBL.out])
  have xa := (Blk.new w 25 (u8s z32)).past ((Below.refl _ _).alloc (Nat.le_refl _) (.cells (u8s z32).toArray 25)) (by simp)
  have xb := Blk.new (w.alloc (.cells (u8s z32).toArray 25)) 25 (u8s z32)
  rw [World.size_alloc] at xb
  have b0 : Below w.heap.size w ((w.alloc (.cells (u8s z32).toArray 25)).alloc (.cells (u8s z32).toArray 25)) := ((Below.refl _ _).alloc (Nat.le_refl _) _).alloc (by simp) _
  clear ha hb
  go_enter Tryd.func11, Tryd.ntmps11
  go_upto_region 2 with (first
    | (refine wp_run rfl (exec_build1 25 (.const (.int .u8 1)) rfl _ _ rfl _ (hba _)) ?_)
    | (refine wp_run rfl (exec_build1 25 (.const (.int .u8 2)) rfl _ _ rfl _ (hbb _)) ?_)
    | (refine wp_storeA 25 (.tmp 1) (.tmp 11) rfl rfl w.heap.size rfl 25 (u8s z32) (u8s a) rfl xa (by rw [info_dig, HUA.out]) (by rw [HUA.out]; rfl) (u8s_one _) rfl ?_; intro w1 xa1 k1; have xb1 := xb.keep k1 (by omega); have b1 := b0.trans (k1.below (fun q hq => by omega) b0.size))
    | (refine wp_storeA 25 (.tmp 2) (.tmp 12) rfl rfl (w.heap.size + 1) rfl 25 (u8s z32) (u8s b) rfl xb1 (by rw [info_dig, HUB.out]) (by rw [HUB.out]; rfl) (u8s_one _) rfl ?_; intro w2 xb2 k2; have xa2 := xa1.keep k2 (by omega); have b2 := b1.trans (k2.below (fun q hq => by omega) b1.size)))
  have hk2 := hk.past b2
  obtain ⟨ga, hga⟩ : ∃ g, g = w.heap.size := ⟨_, rfl⟩
  obtain ⟨gb, hgb⟩ : ∃ g, g = w.heap.size + 1 := ⟨_, rfl⟩
  rw [← hgb] at xb2 ⊢
  rw [← hga] at xa2
  have HGA := Lib.hid hga
  clear hgb xa xb b0 xa1 xb1 k1 b1 k2 hba hbb
  have o3 : Below w2.heap.size w2 (w2.alloc (.cells (u8s (a ++ b)).toArray 25)) := (Below.refl _ _).alloc (Nat.le_refl _) _
  have r3 : Row (w2.alloc (.cells (u8s (a ++ b)).toArray 25)) (w2.alloc (.cells (u8s (a ++ b)).toArray 25)).heap.size 32 (2 ^ 1) (.slice (some ⟨w2.heap.size, 0, none⟩) 2 2) (u8s (a ++ b)) := row_of_blkS (Blk.new w2 25 (u8s (a ++ b))) (by simp) (by rw [u8s_length, List.length_append, HAL.out, HBL.out]) (by decide)
  have hp3 := path_yes _ (a ++ b) 1 1 _ r3 (by decide) (by decide) (hk2.past o3)
  rw [show Kt.pth (a ++ b) 1 1 = a by rw [HA.out, HB.out, pth_ab]] at hp3
  have HP3 := Lib.hid hp3
  clear hp3 r3
  rw [← hga]
  clear hga
  go_wp2_with (first
    | (refine wp_run rfl (exec_loadA 25 rfl ga rfl 25 _ 32 5 xa2 Tryd.underlying25 (by rw [info_dig, HUA.out])) ?_)
    | (refine wp_run rfl (exec_loadA 25 rfl gb rfl 25 _ 32 5 xb2 Tryd.underlying25 (by rw [info_dig, HUB.out])) ?_)
    | (refine wp_buildD2 (.tmp 14) (.tmp 15) rfl rfl a b HAL.out HBL.out rfl rfl ?_))
  refine HP3.out.mono ?_
  rintro e w3 ⟨p, rfl, rp3, b3⟩
  have b23 := o3.trans (b3.mono o3.size)
  have f_a3 := xa2.past b23 xa2.lt
  have f_b3 := xb2.past b23 xb2.lt
  have f_k3 := hk2.past b23
  have f_bel3 := b2.trans (b23.mono b2.size)
  clear xa2 xb2 hk2 b2 HP3 o3 b3 b23
  have hc4 := climb_yes p b a 1 1 w3 rp3 HBL.out (by decide) (by decide) f_k3
  rw [show Kt.climb b 1 a 1 = Sha.tag Sha.pairT (a ++ b) by rw [HA.out, HB.out, climb_ab]] at hc4
  have HC4 := Lib.hid (hc4)
  go_wp2_with (first | (refine wp_run rfl (exec_loadA 25 rfl gb rfl 25 _ 32 5 f_b3 Tryd.underlying25 (by rw [info_dig, HUB.out])) ?_))
  refine HC4.out.mono ?_
  rintro e v4 ⟨rfl, b4⟩
  clear hc4
  have f_a4 := f_a3.past b4 f_a3.lt
  have f_b4 := f_b3.past b4 f_b3.lt
  have f_k4 := f_k3.past b4
  have f_bel4 := f_bel3.trans (b4.mono f_bel3.size)
  have f_p4 := rp3.past b4
  clear f_a3 f_b3 f_k3 f_bel3 rp3 HC4 b4
  obtain ⟨x, hx⟩ : ∃ x, x = Sha.tag Sha.pairT (a ++ b) := ⟨_, rfl⟩
  rw [← hx]
  have HX := Lib.hid hx
  have HXL := Lib.hid (show x.length = 32 by rw [hx, Sha.tag_len])
  have HUX := Lib.hid (show (u8s x).length = 32 by rw [u8s_length, HXL.out])
  clear hx
  have x5 := Blk.new v4 25 (u8s z32)
  have bx5 : Below v4.heap.size v4 (v4.alloc (.cells (u8s z32).toArray 25)) := (Below.refl _ _).alloc (Nat.le_refl _) _
  go_upto_region 4 with (refine wp_storeA 25 (.tmp 5) (.tmp 24) rfl rfl v4.heap.size rfl 25 (u8s z32) _ rfl x5 (by rw [info_dig, HUX.out]) (by first | (rw [HUX.out]; rfl) | rfl) (u8s_one _) rfl ?_; intro y5 h5 k5)
  have bb5 : Below v4.heap.size v4 y5 := ((Keep.of_below bx5).trans (k5.mono (O' := fun q => q < v4.heap.size) (fun q hq => by omega))).below (fun q hq => hq) (Nat.le_refl _)
  have f_a5 := f_a4.past bb5 f_a4.lt
  have f_b5 := f_b4.past bb5 f_b4.lt
  have f_k5 := f_k4.past bb5
  have f_bel5 := f_bel4.trans (bb5.mono f_bel4.size)
  have f_p5 := f_p4.past bb5
  clear f_a4 f_b4 f_k4 f_bel4 f_p4 x5 bx5 k5 bb5
  obtain ⟨gx, hgx⟩ : ∃ g, g = v4.heap.size := ⟨_, rfl⟩
  rw [← hgx] at h5 ⊢
  clear hgx
  have hc5 := climb_yes (.slice none 0 0) a [] 0 0 y5 (Row.nil_ _ _ _) HAL.out (by decide) (by decide) f_k5
  rw [show Kt.climb a 0 [] 0 = a from rfl] at hc5
  have HC6 := Lib.hid (hc5)
  go_wp2_with (first | (refine wp_run rfl (exec_loadA 25 rfl ga rfl 25 _ 32 5 f_a5 Tryd.underlying25 (by rw [info_dig, HUA.out])) ?_))
  refine HC6.out.mono ?_
  rintro e v6 ⟨rfl, b6⟩
  clear hc5
  have f_a6 := f_a5.past b6 f_a5.lt
  have f_b6 := f_b5.past b6 f_b5.lt
  have f_k6 := f_k5.past b6
  have f_bel6 := f_bel5.trans (b6.mono f_bel5.size)
  have f_p6 := f_p5.past b6
  have f_x6 := h5.past b6 h5.lt
  clear f_a5 f_b5 f_k5 f_bel5 f_p5 h5 HC6 b6
  have x7 := Blk.new v6 25 (u8s z32)
  have bx7 : Below v6.heap.size v6 (v6.alloc (.cells (u8s z32).toArray 25)) := (Below.refl _ _).alloc (Nat.le_refl _) _
  go_upto_region 5 with (refine wp_storeA 25 (.tmp 7) (.tmp 29) rfl rfl v6.heap.size rfl 25 (u8s z32) _ rfl x7 (by rw [info_dig, HUA.out]) (by first | (rw [HUA.out]; rfl) | rfl) (u8s_one _) rfl ?_; intro y7 h7 k7)
  have bb7 : Below v6.heap.size v6 y7 := ((Keep.of_below bx7).trans (k7.mono (O' := fun q => q < v6.heap.size) (fun q hq => by omega))).below (fun q hq => hq) (Nat.le_refl _)
  have f_a7 := f_a6.past bb7 f_a6.lt
  have f_b7 := f_b6.past bb7 f_b6.lt
  have f_k7 := f_k6.past bb7
  have f_bel7 := f_bel6.trans (bb7.mono f_bel6.size)
  have f_p7 := f_p6.past bb7
  have f_x7 := f_x6.past bb7 f_x6.lt
  clear f_a6 f_b6 f_k6 f_bel6 f_p6 f_x6 x7 bx7 k7 bb7
  obtain ⟨gy, hgy⟩ : ∃ g, g = v6.heap.size := ⟨_, rfl⟩
  rw [← hgy] at h7 ⊢
  clear hgy
  have hc6 := climb_no (.slice none 0 0) a [] 0 1 y7 (Row.nil_ _ _ _) HAL.out (by decide) (by decide) (by decide) (by decide)
  have HC8 := Lib.hid (hc6)
  go_wp2_with (first | (refine wp_run rfl (exec_loadA 25 rfl ga rfl 25 _ 32 5 f_a7 Tryd.underlying25 (by rw [info_dig, HUA.out])) ?_))
  refine HC8.out.mono ?_
  rintro e v8 ⟨rfl, b8⟩
  clear hc6
  have f_a8 := f_a7.past b8 f_a7.lt
  have f_b8 := f_b7.past b8 f_b7.lt
  have f_k8 := f_k7.past b8
  have f_bel8 := f_bel7.trans (b8.mono f_bel7.size)
  have f_p8 := f_p7.past b8
  have f_x8 := f_x7.past b8 f_x7.lt
  have f_y8 := h7.past b8 h7.lt
  clear f_a7 f_b7 f_k7 f_bel7 f_p7 f_x7 h7 HC8 b8
  have HUZ : Hid ((u8s z32).length = 32) := Lib.hid rfl
  have x9 := Blk.new v8 25 (u8s z32)
  have bx9 : Below v8.heap.size v8 (v8.alloc (.cells (u8s z32).toArray 25)) := (Below.refl _ _).alloc (Nat.le_refl _) _
  go_upto_region 6 with (refine wp_storeA 25 (.tmp 9) (.tmp 34) rfl rfl v8.heap.size rfl 25 (u8s z32) _ rfl x9 (by rw [info_dig, HUZ.out]) (by first | (rw [HUZ.out]; rfl) | rfl) (u8s_one _) rfl ?_; intro y9 h9 k9)
  have bb9 : Below v8.heap.size v8 y9 := ((Keep.of_below bx9).trans (k9.mono (O' := fun q => q < v8.heap.size) (fun q hq => by omega))).below (fun q hq => hq) (Nat.le_refl _)
  have f_a9 := f_a8.past bb9 f_a8.lt
  have f_b9 := f_b8.past bb9 f_b8.lt
  have f_k9 := f_k8.past bb9
  have f_bel9 := f_bel8.trans (bb9.mono f_bel8.size)
  have f_p9 := f_p8.past bb9
  have f_x9 := f_x8.past bb9 f_x8.lt
  have f_y9 := f_y8.past bb9 f_y8.lt
  clear f_a8 f_b8 f_k8 f_bel8 f_p8 f_x8 f_y8 x9 bx9 k9 bb9
  obtain ⟨gz, hgz⟩ : ∃ g, g = v8.heap.size := ⟨_, rfl⟩
  rw [← hgz] at h9 ⊢
  clear hgz
  clear h9
  clear hz
  have lt_a := f_a9.lt
  have lt_b := f_b9.lt
  have lt_x := f_x9.lt
  have lt_y := f_y9.lt
  refine wp_region_pt y9.heap.size (.take 0 (.take 1 (.take 2 (.take 3 (.take 4 (.step 5 (.step 6 (.take 7 (.take 8 (.take 9 (.take 10 (.take 11 (.take 12 (.take 13 (.take 14 (.take 15 (.step 16 (.take 17 (.take 18 (.take 19 (.take 20 (.take 21 (.take 22 (.take 23 (.take 24 (.take 25 (.take 26 (.take 27 (.take 28 (.take 29 (.take 30 (.take 31 (.take 32 .done))))))))))))))))))))))))))))))))) (by kernel_rfl) (by kernel_rfl) (by kernel_rfl) (fun _ _ h => h) ?_
  have bd : Below y9.heap.size y9 y9.drew := (Below.refl _ _).drew
  have sz : y9.heap.size ≤ y9.drew.heap.size := bd.size
  have f_a10 := f_a9.past bd f_a9.lt
  have f_b10 := f_b9.past bd f_b9.lt
  have f_k10 := f_k9.past bd
  have f_bel10 := f_bel9.trans (bd.mono f_bel9.size)
  have f_p10 := f_p9.past bd
  have f_x10 := f_x9.past bd f_x9.lt
  have f_y10 := f_y9.past bd f_y9.lt
  clear f_a9 f_b9 f_k9 f_bel9 f_p9 f_x9 f_y9
  obtain ⟨u0, hu0⟩ : ∃ u, u = y9.drew := ⟨_, rfl⟩
  rw [← hu0] at f_a10 f_b10 f_k10 f_bel10 f_p10 f_x10 f_y10 sz bd ⊢
  clear hu0
  first | refine pt_skip rfl rfl rfl rfl ?_ | (refine pt_take rfl rfl rfl rfl ?_; apply Exists.intro; refine ⟨fun w' hw' => ?_, ?_⟩; focus ((repeat (first | go_skip | go_guarded | go_step | go_upon | go_back)); exact ⟨rfl, rfl, rfl⟩))
  first | refine pt_skip rfl rfl rfl rfl ?_ | (refine pt_take rfl rfl rfl rfl ?_; apply Exists.intro; refine ⟨fun w' hw' => ?_, ?_⟩; focus ((repeat (first | go_skip | go_guarded | go_step | go_upon | go_back)); exact ⟨rfl, rfl, rfl⟩))
  first | refine pt_skip rfl rfl rfl rfl ?_ | (refine pt_take rfl rfl rfl rfl ?_; apply Exists.intro; refine ⟨fun w' hw' => ?_, ?_⟩; focus ((repeat (first | go_skip | go_guarded | go_step | go_upon | go_back)); exact ⟨rfl, rfl, rfl⟩))
  first | refine pt_skip rfl rfl rfl rfl ?_ | (refine pt_take rfl rfl rfl rfl ?_; apply Exists.intro; refine ⟨fun w' hw' => ?_, ?_⟩; focus ((repeat (first | go_skip | go_guarded | go_step | go_upon | go_back)); exact ⟨rfl, rfl, rfl⟩))
  refine pt_take rfl rfl rfl rfl ?_
  apply Exists.intro
  refine ⟨fun w' hw' => ?_, ?_⟩
  · refine wp_run rfl (exec_loadA 25 rfl _ rfl 25 _ 32 5 (f_a10.past hw' lt_a) Tryd.underlying25 (by rw [info_dig, HUA.out])) ?_
    exact ⟨rfl, rfl, rfl⟩
  refine pt_step rfl ?_
  refine wp_run rfl (exec_buildD (.tmp 40) rfl a HAL.out rfl) ?_
  go_wp2_with fail
  have b1 : Below u0.heap.size u0 (u0.alloc (.cells (u8s a).toArray 25)) := (Below.refl _ _).alloc (Nat.le_refl _) _
  have ra1 := row_of_blkS (s := 32) (n := 1) (B := (u0.alloc (.cells (u8s a).toArray 25)).heap.size) (Blk.new u0 25 (u8s a)) (by simp) (by rw [HUA.out]) (by decide)
  refine ⟨rfl, b1.mono sz, ?_⟩
  have z1 := Nat.le_trans sz b1.size
  have f_a11 := f_a10.past b1 f_a10.lt
  have f_b11 := f_b10.past b1 f_b10.lt
  have f_k11 := f_k10.past b1
  have f_bel11 := f_bel10.trans (b1.mono f_bel10.size)
  have f_p11 := f_p10.past b1
  have f_x11 := f_x10.past b1 f_x10.lt
  have f_y11 := f_y10.past b1 f_y10.lt
  clear f_a10 f_b10 f_k10 f_bel10 f_p10 f_x10 f_y10 b1
  have hdg := digests_any p _ a a 1 1 _ f_p11 ra1 (by decide) (by decide)
  rw [beq_self_eq_true] at hdg
  have HDG := Lib.hid hdg
  clear hdg ra1
  refine pt_step rfl ?_
  go_wp2_with fail
  refine HDG.out.mono ?_
  rintro e u2 ⟨rfl, c2⟩
  go_wp2_with fail
  refine ⟨rfl, c2.mono z1, ?_⟩
  have z2 := Nat.le_trans z1 c2.size
  have f_a12 := f_a11.past c2 f_a11.lt
  have f_b12 := f_b11.past c2 f_b11.lt
  have f_k12 := f_k11.past c2
  have f_bel12 := f_bel11.trans (c2.mono f_bel11.size)
  have f_p12 := f_p11.past c2
  have f_x12 := f_x11.past c2 f_x11.lt
  have f_y12 := f_y11.past c2 f_y11.lt
  clear f_a11 f_b11 f_k11 f_bel11 f_p11 f_x11 f_y11 c2 HDG
  first | refine pt_skip rfl rfl rfl rfl ?_ | (refine pt_take rfl rfl rfl rfl ?_; apply Exists.intro; refine ⟨fun w' hw' => ?_, ?_⟩; focus ((repeat (first | go_skip | go_guarded | go_step | go_upon | go_back)); exact ⟨rfl, rfl, rfl⟩))
  first | refine pt_skip rfl rfl rfl rfl ?_ | (refine pt_take rfl rfl rfl rfl ?_; apply Exists.intro; refine ⟨fun w' hw' => ?_, ?_⟩; focus ((repeat (first | go_skip | go_guarded | go_step | go_upon | go_back)); exact ⟨rfl, rfl, rfl⟩))
  first | refine pt_skip rfl rfl rfl rfl ?_ | (refine pt_take rfl rfl rfl rfl ?_; apply Exists.intro; refine ⟨fun w' hw' => ?_, ?_⟩; focus ((repeat (first | go_skip | go_guarded | go_step | go_upon | go_back)); exact ⟨rfl, rfl, rfl⟩))
  first | refine pt_skip rfl rfl rfl rfl ?_ | (refine pt_take rfl rfl rfl rfl ?_; apply Exists.intro; refine ⟨fun w' hw' => ?_, ?_⟩; focus ((repeat (first | go_skip | go_guarded | go_step | go_upon | go_back)); exact ⟨rfl, rfl, rfl⟩))
  first | refine pt_skip rfl rfl rfl rfl ?_ | (refine pt_take rfl rfl rfl rfl ?_; apply Exists.intro; refine ⟨fun w' hw' => ?_, ?_⟩; focus ((repeat (first | go_skip | go_guarded | go_step | go_upon | go_back)); exact ⟨rfl, rfl, rfl⟩))
  first | refine pt_skip rfl rfl rfl rfl ?_ | (refine pt_take rfl rfl rfl rfl ?_; apply Exists.intro; refine ⟨fun w' hw' => ?_, ?_⟩; focus ((repeat (first | go_skip | go_guarded | go_step | go_upon | go_back)); exact ⟨rfl, rfl, rfl⟩))
  refine pt_take rfl rfl rfl rfl ?_
  apply Exists.intro
  refine ⟨fun w' hw' => ?_, ?_⟩
  · refine wp_run rfl (exec_loadA 25 rfl _ rfl 25 _ 32 5 (f_x12.past hw' lt_x) Tryd.underlying25 (by rw [info_dig, HUX.out])) ?_
    exact ⟨rfl, rfl, rfl⟩
  refine pt_take rfl rfl rfl rfl ?_
  apply Exists.intro
  refine ⟨fun w' hw' => ?_, ?_⟩
  · refine wp_run rfl (exec_loadA 25 rfl _ rfl 25 _ 32 5 (f_a12.past hw' lt_a) Tryd.underlying25 (by rw [info_dig, HUA.out])) ?_
    exact ⟨rfl, rfl, rfl⟩
  refine pt_take rfl rfl rfl rfl ?_
  apply Exists.intro
  refine ⟨fun w' hw' => ?_, ?_⟩
  · refine wp_run rfl (exec_loadA 25 rfl _ rfl 25 _ 32 5 (f_b12.past hw' lt_b) Tryd.underlying25 (by rw [info_dig, HUB.out])) ?_
    exact ⟨rfl, rfl, rfl⟩
  have HPR := Lib.hid (pair_any a b u2 HAL.out HBL.out f_k12)
  refine pt_step rfl ?_
  go_wp2_with fail
  refine HPR.out.mono ?_
  rintro e u3 ⟨rfl, c3⟩
  rw [← HX.out]
  go_wp2_with fail
  refine ⟨rfl, c3.mono z2, ?_⟩
  have f_a13 := f_a12.past c3 f_a12.lt
  have f_b13 := f_b12.past c3 f_b12.lt
  have f_k13 := f_k12.past c3
  have f_bel13 := f_bel12.trans (c3.mono f_bel12.size)
  have f_p13 := f_p12.past c3
  have f_x13 := f_x12.past c3 f_x12.lt
  have f_y13 := f_y12.past c3 f_y12.lt
  clear f_a12 f_b12 f_k12 f_bel12 f_p12 f_x12 f_y12 c3 HPR
  refine pt_take rfl rfl rfl rfl ?_
  apply Exists.intro
  refine ⟨fun w' hw' => ?_, ?_⟩
  · refine wp_run rfl (exec_eqB rfl x x rfl rfl HXL.out HXL.out true (beq_self_eq_true _) w') ?_
    exact ⟨rfl, rfl, rfl⟩
  first | refine pt_skip rfl rfl rfl rfl ?_ | (refine pt_take rfl rfl rfl rfl ?_; apply Exists.intro; refine ⟨fun w' hw' => ?_, ?_⟩; focus ((repeat (first | go_skip | go_guarded | go_step | go_upon | go_back)); exact ⟨rfl, rfl, rfl⟩))
  first | refine pt_skip rfl rfl rfl rfl ?_ | (refine pt_take rfl rfl rfl rfl ?_; apply Exists.intro; refine ⟨fun w' hw' => ?_, ?_⟩; focus ((repeat (first | go_skip | go_guarded | go_step | go_upon | go_back)); exact ⟨rfl, rfl, rfl⟩))
  first | refine pt_skip rfl rfl rfl rfl ?_ | (refine pt_take rfl rfl rfl rfl ?_; apply Exists.intro; refine ⟨fun w' hw' => ?_, ?_⟩; focus ((repeat (first | go_skip | go_guarded | go_step | go_upon | go_back)); exact ⟨rfl, rfl, rfl⟩))
  first | refine pt_skip rfl rfl rfl rfl ?_ | (refine pt_take rfl rfl rfl rfl ?_; apply Exists.intro; refine ⟨fun w' hw' => ?_, ?_⟩; focus ((repeat (first | go_skip | go_guarded | go_step | go_upon | go_back)); exact ⟨rfl, rfl, rfl⟩))
  first | refine pt_skip rfl rfl rfl rfl ?_ | (refine pt_take rfl rfl rfl rfl ?_; apply Exists.intro; refine ⟨fun w' hw' => ?_, ?_⟩; focus ((repeat (first | go_skip | go_guarded | go_step | go_upon | go_back)); exact ⟨rfl, rfl, rfl⟩))
  first | refine pt_skip rfl rfl rfl rfl ?_ | (refine pt_take rfl rfl rfl rfl ?_; apply Exists.intro; refine ⟨fun w' hw' => ?_, ?_⟩; focus ((repeat (first | go_skip | go_guarded | go_step | go_upon | go_back)); exact ⟨rfl, rfl, rfl⟩))
  refine pt_take rfl rfl rfl rfl ?_
  apply Exists.intro
  refine ⟨fun w' hw' => ?_, ?_⟩
  · refine wp_run rfl (exec_loadA 25 rfl _ rfl 25 _ 32 5 (f_y13.past hw' lt_y) Tryd.underlying25 (by rw [info_dig, HUA.out])) ?_
    exact ⟨rfl, rfl, rfl⟩
  refine pt_take rfl rfl rfl rfl ?_
  apply Exists.intro
  refine ⟨fun w' hw' => ?_, ?_⟩
  · refine wp_run rfl (exec_loadA 25 rfl _ rfl 25 _ 32 5 (f_a13.past hw' lt_a) Tryd.underlying25 (by rw [info_dig, HUA.out])) ?_
    exact ⟨rfl, rfl, rfl⟩
  refine pt_take rfl rfl rfl rfl ?_
  apply Exists.intro
  refine ⟨fun w' hw' => ?_, ?_⟩
  · refine wp_run rfl (exec_eqB rfl a a rfl rfl HAL.out HAL.out true (beq_self_eq_true _) w') ?_
    exact ⟨rfl, rfl, rfl⟩
  first | refine pt_skip rfl rfl rfl rfl ?_ | (refine pt_take rfl rfl rfl rfl ?_; apply Exists.intro; refine ⟨fun w' hw' => ?_, ?_⟩; focus ((repeat (first | go_skip | go_guarded | go_step | go_upon | go_back)); exact ⟨rfl, rfl, rfl⟩))
  first | refine pt_skip rfl rfl rfl rfl ?_ | (refine pt_take rfl rfl rfl rfl ?_; apply Exists.intro; refine ⟨fun w' hw' => ?_, ?_⟩; focus ((repeat (first | go_skip | go_guarded | go_step | go_upon | go_back)); exact ⟨rfl, rfl, rfl⟩))
  first | refine pt_skip rfl rfl rfl rfl ?_ | (refine pt_take rfl rfl rfl rfl ?_; apply Exists.intro; refine ⟨fun w' hw' => ?_, ?_⟩; focus ((repeat (first | go_skip | go_guarded | go_step | go_upon | go_back)); exact ⟨rfl, rfl, rfl⟩))
  first | refine pt_skip rfl rfl rfl rfl ?_ | (refine pt_take rfl rfl rfl rfl ?_; apply Exists.intro; refine ⟨fun w' hw' => ?_, ?_⟩; focus ((repeat (first | go_skip | go_guarded | go_step | go_upon | go_back)); exact ⟨rfl, rfl, rfl⟩))
  first | refine pt_skip rfl rfl rfl rfl ?_ | (refine pt_take rfl rfl rfl rfl ?_; apply Exists.intro; refine ⟨fun w' hw' => ?_, ?_⟩; focus ((repeat (first | go_skip | go_guarded | go_step | go_upon | go_back)); exact ⟨rfl, rfl, rfl⟩))
  first | refine pt_skip rfl rfl rfl rfl ?_ | (refine pt_take rfl rfl rfl rfl ?_; apply Exists.intro; refine ⟨fun w' hw' => ?_, ?_⟩; focus ((repeat (first | go_skip | go_guarded | go_step | go_upon | go_back)); exact ⟨rfl, rfl, rfl⟩))
  change Exit.then _ _ Exit.normal _ _
  go_wp2
  go_ret
  exact ⟨rfl, f_bel13⟩
end Go.Proofs.YtccepoeenkpifaaDoor
