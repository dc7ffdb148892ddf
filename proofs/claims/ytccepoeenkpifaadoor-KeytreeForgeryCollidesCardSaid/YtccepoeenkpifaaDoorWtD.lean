/-
  Walks of package wots: public keys.
  Walks of package wots: signatures.
-/
import Derived.Test.YtccepoeenkpifaaDoorWtA
namespace Go.Proofs.YtccepoeenkpifaaDoor
section
open Go.RowKit
set_option linter.unusedVariables false
set_option linter.unusedSimpArgs false

/-- The end of a function whose results are an array that lies in memory and a value. -/
theorem ret_arr_tmp {P : Program} {fn : Func} {p u : Tmp} {ty : TypeId} {Q : Ending → World → Prop} {a : Act} {w : World} (hr : fn.results = #[.cell p ty, .tmp u]) (hd : a.defers = []) (g : Nat) (t : TypeId) (l : List Value) (n : Nat) (e : TypeId)
    (hp : a.tmps.getD p undef = .pointer (some ⟨g, 0, none⟩)) (hg : Blk w g t l) (hu : P.underlying ty = some (.array n e)) (hi : (P.info? ty).map (·.size) = some l.length)
    (v : Value) (hv : a.tmps.getD u undef = v) (h : Q (.returned (.tuple #[.agg l.toArray, v])) w) : bodyPost P fn Q .ret a w := by
  refine bodyPost_ret (v := .tuple #[.agg l.toArray, v]) ?_ hd h
  subst hv
  have hp' : a.tmps[p]?.getD undef = .pointer (some ⟨g, 0, none⟩) := by simpa using hp
  simp [results, hr, hp', asAddr, run_loadVar_row w g t ty l.toArray (0, 0) _ hg hu rfl (by simpa using hi)]

set_option maxRecDepth 100000 in
set_option maxHeartbeats 1000000 in
theorem pubC_any (v : Value) (s : List UInt8) (ix i g1 g2 : Nat) (w : World) (hv : Bs w w.heap.size v s) (c1 : w.cell? ⟨g1, 0, none⟩ = some v) (c2 : w.cell? ⟨g2, 0, none⟩ = some (.int .i64 (ix : Int))) (hs : s.length ≤ 200) (hx : ix ≤ 1023) (hi : i < 18) (hk : KIs 1 w) :
    Calls Tryd.prog 50 #[.int .i64 i, .pointer (some ⟨g1, 0, none⟩), .pointer (some ⟨g2, 0, none⟩)] w fun e w' => e = .returned (.agg (u8s (Wt.pubE s ix i)).toArray) ∧ Below w.heap.size w w' := by
  obtain ⟨A, cap, rfl⟩ := hv.form
  have hz := zero_dig
  have h1 : Below w.heap.size w (w.alloc (.cells (u8s z32).toArray 25)) := (Below.refl _ _).alloc (Nat.le_refl _) _
  have hr1 : Blk (w.alloc (.cells (u8s z32).toArray 25)) w.heap.size 25 (u8s z32) := Blk.new w _ _
  obtain ⟨W1, hW1⟩ : ∃ W1, W1 = w.alloc (.cells (u8s z32).toArray 25) := ⟨_, rfl⟩
  rw [← hW1] at h1 hr1
  have HW := Lib.hid hW1
  have d1 := cell_past c1 h1
  have d2 := cell_past c2 h1
  have hk1 := hk.past h1
  have hc1 := start_any (.slice A s.length cap) s ix i W1 (hv.past h1) hs hx hi hk1
  have HC1 := Lib.hid hc1
  have HSL := Lib.hid (Wt.start_len s ix i)
  clear hW1 hc1 c1 c2 hv
  go_enter Tryd.func50, Tryd.ntmps50
  go_upto_region 1 with (fail)
  rw [← HW.out]
  go_wp2_with fail
  refine HC1.out.mono ?_
  rintro e w2 ⟨rfl, b2⟩
  have b02 := h1.trans (b2.mono h1.size)
  have hr2 := hr1.past b2 hr1.lt
  have hc2 := chain_any (Wt.start s ix i) 15 w2 HSL.out (by omega) (by omega) (hk.past b02)
  have HC2 := Lib.hid hc2
  clear HC1 hc2 hr1 d1 d2 b2 hz
  go_wp2_with fail
  refine HC2.out.mono ?_
  rintro e w3 ⟨rfl, b3⟩
  have b03 := b02.trans (b3.mono b02.size)
  have hr3 := hr2.past b3 hr2.lt
  have HRL : Hid ((u8s (Wt.pubE s ix i)).length = 32) := Lib.hid (by rw [u8s_length, Wt.pubE_len])
  clear HC2 hr2 b3 b02
  obtain ⟨D, hD⟩ : ∃ D, D = Wt.pubE s ix i := ⟨_, rfl⟩
  rw [← hD] at HRL
  have HD := Lib.hid (show Sha.chain (Wt.start s ix i) (15 : Int).toNat = D by rw [hD]; rfl)
  rw [HD.out]
  have HDD := Lib.hid hD
  clear hD
  go_wp2_with (refine wp_storeA 25 (.tmp 4) (.tmp 9) rfl rfl w.heap.size rfl 25 (u8s z32) _ rfl hr3 (by rw [info_dig, HRL.out]) (by rw [HRL.out]; rfl) (u8s_one _) rfl ?_; intro w8 hr8 hk8)
  have b08 : Below w.heap.size w w8 := b03.trans (hk8.below (fun q hq => by omega) b03.size)
  refine ret_arr Tryd.results50 rfl w.heap.size 25 _ 32 5 rfl hr8 Tryd.underlying25 (by rw [info_dig, HRL.out]) ?_
  rw [HDD.out]
  exact ⟨rfl, b08⟩

/-- Three blocks of a cell each, made one after the other. -/
theorem cell_box (w : World) (v : Value) (t : TypeId) : (w.alloc (.cells #[v] t)).cell? ⟨w.heap.size, 0, none⟩ = some v := by
  have h := Blk.new w t [v]
  exact h.cell (j := 0) rfl

set_option maxRecDepth 100000 in
set_option maxHeartbeats 1000000 in
theorem public_yes (v : Value) (s : List UInt8) (ix : Nat) (w : World) (hv : Bs w w.heap.size v s) (h1 : 1 ≤ s.length) (h2 : s.length ≤ 64) (h4 : ix ≤ 1023) (hk : KIs 1 w) :
    Calls Tryd.prog 26 #[v, .int .i64 ix] w fun e w' => e = .returned (.tuple #[.agg (u8s (Wt.pub s ix)).toArray, .int .i64 0]) ∧ Below w.heap.size w w' := by
  obtain ⟨A, cap, rfl⟩ := hv.form
  have hz := zero_dig
  obtain ⟨W0, hW0⟩ : ∃ W0, W0 = ((w.alloc (.cells #[.slice A s.length cap] 22)).alloc (.cells #[.int .i64 ix] 3)).alloc (.cells (u8s z32).toArray 25) := ⟨_, rfl⟩
  have g1 : Below w.heap.size w (w.alloc (.cells #[.slice A s.length cap] 22)) := (Below.refl _ _).alloc (Nat.le_refl _) _
  have b0 : Below w.heap.size w W0 := by rw [hW0]; exact (g1.alloc (by simp) _).alloc (by simp; omega) _
  have c1 : W0.cell? ⟨w.heap.size, 0, none⟩ = some (.slice A s.length cap) := by
    rw [hW0]
    exact cell_past (cell_past (cell_box _ _ _) ((Below.refl _ _).alloc (Nat.le_refl _) _)) ((Below.refl _ _).alloc (Nat.le_refl _) _)
  have c2 : W0.cell? ⟨w.heap.size + 1, 0, none⟩ = some (.int .i64 (ix : Int)) := by
    have h := cell_box (w.alloc (.cells #[.slice A s.length cap] 22)) (.int .i64 (ix : Int)) 3
    rw [World.size_alloc] at h
    rw [hW0]
    exact cell_past h ((Below.refl _ _).alloc (Nat.le_refl _) _)
  have hr0 : Blk W0 (w.heap.size + 1 + 1) 25 (u8s z32) := by
    have h := Blk.new ((w.alloc (.cells #[.slice A s.length cap] 22)).alloc (.cells #[.int .i64 ix] 3)) 25 (u8s z32)
    rw [World.size_alloc, World.size_alloc] at h
    rw [hW0]; exact h
  have hv0 := hv.past b0
  have hk0 := hk.past b0
  have hc1 := isKey_yes (.slice A s.length cap) s ix W0 hv0 h1 h2 (by omega) (by omega)
  have HC1 := Lib.hid hc1
  have hc2 := eachChain_any 50 #[.pointer (some ⟨w.heap.size, 0, none⟩), .pointer (some ⟨w.heap.size + 1, 0, none⟩)] (Wt.pubE s ix) W0 (enters_any Tryd.func50 (by kernel_rfl) rfl) (fun i hi => Wt.pubE_len s ix i)
    (fun i w' hi hb => pubC_any (.slice A s.length cap) s ix i w.heap.size (w.heap.size + 1) w' (hv0.past hb) (cell_past c1 hb) (cell_past c2 hb) (by omega) h4 hi (hk0.past hb))
  have HC2 := Lib.hid hc2
  have HW := Lib.hid hW0
  clear hW0 hc1 hc2 g1 hv h1 h2 h4 hv0
  go_enter Tryd.func26, Tryd.ntmps26
  go_upto_region 1 with (fail)
  rw [← HW.out]
  go_wp2_with fail
  refine HC1.out.mono ?_
  rintro e w' ⟨rfl, rfl⟩
  go_wp2_with fail
  refine HC2.out.mono ?_
  rintro e w2 ⟨rfl, b2⟩
  have b02 := b0.trans (b2.mono b0.size)
  have hr2 := hr0.past b2 hr0.lt
  have he := zero_ends
  obtain ⟨F, hF⟩ : ∃ F, F = Wt.cat (Wt.pubE s ix) 18 := ⟨_, rfl⟩
  have HP := Lib.hid (show Wt.key F = Wt.pub s ix by rw [hF]; rfl)
  have hFl : F.length = 576 := by rw [hF]; exact Wt.cat_len 18 fun i _ => Wt.pubE_len s ix i
  have HFL := Lib.hid hFl
  have HUF := Lib.hid (show (u8s F).length = 576 by rw [u8s_length, hFl])
  rw [← hF]
  have hn2 := Blk.new w2 65 (u8s z576)
  have b23 : Below w2.heap.size w2 (w2.alloc (.cells (u8s z576).toArray 65)) := (Below.refl _ _).alloc (Nat.le_refl _) _
  clear hF hFl HC1 HC2 hr0 c1 c2 b2
  go_wp2_with (first
    | (refine wp_storeA 65 (.tmp 6) (.tmp 13) rfl rfl w2.heap.size rfl 65 (u8s z576) _ rfl hn2 (by rw [info_ends, HUF.out]) (by rw [HUF.out]; rfl) (u8s_one _) rfl ?_; intro w4 hn4 hk4)
    | (refine wp_run rfl (exec_loadA 65 rfl w2.heap.size rfl 65 _ 18 25 hn4 Tryd.underlying65 (by rw [info_ends, HUF.out])) ?_))
  have b24 : Below w2.heap.size w2 w4 := ((Keep.of_below b23).trans (hk4.mono (O' := fun q => q < w2.heap.size) (fun q hq => by omega))).below (fun q hq => hq) (Nat.le_refl _)
  have b04 := b02.trans (b24.mono b02.size)
  have hr4 := hr2.past b24 hr2.lt
  refine (publicKey_any F w4 HFL.out (hk.past b04)).mono ?_
  rintro e w5 ⟨rfl, b5⟩
  have b05 := b04.trans (b5.mono b04.size)
  have hr5 := hr4.past b5 hr4.lt
  rw [HP.out]
  have HPL : Hid ((u8s (Wt.pub s ix)).length = 32) := Lib.hid (by rw [u8s_length, Wt.pub_len])
  have hs5 : w.heap.size + 1 + 1 < w5.heap.size := hr5.lt
  obtain ⟨D, hD⟩ : ∃ D, D = Wt.pub s ix := ⟨_, rfl⟩
  rw [← hD] at HPL HP
  have HDD := Lib.hid hD
  rw [show Wt.pub s ix = D from hD.symm]
  clear hD hz he hr2 hr4 hn2 hn4 hk4 b23 b24 b5
  go_wp2_with (refine wp_storeA 25 (.tmp 4) (.tmp 15) rfl rfl (w.heap.size + 1 + 1) rfl 25 (u8s z32) _ rfl hr5 (by rw [info_dig, HPL.out]) (by rw [HPL.out]; rfl) (u8s_one _) rfl ?_; intro w8 hr8 hk8)
  have b08 : Below w.heap.size w w8 := b05.trans (hk8.below (fun q hq => by omega) b05.size)
  refine ret_arr_tmp Tryd.results26 rfl (w.heap.size + 1 + 1) 25 _ 32 5 rfl hr8 Tryd.underlying25 (by rw [info_dig, HPL.out]) _ rfl ?_
  rw [HDD.out]
  exact ⟨rfl, b08⟩

set_option maxRecDepth 100000 in
set_option maxHeartbeats 1000000 in
theorem public_no (v : Value) (s : List UInt8) (ix : Int) (w : World) (hv : Bs w w.heap.size v s) (h : ¬ (1 ≤ s.length ∧ s.length ≤ 64 ∧ 0 ≤ ix ∧ ix ≤ 1023)) :
    Calls Tryd.prog 26 #[v, .int .i64 ix] w fun e w' => e = .returned (.tuple #[.agg (u8s z32).toArray, .int .i64 1]) ∧ Below w.heap.size w w' := by
  obtain ⟨A, cap, rfl⟩ := hv.form
  have hz := zero_dig
  obtain ⟨W0, hW0⟩ : ∃ W0, W0 = ((w.alloc (.cells #[.slice A s.length cap] 22)).alloc (.cells #[.int .i64 ix] 3)).alloc (.cells (u8s z32).toArray 25) := ⟨_, rfl⟩
  have g1 : Below w.heap.size w (w.alloc (.cells #[.slice A s.length cap] 22)) := (Below.refl _ _).alloc (Nat.le_refl _) _
  have b0 : Below w.heap.size w W0 := by rw [hW0]; exact (g1.alloc (by simp) _).alloc (by simp; omega) _
  have c1 : W0.cell? ⟨w.heap.size, 0, none⟩ = some (.slice A s.length cap) := by
    rw [hW0]
    exact cell_past (cell_past (cell_box _ _ _) ((Below.refl _ _).alloc (Nat.le_refl _) _)) ((Below.refl _ _).alloc (Nat.le_refl _) _)
  have c2 : W0.cell? ⟨w.heap.size + 1, 0, none⟩ = some (.int .i64 ix) := by
    have h := cell_box (w.alloc (.cells #[.slice A s.length cap] 22)) (.int .i64 ix) 3
    rw [World.size_alloc] at h
    rw [hW0]
    exact cell_past h ((Below.refl _ _).alloc (Nat.le_refl _) _)
  have hr0 : Blk W0 (w.heap.size + 1 + 1) 25 (u8s z32) := by
    have h := Blk.new ((w.alloc (.cells #[.slice A s.length cap] 22)).alloc (.cells #[.int .i64 ix] 3)) 25 (u8s z32)
    rw [World.size_alloc, World.size_alloc] at h
    rw [hW0]; exact h
  have hv0 := hv.past b0
  have hc1 := isKey_no (.slice A s.length cap) s ix W0 hv0 h
  have HC1 := Lib.hid hc1
  have HW := Lib.hid hW0
  have hs0 : w.heap.size + 1 + 1 < W0.heap.size := hr0.lt
  clear hW0 hc1 g1 hv h hv0
  go_enter Tryd.func26, Tryd.ntmps26
  go_upto_region 1 with (fail)
  rw [← HW.out]
  go_wp2_with fail
  refine HC1.out.mono ?_
  rintro e w' ⟨rfl, rfl⟩
  clear HC1
  go_wp2_with (refine wp_storeA 25 (.tmp 4) (.tmp 11) rfl rfl (w.heap.size + 1 + 1) rfl 25 (u8s z32) (u8s z32) rfl hr0 (by rw [info_dig]; rfl) rfl (u8s_one _) rfl ?_; intro w8 hr8 hk8)
  have b08 : Below w.heap.size w w8 := b0.trans (hk8.below (fun q hq => by omega) b0.size)
  refine ret_arr_tmp Tryd.results26 rfl (w.heap.size + 1 + 1) 25 _ 32 5 rfl hr8 Tryd.underlying25 (by rw [info_dig]; rfl) _ rfl ?_
  exact ⟨rfl, b08⟩
end

section
open Go.RowKit
set_option linter.unusedVariables false
set_option linter.unusedSimpArgs false

set_option maxRecDepth 100000 in
set_option maxHeartbeats 1000000 in
theorem sigC_any (v : Value) (s d : List UInt8) (ix i g1 g2 g3 : Nat) (w : World) (hv : Bs w w.heap.size v s) (c1 : w.cell? ⟨g1, 0, none⟩ = some v) (c2 : w.cell? ⟨g2, 0, none⟩ = some (.int .i64 (ix : Int))) (c3 : Blk w g3 63 (ins (Wt.ns d))) (hs : s.length ≤ 200) (hx : ix ≤ 1023) (hi : i < 18) (hk : KIs 1 w) :
    Calls Tryd.prog 56 #[.int .i64 i, .pointer (some ⟨g1, 0, none⟩), .pointer (some ⟨g2, 0, none⟩), .pointer (some ⟨g3, 0, none⟩)] w fun e w' => e = .returned (.agg (u8s (Wt.sigE s ix d i)).toArray) ∧ Below w.heap.size w w' := by
  obtain ⟨A, cap, rfl⟩ := hv.form
  have hz := zero_dig
  have h1 : Below w.heap.size w (w.alloc (.cells (u8s z32).toArray 25)) := (Below.refl _ _).alloc (Nat.le_refl _) _
  have hr1 : Blk (w.alloc (.cells (u8s z32).toArray 25)) w.heap.size 25 (u8s z32) := Blk.new w _ _
  have hg1 : g1 < w.heap.size := block_lt_of_cell c1
  have hg2 : g2 < w.heap.size := block_lt_of_cell c2
  have hg3 : g3 < w.heap.size := c3.lt
  obtain ⟨W1, hW1⟩ : ∃ W1, W1 = w.alloc (.cells (u8s z32).toArray 25) := ⟨_, rfl⟩
  rw [← hW1] at h1 hr1
  have HW := Lib.hid hW1
  have hsz : w.heap.size ≤ W1.heap.size := h1.size
  have d1 := cell_past c1 h1
  have d2 := cell_past c2 h1
  have d3 : W1.cell? ⟨g3, i, none⟩ = some (.int .i64 ((Wt.nn d i : Nat) : Int)) := (c3.past h1 c3.lt).cell (ins_get (Wt.ns_get d hi))
  have hk1 := hk.past h1
  have hv1 := hv.past h1
  have HN := Lib.hid (Wt.nn_le d i)
  have HSG := Lib.hid (show Sha.chain (Wt.start s ix i) (Wt.nn d i) = Wt.sigE s ix d i from rfl)
  have HSL := Lib.hid (Wt.start_len s ix i)
  have HRL : Hid ((u8s (Wt.sigE s ix d i)).length = 32) := Lib.hid (by rw [u8s_length, Wt.sigE_len])
  obtain ⟨D, hD⟩ : ∃ D, D = Wt.sigE s ix d i := ⟨_, rfl⟩
  rw [← hD] at HRL HSG
  have HDD := Lib.hid hD
  obtain ⟨n, hn⟩ : ∃ n, n = Wt.nn d i := ⟨_, rfl⟩
  rw [← hn] at d3 HN HSG
  clear hW1 c1 c2 c3 hv hk hD hn
  go_enter Tryd.func56, Tryd.ntmps56
  go_upto_region 1 with (fail)
  rw [← HW.out]
  refine wp_region_pt w.heap.size (.take 0 (.take 1 (.take 2 (.take 4 (.take 5 (.take 6 (.step 3 (.step 7 (.step 8 .done))))))))) (by kernel_rfl) (by kernel_rfl) (by kernel_rfl) (fun _ _ h => h) ?_
  obtain ⟨w0, hw0⟩ : ∃ w0, w0 = W1.drew := ⟨_, rfl⟩
  have e1 : w0.cell? ⟨g1, 0, none⟩ = some (.slice A s.length cap) := by rw [hw0]; simpa using d1
  have e2 : w0.cell? ⟨g2, 0, none⟩ = some (.int .i64 (ix : Int)) := by rw [hw0]; simpa using d2
  have e3 : w0.cell? ⟨g3, i, none⟩ = some (.int .i64 (n : Int)) := by rw [hw0]; simpa using d3
  have hr0 : Blk w0 w.heap.size 25 (u8s z32) := by rw [hw0]; exact hr1.drew
  have hk0 : KIs 1 w0 := by rw [hw0]; exact hk1.past (Below.refl _ _).drew
  have hv0 : Bs w0 w0.heap.size (.slice A s.length cap) s := by rw [hw0]; exact hv1.past (Below.refl _ _).drew
  have b0 : Below w.heap.size w w0 := by rw [hw0]; exact h1.drew
  have z0 : w.heap.size ≤ w0.heap.size := b0.size
  rw [← hw0]
  clear hw0 d1 d2 d3 hr1 hk1 hv1 h1 hsz hz
  refine pt_take rfl rfl rfl rfl ?_
  apply Exists.intro
  refine ⟨fun w' hw' => ?_, ?_⟩
  · have hcell := (hw'.cell (p := ⟨g1, 0, none⟩) hg1).trans e1
    focus ((repeat (first | go_skip | go_guarded | go_step | go_upon | go_back)); exact ⟨rfl, rfl, rfl⟩)
  refine pt_take rfl rfl rfl rfl ?_
  apply Exists.intro
  refine ⟨fun w' hw' => ?_, ?_⟩
  · have hcell := (hw'.cell (p := ⟨g2, 0, none⟩) hg2).trans e2
    focus ((repeat (first | go_skip | go_guarded | go_step | go_upon | go_back)); exact ⟨rfl, rfl, rfl⟩)
  first | refine pt_skip rfl rfl rfl rfl ?_ | (refine pt_take rfl rfl rfl rfl ?_; apply Exists.intro; refine ⟨fun w' hw' => ?_, ?_⟩; focus ((repeat (first | go_skip | go_guarded | go_step | go_upon | go_back)); exact ⟨rfl, rfl, rfl⟩))
  first | refine pt_skip rfl rfl rfl rfl ?_ | (refine pt_take rfl rfl rfl rfl ?_; apply Exists.intro; refine ⟨fun w' hw' => ?_, ?_⟩; focus ((repeat (first | go_skip | go_guarded | go_step | go_upon | go_back)); exact ⟨rfl, rfl, rfl⟩))
  refine pt_take rfl rfl rfl rfl ?_
  apply Exists.intro
  refine ⟨fun w' hw' => ?_, ?_⟩
  · refine wp_run rfl (exec_ixA 63 3 18 1 Tryd.underlying63 size_int w' rfl g3 rfl _ _ i rfl rfl hi (q := i) (by omega)) ?_
    exact ⟨rfl, rfl, rfl⟩
  refine pt_take rfl rfl rfl rfl ?_
  apply Exists.intro
  refine ⟨fun w' hw' => ?_, ?_⟩
  · have hcell := (hw'.cell (p := ⟨g3, i, none⟩) hg3).trans e3
    focus ((repeat (first | go_skip | go_guarded | go_step | go_upon | go_back)); exact ⟨rfl, rfl, rfl⟩)
  refine pt_step rfl ?_
  go_wp2_with fail
  refine (start_any (.slice A s.length cap) s ix i w0 hv0 hs hx hi hk0).mono ?_
  rintro e w2 ⟨rfl, b2⟩
  go_wp2_with fail
  refine ⟨rfl, b2.mono z0, ?_⟩
  have b02 := b0.trans (b2.mono z0)
  have hr2 := hr0.past b2 hr0.lt
  have hk2 := hk0.past b2
  have z2 : w.heap.size ≤ w2.heap.size := b02.size
  clear e1 e2 e3 hr0 hv0 hk0 b0 b2
  refine pt_step rfl ?_
  go_wp2_with fail
  refine (chain_any (Wt.start s ix i) n w2 HSL.out (by have := HN.out; omega) (by omega) hk2).mono ?_
  rintro e w3 ⟨rfl, b3⟩
  rw [show ((n : Nat) : Int).toNat = n from rfl, HSG.out]
  go_wp2_with fail
  refine ⟨rfl, b3.mono z2, ?_⟩
  have b03 := b02.trans (b3.mono z2)
  have hr3 := hr2.past b3 hr2.lt
  clear hr2 hk2 b02 b3
  refine pt_step rfl ?_
  go_wp2_with (refine wp_storeA 25 (.tmp 5) (.tmp 13) rfl rfl w.heap.size rfl 25 (u8s z32) _ rfl hr3 (by rw [info_dig, HRL.out]) (by rw [HRL.out]; rfl) (u8s_one _) rfl ?_; intro w8 hr8 hk8)
  have b38 : Below w.heap.size w3 w8 := hk8.below (fun q hq => by omega) b03.size
  have b08 : Below w.heap.size w w8 := b03.trans b38
  refine ⟨rfl, b38, ?_⟩
  change Exit.then _ _ Exit.normal _ _
  go_wp2
  refine ret_arr Tryd.results56 rfl w.heap.size 25 _ 32 5 rfl hr8 Tryd.underlying25 (by rw [info_dig, HRL.out]) ?_
  rw [HDD.out]
  exact ⟨rfl, b08⟩

set_option maxRecDepth 100000 in
set_option maxHeartbeats 1000000 in
theorem sign_yes (v : Value) (s d : List UInt8) (ix : Nat) (w : World) (hv : Bs w w.heap.size v s) (h1 : 1 ≤ s.length) (h2 : s.length ≤ 64) (h4 : ix ≤ 1023) (hd : d.length = 32) (hk : KIs 1 w) :
    Calls Tryd.prog 34 #[v, .int .i64 ix, .agg (u8s d).toArray] w fun e w' => ∃ g, e = .returned (.tuple #[.slice (some ⟨g, 0, none⟩) 18 18, .int .i64 0]) ∧ Blk w' g 65 (u8s (Wt.sig s ix d)) ∧ w.heap.size ≤ g ∧ Below w.heap.size w w' := by
  obtain ⟨A, cap, rfl⟩ := hv.form
  have hz := zero_18
  have he := zero_ends
  have HUD := Lib.hid (show (u8s d).length = 32 by rw [u8s_length, hd])
  obtain ⟨W0, hW0⟩ : ∃ W0, W0 = ((w.alloc (.cells #[.slice A s.length cap] 22)).alloc (.cells #[.int .i64 ix] 3)).alloc (.cells (u8s d).toArray 25) := ⟨_, rfl⟩
  have g1 : Below w.heap.size w (w.alloc (.cells #[.slice A s.length cap] 22)) := (Below.refl _ _).alloc (Nat.le_refl _) _
  have b0 : Below w.heap.size w W0 := by rw [hW0]; exact (g1.alloc (by simp) _).alloc (by simp; omega) _
  have c1 : W0.cell? ⟨w.heap.size, 0, none⟩ = some (.slice A s.length cap) := by
    rw [hW0]
    exact cell_past (cell_past (cell_box _ _ _) ((Below.refl _ _).alloc (Nat.le_refl _) _)) ((Below.refl _ _).alloc (Nat.le_refl _) _)
  have c2 : W0.cell? ⟨w.heap.size + 1, 0, none⟩ = some (.int .i64 (ix : Int)) := by
    have h := cell_box (w.alloc (.cells #[.slice A s.length cap] 22)) (.int .i64 (ix : Int)) 3
    rw [World.size_alloc] at h
    rw [hW0]
    exact cell_past h ((Below.refl _ _).alloc (Nat.le_refl _) _)
  have hd0 : Blk W0 (w.heap.size + 1 + 1) 25 (u8s d) := by
    have h := Blk.new ((w.alloc (.cells #[.slice A s.length cap] 22)).alloc (.cells #[.int .i64 ix] 3)) 25 (u8s d)
    rw [World.size_alloc, World.size_alloc] at h
    rw [hW0]; exact h
  have hv0 := hv.past b0
  have hk0 := hk.past b0
  have hc1 := isKey_yes (.slice A s.length cap) s ix W0 hv0 h1 h2 (by omega) (by omega)
  have HC1 := Lib.hid hc1
  have hc2 := chainLengths_any d W0 hd
  have HC2 := Lib.hid hc2
  have HW := Lib.hid hW0
  have hs64 : s.length ≤ 200 := by omega
  clear hW0 hc1 hc2 g1 hv h1 h2 hd
  go_enter Tryd.func34, Tryd.ntmps34
  go_upto_region 1 with (fail)
  rw [← HW.out]
  go_wp2_with fail
  refine HC1.out.mono ?_
  rintro e w' ⟨rfl, rfl⟩
  go_wp2_with (refine wp_run rfl (exec_loadA 25 rfl (w.heap.size + 1 + 1) rfl 25 _ 32 5 hd0 Tryd.underlying25 (by rw [info_dig, HUD.out])) ?_)
  refine HC2.out.mono ?_
  rintro e w2 ⟨rfl, b2⟩
  have b02 := b0.trans (b2.mono b0.size)
  have HNL : Hid ((ins (Wt.ns d)).length = 18) := Lib.hid (by rw [ins_length, Wt.ns_len])
  have hn2 := Blk.new w2 63 (ins z18)
  have b23 : Below w2.heap.size w2 (w2.alloc (.cells (ins z18).toArray 63)) := (Below.refl _ _).alloc (Nat.le_refl _) _
  have d1 := cell_past c1 b2
  have d2 := cell_past c2 b2
  have hv2 := hv0.past b2
  have hk2 := hk0.past b2
  clear HC1 HC2 c1 c2 hv0 hk0 b0 b2 hd0
  go_upto_region 4 with (refine wp_storeA 63 (.tmp 8) (.tmp 15) rfl rfl w2.heap.size rfl 63 (ins z18) _ rfl hn2 (by rw [info_18, HNL.out]) (by rw [HNL.out]; rfl) (ins_one _) rfl ?_; intro w4 hn4 hk4)
  have b24 : Below w2.heap.size w2 w4 := ((Keep.of_below b23).trans (hk4.mono (O' := fun q => q < w2.heap.size) (fun q hq => by omega))).below (fun q hq => hq) (Nat.le_refl _)
  have b04 := b02.trans (b24.mono b02.size)
  have f1 := cell_past d1 b24
  have f2 := cell_past d2 b24
  have hv4 := hv2.past b24
  have hk4' := hk2.past b24
  have hc3 := eachChain_any 56 #[.pointer (some ⟨w.heap.size, 0, none⟩), .pointer (some ⟨w.heap.size + 1, 0, none⟩), .pointer (some ⟨w2.heap.size, 0, none⟩)] (Wt.sigE s ix d) w4 (enters_any Tryd.func56 (by kernel_rfl) rfl) (fun i hi => Wt.sigE_len s ix d i)
    (fun i w' hi hb => sigC_any (.slice A s.length cap) s d ix i w.heap.size (w.heap.size + 1) w2.heap.size w' (hv4.past hb) (cell_past f1 hb) (cell_past f2 hb) (hn4.past hb hn4.lt) hs64 h4 hi (hk4'.past hb))
  have HC3 := Lib.hid hc3
  clear hc3 d1 d2 hv2 hk2 b23 b24 b02 f1 f2 hv4 hk4' hn4 hk4 hn2
  go_wp2_with fail
  refine HC3.out.mono ?_
  rintro e w5 ⟨rfl, b5⟩
  have b05 := b04.trans (b5.mono b04.size)
  have HSL := Lib.hid (show (u8s (Wt.cat (Wt.sigE s ix d) 18)).length = 576 by rw [u8s_length]; exact Wt.sig_len s ix d)
  obtain ⟨F, hF⟩ : ∃ F, F = Wt.cat (Wt.sigE s ix d) 18 := ⟨_, rfl⟩
  rw [← hF] at HSL ⊢
  have HF := Lib.hid (show F = Wt.sig s ix d from hF)
  have hl5 := Blk.new w5 65 (u8s z576)
  have b56 : Below w.heap.size w (w5.alloc (.cells (u8s z576).toArray 65)) := b05.alloc b05.size _
  clear hF HC3 b5 b04
  go_wp2_with (first
    | (refine wp_storeA 65 (.tmp 9) (.tmp 17) rfl rfl w5.heap.size rfl 65 (u8s z576) _ rfl hl5 (by rw [info_ends, HSL.out]) (by rw [HSL.out]; rfl) (u8s_one _) rfl ?_; intro w6 hl6 hk6)
    | (refine wp_run rfl (exec_sliceAll 65 25 18 32 Tryd.underlying65 info_dig (.tmp 9) rfl w5.heap.size rfl _) ?_))
  have hz5 := b05.size
  have b6 : Below w.heap.size w w6 := b56.trans (hk6.below (fun q hq => by omega) b56.size)
  go_ret2
  rw [HF.out] at hl6
  exact ⟨_, rfl, hl6, hz5, b6⟩

set_option maxRecDepth 100000 in
set_option maxHeartbeats 1000000 in
theorem sign_no (v : Value) (s d : List UInt8) (ix : Int) (w : World) (hv : Bs w w.heap.size v s) (h : ¬ (1 ≤ s.length ∧ s.length ≤ 64 ∧ 0 ≤ ix ∧ ix ≤ 1023)) :
    Calls Tryd.prog 34 #[v, .int .i64 ix, .agg (u8s d).toArray] w fun e w' => e = .returned (.tuple #[.slice none 0 0, .int .i64 1]) ∧ Below w.heap.size w w' := by
  obtain ⟨A, cap, rfl⟩ := hv.form
  obtain ⟨W0, hW0⟩ : ∃ W0, W0 = ((w.alloc (.cells #[.slice A s.length cap] 22)).alloc (.cells #[.int .i64 ix] 3)).alloc (.cells (u8s d).toArray 25) := ⟨_, rfl⟩
  have g1 : Below w.heap.size w (w.alloc (.cells #[.slice A s.length cap] 22)) := (Below.refl _ _).alloc (Nat.le_refl _) _
  have b0 : Below w.heap.size w W0 := by rw [hW0]; exact (g1.alloc (by simp) _).alloc (by simp; omega) _
  have c1 : W0.cell? ⟨w.heap.size, 0, none⟩ = some (.slice A s.length cap) := by
    rw [hW0]
    exact cell_past (cell_past (cell_box _ _ _) ((Below.refl _ _).alloc (Nat.le_refl _) _)) ((Below.refl _ _).alloc (Nat.le_refl _) _)
  have c2 : W0.cell? ⟨w.heap.size + 1, 0, none⟩ = some (.int .i64 ix) := by
    have h := cell_box (w.alloc (.cells #[.slice A s.length cap] 22)) (.int .i64 ix) 3
    rw [World.size_alloc] at h
    rw [hW0]
    exact cell_past h ((Below.refl _ _).alloc (Nat.le_refl _) _)
  have hc1 := isKey_no (.slice A s.length cap) s ix W0 (hv.past b0) h
  have HC1 := Lib.hid hc1
  have HW := Lib.hid hW0
  clear hW0 hc1 g1 hv h
  go_enter Tryd.func34, Tryd.ntmps34
  go_upto_region 1 with (fail)
  rw [← HW.out]
  go_wp2_with fail
  refine HC1.out.mono ?_
  rintro e w' ⟨rfl, rfl⟩
  go_wp2
  go_ret2
  exact ⟨rfl, b0⟩
end
end Go.Proofs.YtccepoeenkpifaaDoor
