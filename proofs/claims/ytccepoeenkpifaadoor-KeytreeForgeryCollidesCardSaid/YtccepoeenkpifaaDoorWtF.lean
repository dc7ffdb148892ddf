/-
  Walks of package wots: recovery, verification.
  Walks of package wots: verification.
-/
import Derived.Test.YtccepoeenkpifaaDoorWtD
namespace Go.Proofs.YtccepoeenkpifaaDoor
section
open Go.RowKit
set_option linter.unusedVariables false
set_option linter.unusedSimpArgs false

/-- The cells of a row's i-th digest. -/
theorem row_elem {w : World} {B n cap i : Nat} {ad : Addr} {F : List UInt8} (h : Row w B 32 n (.slice (some ad) n cap) (u8s F)) (hi : i < n) : ∀ j u, (u8s (Wt.el F i))[j]? = some u → w.cell? ((ad.add (i * 32)).add j) = some u := by
  obtain ⟨a, ha, _, hc⟩ := h.at_ (by omega)
  obtain rfl : ad = a := by injection ha
  intro j u hu
  rw [add_twice]
  refine hc _ u ?_
  have hj : j < 32 := by
    have := (List.getElem?_eq_some_iff.1 hu).1
    rw [u8s_length, Wt.el, List.length_take] at this; omega
  rw [← hu]
  unfold Wt.el u8s
  rw [List.getElem?_map, List.getElem?_map, List.getElem?_take, if_pos hj, List.getElem?_drop, Nat.mul_comm]
theorem row_flen {w : World} {B n : Nat} {v : Value} {F : List UInt8} (h : Row w B 32 n v (u8s F)) : F.length = n * 32 := by
  obtain ⟨_, _, _, _, _, _, hl, _⟩ := h
  rwa [u8s_length] at hl
theorem row_form {w : World} {B s n : Nat} {v : Value} {xs : List Value} (h : Row w B s n v xs) : ∃ A cap, v = .slice A n cap := by
  obtain ⟨A, cap, hv, _⟩ := h
  exact ⟨A, cap, hv⟩
theorem row_of_blkS {w : World} {g B n s : Nat} {t : TypeId} {vs : List Value} (h : Blk w g t vs) (hg : g < B) (hn : vs.length = n * s) (hm : n ≤ maxLen) : Row w B s n (.slice (some ⟨g, 0, none⟩) n n) vs := by
  refine ⟨some ⟨g, 0, none⟩, n, rfl, Nat.le_refl _, hm, (fun h => by cases h), by omega, fun a ha _ => ?_⟩
  obtain rfl : (⟨g, 0, none⟩ : Addr) = a := by injection ha
  exact ⟨hg, fun i u hu => by rw [add_zero_addr]; exact h.cell hu⟩

set_option maxRecDepth 100000 in
set_option maxHeartbeats 1000000 in
theorem recC_any (v : Value) (F d : List UInt8) (i g1 g2 : Nat) (w : World) (hv : Row w w.heap.size 32 18 v (u8s F)) (c1 : w.cell? ⟨g1, 0, none⟩ = some v) (c2 : Blk w g2 63 (ins (Wt.ns d))) (hi : i < 18) (hk : KIs 1 w) :
    Calls Tryd.prog 45 #[.int .i64 i, .pointer (some ⟨g1, 0, none⟩), .pointer (some ⟨g2, 0, none⟩)] w fun e w' => e = .returned (.agg (u8s (Wt.recE d F i)).toArray) ∧ Below w.heap.size w w' := by
  obtain ⟨A, cap, rfl⟩ := row_form hv
  obtain ⟨ad, rfl, hab, _⟩ := hv.at_ (by omega)
  have hz := zero_dig
  have h1 : Below w.heap.size w (w.alloc (.cells (u8s z32).toArray 25)) := (Below.refl _ _).alloc (Nat.le_refl _) _
  have hr1 : Blk (w.alloc (.cells (u8s z32).toArray 25)) w.heap.size 25 (u8s z32) := Blk.new w _ _
  have hg1 : g1 < w.heap.size := block_lt_of_cell c1
  have hg2 : g2 < w.heap.size := c2.lt
  obtain ⟨W1, hW1⟩ : ∃ W1, W1 = w.alloc (.cells (u8s z32).toArray 25) := ⟨_, rfl⟩
  rw [← hW1] at h1 hr1
  have HW := Lib.hid hW1
  have d1 := cell_past c1 h1
  have d2 : W1.cell? ⟨g2, i, none⟩ = some (.int .i64 ((Wt.nn d i : Nat) : Int)) := (c2.past h1 c2.lt).cell (ins_get (Wt.ns_get d hi))
  have hk1 := hk.past h1
  have hv1 : Row W1 w.heap.size 32 18 (.slice (some ad) 18 cap) (u8s F) := hv.carry h1 (Nat.le_refl _)
  have hFl := row_flen hv
  have hn := Wt.nn_le d i
  have HEL := Lib.hid (Wt.el_len (F := F) (n := 18) (i := i) (by omega) hi)
  have HUE := Lib.hid (show (u8s (Wt.el F i)).length = 32 by rw [u8s_length, HEL.out])
  have HSG := Lib.hid (show Sha.chain (Wt.el F i) (15 - Wt.nn d i) = Wt.recE d F i from rfl)
  have HRL : Hid ((u8s (Wt.recE d F i)).length = 32) := Lib.hid (by rw [u8s_length, Wt.recE_len (by omega) hi])
  obtain ⟨D, hD⟩ : ∃ D, D = Wt.recE d F i := ⟨_, rfl⟩
  rw [← hD] at HRL HSG
  have HDD := Lib.hid hD
  obtain ⟨n, hnn⟩ : ∃ n, n = Wt.nn d i := ⟨_, rfl⟩
  rw [← hnn] at d2 hn HSG
  clear hW1 c1 c2 hv hk hD hnn hFl
  go_enter Tryd.func45, Tryd.ntmps45
  go_upto_region 1 with (fail)
  rw [← HW.out]
  refine wp_region_pt w.heap.size (.take 0 (.take 1 (.take 2 (.take 3 (.take 4 (.take 5 (.take 6 (.take 7 (.step 8 (.step 9 .done)))))))))) (by kernel_rfl) (by kernel_rfl) (by kernel_rfl) (fun _ _ h => h) ?_
  obtain ⟨w0, hw0⟩ : ∃ w0, w0 = W1.drew := ⟨_, rfl⟩
  have e1 : w0.cell? ⟨g1, 0, none⟩ = some (.slice (some ad) 18 cap) := by rw [hw0]; simpa using d1
  have e2 : w0.cell? ⟨g2, i, none⟩ = some (.int .i64 (n : Int)) := by rw [hw0]; simpa using d2
  have hr0 : Blk w0 w.heap.size 25 (u8s z32) := by rw [hw0]; exact hr1.drew
  have hk0 : KIs 1 w0 := by rw [hw0]; exact hk1.past (Below.refl _ _).drew
  have hv0 : Row w0 w.heap.size 32 18 (.slice (some ad) 18 cap) (u8s F) := by rw [hw0]; exact hv1.carry (Below.refl _ _).drew (Nat.le_refl _)
  have b0 : Below w.heap.size w w0 := by rw [hw0]; exact h1.drew
  have z0 : w.heap.size ≤ w0.heap.size := b0.size
  rw [← hw0]
  clear hw0 d1 d2 hr1 hk1 hv1 h1 hz
  refine pt_take rfl rfl rfl rfl ?_
  apply Exists.intro
  refine ⟨fun w' hw' => ?_, ?_⟩
  · have hcell := (hw'.cell (p := ⟨g1, 0, none⟩) hg1).trans e1
    focus ((repeat (first | go_skip | go_guarded | go_step | go_upon | go_back)); exact ⟨rfl, rfl, rfl⟩)
  first | refine pt_skip rfl rfl rfl rfl ?_ | (refine pt_take rfl rfl rfl rfl ?_; apply Exists.intro; refine ⟨fun w' hw' => ?_, ?_⟩; focus ((repeat (first | go_skip | go_guarded | go_step | go_upon | go_back)); exact ⟨rfl, rfl, rfl⟩))
  refine pt_take rfl rfl rfl rfl ?_
  apply Exists.intro
  refine ⟨fun w' hw' => ?_, ?_⟩
  · refine wp_run rfl (exec_ixS 29 25 32 Tryd.underlying29 info_dig w' rfl rfl _ _ i rfl rfl hi (q := ad.add (i * 32)) rfl) ?_
    exact ⟨rfl, rfl, rfl⟩
  refine pt_take rfl rfl rfl rfl ?_
  apply Exists.intro
  refine ⟨fun w' hw' => ?_, ?_⟩
  · refine wp_run rfl (exec_loadP 25 rfl (ad.add (i * 32)) rfl (u8s (Wt.el F i)) 32 5 (row_elem (hv0.carry hw' (Nat.le_refl _)) hi) Tryd.underlying25 (by rw [info_dig, HUE.out])) ?_
    exact ⟨rfl, rfl, rfl⟩
  first | refine pt_skip rfl rfl rfl rfl ?_ | (refine pt_take rfl rfl rfl rfl ?_; apply Exists.intro; refine ⟨fun w' hw' => ?_, ?_⟩; focus ((repeat (first | go_skip | go_guarded | go_step | go_upon | go_back)); exact ⟨rfl, rfl, rfl⟩))
  refine pt_take rfl rfl rfl rfl ?_
  apply Exists.intro
  refine ⟨fun w' hw' => ?_, ?_⟩
  · refine wp_run rfl (exec_ixA 63 3 18 1 Tryd.underlying63 size_int w' rfl g2 rfl _ _ i rfl rfl hi (q := i) (by omega)) ?_
    exact ⟨rfl, rfl, rfl⟩
  refine pt_take rfl rfl rfl rfl ?_
  apply Exists.intro
  refine ⟨fun w' hw' => ?_, ?_⟩
  · have hcell := (hw'.cell (p := ⟨g2, i, none⟩) hg2).trans e2
    focus ((repeat (first | go_skip | go_guarded | go_step | go_upon | go_back)); exact ⟨rfl, rfl, rfl⟩)
  first | refine pt_skip rfl rfl rfl rfl ?_ | (refine pt_take rfl rfl rfl rfl ?_; apply Exists.intro; refine ⟨fun w' hw' => ?_, ?_⟩; focus ((repeat (first | go_skip | go_guarded | go_step | go_upon | go_back)); exact ⟨rfl, rfl, rfl⟩))
  refine pt_step rfl ?_
  go_wp2_with fail
  refine (chain_any (Wt.el F i) (15 - (n : Int)) w0 HEL.out (by omega) (by omega) hk0).mono ?_
  rintro e w3 ⟨rfl, b3⟩
  rw [show (15 - (n : Int)).toNat = 15 - n by omega, HSG.out]
  go_wp2_with fail
  refine ⟨rfl, b3.mono z0, ?_⟩
  have b03 := b0.trans (b3.mono z0)
  have hr3 := hr0.past b3 hr0.lt
  clear hr0 hk0 b0 b3 e1 e2 hv0
  refine pt_step rfl ?_
  go_wp2_with (refine wp_storeA 25 (.tmp 4) (.tmp 13) rfl rfl w.heap.size rfl 25 (u8s z32) _ rfl hr3 (by rw [info_dig, HRL.out]) (by rw [HRL.out]; rfl) (u8s_one _) rfl ?_; intro w8 hr8 hk8)
  have b38 : Below w.heap.size w3 w8 := hk8.below (fun q hq => by omega) b03.size
  have b08 : Below w.heap.size w w8 := b03.trans b38
  refine ⟨rfl, b38, ?_⟩
  change Exit.then _ _ Exit.normal _ _
  go_wp2
  refine ret_arr Tryd.results45 rfl w.heap.size 25 _ 32 5 rfl hr8 Tryd.underlying25 (by rw [info_dig, HRL.out]) ?_
  rw [HDD.out]
  exact ⟨rfl, b08⟩

set_option maxRecDepth 100000 in
set_option maxHeartbeats 1000000 in
theorem recover_yes (d F : List UInt8) (v : Value) (w : World) (hv : Row w w.heap.size 32 18 v (u8s F)) (hd : d.length = 32) (hk : KIs 1 w) :
    Calls Tryd.prog 24 #[.agg (u8s d).toArray, v] w fun e w' => e = .returned (.tuple #[.agg (u8s (Wt.rec_ d F)).toArray, .int .i64 0]) ∧ Below w.heap.size w w' := by
  obtain ⟨A, cap, rfl⟩ := row_form hv
  have hFl : F.length = 576 := row_flen hv
  have hz := zero_dig
  have hz1 := zero_18
  have hz2 := zero_ends
  have HUD := Lib.hid (show (u8s d).length = 32 by rw [u8s_length, hd])
  obtain ⟨W0, hW0⟩ : ∃ W0, W0 = ((w.alloc (.cells (u8s d).toArray 25)).alloc (.cells #[.slice A 18 cap] 29)).alloc (.cells (u8s z32).toArray 25) := ⟨_, rfl⟩
  have g1 : Below w.heap.size w (w.alloc (.cells (u8s d).toArray 25)) := (Below.refl _ _).alloc (Nat.le_refl _) _
  have b0 : Below w.heap.size w W0 := by rw [hW0]; exact (g1.alloc (by simp) _).alloc (by simp; omega) _
  have hd0 : Blk W0 w.heap.size 25 (u8s d) := by
    rw [hW0]
    exact ((Blk.new w _ _).past ((Below.refl _ _).alloc (Nat.le_refl _) _) (by simp)).past ((Below.refl _ _).alloc (Nat.le_refl _) _) (by simp; omega)
  have c1 : W0.cell? ⟨w.heap.size + 1, 0, none⟩ = some (.slice A 18 cap) := by
    have h := cell_box (w.alloc (.cells (u8s d).toArray 25)) (.slice A 18 cap) 29
    rw [World.size_alloc] at h
    rw [hW0]
    exact cell_past h ((Below.refl _ _).alloc (Nat.le_refl _) _)
  have hr0 : Blk W0 (w.heap.size + 1 + 1) 25 (u8s z32) := by
    have h := Blk.new ((w.alloc (.cells (u8s d).toArray 25)).alloc (.cells #[.slice A 18 cap] 29)) 25 (u8s z32)
    rw [World.size_alloc, World.size_alloc] at h
    rw [hW0]; exact h
  have hv0 := hv.past b0
  have hk0 := hk.past b0
  have hc2 := chainLengths_any d W0 hd
  have HC2 := Lib.hid hc2
  have HW := Lib.hid hW0
  have HFL := Lib.hid hFl
  clear hW0 hc2 g1 hv hd hFl
  go_enter Tryd.func24, Tryd.ntmps24
  go_upto_region 1 with (fail)
  rw [← HW.out]
  go_wp2_with (refine wp_run rfl (exec_loadA 25 rfl w.heap.size rfl 25 _ 32 5 hd0 Tryd.underlying25 (by rw [info_dig, HUD.out])) ?_)
  refine HC2.out.mono ?_
  rintro e w2 ⟨rfl, b2⟩
  have b02 := b0.trans (b2.mono b0.size)
  have HNL : Hid ((ins (Wt.ns d)).length = 18) := Lib.hid (by rw [ins_length, Wt.ns_len])
  have hn2 := Blk.new w2 63 (ins z18)
  have b23 : Below w2.heap.size w2 (w2.alloc (.cells (ins z18).toArray 63)) := (Below.refl _ _).alloc (Nat.le_refl _) _
  have d1 := cell_past c1 b2
  have hv2 := hv0.past b2
  have hk2 := hk0.past b2
  have hr2 := hr0.past b2 hr0.lt
  clear HC2 c1 hv0 hk0 b0 b2 hd0 hr0
  go_upto_region 4 with (refine wp_storeA 63 (.tmp 6) (.tmp 13) rfl rfl w2.heap.size rfl 63 (ins z18) _ rfl hn2 (by rw [info_18, HNL.out]) (by rw [HNL.out]; rfl) (ins_one _) rfl ?_; intro w4 hn4 hk4)
  have b24 : Below w2.heap.size w2 w4 := ((Keep.of_below b23).trans (hk4.mono (O' := fun q => q < w2.heap.size) (fun q hq => by omega))).below (fun q hq => hq) (Nat.le_refl _)
  have b04 := b02.trans (b24.mono b02.size)
  have f1 := cell_past d1 b24
  have hv4 := hv2.past b24
  have hk4' := hk2.past b24
  have hr4 := hr2.past b24 hr2.lt
  have hc3 := eachChain_any 45 #[.pointer (some ⟨w.heap.size + 1, 0, none⟩), .pointer (some ⟨w2.heap.size, 0, none⟩)] (Wt.recE d F) w4 (enters_any Tryd.func45 (by kernel_rfl) rfl) (fun i hi => Wt.recE_len HFL.out hi)
    (fun i w' hi hb => recC_any (.slice A 18 cap) F d i (w.heap.size + 1) w2.heap.size w' (hv4.past hb) (cell_past f1 hb) (hn4.past hb hn4.lt) hi (hk4'.past hb))
  have HC3 := Lib.hid hc3
  clear hc3 d1 hv2 hk2 b23 b24 b02 f1 hv4 hn4 hk4 hn2 hr2
  go_wp2_with fail
  refine HC3.out.mono ?_
  rintro e w5 ⟨rfl, b5⟩
  have b05 := b04.trans (b5.mono b04.size)
  have hr5 := hr4.past b5 hr4.lt
  have hk5 := hk4'.past b5
  have HGL := Lib.hid (show (Wt.cat (Wt.recE d F) 18).length = 576 from Wt.cat_len 18 fun i hi => Wt.recE_len HFL.out hi)
  obtain ⟨G, hG⟩ : ∃ G, G = Wt.cat (Wt.recE d F) 18 := ⟨_, rfl⟩
  rw [← hG] at HGL ⊢
  have HUG := Lib.hid (show (u8s G).length = 576 by rw [u8s_length, HGL.out])
  have HP := Lib.hid (show Wt.key G = Wt.rec_ d F by rw [hG]; rfl)
  have hl5 := Blk.new w5 65 (u8s z576)
  have b56 : Below w5.heap.size w5 (w5.alloc (.cells (u8s z576).toArray 65)) := (Below.refl _ _).alloc (Nat.le_refl _) _
  clear hG HC3 b5 b04 hr4 hk4'
  go_wp2_with (first
    | (refine wp_storeA 65 (.tmp 7) (.tmp 15) rfl rfl w5.heap.size rfl 65 (u8s z576) _ rfl hl5 (by rw [info_ends, HUG.out]) (by rw [HUG.out]; rfl) (u8s_one _) rfl ?_; intro w6 hl6 hk6)
    | (refine wp_run rfl (exec_loadA 65 rfl w5.heap.size rfl 65 _ 18 25 hl6 Tryd.underlying65 (by rw [info_ends, HUG.out])) ?_))
  have b56' : Below w5.heap.size w5 w6 := ((Keep.of_below b56).trans (hk6.mono (O' := fun q => q < w5.heap.size) (fun q hq => by omega))).below (fun q hq => hq) (Nat.le_refl _)
  have b06 := b05.trans (b56'.mono b05.size)
  have hr6 := hr5.past b56' hr5.lt
  refine (publicKey_any G w6 HGL.out (hk5.past b56')).mono ?_
  rintro e w7 ⟨rfl, b7⟩
  have b07 := b06.trans (b7.mono b06.size)
  have hr7 := hr6.past b7 hr6.lt
  rw [HP.out]
  have HPL : Hid ((u8s (Wt.rec_ d F)).length = 32) := Lib.hid (by rw [u8s_length, Wt.rec_len])
  have hs7 : w.heap.size + 1 + 1 < w7.heap.size := hr7.lt
  obtain ⟨D, hD⟩ : ∃ D, D = Wt.rec_ d F := ⟨_, rfl⟩
  rw [← hD] at HPL HP
  have HDD := Lib.hid hD
  rw [show Wt.rec_ d F = D from hD.symm]
  clear hD hz hz1 hz2 hr5 hr6 hl5 hl6 hk6 b56 b56' b7
  go_wp2_with (refine wp_storeA 25 (.tmp 4) (.tmp 17) rfl rfl (w.heap.size + 1 + 1) rfl 25 (u8s z32) _ rfl hr7 (by rw [info_dig, HPL.out]) (by rw [HPL.out]; rfl) (u8s_one _) rfl ?_; intro w8 hr8 hk8)
  have b08 : Below w.heap.size w w8 := b07.trans (hk8.below (fun q hq => by omega) b07.size)
  refine ret_arr_tmp Tryd.results24 rfl (w.heap.size + 1 + 1) 25 _ 32 5 rfl hr8 Tryd.underlying25 (by rw [info_dig, HPL.out]) _ rfl ?_
  rw [HDD.out]
  exact ⟨rfl, b08⟩

set_option maxRecDepth 100000 in
set_option maxHeartbeats 1000000 in
theorem recover_no (d : List UInt8) (n : Nat) (A : Option Addr) (cap : Nat) (w : World) (hn : n ≠ 18) (hm : n ≤ 9223372036854775807) :
    Calls Tryd.prog 24 #[.agg (u8s d).toArray, .slice A n cap] w fun e w' => e = .returned (.tuple #[.agg (u8s z32).toArray, .int .i64 1]) ∧ Below w.heap.size w w' := by
  have hz := zero_dig
  obtain ⟨W0, hW0⟩ : ∃ W0, W0 = ((w.alloc (.cells (u8s d).toArray 25)).alloc (.cells #[.slice A n cap] 29)).alloc (.cells (u8s z32).toArray 25) := ⟨_, rfl⟩
  have g1 : Below w.heap.size w (w.alloc (.cells (u8s d).toArray 25)) := (Below.refl _ _).alloc (Nat.le_refl _) _
  have b0 : Below w.heap.size w W0 := by rw [hW0]; exact (g1.alloc (by simp) _).alloc (by simp; omega) _
  have c1 : W0.cell? ⟨w.heap.size + 1, 0, none⟩ = some (.slice A n cap) := by
    have h := cell_box (w.alloc (.cells (u8s d).toArray 25)) (.slice A n cap) 29
    rw [World.size_alloc] at h
    rw [hW0]
    exact cell_past h ((Below.refl _ _).alloc (Nat.le_refl _) _)
  have hr0 : Blk W0 (w.heap.size + 1 + 1) 25 (u8s z32) := by
    have h := Blk.new ((w.alloc (.cells (u8s d).toArray 25)).alloc (.cells #[.slice A n cap] 29)) 25 (u8s z32)
    rw [World.size_alloc, World.size_alloc] at h
    rw [hW0]; exact h
  have HW := Lib.hid hW0
  have hs0 : w.heap.size + 1 + 1 < W0.heap.size := hr0.lt
  have hne : ((n : Int) == 18) = false := beq_eq_false_iff_ne.2 (by omega)
  clear hW0 g1
  go_enter Tryd.func24, Tryd.ntmps24
  go_upto_region 1 with (fail)
  rw [← HW.out]
  go_wp2_with (refine wp_storeA 25 (.tmp 4) (.tmp 11) rfl rfl (w.heap.size + 1 + 1) rfl 25 (u8s z32) (u8s z32) rfl hr0 (by rw [info_dig]; rfl) rfl (u8s_one _) rfl ?_; intro w8 hr8 hk8)
  have b08 : Below w.heap.size w w8 := b0.trans (hk8.below (fun q hq => by omega) b0.size)
  refine ret_arr_tmp Tryd.results24 rfl (w.heap.size + 1 + 1) 25 _ 32 5 rfl hr8 Tryd.underlying25 (by rw [info_dig]; rfl) _ rfl ?_
  exact ⟨rfl, b08⟩
end

end Go.Proofs.YtccepoeenkpifaaDoor
