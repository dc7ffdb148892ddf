/-
  The walk of ends, the law's own concatenation of chain ends; opening an argument that is a slice of digests.
-/
import Derived.Test.YtnfhdjmehhapiaaDoorWtI
namespace Go.Proofs.YtnfhdjmehhapiaaDoor
open Go.RowKit
set_option linter.unusedVariables false
set_option linter.unusedSimpArgs false

/-- An own row of bytes lies below the heap's size; it keeps through what leaves the blocks below a bound above it. -/
theorem own_lt {w : World} {base : Nat} {v : Value} {l : List UInt8} (h : Own w base v l) : ∀ k, v.ownBlock = some k → k < w.heap.size := fun k hk => (World.ownsRow.lt h k hk).2
theorem own_below {w w' : World} {base g : Nat} {v : Value} {l : List UInt8} (h : Own w base v l) (hb : Below g w w') (hg : ∀ k, v.ownBlock = some k → k < g) : Own w' base v l := by
  obtain ⟨h1, h2⟩ := h
  refine ⟨h1, ?_⟩
  rcases h2 with h2 | ⟨q, cap, cur, hv, hq, hh, r⟩
  · exact Or.inl h2
  · exact Or.inr ⟨q, cap, cur, hv, hq, (hb.block q (hg q (by rw [hv]; rfl))).trans hh, r⟩

set_option maxRecDepth 100000 in
set_option maxHeartbeats 1000000 in
theorem ends_any (d F : List UInt8) (v : Value) (w : World) (hv : Row w w.heap.size 32 18 v (u8s F)) (hd : d.length = 32) (hk : KIs 0 w) :
    Calls Tryd.prog 25 #[.agg (u8s d).toArray, v] w fun e w' => ∃ u, e = .returned u ∧ Bs w' w'.heap.size u (Wt.cat (Wt.recE d F) 18) ∧ Below w.heap.size w w' := by
  obtain ⟨A, cap, rfl⟩ := row_form hv
  obtain ⟨ad, rfl, had, _⟩ := hv.at_ (by omega)
  have HFL := Lib.hid (show F.length = 576 from row_flen hv)
  have hz := zero_dig
  have HUD := Lib.hid (show (u8s d).length = 32 by rw [u8s_length, hd])
  have b0 : Below w.heap.size w (w.alloc (.cells (u8s d).toArray 23)) := (Below.refl _ _).alloc (Nat.le_refl _) _
  have hd0 : Blk (w.alloc (.cells (u8s d).toArray 23)) w.heap.size 23 (u8s d) := Blk.new w _ _
  obtain ⟨W0, hW0⟩ : ∃ W0, W0 = w.alloc (.cells (u8s d).toArray 23) := ⟨_, rfl⟩
  rw [← hW0] at b0 hd0
  have HW := Lib.hid hW0
  have HC2 := Lib.hid (nibbles_any d W0 hd)
  clear hW0 hd
  go_enter Tryd.func25, Tryd.ntmps25
  go_upto_region 1 with (fail)
  rw [← HW.out]
  go_wp2_with (refine wp_run rfl (exec_loadA 23 rfl w.heap.size rfl 23 _ 32 5 hd0 Tryd.underlying23 (by rw [info_dig, HUD.out])) ?_)
  refine HC2.out.mono ?_
  rintro e w2 ⟨gn, rfl, hn2, hgn, b2⟩
  have b02 := b0.trans (b2.mono b0.size)
  have hs02 := b02.size
  have hgl := hn2.lt
  obtain ⟨NA, hNA⟩ : ∃ NA, NA = Wt.ns d := ⟨_, rfl⟩
  rw [← hNA] at hn2
  have HNA := Lib.hid (fun k (h : k < 18) => (show NA[k]? = some (Wt.nn d k) by rw [hNA]; exact Wt.ns_get d h))
  clear HC2 b2 hd0 b0 hNA
  obtain ⟨S, hS⟩ : ∃ S, S = w2.heap.size := ⟨_, rfl⟩
  rw [← hS] at hs02 hgl
  have hS2 : S ≤ w2.heap.size := by omega
  clear hS
  go_wp2_with fail
  obtain ⟨ct, hct⟩ : ∃ ct : Nat → List UInt8, ct = Wt.cat (Wt.recE d F) := ⟨_, rfl⟩
  have HCT := Lib.hid hct
  have hct0 : ct 0 = [] := by rw [hct]; rfl
  clear hct
  go_loopw [7, 6] (fun i q wr => ∃ k : Nat, i = .int .i64 k ∧ k ≤ 18 ∧ Own wr S q (ct k) ∧ Blk wr gn 48 (ins NA) ∧ S ≤ wr.heap.size ∧ Below w.heap.size w wr) (fun i _ _ => 18 - (intOf i).toNat)
  case atStart => exact ⟨0, rfl, by omega, by rw [hct0]; exact Own.nil_ _ _, hn2, hS2, b02⟩
  case round =>
    clear hn2 b02 hS2 hct0
    obtain ⟨k, rfl, hkn, hq, hn, hs1, hb⟩ := hrel
    by_cases hlt : k < 18
    · have HEL := Lib.hid (Wt.el_len (F := F) (n := 18) (i := k) HFL.out hlt)
      have HUE := Lib.hid (show (u8s (Wt.el F k)).length = 32 by rw [u8s_length, HEL.out])
      have hnl := Wt.nn_le d k
      have HCS := Lib.hid (show ct k ++ Wt.recE d F k = ct (k + 1) by rw [HCT.out]; rfl)
      have hctl : (ct k).length = 32 * k := by rw [HCT.out]; exact Wt.cat_len k fun i hi => Wt.recE_len HFL.out (by omega)
      obtain ⟨D, hD⟩ : ∃ D, D = Wt.recE d F k := ⟨_, rfl⟩
      have HDL := Lib.hid (show D.length = 32 by rw [hD]; exact Wt.recE_len HFL.out hlt)
      rw [← hD] at HCS
      have HUD2 := Lib.hid (show (u8s D).length = 32 by rw [u8s_length, HDL.out])
      have HDC := Lib.hid (show Sha.chain (Wt.el F k) (15 - Wt.nn d k) = D by rw [hD]; rfl)
      have ce0 : ∀ W, Below S wr W → ∀ j u, (u8s (Wt.el F k))[j]? = some u → W.cell? ((ad.add (k * 32)).add j) = some u := fun W hW => row_elem (((hv.carry hb (Nat.le_refl _)).mono hs02).carry hW (Nat.le_refl _)) hlt
      have cn : wr.cell? ⟨gn, k, none⟩ = some (.int .i64 ((Wt.nn d k : Nat) : Int)) := hn.cell (ins_get (HNA.out k hlt))
      have cn0 : ∀ W, Below S wr W → W.cell? ⟨gn, k, none⟩ = some (.int .i64 ((Wt.nn d k : Nat) : Int)) := fun W hW => (hW.cell (p := ⟨gn, k, none⟩) hgl).trans cn
      obtain ⟨n, hnn⟩ : ∃ n, n = Wt.nn d k := ⟨_, rfl⟩
      rw [← hnn] at cn0 HDC hnl
      obtain ⟨E, hE⟩ : ∃ E, E = Wt.el F k := ⟨_, rfl⟩
      rw [← hE] at ce0 HDC HEL HUE
      obtain ⟨T, hT⟩ : ∃ T, T = ct k := ⟨_, rfl⟩
      rw [← hT] at hq HCS hctl
      have HLN : Hid (T.length + D.length ≤ 140737488355328) := Lib.hid (by rw [hctl, HDL.out]; omega)
      have CN := Lib.hid cn0
      have CE := Lib.hid ce0
      clear hD hnn cn0 ce0 hE hT cn hctl
      go_upto_region 6 with (fail)
      refine wp_region_pt S (.take 0 (.take 1 (.take 2 (.take 3 (.take 4 (.take 5 (.take 6 (.take 7 (.take 8 (.two 9 (.step 10 (.step 11 .done)) 10 (.step 9 (.step 11 .done)))))))))))) (by kernel_rfl) (by kernel_rfl) (by kernel_rfl) (fun _ _ h => h) ?_
      have bd : Below wr.heap.size wr wr.drew := (Below.refl _ _).drew
      have hq0 := hq.past bd
      have b0 : Below w.heap.size w wr.drew := hb.drew
      have hn0 := hn.past bd hn.lt
      have z0 : S ≤ wr.drew.heap.size := Nat.le_trans hs1 bd.size
      have bS : Below S wr wr.drew := bd.mono hs1
      obtain ⟨w0, hw0⟩ : ∃ w0, w0 = wr.drew := ⟨_, rfl⟩
      rw [← hw0] at hq0 b0 hn0 z0 bS ⊢
      clear hw0 bd hq hn hb
      first | refine pt_skip rfl rfl rfl rfl ?_ | (refine pt_take rfl rfl rfl rfl ?_; apply Exists.intro; refine ⟨fun w' hw' => ?_, ?_⟩; focus ((repeat (first | go_skip | go_guarded | go_step | go_upon | go_back)); exact ⟨rfl, rfl, rfl⟩))
      first | refine pt_skip rfl rfl rfl rfl ?_ | (refine pt_take rfl rfl rfl rfl ?_; apply Exists.intro; refine ⟨fun w' hw' => ?_, ?_⟩; focus ((repeat (first | go_skip | go_guarded | go_step | go_upon | go_back)); exact ⟨rfl, rfl, rfl⟩))
      refine pt_take rfl rfl rfl rfl ?_
      apply Exists.intro
      refine ⟨fun w' hw' => ?_, ?_⟩
      · refine wp_run rfl (exec_ixS 33 23 32 Tryd.underlying33 info_dig w' rfl rfl _ _ k rfl rfl hlt (q := ad.add (k * 32)) rfl) ?_
        exact ⟨rfl, rfl, rfl⟩
      refine pt_take rfl rfl rfl rfl ?_
      apply Exists.intro
      refine ⟨fun w' hw' => ?_, ?_⟩
      · refine wp_run rfl (exec_loadP 23 rfl (ad.add (k * 32)) rfl (u8s E) 32 5 (CE.out w' (bS.trans hw')) Tryd.underlying23 (by rw [info_dig, HUE.out])) ?_
        exact ⟨rfl, rfl, rfl⟩
      first | refine pt_skip rfl rfl rfl rfl ?_ | (refine pt_take rfl rfl rfl rfl ?_; apply Exists.intro; refine ⟨fun w' hw' => ?_, ?_⟩; focus ((repeat (first | go_skip | go_guarded | go_step | go_upon | go_back)); exact ⟨rfl, rfl, rfl⟩))
      first | refine pt_skip rfl rfl rfl rfl ?_ | (refine pt_take rfl rfl rfl rfl ?_; apply Exists.intro; refine ⟨fun w' hw' => ?_, ?_⟩; focus ((repeat (first | go_skip | go_guarded | go_step | go_upon | go_back)); exact ⟨rfl, rfl, rfl⟩))
      refine pt_take rfl rfl rfl rfl ?_
      apply Exists.intro
      refine ⟨fun w' hw' => ?_, ?_⟩
      · refine wp_run rfl (exec_ixS 26 3 1 Tryd.underlying26 size_int w' rfl rfl _ _ k rfl rfl hlt (q := ⟨gn, k, none⟩) (by rw [add_zero_addr, Nat.mul_one])) ?_
        exact ⟨rfl, rfl, rfl⟩
      refine pt_take rfl rfl rfl rfl ?_
      apply Exists.intro
      refine ⟨fun w' hw' => ?_, ?_⟩
      · have hcell := CN.out w' (bS.trans hw')
        focus ((repeat (first | go_skip | go_guarded | go_step | go_upon | go_back)); exact ⟨rfl, rfl, rfl⟩)
      first | refine pt_skip rfl rfl rfl rfl ?_ | (refine pt_take rfl rfl rfl rfl ?_; apply Exists.intro; refine ⟨fun w' hw' => ?_, ?_⟩; focus ((repeat (first | go_skip | go_guarded | go_step | go_upon | go_back)); exact ⟨rfl, rfl, rfl⟩))
      refine pt_two rfl rfl ?_ ?_
      · go_wp2_with fail
        refine (chain_any E (15 - (n : Int)) w0 HEL.out (by omega) (by omega) (hk.past b0)).mono ?_
        rintro e w3 ⟨rfl, b3⟩
        rw [show (15 - (n : Int)).toNat = 15 - n by omega, HDC.out]
        go_wp2_with fail
        refine ⟨rfl, b3.mono z0, ?_⟩
        have hq3 := hq0.past b3
        have hn3 := hn0.past b3 hn0.lt
        have bb3 := b0.trans (b3.mono b0.size)
        have z3 := Nat.le_trans z0 b3.size
        clear hq0 hn0 b0 z0 b3 bS
        refine pt_step rfl ?_
        go_wp2_with fail
        refine stepped_alloc (u8s z32) rfl z3 ?_
        intro w4 b34 hg4
        have hq4 := hq3.past b34
        have hn4 := hn3.past b34 hn3.lt
        have b4 := bb3.trans (b34.mono bb3.size)
        have z4 := Nat.le_trans z3 b34.size
        have hqg := own_lt hq3
        obtain ⟨gq, hgq⟩ : ∃ gq, gq = w3.heap.size := ⟨_, rfl⟩
        rw [← hgq] at hg4 hqg ⊢
        have hgS : S ≤ gq := by omega
        clear hgq hq3 hn3 bb3 z3 b34
        refine pt_step rfl ?_
        go_wp2_with (refine wp_storeA 23 (.tmp 8) (.tmp 32) rfl rfl gq rfl 23 (u8s z32) _ rfl hg4 (by rw [info_dig, HUD2.out]) (by rw [HUD2.out]; rfl) (u8s_one _) rfl ?_; intro w5 hg5 hk5)
        have g45 : Below gq w4 w5 := hk5.below (fun q hq => by omega) (Nat.le_of_lt hg4.lt)
        refine ⟨rfl, g45.mono hgS, ?_⟩
        have hq5 := own_below hq4 g45 hqg
        have hn5 := hn4.past g45 (by omega)
        have b5 := b4.trans (g45.mono (Nat.le_trans hs02 hgS))
        have z5 := Nat.le_trans z4 g45.size
        change Exit.then _ _ Exit.normal _ _
        have hdg := dig_bs hg5 HDL.out
        clear hg4 hk5 g45 hq4 hn4 b4 z4
        go_wp2_with (first
          | (refine wp_sliceA0 23 5 32 (.tmp 8) rfl rfl Tryd.underlying23 size_u8 gq rfl ?_)
          | (refine wp_apps S (.tmp 33) (.tmp 34) rfl rfl _ _ T D rfl rfl hq5 z5 hdg HLN.out ?_; intro v6 w6 o6 b6))
        have hn6 := hn5.past b6 hgl
        have bb6 := b5.trans (b6.mono hs02)
        have z6 := Nat.le_trans z5 b6.size
        rw [HCS.out] at o6
        clear hq5 hn5 b5 hdg hg5
        go_roundw
        case rel => exact ⟨k + 1, by go_num, by omega, o6, hn6, z6, bb6⟩
        case measure => simp [intOf]; omega
      · go_wp2_with fail
        refine stepped_alloc (u8s z32) rfl z0 ?_
        intro w3 b03 hg3
        have hq3 := hq0.past b03
        have hn3 := hn0.past b03 hn0.lt
        have bb3 := b0.trans (b03.mono b0.size)
        have z3 := Nat.le_trans z0 b03.size
        have hqg := own_lt hq0
        obtain ⟨gq, hgq⟩ : ∃ gq, gq = w0.heap.size := ⟨_, rfl⟩
        rw [← hgq] at hg3 hqg ⊢
        have hgS : S ≤ gq := by omega
        clear hgq hq0 hn0 b0 z0 b03 bS
        refine pt_step rfl ?_
        go_wp2_with fail
        refine (chain_any E (15 - (n : Int)) w3 HEL.out (by omega) (by omega) (hk.past bb3)).mono ?_
        rintro e w4 ⟨rfl, b34⟩
        rw [show (15 - (n : Int)).toNat = 15 - n by omega, HDC.out]
        go_wp2_with fail
        refine ⟨rfl, b34.mono z3, ?_⟩
        have hg4 := hg3.past b34 hg3.lt
        have hq4 := hq3.past b34
        have hn4 := hn3.past b34 hn3.lt
        have b4 := bb3.trans (b34.mono bb3.size)
        have z4 := Nat.le_trans z3 b34.size
        clear hg3 hq3 hn3 bb3 z3 b34
        refine pt_step rfl ?_
        go_wp2_with (refine wp_storeA 23 (.tmp 8) (.tmp 32) rfl rfl gq rfl 23 (u8s z32) _ rfl hg4 (by rw [info_dig, HUD2.out]) (by rw [HUD2.out]; rfl) (u8s_one _) rfl ?_; intro w5 hg5 hk5)
        have g45 : Below gq w4 w5 := hk5.below (fun q hq => by omega) (Nat.le_of_lt hg4.lt)
        refine ⟨rfl, g45.mono hgS, ?_⟩
        have hq5 := own_below hq4 g45 hqg
        have hn5 := hn4.past g45 (by omega)
        have b5 := b4.trans (g45.mono (Nat.le_trans hs02 hgS))
        have z5 := Nat.le_trans z4 g45.size
        change Exit.then _ _ Exit.normal _ _
        have hdg := dig_bs hg5 HDL.out
        clear hg4 hk5 g45 hq4 hn4 b4 z4
        go_wp2_with (first
          | (refine wp_sliceA0 23 5 32 (.tmp 8) rfl rfl Tryd.underlying23 size_u8 gq rfl ?_)
          | (refine wp_apps S (.tmp 33) (.tmp 34) rfl rfl _ _ T D rfl rfl hq5 z5 hdg HLN.out ?_; intro v6 w6 o6 b6))
        have hn6 := hn5.past b6 hgl
        have bb6 := b5.trans (b6.mono hs02)
        have z6 := Nat.le_trans z5 b6.size
        rw [HCS.out] at o6
        clear hq5 hn5 b5 hdg hg5
        go_roundw
        case rel => exact ⟨k + 1, by go_num, by omega, o6, hn6, z6, bb6⟩
        case measure => simp [intOf]; omega
    · have hk18 : k = 18 := by omega
      have hq' := hq
      rw [hk18] at hq'
      have hqb := hq'.bs
      rw [HCT.out] at hqb
      have HQB := Lib.hid hqb
      clear hq hq' hn hqb
      subst hk18
      go_wp2
      go_ret
      exact ⟨_, rfl, HQB.out, hb⟩
end Go.Proofs.YtnfhdjmehhapiaaDoor
