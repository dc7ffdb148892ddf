/-
  The walk of WotsChainsAdvance.
-/
import Derived.Test.YtnfhdjmehhapiaaDoorWtH
import Derived.Test.YtnfhdjmehhapiaaDoorWtI
import Derived.Test.YtnfhdjmehhapiaaDoorOpA
namespace Go.Proofs.YtnfhdjmehhapiaaDoor
open Go.RowKit
set_option linter.unusedVariables false
set_option linter.unusedSimpArgs false

theorem bs_len {w : World} {B : Nat} {v : Value} {l : List UInt8} (h : Bs w B v l) : l.length ≤ 9223372036854775807 := by
  obtain ⟨_, _, _, h1, h2, _⟩ := h
  unfold maxLen at h2
  omega

set_option maxRecDepth 100000 in
set_option maxHeartbeats 4000000 in
theorem wotsChainsAdvance_walk (v : Value) (s : List UInt8) (ix : Int) (a b : List UInt8) (W : World) (hv : Bs W W.heap.size v s) (hix : -9223372036854775808 ≤ ix ∧ ix ≤ 9223372036854775807) (ha : a.length = 32) (hb : b.length = 32) (hk : KIs 0 W) :
    Calls Tryd.prog 8 #[v, .int .i64 ix, .agg (u8s a).toArray, .agg (u8s b).toArray] W fun e w' => e = .returned (.bool true) ∧ Below W.heap.size W w' := by
  obtain ⟨A, cap, rfl⟩ := hv.form
  have hsl := bs_len hv
  have HUA := Lib.hid (show (u8s a).length = 32 by rw [u8s_length, ha])
  have HUB := Lib.hid (show (u8s b).length = 32 by rw [u8s_length, hb])
  have HA := Lib.hid ha
  have HB := Lib.hid hb
  obtain ⟨W0, hW0⟩ : ∃ W0, W0 = (W.alloc (.cells (u8s a).toArray 23)).alloc (.cells (u8s b).toArray 23) := ⟨_, rfl⟩
  have b0 : Below W.heap.size W W0 := by rw [hW0]; exact ((Below.refl _ _).alloc (Nat.le_refl _) _).alloc (by simp) _
  have ha0 : Blk W0 W.heap.size 23 (u8s a) := by
    rw [hW0]
    exact (Blk.new W _ _).past ((Below.refl _ _).alloc (Nat.le_refl _) _) (by simp)
  have hb0 : Blk W0 (W.heap.size + 1) 23 (u8s b) := by
    have h := Blk.new (W.alloc (.cells (u8s a).toArray 23)) 23 (u8s b)
    rw [World.size_alloc] at h
    rw [hW0]; exact h
  have HW := Lib.hid hW0
  have hk0 := hk.past b0
  have hv0 := hv.past b0
  clear hW0 ha hb hv
  by_cases hlen : s.length ≤ 200
  · go_enter Tryd.func8, Tryd.ntmps8
    go_upto_region 1 with (fail)
    rw [← HW.out]
    go_wp2_with fail
    refine (sane_any W0 hk0).mono ?_
    rintro e w1 ⟨rfl, b1⟩
    have ha1 := ha0.past b1 ha0.lt
    have hb1 := hb0.past b1 hb0.lt
    have hk1 := hk0.past b1
    have hv1 := hv0.past b1
    have bl1 := b0.trans (b1.mono b0.size)
    clear ha0 hb0 hk0 hv0 b0 b1
    by_cases hok : 1 ≤ s.length ∧ s.length ≤ 64 ∧ 0 ≤ ix ∧ ix ≤ 1023
    · obtain ⟨h1, h2, h3, h4⟩ := hok
      obtain ⟨n, rfl⟩ := Int.eq_ofNat_of_zero_le h3
      have HS := Lib.hid (sign_yes (.slice A s.length cap) s a n w1 hv1 h1 h2 (by omega) HA.out hk1)
      go_wp2_with (refine wp_run rfl (exec_loadA 23 rfl W.heap.size rfl 23 _ 32 5 ha1 Tryd.underlying23 (by rw [info_dig, HUA.out])) ?_)
      refine HS.out.mono ?_
      rintro e w2 ⟨gs, rfl, hs2, hgs, b2⟩
      have ha2 := ha1.past b2 ha1.lt
      have hb2 := hb1.past b2 hb1.lt
      have hk2 := hk1.past b2
      have hv2 := hv1.past b2
      have bl2 := bl1.trans (b2.mono bl1.size)
      have HT := Lib.hid (sign_yes (.slice A s.length cap) s b n w2 hv2 h1 h2 (by omega) HB.out hk2)
      clear HS ha1 hb1 hk1 hv1 bl1 b2
      go_wp2_with (refine wp_run rfl (exec_loadA 23 rfl (W.heap.size + 1) rfl 23 _ 32 5 hb2 Tryd.underlying23 (by rw [info_dig, HUB.out])) ?_)
      refine HT.out.mono ?_
      rintro e w3 ⟨gt, rfl, ht3, hgt, b3⟩
      have ha3 := ha2.past b3 ha2.lt
      have hb3 := hb2.past b3 hb2.lt
      have hk3 := hk2.past b3
      have hs3 := hs2.past b3 hs2.lt
      have bl3 := bl2.trans (b3.mono bl2.size)
      have HM := Lib.hid (nibbles_any a w3 HA.out)
      clear HT ha2 hb2 hk2 hv2 hs2 bl2 b3
      go_wp2_with (refine wp_run rfl (exec_loadA 23 rfl W.heap.size rfl 23 _ 32 5 ha3 Tryd.underlying23 (by rw [info_dig, HUA.out])) ?_)
      refine HM.out.mono ?_
      rintro e w4 ⟨g1, rfl, hm4, hg1, b4⟩
      have hb4 := hb3.past b4 hb3.lt
      have hk4 := hk3.past b4
      have hs4 := hs3.past b4 hs3.lt
      have ht4 := ht3.past b4 ht3.lt
      have bl4 := bl3.trans (b4.mono bl3.size)
      have HN := Lib.hid (nibbles_any b w4 HB.out)
      clear HM ha3 hb3 hk3 hs3 ht3 bl3 b4
      go_wp2_with (refine wp_run rfl (exec_loadA 23 rfl (W.heap.size + 1) rfl 23 _ 32 5 hb4 Tryd.underlying23 (by rw [info_dig, HUB.out])) ?_)
      refine HN.out.mono ?_
      rintro e w5 ⟨g2, rfl, hn5, hg2, b5⟩
      have hk5 := hk4.past b5
      have hs5 := hs4.past b5 hs4.lt
      have ht5 := ht4.past b5 ht4.lt
      have hm5 := hm4.past b5 hm4.lt
      have bl5 := bl4.trans (b5.mono bl4.size)
      have HSL := Lib.hid (show (u8s (Wt.sig s n a)).length = 18 * 32 by rw [u8s_length, Wt.sig_len])
      have HTL := Lib.hid (show (u8s (Wt.sig s n b)).length = 18 * 32 by rw [u8s_length, Wt.sig_len])
      obtain ⟨FS, hFS⟩ : ∃ FS, FS = Wt.sig s n a := ⟨_, rfl⟩
      obtain ⟨FT, hFT⟩ : ∃ FT, FT = Wt.sig s n b := ⟨_, rfl⟩
      rw [← hFS] at hs5 HSL
      rw [← hFT] at ht5 HTL
      have HFS := Lib.hid hFS
      have HFT := Lib.hid hFT
      obtain ⟨NA, hNA⟩ : ∃ NA, NA = Wt.ns a := ⟨_, rfl⟩
      obtain ⟨NB, hNB⟩ : ∃ NB, NB = Wt.ns b := ⟨_, rfl⟩
      rw [← hNA] at hm5
      rw [← hNB] at hn5
      have HNA := Lib.hid (fun k (h : k < 18) => (show NA[k]? = some (Wt.nn a k) by rw [hNA]; exact Wt.ns_get a h))
      have HNB := Lib.hid (fun k (h : k < 18) => (show NB[k]? = some (Wt.nn b k) by rw [hNB]; exact Wt.ns_get b h))
      clear HN hb4 hk4 hs4 ht4 hm4 bl4 b5 hFS hFT hNA hNB
      go_wp2_with fail
      go_loopw [15] (fun i wr => ∃ k : Nat, i = .int .i64 k ∧ k ≤ 18 ∧ KIs 0 wr ∧ Blk wr gs 51 (u8s FS) ∧ Blk wr gt 51 (u8s FT) ∧ Blk wr g1 48 (ins NA) ∧ Blk wr g2 48 (ins NB) ∧ Below W.heap.size W wr) (fun i _ => 18 - (intOf i).toNat)
      case atStart => exact ⟨0, rfl, by omega, hk5, hs5, ht5, hm5, hn5, bl5⟩
      case round =>
        clear hk5 hs5 ht5 hm5 hn5 bl5
        obtain ⟨k, rfl, hkn, hkr, hsr, htr, hmr, hnr, hbl⟩ := hrel
        by_cases hlt : k < 18
        · go_upto_region 16 with (fail)
          have bd : Below wr.heap.size wr wr.drew := (Below.refl _ _).drew
          have cm := (hmr.past bd hmr.lt).cell (ins_get (HNA.out k hlt))
          have cn := (hnr.past bd hnr.lt).cell (ins_get (HNB.out k hlt))
          have hml := Wt.nn_le a k
          have hnl := Wt.nn_le b k
          have hrs := row_of_blkS (s := 32) (n := 18) hsr hsr.lt HSL.out (by decide)
          have hrt := row_of_blkS (s := 32) (n := 18) htr htr.lt HTL.out (by decide)
          have ce : ∀ w', Below wr.heap.size wr w' → ∀ j u, (u8s (Wt.el FS k))[j]? = some u → w'.cell? (((⟨gs, 0, none⟩ : Addr).add (k * 32)).add j) = some u := fun w' h => row_elem (hrs.carry h (Nat.le_refl _)) hlt
          have cf : ∀ w', Below wr.heap.size wr w' → ∀ j u, (u8s (Wt.el FT k))[j]? = some u → w'.cell? (((⟨gt, 0, none⟩ : Addr).add (k * 32)).add j) = some u := fun w' h => row_elem (hrt.carry h (Nat.le_refl _)) hlt
          rw [HFS.out, Wt.el_sig s n a hlt] at ce
          rw [HFT.out, Wt.el_sig s n b hlt] at cf
          have HEL := Lib.hid (Wt.sigE_len s n a k)
          have HFL := Lib.hid (Wt.sigE_len s n b k)
          have hadv := fun h => Wt.advance s n a b k h
          have hadv2 := fun h => Wt.advance s n b a k h
          obtain ⟨E, hE⟩ : ∃ E, E = Wt.sigE s n a k := ⟨_, rfl⟩
          obtain ⟨F, hF⟩ : ∃ F, F = Wt.sigE s n b k := ⟨_, rfl⟩
          rw [← hE] at ce HEL hadv hadv2
          rw [← hF] at cf HFL hadv hadv2
          obtain ⟨p, hp⟩ : ∃ p, p = Wt.nn a k := ⟨_, rfl⟩
          obtain ⟨q, hq⟩ : ∃ q, q = Wt.nn b k := ⟨_, rfl⟩
          rw [← hp] at cm hml hadv hadv2
          rw [← hq] at cn hnl hadv hadv2
          have HUE := Lib.hid (show (u8s E).length = 32 by rw [u8s_length, HEL.out])
          have HUF := Lib.hid (show (u8s F).length = 32 by rw [u8s_length, HFL.out])
          have hg1 := hmr.lt
          have hg2 := hnr.lt
          have CE := Lib.hid ce
          have CF := Lib.hid cf
          have HADV := Lib.hid hadv
          have HADV2 := Lib.hid hadv2
          have b0 : Below W.heap.size W wr.drew := hbl.drew
          have hk0 := hkr.past bd
          have hs0 := hsr.past bd hsr.lt
          have ht0 := htr.past bd htr.lt
          have hm0 := hmr.past bd hmr.lt
          have hn0 := hnr.past bd hnr.lt
          have z0 := bd.size
          have HRS := Lib.hid hrs
          clear hE hF hp hq ce cf hadv hadv2 hrs hrt hkr hsr htr hmr hnr hbl
          by_cases hle : p ≤ q
          · have HCH : Hid (Sha.chain E (((q : Int) - (p : Int)).toNat) = F) := Lib.hid (by rw [show ((q : Int) - (p : Int)).toNat = q - p by omega]; exact HADV.out hle)
            have HQ : Hid ((!(F == F)) = false) := Lib.hid (by rw [beq_self_eq_true]; rfl)
            have hle' : (p : Int) ≤ (q : Int) := by omega
            have hgt' : ¬ (q : Int) < (p : Int) := by omega
            refine wp_region_pt wr.heap.size (.take 0 (.take 1 (.take 2 (.take 3 (.take 4 (.take 5 (.take 6 (.take 7 (.take 8 (.take 9 (.take 10 (.take 11 (.take 12 (.take 13 (.take 14 (.take 15 (.take 16 (.take 17 (.take 18 (.take 19 (.take 20 (.take 21 (.take 22 (.take 24 (.take 25 (.take 26 (.take 27 (.step 23 (.take 28 (.take 29 (.take 30 (.take 31 (.take 32 (.take 33 (.take 34 (.take 35 (.take 36 (.take 37 (.take 38 (.take 39 (.take 40 (.take 41 (.take 42 (.take 43 (.take 44 (.take 45 (.take 46 (.take 47 (.take 48 (.take 49 (.take 50 (.take 51 (.take 52 (.take 53 (.take 55 (.take 56 (.take 57 (.take 58 (.step 54 (.take 59 (.take 60 (.take 61 .done)))))))))))))))))))))))))))))))))))))))))))))))))))))))))))))) (by kernel_rfl) (by kernel_rfl) (by kernel_rfl) (fun _ _ h => h) ?_
            obtain ⟨w0, hw0⟩ : ∃ w0, w0 = wr.drew := ⟨_, rfl⟩
            rw [← hw0] at bd cm cn b0 hk0 hs0 ht0 hm0 hn0 z0 ⊢
            have bX := bd
            clear hw0 bd
            first | refine pt_skip rfl rfl rfl rfl ?_ | (refine pt_take rfl rfl rfl rfl ?_; apply Exists.intro; refine ⟨fun w' hw' => ?_, ?_⟩; focus ((repeat (first | go_skip | go_guarded | go_step | go_upon | go_back)); exact ⟨rfl, rfl, rfl⟩))
            first | refine pt_skip rfl rfl rfl rfl ?_ | (refine pt_take rfl rfl rfl rfl ?_; apply Exists.intro; refine ⟨fun w' hw' => ?_, ?_⟩; focus ((repeat (first | go_skip | go_guarded | go_step | go_upon | go_back)); exact ⟨rfl, rfl, rfl⟩))
            refine pt_take rfl rfl rfl rfl ?_
            apply Exists.intro
            refine ⟨fun w' hw' => ?_, ?_⟩
            · refine wp_run rfl (exec_ixS 26 3 1 Tryd.underlying26 size_int w' rfl rfl _ _ k rfl rfl hlt (q := ⟨g1, k, none⟩) (by rw [add_zero_addr, Nat.mul_one])) ?_
              exact ⟨rfl, rfl, rfl⟩
            refine pt_take rfl rfl rfl rfl ?_
            apply Exists.intro
            refine ⟨fun w' hw' => ?_, ?_⟩
            · have hcell := (hw'.cell (p := ⟨g1, k, none⟩) hg1).trans cm
              focus ((repeat (first | go_skip | go_guarded | go_step | go_upon | go_back)); exact ⟨rfl, rfl, rfl⟩)
            first | refine pt_skip rfl rfl rfl rfl ?_ | (refine pt_take rfl rfl rfl rfl ?_; apply Exists.intro; refine ⟨fun w' hw' => ?_, ?_⟩; focus ((repeat (first | go_skip | go_guarded | go_step | go_upon | go_back)); exact ⟨rfl, rfl, rfl⟩))
            first | refine pt_skip rfl rfl rfl rfl ?_ | (refine pt_take rfl rfl rfl rfl ?_; apply Exists.intro; refine ⟨fun w' hw' => ?_, ?_⟩; focus ((repeat (first | go_skip | go_guarded | go_step | go_upon | go_back)); exact ⟨rfl, rfl, rfl⟩))
            refine pt_take rfl rfl rfl rfl ?_
            apply Exists.intro
            refine ⟨fun w' hw' => ?_, ?_⟩
            · refine wp_run rfl (exec_ixS 26 3 1 Tryd.underlying26 size_int w' rfl rfl _ _ k rfl rfl hlt (q := ⟨g2, k, none⟩) (by rw [add_zero_addr, Nat.mul_one])) ?_
              exact ⟨rfl, rfl, rfl⟩
            refine pt_take rfl rfl rfl rfl ?_
            apply Exists.intro
            refine ⟨fun w' hw' => ?_, ?_⟩
            · have hcell := (hw'.cell (p := ⟨g2, k, none⟩) hg2).trans cn
              focus ((repeat (first | go_skip | go_guarded | go_step | go_upon | go_back)); exact ⟨rfl, rfl, rfl⟩)
            first | refine pt_skip rfl rfl rfl rfl ?_ | (refine pt_take rfl rfl rfl rfl ?_; apply Exists.intro; refine ⟨fun w' hw' => ?_, ?_⟩; focus ((repeat (first | go_skip | go_guarded | go_step | go_upon | go_back)); exact ⟨rfl, rfl, rfl⟩))
            first | refine pt_skip rfl rfl rfl rfl ?_ | (refine pt_take rfl rfl rfl rfl ?_; apply Exists.intro; refine ⟨fun w' hw' => ?_, ?_⟩; focus ((repeat (first | go_skip | go_guarded | go_step | go_upon | go_back)); exact ⟨rfl, rfl, rfl⟩))
            first | refine pt_skip rfl rfl rfl rfl ?_ | (refine pt_take rfl rfl rfl rfl ?_; apply Exists.intro; refine ⟨fun w' hw' => ?_, ?_⟩; focus ((repeat (first | go_skip | go_guarded | go_step | go_upon | go_back)); exact ⟨rfl, rfl, rfl⟩))
            first | refine pt_skip rfl rfl rfl rfl ?_ | (refine pt_take rfl rfl rfl rfl ?_; apply Exists.intro; refine ⟨fun w' hw' => ?_, ?_⟩; focus ((repeat (first | go_skip | go_guarded | go_step | go_upon | go_back)); exact ⟨rfl, rfl, rfl⟩))
            refine pt_take rfl rfl rfl rfl ?_
            apply Exists.intro
            refine ⟨fun w' hw' => ?_, ?_⟩
            · refine wp_run rfl (exec_ixS 33 23 32 Tryd.underlying33 info_dig w' rfl rfl _ _ k rfl rfl hlt (q := (⟨gs, 0, none⟩ : Addr).add (k * 32)) rfl) ?_
              exact ⟨rfl, rfl, rfl⟩
            refine pt_take rfl rfl rfl rfl ?_
            apply Exists.intro
            refine ⟨fun w' hw' => ?_, ?_⟩
            · refine wp_run rfl (exec_loadP 23 rfl ((⟨gs, 0, none⟩ : Addr).add (k * 32)) rfl (u8s E) 32 5 (CE.out w' (bX.trans hw')) Tryd.underlying23 (by rw [info_dig, HUE.out])) ?_
              exact ⟨rfl, rfl, rfl⟩
            first | refine pt_skip rfl rfl rfl rfl ?_ | (refine pt_take rfl rfl rfl rfl ?_; apply Exists.intro; refine ⟨fun w' hw' => ?_, ?_⟩; focus ((repeat (first | go_skip | go_guarded | go_step | go_upon | go_back)); exact ⟨rfl, rfl, rfl⟩))
            first | refine pt_skip rfl rfl rfl rfl ?_ | (refine pt_take rfl rfl rfl rfl ?_; apply Exists.intro; refine ⟨fun w' hw' => ?_, ?_⟩; focus ((repeat (first | go_skip | go_guarded | go_step | go_upon | go_back)); exact ⟨rfl, rfl, rfl⟩))
            refine pt_take rfl rfl rfl rfl ?_
            apply Exists.intro
            refine ⟨fun w' hw' => ?_, ?_⟩
            · refine wp_run rfl (exec_ixS 26 3 1 Tryd.underlying26 size_int w' rfl rfl _ _ k rfl rfl hlt (q := ⟨g2, k, none⟩) (by rw [add_zero_addr, Nat.mul_one])) ?_
              exact ⟨rfl, rfl, rfl⟩
            refine pt_take rfl rfl rfl rfl ?_
            apply Exists.intro
            refine ⟨fun w' hw' => ?_, ?_⟩
            · have hcell := (hw'.cell (p := ⟨g2, k, none⟩) hg2).trans cn
              focus ((repeat (first | go_skip | go_guarded | go_step | go_upon | go_back)); exact ⟨rfl, rfl, rfl⟩)
            first | refine pt_skip rfl rfl rfl rfl ?_ | (refine pt_take rfl rfl rfl rfl ?_; apply Exists.intro; refine ⟨fun w' hw' => ?_, ?_⟩; focus ((repeat (first | go_skip | go_guarded | go_step | go_upon | go_back)); exact ⟨rfl, rfl, rfl⟩))
            first | refine pt_skip rfl rfl rfl rfl ?_ | (refine pt_take rfl rfl rfl rfl ?_; apply Exists.intro; refine ⟨fun w' hw' => ?_, ?_⟩; focus ((repeat (first | go_skip | go_guarded | go_step | go_upon | go_back)); exact ⟨rfl, rfl, rfl⟩))
            refine pt_take rfl rfl rfl rfl ?_
            apply Exists.intro
            refine ⟨fun w' hw' => ?_, ?_⟩
            · refine wp_run rfl (exec_ixS 26 3 1 Tryd.underlying26 size_int w' rfl rfl _ _ k rfl rfl hlt (q := ⟨g1, k, none⟩) (by rw [add_zero_addr, Nat.mul_one])) ?_
              exact ⟨rfl, rfl, rfl⟩
            refine pt_take rfl rfl rfl rfl ?_
            apply Exists.intro
            refine ⟨fun w' hw' => ?_, ?_⟩
            · have hcell := (hw'.cell (p := ⟨g1, k, none⟩) hg1).trans cm
              focus ((repeat (first | go_skip | go_guarded | go_step | go_upon | go_back)); exact ⟨rfl, rfl, rfl⟩)
            first | refine pt_skip rfl rfl rfl rfl ?_ | (refine pt_take rfl rfl rfl rfl ?_; apply Exists.intro; refine ⟨fun w' hw' => ?_, ?_⟩; focus ((repeat (first | go_skip | go_guarded | go_step | go_upon | go_back)); exact ⟨rfl, rfl, rfl⟩))
            first | refine pt_skip rfl rfl rfl rfl ?_ | (refine pt_take rfl rfl rfl rfl ?_; apply Exists.intro; refine ⟨fun w' hw' => ?_, ?_⟩; focus ((repeat (first | go_skip | go_guarded | go_step | go_upon | go_back)); exact ⟨rfl, rfl, rfl⟩))
            first | refine pt_skip rfl rfl rfl rfl ?_ | (refine pt_take rfl rfl rfl rfl ?_; apply Exists.intro; refine ⟨fun w' hw' => ?_, ?_⟩; focus ((repeat (first | go_skip | go_guarded | go_step | go_upon | go_back)); exact ⟨rfl, rfl, rfl⟩))
            refine pt_take rfl rfl rfl rfl ?_
            apply Exists.intro
            refine ⟨fun w' hw' => ?_, ?_⟩
            · refine wp_run rfl (exec_ixS 33 23 32 Tryd.underlying33 info_dig w' rfl rfl _ _ k rfl rfl hlt (q := (⟨gt, 0, none⟩ : Addr).add (k * 32)) rfl) ?_
              exact ⟨rfl, rfl, rfl⟩
            refine pt_take rfl rfl rfl rfl ?_
            apply Exists.intro
            refine ⟨fun w' hw' => ?_, ?_⟩
            · refine wp_run rfl (exec_loadP 23 rfl ((⟨gt, 0, none⟩ : Addr).add (k * 32)) rfl (u8s F) 32 5 (CF.out w' (bX.trans hw')) Tryd.underlying23 (by rw [info_dig, HUF.out])) ?_
              exact ⟨rfl, rfl, rfl⟩
            refine pt_step rfl ?_
            go_wp2_with fail
            refine (chain_any E ((q : Int) - (p : Int)) w0 HEL.out (by omega) (by omega) hk0).mono ?_
            rintro e w3 ⟨rfl, b3⟩
            rw [HCH.out]
            go_wp2_with fail
            refine ⟨rfl, b3.mono z0, ?_⟩
            have b03 := b0.trans (b3.mono b0.size)
            have bX3 := bX.trans (b3.mono z0)
            have hk3 := hk0.past b3
            have hs3 := hs0.past b3 hs0.lt
            have ht3 := ht0.past b3 ht0.lt
            have hm3 := hm0.past b3 hm0.lt
            have hn3 := hn0.past b3 hn0.lt
            have cm3 := (b3.cell (p := ⟨g1, k, none⟩) hm0.lt).trans cm
            have cn3 := (b3.cell (p := ⟨g2, k, none⟩) hn0.lt).trans cn
            clear cm cn b0 hk0 hs0 ht0 hm0 hn0 z0 b3 bX
            refine pt_take rfl rfl rfl rfl ?_
            apply Exists.intro
            refine ⟨fun w' hw' => ?_, ?_⟩
            · refine wp_run rfl (exec_neqD rfl F F rfl rfl HFL.out HFL.out _ HQ.out w') ?_
              exact ⟨rfl, rfl, rfl⟩
            first | refine pt_skip rfl rfl rfl rfl ?_ | (refine pt_take rfl rfl rfl rfl ?_; apply Exists.intro; refine ⟨fun w' hw' => ?_, ?_⟩; focus ((repeat (first | go_skip | go_guarded | go_step | go_upon | go_back)); exact ⟨rfl, rfl, rfl⟩))
            first | refine pt_skip rfl rfl rfl rfl ?_ | (refine pt_take rfl rfl rfl rfl ?_; apply Exists.intro; refine ⟨fun w' hw' => ?_, ?_⟩; focus ((repeat (first | go_skip | go_guarded | go_step | go_upon | go_back)); exact ⟨rfl, rfl, rfl⟩))
            first | refine pt_skip rfl rfl rfl rfl ?_ | (refine pt_take rfl rfl rfl rfl ?_; apply Exists.intro; refine ⟨fun w' hw' => ?_, ?_⟩; focus ((repeat (first | go_skip | go_guarded | go_step | go_upon | go_back)); exact ⟨rfl, rfl, rfl⟩))
            first | refine pt_skip rfl rfl rfl rfl ?_ | (refine pt_take rfl rfl rfl rfl ?_; apply Exists.intro; refine ⟨fun w' hw' => ?_, ?_⟩; focus ((repeat (first | go_skip | go_guarded | go_step | go_upon | go_back)); exact ⟨rfl, rfl, rfl⟩))
            refine pt_take rfl rfl rfl rfl ?_
            apply Exists.intro
            refine ⟨fun w' hw' => ?_, ?_⟩
            · refine wp_run rfl (exec_ixS 26 3 1 Tryd.underlying26 size_int w' rfl rfl _ _ k rfl rfl hlt (q := ⟨g1, k, none⟩) (by rw [add_zero_addr, Nat.mul_one])) ?_
              exact ⟨rfl, rfl, rfl⟩
            refine pt_take rfl rfl rfl rfl ?_
            apply Exists.intro
            refine ⟨fun w' hw' => ?_, ?_⟩
            · have hcell := (hw'.cell (p := ⟨g1, k, none⟩) hg1).trans cm3
              focus ((repeat (first | go_skip | go_guarded | go_step | go_upon | go_back)); exact ⟨rfl, rfl, rfl⟩)
            first | refine pt_skip rfl rfl rfl rfl ?_ | (refine pt_take rfl rfl rfl rfl ?_; apply Exists.intro; refine ⟨fun w' hw' => ?_, ?_⟩; focus ((repeat (first | go_skip | go_guarded | go_step | go_upon | go_back)); exact ⟨rfl, rfl, rfl⟩))
            first | refine pt_skip rfl rfl rfl rfl ?_ | (refine pt_take rfl rfl rfl rfl ?_; apply Exists.intro; refine ⟨fun w' hw' => ?_, ?_⟩; focus ((repeat (first | go_skip | go_guarded | go_step | go_upon | go_back)); exact ⟨rfl, rfl, rfl⟩))
            refine pt_take rfl rfl rfl rfl ?_
            apply Exists.intro
            refine ⟨fun w' hw' => ?_, ?_⟩
            · refine wp_run rfl (exec_ixS 26 3 1 Tryd.underlying26 size_int w' rfl rfl _ _ k rfl rfl hlt (q := ⟨g2, k, none⟩) (by rw [add_zero_addr, Nat.mul_one])) ?_
              exact ⟨rfl, rfl, rfl⟩
            refine pt_take rfl rfl rfl rfl ?_
            apply Exists.intro
            refine ⟨fun w' hw' => ?_, ?_⟩
            · have hcell := (hw'.cell (p := ⟨g2, k, none⟩) hg2).trans cn3
              focus ((repeat (first | go_skip | go_guarded | go_step | go_upon | go_back)); exact ⟨rfl, rfl, rfl⟩)
            first | refine pt_skip rfl rfl rfl rfl ?_ | (refine pt_take rfl rfl rfl rfl ?_; apply Exists.intro; refine ⟨fun w' hw' => ?_, ?_⟩; focus ((repeat (first | go_skip | go_guarded | go_step | go_upon | go_back)); exact ⟨rfl, rfl, rfl⟩))
            first | refine pt_skip rfl rfl rfl rfl ?_ | (refine pt_take rfl rfl rfl rfl ?_; apply Exists.intro; refine ⟨fun w' hw' => ?_, ?_⟩; focus ((repeat (first | go_skip | go_guarded | go_step | go_upon | go_back)); exact ⟨rfl, rfl, rfl⟩))
            first | refine pt_skip rfl rfl rfl rfl ?_ | (refine pt_take rfl rfl rfl rfl ?_; apply Exists.intro; refine ⟨fun w' hw' => ?_, ?_⟩; focus ((repeat (first | go_skip | go_guarded | go_step | go_upon | go_back)); exact ⟨rfl, rfl, rfl⟩))
            first | refine pt_skip rfl rfl rfl rfl ?_ | (refine pt_take rfl rfl rfl rfl ?_; apply Exists.intro; refine ⟨fun w' hw' => ?_, ?_⟩; focus ((repeat (first | go_skip | go_guarded | go_step | go_upon | go_back)); exact ⟨rfl, rfl, rfl⟩))
            first | refine pt_skip rfl rfl rfl rfl ?_ | (refine pt_take rfl rfl rfl rfl ?_; apply Exists.intro; refine ⟨fun w' hw' => ?_, ?_⟩; focus ((repeat (first | go_skip | go_guarded | go_step | go_upon | go_back)); exact ⟨rfl, rfl, rfl⟩))
            first | refine pt_skip rfl rfl rfl rfl ?_ | (refine pt_take rfl rfl rfl rfl ?_; apply Exists.intro; refine ⟨fun w' hw' => ?_, ?_⟩; focus ((repeat (first | go_skip | go_guarded | go_step | go_upon | go_back)); exact ⟨rfl, rfl, rfl⟩))
            first | refine pt_skip rfl rfl rfl rfl ?_ | (refine pt_take rfl rfl rfl rfl ?_; apply Exists.intro; refine ⟨fun w' hw' => ?_, ?_⟩; focus ((repeat (first | go_skip | go_guarded | go_step | go_upon | go_back)); exact ⟨rfl, rfl, rfl⟩))
            first | refine pt_skip rfl rfl rfl rfl ?_ | (refine pt_take rfl rfl rfl rfl ?_; apply Exists.intro; refine ⟨fun w' hw' => ?_, ?_⟩; focus ((repeat (first | go_skip | go_guarded | go_step | go_upon | go_back)); exact ⟨rfl, rfl, rfl⟩))
            first | refine pt_skip rfl rfl rfl rfl ?_ | (refine pt_take rfl rfl rfl rfl ?_; apply Exists.intro; refine ⟨fun w' hw' => ?_, ?_⟩; focus ((repeat (first | go_skip | go_guarded | go_step | go_upon | go_back)); exact ⟨rfl, rfl, rfl⟩))
            first | refine pt_skip rfl rfl rfl rfl ?_ | (refine pt_take rfl rfl rfl rfl ?_; apply Exists.intro; refine ⟨fun w' hw' => ?_, ?_⟩; focus ((repeat (first | go_skip | go_guarded | go_step | go_upon | go_back)); exact ⟨rfl, rfl, rfl⟩))
            first | refine pt_skip rfl rfl rfl rfl ?_ | (refine pt_take rfl rfl rfl rfl ?_; apply Exists.intro; refine ⟨fun w' hw' => ?_, ?_⟩; focus ((repeat (first | go_skip | go_guarded | go_step | go_upon | go_back)); exact ⟨rfl, rfl, rfl⟩))
            first | refine pt_skip rfl rfl rfl rfl ?_ | (refine pt_take rfl rfl rfl rfl ?_; apply Exists.intro; refine ⟨fun w' hw' => ?_, ?_⟩; focus ((repeat (first | go_skip | go_guarded | go_step | go_upon | go_back)); exact ⟨rfl, rfl, rfl⟩))
            first | refine pt_skip rfl rfl rfl rfl ?_ | (refine pt_take rfl rfl rfl rfl ?_; apply Exists.intro; refine ⟨fun w' hw' => ?_, ?_⟩; focus ((repeat (first | go_skip | go_guarded | go_step | go_upon | go_back)); exact ⟨rfl, rfl, rfl⟩))
            first | refine pt_skip rfl rfl rfl rfl ?_ | (refine pt_take rfl rfl rfl rfl ?_; apply Exists.intro; refine ⟨fun w' hw' => ?_, ?_⟩; focus ((repeat (first | go_skip | go_guarded | go_step | go_upon | go_back)); exact ⟨rfl, rfl, rfl⟩))
            first | refine pt_skip rfl rfl rfl rfl ?_ | (refine pt_take rfl rfl rfl rfl ?_; apply Exists.intro; refine ⟨fun w' hw' => ?_, ?_⟩; focus ((repeat (first | go_skip | go_guarded | go_step | go_upon | go_back)); exact ⟨rfl, rfl, rfl⟩))
            first | refine pt_skip rfl rfl rfl rfl ?_ | (refine pt_take rfl rfl rfl rfl ?_; apply Exists.intro; refine ⟨fun w' hw' => ?_, ?_⟩; focus ((repeat (first | go_skip | go_guarded | go_step | go_upon | go_back)); exact ⟨rfl, rfl, rfl⟩))
            first | refine pt_skip rfl rfl rfl rfl ?_ | (refine pt_take rfl rfl rfl rfl ?_; apply Exists.intro; refine ⟨fun w' hw' => ?_, ?_⟩; focus ((repeat (first | go_skip | go_guarded | go_step | go_upon | go_back)); exact ⟨rfl, rfl, rfl⟩))
            first | refine pt_skip rfl rfl rfl rfl ?_ | (refine pt_take rfl rfl rfl rfl ?_; apply Exists.intro; refine ⟨fun w' hw' => ?_, ?_⟩; focus ((repeat (first | go_skip | go_guarded | go_step | go_upon | go_back)); exact ⟨rfl, rfl, rfl⟩))
            first | refine pt_skip rfl rfl rfl rfl ?_ | (refine pt_take rfl rfl rfl rfl ?_; apply Exists.intro; refine ⟨fun w' hw' => ?_, ?_⟩; focus ((repeat (first | go_skip | go_guarded | go_step | go_upon | go_back)); exact ⟨rfl, rfl, rfl⟩))
            refine pt_step rfl ?_
            go_wp2_with fail
            refine ⟨rfl, Below.refl _ _, ?_⟩
            first | refine pt_skip rfl rfl rfl rfl ?_ | (refine pt_take rfl rfl rfl rfl ?_; apply Exists.intro; refine ⟨fun w' hw' => ?_, ?_⟩; focus ((repeat (first | go_skip | go_guarded | go_step | go_upon | go_back)); exact ⟨rfl, rfl, rfl⟩))
            first | refine pt_skip rfl rfl rfl rfl ?_ | (refine pt_take rfl rfl rfl rfl ?_; apply Exists.intro; refine ⟨fun w' hw' => ?_, ?_⟩; focus ((repeat (first | go_skip | go_guarded | go_step | go_upon | go_back)); exact ⟨rfl, rfl, rfl⟩))
            first | refine pt_skip rfl rfl rfl rfl ?_ | (refine pt_take rfl rfl rfl rfl ?_; apply Exists.intro; refine ⟨fun w' hw' => ?_, ?_⟩; focus ((repeat (first | go_skip | go_guarded | go_step | go_upon | go_back)); exact ⟨rfl, rfl, rfl⟩))
            change Exit.then _ _ Exit.normal _ _
            clear cm3 cn3
            go_wp2
            go_roundw
            case rel => exact ⟨k + 1, by go_num, by omega, hk3, hs3, ht3, hm3, hn3, b03⟩
            case measure => simp [intOf]; omega
          · have HCH : Hid (Sha.chain F (((p : Int) - (q : Int)).toNat) = E) := Lib.hid (by rw [show ((p : Int) - (q : Int)).toNat = p - q by omega]; exact HADV2.out (by omega))
            have HQ : Hid ((!(E == E)) = false) := Lib.hid (by rw [beq_self_eq_true]; rfl)
            have hle' : ¬ (p : Int) ≤ (q : Int) := by omega
            have hgt' : (q : Int) < (p : Int) := by omega
            refine wp_region_pt wr.heap.size (.take 0 (.take 1 (.take 2 (.take 3 (.take 4 (.take 5 (.take 6 (.take 7 (.take 8 (.take 9 (.take 10 (.take 11 (.take 12 (.take 13 (.take 14 (.take 15 (.take 16 (.take 17 (.take 18 (.take 19 (.take 20 (.take 21 (.take 22 (.take 24 (.take 25 (.take 26 (.take 27 (.step 23 (.take 28 (.take 29 (.take 30 (.take 31 (.take 32 (.take 33 (.take 34 (.take 35 (.take 36 (.take 37 (.take 38 (.take 39 (.take 40 (.take 41 (.take 42 (.take 43 (.take 44 (.take 45 (.take 46 (.take 47 (.take 48 (.take 49 (.take 50 (.take 51 (.take 52 (.take 53 (.take 55 (.take 56 (.take 57 (.take 58 (.step 54 (.take 59 (.take 60 (.take 61 .done)))))))))))))))))))))))))))))))))))))))))))))))))))))))))))))) (by kernel_rfl) (by kernel_rfl) (by kernel_rfl) (fun _ _ h => h) ?_
            obtain ⟨w0, hw0⟩ : ∃ w0, w0 = wr.drew := ⟨_, rfl⟩
            rw [← hw0] at bd cm cn b0 hk0 hs0 ht0 hm0 hn0 z0 ⊢
            have bX := bd
            clear hw0 bd
            first | refine pt_skip rfl rfl rfl rfl ?_ | (refine pt_take rfl rfl rfl rfl ?_; apply Exists.intro; refine ⟨fun w' hw' => ?_, ?_⟩; focus ((repeat (first | go_skip | go_guarded | go_step | go_upon | go_back)); exact ⟨rfl, rfl, rfl⟩))
            first | refine pt_skip rfl rfl rfl rfl ?_ | (refine pt_take rfl rfl rfl rfl ?_; apply Exists.intro; refine ⟨fun w' hw' => ?_, ?_⟩; focus ((repeat (first | go_skip | go_guarded | go_step | go_upon | go_back)); exact ⟨rfl, rfl, rfl⟩))
            refine pt_take rfl rfl rfl rfl ?_
            apply Exists.intro
            refine ⟨fun w' hw' => ?_, ?_⟩
            · refine wp_run rfl (exec_ixS 26 3 1 Tryd.underlying26 size_int w' rfl rfl _ _ k rfl rfl hlt (q := ⟨g1, k, none⟩) (by rw [add_zero_addr, Nat.mul_one])) ?_
              exact ⟨rfl, rfl, rfl⟩
            refine pt_take rfl rfl rfl rfl ?_
            apply Exists.intro
            refine ⟨fun w' hw' => ?_, ?_⟩
            · have hcell := (hw'.cell (p := ⟨g1, k, none⟩) hg1).trans cm
              focus ((repeat (first | go_skip | go_guarded | go_step | go_upon | go_back)); exact ⟨rfl, rfl, rfl⟩)
            first | refine pt_skip rfl rfl rfl rfl ?_ | (refine pt_take rfl rfl rfl rfl ?_; apply Exists.intro; refine ⟨fun w' hw' => ?_, ?_⟩; focus ((repeat (first | go_skip | go_guarded | go_step | go_upon | go_back)); exact ⟨rfl, rfl, rfl⟩))
            first | refine pt_skip rfl rfl rfl rfl ?_ | (refine pt_take rfl rfl rfl rfl ?_; apply Exists.intro; refine ⟨fun w' hw' => ?_, ?_⟩; focus ((repeat (first | go_skip | go_guarded | go_step | go_upon | go_back)); exact ⟨rfl, rfl, rfl⟩))
            refine pt_take rfl rfl rfl rfl ?_
            apply Exists.intro
            refine ⟨fun w' hw' => ?_, ?_⟩
            · refine wp_run rfl (exec_ixS 26 3 1 Tryd.underlying26 size_int w' rfl rfl _ _ k rfl rfl hlt (q := ⟨g2, k, none⟩) (by rw [add_zero_addr, Nat.mul_one])) ?_
              exact ⟨rfl, rfl, rfl⟩
            refine pt_take rfl rfl rfl rfl ?_
            apply Exists.intro
            refine ⟨fun w' hw' => ?_, ?_⟩
            · have hcell := (hw'.cell (p := ⟨g2, k, none⟩) hg2).trans cn
              focus ((repeat (first | go_skip | go_guarded | go_step | go_upon | go_back)); exact ⟨rfl, rfl, rfl⟩)
            first | refine pt_skip rfl rfl rfl rfl ?_ | (refine pt_take rfl rfl rfl rfl ?_; apply Exists.intro; refine ⟨fun w' hw' => ?_, ?_⟩; focus ((repeat (first | go_skip | go_guarded | go_step | go_upon | go_back)); exact ⟨rfl, rfl, rfl⟩))
            first | refine pt_skip rfl rfl rfl rfl ?_ | (refine pt_take rfl rfl rfl rfl ?_; apply Exists.intro; refine ⟨fun w' hw' => ?_, ?_⟩; focus ((repeat (first | go_skip | go_guarded | go_step | go_upon | go_back)); exact ⟨rfl, rfl, rfl⟩))
            first | refine pt_skip rfl rfl rfl rfl ?_ | (refine pt_take rfl rfl rfl rfl ?_; apply Exists.intro; refine ⟨fun w' hw' => ?_, ?_⟩; focus ((repeat (first | go_skip | go_guarded | go_step | go_upon | go_back)); exact ⟨rfl, rfl, rfl⟩))
            first | refine pt_skip rfl rfl rfl rfl ?_ | (refine pt_take rfl rfl rfl rfl ?_; apply Exists.intro; refine ⟨fun w' hw' => ?_, ?_⟩; focus ((repeat (first | go_skip | go_guarded | go_step | go_upon | go_back)); exact ⟨rfl, rfl, rfl⟩))
            first | refine pt_skip rfl rfl rfl rfl ?_ | (refine pt_take rfl rfl rfl rfl ?_; apply Exists.intro; refine ⟨fun w' hw' => ?_, ?_⟩; focus ((repeat (first | go_skip | go_guarded | go_step | go_upon | go_back)); exact ⟨rfl, rfl, rfl⟩))
            first | refine pt_skip rfl rfl rfl rfl ?_ | (refine pt_take rfl rfl rfl rfl ?_; apply Exists.intro; refine ⟨fun w' hw' => ?_, ?_⟩; focus ((repeat (first | go_skip | go_guarded | go_step | go_upon | go_back)); exact ⟨rfl, rfl, rfl⟩))
            first | refine pt_skip rfl rfl rfl rfl ?_ | (refine pt_take rfl rfl rfl rfl ?_; apply Exists.intro; refine ⟨fun w' hw' => ?_, ?_⟩; focus ((repeat (first | go_skip | go_guarded | go_step | go_upon | go_back)); exact ⟨rfl, rfl, rfl⟩))
            first | refine pt_skip rfl rfl rfl rfl ?_ | (refine pt_take rfl rfl rfl rfl ?_; apply Exists.intro; refine ⟨fun w' hw' => ?_, ?_⟩; focus ((repeat (first | go_skip | go_guarded | go_step | go_upon | go_back)); exact ⟨rfl, rfl, rfl⟩))
            first | refine pt_skip rfl rfl rfl rfl ?_ | (refine pt_take rfl rfl rfl rfl ?_; apply Exists.intro; refine ⟨fun w' hw' => ?_, ?_⟩; focus ((repeat (first | go_skip | go_guarded | go_step | go_upon | go_back)); exact ⟨rfl, rfl, rfl⟩))
            first | refine pt_skip rfl rfl rfl rfl ?_ | (refine pt_take rfl rfl rfl rfl ?_; apply Exists.intro; refine ⟨fun w' hw' => ?_, ?_⟩; focus ((repeat (first | go_skip | go_guarded | go_step | go_upon | go_back)); exact ⟨rfl, rfl, rfl⟩))
            first | refine pt_skip rfl rfl rfl rfl ?_ | (refine pt_take rfl rfl rfl rfl ?_; apply Exists.intro; refine ⟨fun w' hw' => ?_, ?_⟩; focus ((repeat (first | go_skip | go_guarded | go_step | go_upon | go_back)); exact ⟨rfl, rfl, rfl⟩))
            first | refine pt_skip rfl rfl rfl rfl ?_ | (refine pt_take rfl rfl rfl rfl ?_; apply Exists.intro; refine ⟨fun w' hw' => ?_, ?_⟩; focus ((repeat (first | go_skip | go_guarded | go_step | go_upon | go_back)); exact ⟨rfl, rfl, rfl⟩))
            first | refine pt_skip rfl rfl rfl rfl ?_ | (refine pt_take rfl rfl rfl rfl ?_; apply Exists.intro; refine ⟨fun w' hw' => ?_, ?_⟩; focus ((repeat (first | go_skip | go_guarded | go_step | go_upon | go_back)); exact ⟨rfl, rfl, rfl⟩))
            first | refine pt_skip rfl rfl rfl rfl ?_ | (refine pt_take rfl rfl rfl rfl ?_; apply Exists.intro; refine ⟨fun w' hw' => ?_, ?_⟩; focus ((repeat (first | go_skip | go_guarded | go_step | go_upon | go_back)); exact ⟨rfl, rfl, rfl⟩))
            first | refine pt_skip rfl rfl rfl rfl ?_ | (refine pt_take rfl rfl rfl rfl ?_; apply Exists.intro; refine ⟨fun w' hw' => ?_, ?_⟩; focus ((repeat (first | go_skip | go_guarded | go_step | go_upon | go_back)); exact ⟨rfl, rfl, rfl⟩))
            first | refine pt_skip rfl rfl rfl rfl ?_ | (refine pt_take rfl rfl rfl rfl ?_; apply Exists.intro; refine ⟨fun w' hw' => ?_, ?_⟩; focus ((repeat (first | go_skip | go_guarded | go_step | go_upon | go_back)); exact ⟨rfl, rfl, rfl⟩))
            first | refine pt_skip rfl rfl rfl rfl ?_ | (refine pt_take rfl rfl rfl rfl ?_; apply Exists.intro; refine ⟨fun w' hw' => ?_, ?_⟩; focus ((repeat (first | go_skip | go_guarded | go_step | go_upon | go_back)); exact ⟨rfl, rfl, rfl⟩))
            first | refine pt_skip rfl rfl rfl rfl ?_ | (refine pt_take rfl rfl rfl rfl ?_; apply Exists.intro; refine ⟨fun w' hw' => ?_, ?_⟩; focus ((repeat (first | go_skip | go_guarded | go_step | go_upon | go_back)); exact ⟨rfl, rfl, rfl⟩))
            first | refine pt_skip rfl rfl rfl rfl ?_ | (refine pt_take rfl rfl rfl rfl ?_; apply Exists.intro; refine ⟨fun w' hw' => ?_, ?_⟩; focus ((repeat (first | go_skip | go_guarded | go_step | go_upon | go_back)); exact ⟨rfl, rfl, rfl⟩))
            refine pt_step rfl ?_
            go_wp2_with fail
            refine ⟨rfl, Below.refl _ _, ?_⟩
            first | refine pt_skip rfl rfl rfl rfl ?_ | (refine pt_take rfl rfl rfl rfl ?_; apply Exists.intro; refine ⟨fun w' hw' => ?_, ?_⟩; focus ((repeat (first | go_skip | go_guarded | go_step | go_upon | go_back)); exact ⟨rfl, rfl, rfl⟩))
            first | refine pt_skip rfl rfl rfl rfl ?_ | (refine pt_take rfl rfl rfl rfl ?_; apply Exists.intro; refine ⟨fun w' hw' => ?_, ?_⟩; focus ((repeat (first | go_skip | go_guarded | go_step | go_upon | go_back)); exact ⟨rfl, rfl, rfl⟩))
            first | refine pt_skip rfl rfl rfl rfl ?_ | (refine pt_take rfl rfl rfl rfl ?_; apply Exists.intro; refine ⟨fun w' hw' => ?_, ?_⟩; focus ((repeat (first | go_skip | go_guarded | go_step | go_upon | go_back)); exact ⟨rfl, rfl, rfl⟩))
            first | refine pt_skip rfl rfl rfl rfl ?_ | (refine pt_take rfl rfl rfl rfl ?_; apply Exists.intro; refine ⟨fun w' hw' => ?_, ?_⟩; focus ((repeat (first | go_skip | go_guarded | go_step | go_upon | go_back)); exact ⟨rfl, rfl, rfl⟩))
            first | refine pt_skip rfl rfl rfl rfl ?_ | (refine pt_take rfl rfl rfl rfl ?_; apply Exists.intro; refine ⟨fun w' hw' => ?_, ?_⟩; focus ((repeat (first | go_skip | go_guarded | go_step | go_upon | go_back)); exact ⟨rfl, rfl, rfl⟩))
            refine pt_take rfl rfl rfl rfl ?_
            apply Exists.intro
            refine ⟨fun w' hw' => ?_, ?_⟩
            · refine wp_run rfl (exec_ixS 26 3 1 Tryd.underlying26 size_int w' rfl rfl _ _ k rfl rfl hlt (q := ⟨g1, k, none⟩) (by rw [add_zero_addr, Nat.mul_one])) ?_
              exact ⟨rfl, rfl, rfl⟩
            refine pt_take rfl rfl rfl rfl ?_
            apply Exists.intro
            refine ⟨fun w' hw' => ?_, ?_⟩
            · have hcell := (hw'.cell (p := ⟨g1, k, none⟩) hg1).trans cm
              focus ((repeat (first | go_skip | go_guarded | go_step | go_upon | go_back)); exact ⟨rfl, rfl, rfl⟩)
            first | refine pt_skip rfl rfl rfl rfl ?_ | (refine pt_take rfl rfl rfl rfl ?_; apply Exists.intro; refine ⟨fun w' hw' => ?_, ?_⟩; focus ((repeat (first | go_skip | go_guarded | go_step | go_upon | go_back)); exact ⟨rfl, rfl, rfl⟩))
            first | refine pt_skip rfl rfl rfl rfl ?_ | (refine pt_take rfl rfl rfl rfl ?_; apply Exists.intro; refine ⟨fun w' hw' => ?_, ?_⟩; focus ((repeat (first | go_skip | go_guarded | go_step | go_upon | go_back)); exact ⟨rfl, rfl, rfl⟩))
            refine pt_take rfl rfl rfl rfl ?_
            apply Exists.intro
            refine ⟨fun w' hw' => ?_, ?_⟩
            · refine wp_run rfl (exec_ixS 26 3 1 Tryd.underlying26 size_int w' rfl rfl _ _ k rfl rfl hlt (q := ⟨g2, k, none⟩) (by rw [add_zero_addr, Nat.mul_one])) ?_
              exact ⟨rfl, rfl, rfl⟩
            refine pt_take rfl rfl rfl rfl ?_
            apply Exists.intro
            refine ⟨fun w' hw' => ?_, ?_⟩
            · have hcell := (hw'.cell (p := ⟨g2, k, none⟩) hg2).trans cn
              focus ((repeat (first | go_skip | go_guarded | go_step | go_upon | go_back)); exact ⟨rfl, rfl, rfl⟩)
            first | refine pt_skip rfl rfl rfl rfl ?_ | (refine pt_take rfl rfl rfl rfl ?_; apply Exists.intro; refine ⟨fun w' hw' => ?_, ?_⟩; focus ((repeat (first | go_skip | go_guarded | go_step | go_upon | go_back)); exact ⟨rfl, rfl, rfl⟩))
            first | refine pt_skip rfl rfl rfl rfl ?_ | (refine pt_take rfl rfl rfl rfl ?_; apply Exists.intro; refine ⟨fun w' hw' => ?_, ?_⟩; focus ((repeat (first | go_skip | go_guarded | go_step | go_upon | go_back)); exact ⟨rfl, rfl, rfl⟩))
            first | refine pt_skip rfl rfl rfl rfl ?_ | (refine pt_take rfl rfl rfl rfl ?_; apply Exists.intro; refine ⟨fun w' hw' => ?_, ?_⟩; focus ((repeat (first | go_skip | go_guarded | go_step | go_upon | go_back)); exact ⟨rfl, rfl, rfl⟩))
            first | refine pt_skip rfl rfl rfl rfl ?_ | (refine pt_take rfl rfl rfl rfl ?_; apply Exists.intro; refine ⟨fun w' hw' => ?_, ?_⟩; focus ((repeat (first | go_skip | go_guarded | go_step | go_upon | go_back)); exact ⟨rfl, rfl, rfl⟩))
            refine pt_take rfl rfl rfl rfl ?_
            apply Exists.intro
            refine ⟨fun w' hw' => ?_, ?_⟩
            · refine wp_run rfl (exec_ixS 33 23 32 Tryd.underlying33 info_dig w' rfl rfl _ _ k rfl rfl hlt (q := (⟨gt, 0, none⟩ : Addr).add (k * 32)) rfl) ?_
              exact ⟨rfl, rfl, rfl⟩
            refine pt_take rfl rfl rfl rfl ?_
            apply Exists.intro
            refine ⟨fun w' hw' => ?_, ?_⟩
            · refine wp_run rfl (exec_loadP 23 rfl ((⟨gt, 0, none⟩ : Addr).add (k * 32)) rfl (u8s F) 32 5 (CF.out w' (bX.trans hw')) Tryd.underlying23 (by rw [info_dig, HUF.out])) ?_
              exact ⟨rfl, rfl, rfl⟩
            first | refine pt_skip rfl rfl rfl rfl ?_ | (refine pt_take rfl rfl rfl rfl ?_; apply Exists.intro; refine ⟨fun w' hw' => ?_, ?_⟩; focus ((repeat (first | go_skip | go_guarded | go_step | go_upon | go_back)); exact ⟨rfl, rfl, rfl⟩))
            first | refine pt_skip rfl rfl rfl rfl ?_ | (refine pt_take rfl rfl rfl rfl ?_; apply Exists.intro; refine ⟨fun w' hw' => ?_, ?_⟩; focus ((repeat (first | go_skip | go_guarded | go_step | go_upon | go_back)); exact ⟨rfl, rfl, rfl⟩))
            refine pt_take rfl rfl rfl rfl ?_
            apply Exists.intro
            refine ⟨fun w' hw' => ?_, ?_⟩
            · refine wp_run rfl (exec_ixS 26 3 1 Tryd.underlying26 size_int w' rfl rfl _ _ k rfl rfl hlt (q := ⟨g1, k, none⟩) (by rw [add_zero_addr, Nat.mul_one])) ?_
              exact ⟨rfl, rfl, rfl⟩
            refine pt_take rfl rfl rfl rfl ?_
            apply Exists.intro
            refine ⟨fun w' hw' => ?_, ?_⟩
            · have hcell := (hw'.cell (p := ⟨g1, k, none⟩) hg1).trans cm
              focus ((repeat (first | go_skip | go_guarded | go_step | go_upon | go_back)); exact ⟨rfl, rfl, rfl⟩)
            first | refine pt_skip rfl rfl rfl rfl ?_ | (refine pt_take rfl rfl rfl rfl ?_; apply Exists.intro; refine ⟨fun w' hw' => ?_, ?_⟩; focus ((repeat (first | go_skip | go_guarded | go_step | go_upon | go_back)); exact ⟨rfl, rfl, rfl⟩))
            first | refine pt_skip rfl rfl rfl rfl ?_ | (refine pt_take rfl rfl rfl rfl ?_; apply Exists.intro; refine ⟨fun w' hw' => ?_, ?_⟩; focus ((repeat (first | go_skip | go_guarded | go_step | go_upon | go_back)); exact ⟨rfl, rfl, rfl⟩))
            refine pt_take rfl rfl rfl rfl ?_
            apply Exists.intro
            refine ⟨fun w' hw' => ?_, ?_⟩
            · refine wp_run rfl (exec_ixS 26 3 1 Tryd.underlying26 size_int w' rfl rfl _ _ k rfl rfl hlt (q := ⟨g2, k, none⟩) (by rw [add_zero_addr, Nat.mul_one])) ?_
              exact ⟨rfl, rfl, rfl⟩
            refine pt_take rfl rfl rfl rfl ?_
            apply Exists.intro
            refine ⟨fun w' hw' => ?_, ?_⟩
            · have hcell := (hw'.cell (p := ⟨g2, k, none⟩) hg2).trans cn
              focus ((repeat (first | go_skip | go_guarded | go_step | go_upon | go_back)); exact ⟨rfl, rfl, rfl⟩)
            first | refine pt_skip rfl rfl rfl rfl ?_ | (refine pt_take rfl rfl rfl rfl ?_; apply Exists.intro; refine ⟨fun w' hw' => ?_, ?_⟩; focus ((repeat (first | go_skip | go_guarded | go_step | go_upon | go_back)); exact ⟨rfl, rfl, rfl⟩))
            first | refine pt_skip rfl rfl rfl rfl ?_ | (refine pt_take rfl rfl rfl rfl ?_; apply Exists.intro; refine ⟨fun w' hw' => ?_, ?_⟩; focus ((repeat (first | go_skip | go_guarded | go_step | go_upon | go_back)); exact ⟨rfl, rfl, rfl⟩))
            first | refine pt_skip rfl rfl rfl rfl ?_ | (refine pt_take rfl rfl rfl rfl ?_; apply Exists.intro; refine ⟨fun w' hw' => ?_, ?_⟩; focus ((repeat (first | go_skip | go_guarded | go_step | go_upon | go_back)); exact ⟨rfl, rfl, rfl⟩))
            refine pt_take rfl rfl rfl rfl ?_
            apply Exists.intro
            refine ⟨fun w' hw' => ?_, ?_⟩
            · refine wp_run rfl (exec_ixS 33 23 32 Tryd.underlying33 info_dig w' rfl rfl _ _ k rfl rfl hlt (q := (⟨gs, 0, none⟩ : Addr).add (k * 32)) rfl) ?_
              exact ⟨rfl, rfl, rfl⟩
            refine pt_take rfl rfl rfl rfl ?_
            apply Exists.intro
            refine ⟨fun w' hw' => ?_, ?_⟩
            · refine wp_run rfl (exec_loadP 23 rfl ((⟨gs, 0, none⟩ : Addr).add (k * 32)) rfl (u8s E) 32 5 (CE.out w' (bX.trans hw')) Tryd.underlying23 (by rw [info_dig, HUE.out])) ?_
              exact ⟨rfl, rfl, rfl⟩
            refine pt_step rfl ?_
            go_wp2_with fail
            refine (chain_any F ((p : Int) - (q : Int)) w0 HFL.out (by omega) (by omega) hk0).mono ?_
            rintro e w3 ⟨rfl, b3⟩
            rw [HCH.out]
            go_wp2_with fail
            refine ⟨rfl, b3.mono z0, ?_⟩
            have b03 := b0.trans (b3.mono b0.size)
            have bX3 := bX.trans (b3.mono z0)
            have hk3 := hk0.past b3
            have hs3 := hs0.past b3 hs0.lt
            have ht3 := ht0.past b3 ht0.lt
            have hm3 := hm0.past b3 hm0.lt
            have hn3 := hn0.past b3 hn0.lt
            have cm3 := (b3.cell (p := ⟨g1, k, none⟩) hm0.lt).trans cm
            have cn3 := (b3.cell (p := ⟨g2, k, none⟩) hn0.lt).trans cn
            clear cm cn b0 hk0 hs0 ht0 hm0 hn0 z0 b3 bX
            refine pt_take rfl rfl rfl rfl ?_
            apply Exists.intro
            refine ⟨fun w' hw' => ?_, ?_⟩
            · refine wp_run rfl (exec_neqD rfl E E rfl rfl HEL.out HEL.out _ HQ.out w') ?_
              exact ⟨rfl, rfl, rfl⟩
            first | refine pt_skip rfl rfl rfl rfl ?_ | (refine pt_take rfl rfl rfl rfl ?_; apply Exists.intro; refine ⟨fun w' hw' => ?_, ?_⟩; focus ((repeat (first | go_skip | go_guarded | go_step | go_upon | go_back)); exact ⟨rfl, rfl, rfl⟩))
            first | refine pt_skip rfl rfl rfl rfl ?_ | (refine pt_take rfl rfl rfl rfl ?_; apply Exists.intro; refine ⟨fun w' hw' => ?_, ?_⟩; focus ((repeat (first | go_skip | go_guarded | go_step | go_upon | go_back)); exact ⟨rfl, rfl, rfl⟩))
            change Exit.then _ _ Exit.normal _ _
            clear cm3 cn3
            go_wp2
            go_roundw
            case rel => exact ⟨k + 1, by go_num, by omega, hk3, hs3, ht3, hm3, hn3, b03⟩
            case measure => simp [intOf]; omega
        · go_wp2
          go_ret
          exact ⟨rfl, hbl⟩
    · have HS := Lib.hid (sign_no (.slice A s.length cap) s a ix w1 hv1 hok)
      go_wp2_with (refine wp_run rfl (exec_loadA 23 rfl W.heap.size rfl 23 _ 32 5 ha1 Tryd.underlying23 (by rw [info_dig, HUA.out])) ?_)
      refine HS.out.mono ?_
      rintro e w2 ⟨rfl, b2⟩
      have ha2 := ha1.past b2 ha1.lt
      have hb2 := hb1.past b2 hb1.lt
      have bl2 := bl1.trans (b2.mono bl1.size)
      have HT := Lib.hid (sign_no (.slice A s.length cap) s b ix w2 (hv1.past b2) hok)
      clear HS ha1 hb1 hk1 hv1 bl1 b2 hok
      go_wp2_with (refine wp_run rfl (exec_loadA 23 rfl (W.heap.size + 1) rfl 23 _ 32 5 hb2 Tryd.underlying23 (by rw [info_dig, HUB.out])) ?_)
      refine HT.out.mono ?_
      rintro e w3 ⟨rfl, b3⟩
      have ha3 := ha2.past b3 ha2.lt
      have hb3 := hb2.past b3 hb2.lt
      have bl3 := bl2.trans (b3.mono bl2.size)
      clear HT ha2 hb2 bl2 b3
      go_wp2_with (refine wp_run rfl (exec_loadA 23 rfl W.heap.size rfl 23 _ 32 5 ha3 Tryd.underlying23 (by rw [info_dig, HUA.out])) ?_)
      refine (nibbles_any a w3 HA.out).mono ?_
      rintro e w4 ⟨g1, rfl, hm4, hg1, b4⟩
      have hb4 := hb3.past b4 hb3.lt
      have bl4 := bl3.trans (b4.mono bl3.size)
      clear ha3 hb3 bl3 b4 hm4
      go_wp2_with (refine wp_run rfl (exec_loadA 23 rfl (W.heap.size + 1) rfl 23 _ 32 5 hb4 Tryd.underlying23 (by rw [info_dig, HUB.out])) ?_)
      refine (nibbles_any b w4 HB.out).mono ?_
      rintro e w5 ⟨g2, rfl, hn5, hg2, b5⟩
      have bl5 := bl4.trans (b5.mono bl4.size)
      clear hb4 bl4 b5 hn5
      go_wp2
      go_ret
      exact ⟨rfl, bl5⟩
  · go_enter Tryd.func8, Tryd.ntmps8
    go_upto_region 1 with (fail)
    rw [← HW.out]
    go_wp2_with fail
    refine (sane_any W0 hk0).mono ?_
    rintro e w1 ⟨rfl, b1⟩
    go_wp2
    go_ret
    exact ⟨rfl, b0.trans (b1.mono b0.size)⟩
end Go.Proofs.YtnfhdjmehhapiaaDoor
