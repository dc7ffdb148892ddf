/-
  The walk of WotsForgeryIsCollision.
-/
import Derived.Test.YtnfhdjmehhapiaaDoorWtH
import Derived.Test.YtnfhdjmehhapiaaDoorWtI
import Derived.Test.YtnfhdjmehhapiaaDoorWtN
import Derived.Test.YtnfhdjmehhapiaaDoorOpD
namespace Go.Proofs.YtnfhdjmehhapiaaDoor
open Go.RowKit
set_option linter.unusedVariables false
set_option linter.unusedSimpArgs false

theorem bs_len {w : World} {B : Nat} {v : Value} {l : List UInt8} (h : Bs w B v l) : l.length ≤ 9223372036854775807 := by
  obtain ⟨_, _, _, h1, h2, _⟩ := h
  unfold maxLen at h2
  omega
theorem exec_conv {P : Program} {o : Oper} {a : Act} {w : World} {B : Nat} (src dst e : TypeId) {x : Operand} (ho : o.op = .convert src dst x) (v : Value) (l : List UInt8) (hx : a.eval x = v) (h : Bs w B v l) (hs : P.underlying src = some (.slice e)) (he : P.underlying e = some (.int .u8)) (hd : P.underlying dst = some .string) :
    (execOp a.eval o).run P w = .ok (.value (.string ⟨l.toArray⟩)) w := by
  unfold execOp
  simp only [ho, hx, Sem.run_bind, Sem.run_pure, Result.andThen_ok, h.conv src dst e hs he hd, str]

set_option maxRecDepth 100000 in
set_option maxHeartbeats 4000000 in
theorem wotsForgeryIsCollision_walk (v : Value) (s : List UInt8) (ix : Int) (d : List UInt8) (u : Value) (m : Nat) (F : List UInt8) (W : World) (hv : Bs W W.heap.size v s) (hix : -9223372036854775808 ≤ ix ∧ ix ≤ 9223372036854775807) (hd : d.length = 32) (hu : Row W W.heap.size 32 m u (u8s F)) (hk : KIs 0 W) :
    Calls Tryd.prog 9 #[v, .int .i64 ix, .agg (u8s d).toArray, u] W fun e w' => e = .returned (.bool true) ∧ Below W.heap.size W w' := by
  obtain ⟨A, cap, rfl⟩ := hv.form
  obtain ⟨A2, cap2, rfl⟩ := row_form hu
  have hsl := bs_len hv
  have hml : m ≤ 9223372036854775807 := by
    obtain ⟨A', cap', e1, h1, h2, _⟩ := hu
    unfold maxLen at h2
    omega
  have HUD := Lib.hid (show (u8s d).length = 32 by rw [u8s_length, hd])
  have HD := Lib.hid hd
  have b0 : Below W.heap.size W (W.alloc (.cells (u8s d).toArray 23)) := (Below.refl _ _).alloc (Nat.le_refl _) _
  have hd0 : Blk (W.alloc (.cells (u8s d).toArray 23)) W.heap.size 23 (u8s d) := Blk.new W _ _
  obtain ⟨W0, hW0⟩ : ∃ W0, W0 = W.alloc (.cells (u8s d).toArray 23) := ⟨_, rfl⟩
  rw [← hW0] at b0 hd0
  have HW := Lib.hid hW0
  have hk0 := hk.past b0
  have HV := Lib.hid hv
  have HU := Lib.hid hu
  have HK := Lib.hid hk
  clear hW0 hd hv hk hu
  by_cases hlen : s.length ≤ 200
  · by_cases hlen2 : m ≤ 40
    · go_enter Tryd.func9, Tryd.ntmps9
      go_upto_region 1 with (fail)
      rw [← HW.out]
      go_wp2_with fail
      refine (sane_any W0 hk0).mono ?_
      rintro e w1 ⟨rfl, b1⟩
      have hd1 := hd0.past b1 hd0.lt
      have bl1 := b0.trans (b1.mono b0.size)
      have hz := zero_dig
      clear hd0 hk0 b0 b1
      by_cases hok : 1 ≤ s.length ∧ s.length ≤ 64 ∧ 0 ≤ ix ∧ ix ≤ 1023
      · obtain ⟨h1, h2, h3, h4⟩ := hok
        obtain ⟨n, rfl⟩ := Int.eq_ofNat_of_zero_le h3
        have HRL := Lib.hid (Wt.pub_len s n)
        have HRS := Lib.hid (Wt.rec_sig s n d)
        have HP := Lib.hid (public_yes (.slice A s.length cap) s n w1 (HV.out.past bl1) h1 h2 (by omega) (HK.out.past bl1))
        go_wp2_with fail
        refine HP.out.mono ?_
        rintro e w2 ⟨rfl, b2⟩
        have hd2 := hd1.past b2 hd1.lt
        have bl2 := bl1.trans (b2.mono bl1.size)
        obtain ⟨P, hP⟩ : ∃ P, P = Wt.pub s n := ⟨_, rfl⟩
        rw [← hP] at HRL HRS ⊢
        have HUR := Lib.hid (show (u8s P).length = 32 by rw [u8s_length, HRL.out])
        have hx2 := Blk.new w2 23 (u8s z32)
        have b23 : Below w2.heap.size w2 (w2.alloc (.cells (u8s z32).toArray 23)) := (Below.refl _ _).alloc (Nat.le_refl _) _
        clear HP hP hd1 bl1 b2
        go_upto_region 6 with (refine wp_storeA 23 (.tmp 9) (.tmp 31) rfl rfl w2.heap.size rfl 23 (u8s z32) (u8s P) rfl hx2 (by rw [info_dig, HUR.out]) (by rw [HUR.out]; rfl) (u8s_one _) rfl ?_; intro w4 hx4 hk4)
        have b24 : Below w2.heap.size w2 w4 := ((Keep.of_below b23).trans (hk4.mono (O' := fun q => q < w2.heap.size) (fun q hq => by omega))).below (fun q hq => hq) (Nat.le_refl _)
        have hd4 := hd2.past b24 hd2.lt
        have bl4 := bl2.trans (b24.mono bl2.size)
        obtain ⟨ga, hga⟩ : ∃ ga, ga = w2.heap.size := ⟨_, rfl⟩
        rw [← hga] at hx4 ⊢
        clear hga hx2 b23 hk4 b24 hd2 bl2
        have HS := Lib.hid (sign_yes (.slice A s.length cap) s d n w4 (HV.out.past bl4) h1 h2 (by omega) HD.out (HK.out.past bl4))
        go_wp2_with (refine wp_run rfl (exec_loadA 23 rfl W.heap.size rfl 23 _ 32 5 hd4 Tryd.underlying23 (by rw [info_dig, HUD.out])) ?_)
        refine HS.out.mono ?_
        rintro e w5 ⟨gs, rfl, hs5, hgs, b5⟩
        have hd5 := hd4.past b5 hd4.lt
        have hx5 := hx4.past b5 hx4.lt
        have bl5 := bl4.trans (b5.mono bl4.size)
        obtain ⟨FS, hFS⟩ : ∃ FS, FS = Wt.sig s n d := ⟨_, rfl⟩
        have HFL := Lib.hid (show FS.length = 576 by rw [hFS, Wt.sig_len])
        have HFU := Lib.hid (show (u8s FS).length = 18 * 32 by rw [u8s_length, HFL.out])
        rw [← hFS] at hs5 HRS
        clear HS hFS hd4 hx4 bl4 b5 h1 h2 h3 h4 hz
        by_cases h18 : m = 18
        · subst h18
          have HGL := Lib.hid (show F.length = 576 from row_flen HU.out)
          have HVR := Lib.hid (verify_yes P d F (.slice A2 18 cap2) w5 (HU.out.past bl5) HRL.out HD.out (HK.out.past bl5))
          by_cases hver : Wt.rec_ d F = P
          · have hvt : (Wt.rec_ d F == P) = true := beq_iff_eq.2 hver
            rw [hvt] at HVR
            have HVE := Lib.hid hver
            clear hvt hver
            go_wp2_with (first
              | (refine wp_run rfl (exec_loadA 23 rfl ga rfl 23 _ 32 5 hx5 Tryd.underlying23 (by rw [info_dig, HUR.out])) ?_)
              | (refine wp_run rfl (exec_loadA 23 rfl W.heap.size rfl 23 _ 32 5 hd5 Tryd.underlying23 (by rw [info_dig, HUD.out])) ?_))
            refine HVR.out.mono ?_
            rintro e w6 ⟨rfl, b6⟩
            have hd6 := hd5.past b6 hd5.lt
            have hs6 := hs5.past b6 hs5.lt
            have bl6 := bl5.trans (b6.mono bl5.size)
            have HCD := Lib.hid (digests_any _ _ FS F 18 18 w6 (row_of_blkS (s := 32) (n := 18) hs6 hs6.lt HFU.out (by decide)) (HU.out.past bl6) (by decide) (by decide))
            clear HVR hd5 hx5 hs5 bl5 b6
            by_cases hdig : FS = F
            · have hdt : (FS == F) = true := beq_iff_eq.2 hdig
              rw [hdt] at HCD
              clear hdt hdig
              go_wp2_with fail
              refine HCD.out.mono ?_
              rintro e w7 ⟨rfl, b7⟩
              have bl7 := bl6.trans (b7.mono bl6.size)
              go_wp2
              go_ret
              exact ⟨rfl, bl7⟩
            · have hdf : (FS == F) = false := beq_eq_false_iff_ne.2 hdig
              rw [hdf] at HCD
              have HNE := Lib.hid hdig
              clear hdf hdig
              go_wp2_with fail
              refine HCD.out.mono ?_
              rintro e w7 ⟨rfl, b7⟩
              have hd7 := hd6.past b7 hd6.lt
              have hs7 := hs6.past b7 hs6.lt
              have bl7 := bl6.trans (b7.mono bl6.size)
              clear HCD hd6 hs6 bl6 b7
              go_wp2_with (refine wp_run rfl (exec_loadA 23 rfl W.heap.size rfl 23 _ 32 5 hd7 Tryd.underlying23 (by rw [info_dig, HUD.out])) ?_)
              refine (nibbles_any d w7 HD.out).mono ?_
              rintro e w8 ⟨g1, rfl, hm8, hg1, b8⟩
              have hd8 := hd7.past b8 hd7.lt
              have hs8 := hs7.past b8 hs7.lt
              have bl8 := bl7.trans (b8.mono bl7.size)
              obtain ⟨NA, hNA⟩ : ∃ NA, NA = Wt.ns d := ⟨_, rfl⟩
              rw [← hNA] at hm8
              have HNA := Lib.hid (fun k (h : k < 18) => (show NA[k]? = some (Wt.nn d k) by rw [hNA]; exact Wt.ns_get d h))
              have HE1 := Lib.hid (ends_any d FS (.slice (some ⟨gs, 0, none⟩) 18 18) w8 (row_of_blkS (s := 32) (n := 18) hs8 hs8.lt HFU.out (by decide)) HD.out (HK.out.past bl8))
              clear hNA hd7 hs7 bl7 b8
              go_wp2_with (refine wp_run rfl (exec_loadA 23 rfl W.heap.size rfl 23 _ 32 5 hd8 Tryd.underlying23 (by rw [info_dig, HUD.out])) ?_)
              refine HE1.out.mono ?_
              rintro e w9 ⟨ua, rfl, hua, b9⟩
              have hd9 := hd8.past b9 hd8.lt
              have hs9 := hs8.past b9 hs8.lt
              have hm9 := hm8.past b9 hm8.lt
              have bl9 := bl8.trans (b9.mono bl8.size)
              have HE2 := Lib.hid (ends_any d F (.slice A2 18 cap2) w9 (HU.out.past bl9) HD.out (HK.out.past bl9))
              have HFORG := Lib.hid (fun h => Wt.forged (d := d) HFL.out HGL.out HNE.out h)
              have HKA := Lib.hid (show Wt.key (Wt.cat (Wt.recE d FS) 18) = P from HRS.out)
              have HKB := Lib.hid (show Wt.key (Wt.cat (Wt.recE d F) 18) = P from HVE.out)
              have HLA := Lib.hid (show (Wt.cat (Wt.recE d FS) 18).length = 576 from Wt.cat_len 18 fun i hi => Wt.recE_len HFL.out hi)
              have HLB := Lib.hid (show (Wt.cat (Wt.recE d F) 18).length = 576 from Wt.cat_len 18 fun i hi => Wt.recE_len HGL.out hi)
              obtain ⟨CA, hCA⟩ : ∃ CA, CA = Wt.cat (Wt.recE d FS) 18 := ⟨_, rfl⟩
              obtain ⟨CB, hCB⟩ : ∃ CB, CB = Wt.cat (Wt.recE d F) 18 := ⟨_, rfl⟩
              rw [← hCA] at hua HFORG HKA HLA
              rw [← hCB] at HE2 HFORG HKB HLB
              obtain ⟨Aa, ca, rfl⟩ := hua.form
              clear HE1 hd8 hs8 hm8 bl8 b9 hCA hCB
              go_wp2_with (refine wp_run rfl (exec_loadA 23 rfl W.heap.size rfl 23 _ 32 5 hd9 Tryd.underlying23 (by rw [info_dig, HUD.out])) ?_)
              refine HE2.out.mono ?_
              rintro e w10 ⟨ub, rfl, hub, b10⟩
              obtain ⟨Ab, cb, rfl⟩ := hub.form
              have hs10 := hs9.past b10 hs9.lt
              have hm10 := hm9.past b10 hm9.lt
              have hua10 := hua.past b10
              have bl10 := bl9.trans (b10.mono bl9.size)
              clear HE2 hd9 hs9 hm9 bl9 hua b10
              by_cases hends : CB = CA
              · subst hends
                obtain ⟨i0, hi0, hne0, hlt0, heq0⟩ := HFORG.out rfl
                have HNE0 := Lib.hid hne0
                have HLT0 := Lib.hid hlt0
                have HEQ0 := Lib.hid heq0
                clear HFORG hne0 hlt0 heq0
                go_wp2_with (first
                  | (refine wp_run rfl (exec_conv 29 9 5 rfl (.slice Aa CB.length ca) CB rfl hua10 Tryd.underlying29 Tryd.underlying5 Tryd.underlying9) ?_)
                  | (refine wp_run rfl (exec_conv 29 9 5 rfl (.slice Ab CB.length cb) CB rfl hub Tryd.underlying29 Tryd.underlying5 Tryd.underlying9) ?_))
                clear hua10 hub
                go_loopw [16] (fun i wr => ∃ k : Nat, i = .int .i64 k ∧ k ≤ i0 ∧ KIs 0 wr ∧ Blk wr gs 51 (u8s FS) ∧ Blk wr g1 48 (ins NA) ∧ Below W.heap.size W wr) (fun i _ => 18 - (intOf i).toNat)
                case atStart => exact ⟨0, rfl, by omega, HK.out.past bl10, hs10, hm10, bl10⟩
                case round =>
                  clear hs10 hm10 bl10
                  obtain ⟨k, rfl, hki, hkr, hsr, hmr, hbl⟩ := hrel
                  have hlt : k < 18 := by omega
                  obtain ⟨ad, hA2, had, _⟩ := (HU.out.past hbl).at_ (by omega)
                  subst hA2
                  go_upto_region 19 with (fail)
                  have bd : Below wr.heap.size wr wr.drew := (Below.refl _ _).drew
                  have cn := (hmr.past bd hmr.lt).cell (ins_get (HNA.out k hlt))
                  have hnl := Wt.nn_le d k
                  have hrs := row_of_blkS (s := 32) (n := 18) hsr hsr.lt HFU.out (by decide)
                  have hrt := HU.out.past hbl
                  have ce : ∀ w', Below wr.heap.size wr w' → ∀ j u, (u8s (Wt.el FS k))[j]? = some u → w'.cell? (((⟨gs, 0, none⟩ : Addr).add (k * 32)).add j) = some u := fun w' h => row_elem (hrs.carry h (Nat.le_refl _)) hlt
                  have cf : ∀ w', Below wr.heap.size wr w' → ∀ j u, (u8s (Wt.el F k))[j]? = some u → w'.cell? ((ad.add (k * 32)).add j) = some u := fun w' h => row_elem (hrt.carry h (Nat.le_refl _)) hlt
                  have HEL := Lib.hid (Wt.el_len (F := FS) (n := 18) (i := k) HFL.out hlt)
                  have HGEL := Lib.hid (Wt.el_len (F := F) (n := 18) (i := k) HGL.out hlt)
                  have hne1 : k = i0 → Wt.el FS k ≠ Wt.el F k := fun h => by rw [h]; exact HNE0.out
                  have heq1 : k = i0 → Sha.chain (Wt.el FS k) (15 - Wt.nn d k) = Sha.chain (Wt.el F k) (15 - Wt.nn d k) := fun h => by rw [h]; exact HEQ0.out
                  have hlt1 : k < i0 → Wt.el FS k = Wt.el F k := fun h => HLT0.out k h
                  obtain ⟨E, hE⟩ : ∃ E, E = Wt.el FS k := ⟨_, rfl⟩
                  obtain ⟨G, hG⟩ : ∃ G, G = Wt.el F k := ⟨_, rfl⟩
                  obtain ⟨q, hq⟩ : ∃ q, q = Wt.nn d k := ⟨_, rfl⟩
                  rw [← hE] at ce HEL hne1 heq1 hlt1
                  rw [← hG] at cf HGEL hne1 heq1 hlt1
                  rw [← hq] at cn hnl heq1
                  have HUE := Lib.hid (show (u8s E).length = 32 by rw [u8s_length, HEL.out])
                  have HUG := Lib.hid (show (u8s G).length = 32 by rw [u8s_length, HGEL.out])
                  have hg1l := hmr.lt
                  have CE := Lib.hid ce
                  have CF := Lib.hid cf
                  have HN1 := Lib.hid hne1
                  have HE1 := Lib.hid heq1
                  have HL1 := Lib.hid hlt1
                  have b0 : Below W.heap.size W wr.drew := hbl.drew
                  have hk0 := hkr.past bd
                  have hs0 := hsr.past bd hsr.lt
                  have hm0 := hmr.past bd hmr.lt
                  have z0 := bd.size
                  clear hE hG hq ce cf hrs hrt hkr hsr hmr hbl hne1 heq1 hlt1
                  by_cases hkk : k = i0
                  · have HQ : Hid ((!(E == G)) = true) := Lib.hid (by rw [beq_eq_false_iff_ne.2 (HN1.out hkk)]; rfl)
                    have HCE := Lib.hid (HE1.out hkk)
                    clear hki hkk
                    refine wp_region_pt wr.heap.size (.take 0 (.take 1 (.take 2 (.take 3 (.take 4 (.take 5 (.take 6 (.take 7 (.take 8 (.take 9 (.take 10 (.take 11 (.take 12 (.take 13 (.take 14 (.take 15 (.take 16 (.take 17 (.take 18 (.take 20 (.take 21 (.take 22 (.take 23 (.take 24 (.take 25 (.take 26 (.take 27 (.take 28 (.step 19 (.step 29 (.take 30 (.take 31 .done)))))))))))))))))))))))))))))))) (by kernel_rfl) (by kernel_rfl) (by kernel_rfl) (fun _ _ h => h) ?_
                    obtain ⟨w0, hw0⟩ : ∃ w0, w0 = wr.drew := ⟨_, rfl⟩
                    rw [← hw0] at bd cn b0 hk0 hs0 hm0 z0 ⊢
                    have bX := bd
                    clear hw0 bd
                    first | refine pt_skip rfl rfl rfl rfl ?_ | (refine pt_take rfl rfl rfl rfl ?_; apply Exists.intro; refine ⟨fun w' hw' => ?_, ?_⟩; focus ((repeat (first | go_skip | go_guarded | go_step | go_upon | go_back)); exact ⟨rfl, rfl, rfl⟩))
                    first | refine pt_skip rfl rfl rfl rfl ?_ | (refine pt_take rfl rfl rfl rfl ?_; apply Exists.intro; refine ⟨fun w' hw' => ?_, ?_⟩; focus ((repeat (first | go_skip | go_guarded | go_step | go_upon | go_back)); exact ⟨rfl, rfl, rfl⟩))
                    refine pt_take rfl rfl rfl rfl ?_
                    apply Exists.intro
                    refine ⟨fun w' hw' => ?_, ?_⟩
                    · refine wp_run rfl (exec_ixS 33 23 32 Tryd.underlying33 info_dig w' rfl rfl _ _ k rfl rfl hlt (q := (⟨gs, 0, none⟩ : Addr).add (k * 32)) rfl) ?_
                      exact ⟨rfl, rfl, rfl⟩
                    refine pt_take rfl rfl rfl rfl ?_
                    apply Exists.intro
                    refine ⟨fun w' hw' => ?_, ?_⟩
                    · refine wp_run rfl (exec_loadP 23 rfl ((⟨gs, 0, none⟩ : Addr).add (k * 32)) rfl (u8s E) 32 5 (CE.out w' (bX.trans hw')) Tryd.underlying23 (by rw [info_dig, HUE.out])) ?_
                      exact ⟨rfl, rfl, rfl⟩
                    first | refine pt_skip rfl rfl rfl rfl ?_ | (refine pt_take rfl rfl rfl rfl ?_; apply Exists.intro; refine ⟨fun w' hw' => ?_, ?_⟩; focus ((repeat (first | go_skip | go_guarded | go_step | go_upon | go_back)); exact ⟨rfl, rfl, rfl⟩))
                    first | refine pt_skip rfl rfl rfl rfl ?_ | (refine pt_take rfl rfl rfl rfl ?_; apply Exists.intro; refine ⟨fun w' hw' => ?_, ?_⟩; focus ((repeat (first | go_skip | go_guarded | go_step | go_upon | go_back)); exact ⟨rfl, rfl, rfl⟩))
                    refine pt_take rfl rfl rfl rfl ?_
                    apply Exists.intro
                    refine ⟨fun w' hw' => ?_, ?_⟩
                    · refine wp_run rfl (exec_ixS 33 23 32 Tryd.underlying33 info_dig w' rfl rfl _ _ k rfl rfl hlt (q := ad.add (k * 32)) rfl) ?_
                      exact ⟨rfl, rfl, rfl⟩
                    refine pt_take rfl rfl rfl rfl ?_
                    apply Exists.intro
                    refine ⟨fun w' hw' => ?_, ?_⟩
                    · refine wp_run rfl (exec_loadP 23 rfl (ad.add (k * 32)) rfl (u8s G) 32 5 (CF.out w' (bX.trans hw')) Tryd.underlying23 (by rw [info_dig, HUG.out])) ?_
                      exact ⟨rfl, rfl, rfl⟩
                    refine pt_take rfl rfl rfl rfl ?_
                    apply Exists.intro
                    refine ⟨fun w' hw' => ?_, ?_⟩
                    · refine wp_run rfl (exec_neqD rfl E G rfl rfl HEL.out HGEL.out _ HQ.out w') ?_
                      exact ⟨rfl, rfl, rfl⟩
                    first | refine pt_skip rfl rfl rfl rfl ?_ | (refine pt_take rfl rfl rfl rfl ?_; apply Exists.intro; refine ⟨fun w' hw' => ?_, ?_⟩; focus ((repeat (first | go_skip | go_guarded | go_step | go_upon | go_back)); exact ⟨rfl, rfl, rfl⟩))
                    first | refine pt_skip rfl rfl rfl rfl ?_ | (refine pt_take rfl rfl rfl rfl ?_; apply Exists.intro; refine ⟨fun w' hw' => ?_, ?_⟩; focus ((repeat (first | go_skip | go_guarded | go_step | go_upon | go_back)); exact ⟨rfl, rfl, rfl⟩))
                    first | refine pt_skip rfl rfl rfl rfl ?_ | (refine pt_take rfl rfl rfl rfl ?_; apply Exists.intro; refine ⟨fun w' hw' => ?_, ?_⟩; focus ((repeat (first | go_skip | go_guarded | go_step | go_upon | go_back)); exact ⟨rfl, rfl, rfl⟩))
                    refine pt_take rfl rfl rfl rfl ?_
                    apply Exists.intro
                    refine ⟨fun w' hw' => ?_, ?_⟩
                    · refine wp_run rfl (exec_ixS 33 23 32 Tryd.underlying33 info_dig w' rfl rfl _ _ k rfl rfl hlt (q := (⟨gs, 0, none⟩ : Addr).add (k * 32)) rfl) ?_
                      exact ⟨rfl, rfl, rfl⟩
                    refine pt_take rfl rfl rfl rfl ?_
                    apply Exists.intro
                    refine ⟨fun w' hw' => ?_, ?_⟩
                    · refine wp_run rfl (exec_loadP 23 rfl ((⟨gs, 0, none⟩ : Addr).add (k * 32)) rfl (u8s E) 32 5 (CE.out w' (bX.trans hw')) Tryd.underlying23 (by rw [info_dig, HUE.out])) ?_
                      exact ⟨rfl, rfl, rfl⟩
                    first | refine pt_skip rfl rfl rfl rfl ?_ | (refine pt_take rfl rfl rfl rfl ?_; apply Exists.intro; refine ⟨fun w' hw' => ?_, ?_⟩; focus ((repeat (first | go_skip | go_guarded | go_step | go_upon | go_back)); exact ⟨rfl, rfl, rfl⟩))
                    first | refine pt_skip rfl rfl rfl rfl ?_ | (refine pt_take rfl rfl rfl rfl ?_; apply Exists.intro; refine ⟨fun w' hw' => ?_, ?_⟩; focus ((repeat (first | go_skip | go_guarded | go_step | go_upon | go_back)); exact ⟨rfl, rfl, rfl⟩))
                    refine pt_take rfl rfl rfl rfl ?_
                    apply Exists.intro
                    refine ⟨fun w' hw' => ?_, ?_⟩
                    · refine wp_run rfl (exec_ixS 26 3 1 Tryd.underlying26 size_int w' rfl rfl _ _ k rfl rfl hlt (q := ⟨g1, k, none⟩) (by rw [add_zero_addr, Nat.mul_one])) ?_
                      exact ⟨rfl, rfl, rfl⟩
                    refine pt_take rfl rfl rfl rfl ?_
                    apply Exists.intro
                    refine ⟨fun w' hw' => ?_, ?_⟩
                    · have hcell := (hw'.cell (p := ⟨g1, k, none⟩) hg1l).trans cn
                      focus ((repeat (first | go_skip | go_guarded | go_step | go_upon | go_back)); exact ⟨rfl, rfl, rfl⟩)
                    first | refine pt_skip rfl rfl rfl rfl ?_ | (refine pt_take rfl rfl rfl rfl ?_; apply Exists.intro; refine ⟨fun w' hw' => ?_, ?_⟩; focus ((repeat (first | go_skip | go_guarded | go_step | go_upon | go_back)); exact ⟨rfl, rfl, rfl⟩))
                    first | refine pt_skip rfl rfl rfl rfl ?_ | (refine pt_take rfl rfl rfl rfl ?_; apply Exists.intro; refine ⟨fun w' hw' => ?_, ?_⟩; focus ((repeat (first | go_skip | go_guarded | go_step | go_upon | go_back)); exact ⟨rfl, rfl, rfl⟩))
                    first | refine pt_skip rfl rfl rfl rfl ?_ | (refine pt_take rfl rfl rfl rfl ?_; apply Exists.intro; refine ⟨fun w' hw' => ?_, ?_⟩; focus ((repeat (first | go_skip | go_guarded | go_step | go_upon | go_back)); exact ⟨rfl, rfl, rfl⟩))
                    refine pt_take rfl rfl rfl rfl ?_
                    apply Exists.intro
                    refine ⟨fun w' hw' => ?_, ?_⟩
                    · refine wp_run rfl (exec_ixS 33 23 32 Tryd.underlying33 info_dig w' rfl rfl _ _ k rfl rfl hlt (q := ad.add (k * 32)) rfl) ?_
                      exact ⟨rfl, rfl, rfl⟩
                    refine pt_take rfl rfl rfl rfl ?_
                    apply Exists.intro
                    refine ⟨fun w' hw' => ?_, ?_⟩
                    · refine wp_run rfl (exec_loadP 23 rfl (ad.add (k * 32)) rfl (u8s G) 32 5 (CF.out w' (bX.trans hw')) Tryd.underlying23 (by rw [info_dig, HUG.out])) ?_
                      exact ⟨rfl, rfl, rfl⟩
                    first | refine pt_skip rfl rfl rfl rfl ?_ | (refine pt_take rfl rfl rfl rfl ?_; apply Exists.intro; refine ⟨fun w' hw' => ?_, ?_⟩; focus ((repeat (first | go_skip | go_guarded | go_step | go_upon | go_back)); exact ⟨rfl, rfl, rfl⟩))
                    first | refine pt_skip rfl rfl rfl rfl ?_ | (refine pt_take rfl rfl rfl rfl ?_; apply Exists.intro; refine ⟨fun w' hw' => ?_, ?_⟩; focus ((repeat (first | go_skip | go_guarded | go_step | go_upon | go_back)); exact ⟨rfl, rfl, rfl⟩))
                    refine pt_take rfl rfl rfl rfl ?_
                    apply Exists.intro
                    refine ⟨fun w' hw' => ?_, ?_⟩
                    · refine wp_run rfl (exec_ixS 26 3 1 Tryd.underlying26 size_int w' rfl rfl _ _ k rfl rfl hlt (q := ⟨g1, k, none⟩) (by rw [add_zero_addr, Nat.mul_one])) ?_
                      exact ⟨rfl, rfl, rfl⟩
                    refine pt_take rfl rfl rfl rfl ?_
                    apply Exists.intro
                    refine ⟨fun w' hw' => ?_, ?_⟩
                    · have hcell := (hw'.cell (p := ⟨g1, k, none⟩) hg1l).trans cn
                      focus ((repeat (first | go_skip | go_guarded | go_step | go_upon | go_back)); exact ⟨rfl, rfl, rfl⟩)
                    first | refine pt_skip rfl rfl rfl rfl ?_ | (refine pt_take rfl rfl rfl rfl ?_; apply Exists.intro; refine ⟨fun w' hw' => ?_, ?_⟩; focus ((repeat (first | go_skip | go_guarded | go_step | go_upon | go_back)); exact ⟨rfl, rfl, rfl⟩))
                    have HCL0 := Sha.chain_len HEL.out (15 - q)
                    have hc3 := chain_any E (15 - (q : Int)) w0 HEL.out (by omega) (by omega) hk0
                    rw [show (15 - (q : Int)).toNat = 15 - q by omega] at hc3
                    have HCE2 := HCE.out
                    obtain ⟨X, hX⟩ : ∃ X, X = Sha.chain E (15 - q) := ⟨_, rfl⟩
                    rw [← hX] at hc3 HCL0 HCE2
                    have HCL := Lib.hid HCL0
                    have HC3 := Lib.hid hc3
                    have HCE3 := Lib.hid HCE2
                    clear hX hc3 HCL0 HCE2 HCE
                    refine pt_step rfl ?_
                    go_wp2_with fail
                    refine HC3.out.mono ?_
                    rintro e w3 ⟨rfl, b3⟩
                    go_wp2_with fail
                    refine ⟨rfl, b3.mono z0, ?_⟩
                    have b03 := b0.trans (b3.mono b0.size)
                    have hk3 := hk0.past b3
                    have z3 := Nat.le_trans z0 b3.size
                    have hc4 := chain_any G (15 - (q : Int)) w3 HGEL.out (by omega) (by omega) hk3
                    rw [show (15 - (q : Int)).toNat = 15 - q by omega, ← HCE3.out] at hc4
                    have HC4 := Lib.hid hc4
                    clear cn b0 hk0 hs0 hm0 z0 b3 bX hc4 HC3
                    refine pt_step rfl ?_
                    go_wp2_with fail
                    refine HC4.out.mono ?_
                    rintro e w4 ⟨rfl, b4⟩
                    go_wp2_with fail
                    refine ⟨rfl, b4.mono z3, ?_⟩
                    have b04 := b03.trans (b4.mono b03.size)
                    clear b03 hk3 z3 b4
                    refine pt_take rfl rfl rfl rfl ?_
                    apply Exists.intro
                    refine ⟨fun w' hw' => ?_, ?_⟩
                    · refine wp_run rfl (exec_eqB rfl X X rfl rfl HCL.out HCL.out true (beq_self_eq_true X) w') ?_
                      exact ⟨rfl, rfl, rfl⟩
                    first | refine pt_skip rfl rfl rfl rfl ?_ | (refine pt_take rfl rfl rfl rfl ?_; apply Exists.intro; refine ⟨fun w' hw' => ?_, ?_⟩; focus ((repeat (first | go_skip | go_guarded | go_step | go_upon | go_back)); exact ⟨rfl, rfl, rfl⟩))
                    change Exit.then _ _ Exit.normal _ _
                    go_wp2
                    go_ret
                    exact ⟨rfl, b04⟩
                  · have HQ : Hid ((!(E == G)) = false) := Lib.hid (by rw [beq_iff_eq.2 (HL1.out (by omega))]; rfl)
                    refine wp_region_pt wr.heap.size (.take 0 (.take 1 (.take 2 (.take 3 (.take 4 (.take 5 (.take 6 (.take 7 (.take 8 (.take 9 (.take 10 (.take 11 (.take 12 (.take 13 (.take 14 (.take 15 (.take 16 (.take 17 (.take 18 (.take 20 (.take 21 (.take 22 (.take 23 (.take 24 (.take 25 (.take 26 (.take 27 (.take 28 (.step 19 (.step 29 (.take 30 (.take 31 .done)))))))))))))))))))))))))))))))) (by kernel_rfl) (by kernel_rfl) (by kernel_rfl) (fun _ _ h => h) ?_
                    obtain ⟨w0, hw0⟩ : ∃ w0, w0 = wr.drew := ⟨_, rfl⟩
                    rw [← hw0] at bd cn b0 hk0 hs0 hm0 z0 ⊢
                    have bX := bd
                    clear hw0 bd
                    first | refine pt_skip rfl rfl rfl rfl ?_ | (refine pt_take rfl rfl rfl rfl ?_; apply Exists.intro; refine ⟨fun w' hw' => ?_, ?_⟩; focus ((repeat (first | go_skip | go_guarded | go_step | go_upon | go_back)); exact ⟨rfl, rfl, rfl⟩))
                    first | refine pt_skip rfl rfl rfl rfl ?_ | (refine pt_take rfl rfl rfl rfl ?_; apply Exists.intro; refine ⟨fun w' hw' => ?_, ?_⟩; focus ((repeat (first | go_skip | go_guarded | go_step | go_upon | go_back)); exact ⟨rfl, rfl, rfl⟩))
                    refine pt_take rfl rfl rfl rfl ?_
                    apply Exists.intro
                    refine ⟨fun w' hw' => ?_, ?_⟩
                    · refine wp_run rfl (exec_ixS 33 23 32 Tryd.underlying33 info_dig w' rfl rfl _ _ k rfl rfl hlt (q := (⟨gs, 0, none⟩ : Addr).add (k * 32)) rfl) ?_
                      exact ⟨rfl, rfl, rfl⟩
                    refine pt_take rfl rfl rfl rfl ?_
                    apply Exists.intro
                    refine ⟨fun w' hw' => ?_, ?_⟩
                    · refine wp_run rfl (exec_loadP 23 rfl ((⟨gs, 0, none⟩ : Addr).add (k * 32)) rfl (u8s E) 32 5 (CE.out w' (bX.trans hw')) Tryd.underlying23 (by rw [info_dig, HUE.out])) ?_
                      exact ⟨rfl, rfl, rfl⟩
                    first | refine pt_skip rfl rfl rfl rfl ?_ | (refine pt_take rfl rfl rfl rfl ?_; apply Exists.intro; refine ⟨fun w' hw' => ?_, ?_⟩; focus ((repeat (first | go_skip | go_guarded | go_step | go_upon | go_back)); exact ⟨rfl, rfl, rfl⟩))
                    first | refine pt_skip rfl rfl rfl rfl ?_ | (refine pt_take rfl rfl rfl rfl ?_; apply Exists.intro; refine ⟨fun w' hw' => ?_, ?_⟩; focus ((repeat (first | go_skip | go_guarded | go_step | go_upon | go_back)); exact ⟨rfl, rfl, rfl⟩))
                    refine pt_take rfl rfl rfl rfl ?_
                    apply Exists.intro
                    refine ⟨fun w' hw' => ?_, ?_⟩
                    · refine wp_run rfl (exec_ixS 33 23 32 Tryd.underlying33 info_dig w' rfl rfl _ _ k rfl rfl hlt (q := ad.add (k * 32)) rfl) ?_
                      exact ⟨rfl, rfl, rfl⟩
                    refine pt_take rfl rfl rfl rfl ?_
                    apply Exists.intro
                    refine ⟨fun w' hw' => ?_, ?_⟩
                    · refine wp_run rfl (exec_loadP 23 rfl (ad.add (k * 32)) rfl (u8s G) 32 5 (CF.out w' (bX.trans hw')) Tryd.underlying23 (by rw [info_dig, HUG.out])) ?_
                      exact ⟨rfl, rfl, rfl⟩
                    refine pt_take rfl rfl rfl rfl ?_
                    apply Exists.intro
                    refine ⟨fun w' hw' => ?_, ?_⟩
                    · refine wp_run rfl (exec_neqD rfl E G rfl rfl HEL.out HGEL.out _ HQ.out w') ?_
                      exact ⟨rfl, rfl, rfl⟩
                    first | refine pt_skip rfl rfl rfl rfl ?_ | (refine pt_take rfl rfl rfl rfl ?_; apply Exists.intro; refine ⟨fun w' hw' => ?_, ?_⟩; focus ((repeat (first | go_skip | go_guarded | go_step | go_upon | go_back)); exact ⟨rfl, rfl, rfl⟩))
                    first | refine pt_skip rfl rfl rfl rfl ?_ | (refine pt_take rfl rfl rfl rfl ?_; apply Exists.intro; refine ⟨fun w' hw' => ?_, ?_⟩; focus ((repeat (first | go_skip | go_guarded | go_step | go_upon | go_back)); exact ⟨rfl, rfl, rfl⟩))
                    first | refine pt_skip rfl rfl rfl rfl ?_ | (refine pt_take rfl rfl rfl rfl ?_; apply Exists.intro; refine ⟨fun w' hw' => ?_, ?_⟩; focus ((repeat (first | go_skip | go_guarded | go_step | go_upon | go_back)); exact ⟨rfl, rfl, rfl⟩))
                    first | refine pt_skip rfl rfl rfl rfl ?_ | (refine pt_take rfl rfl rfl rfl ?_; apply Exists.intro; refine ⟨fun w' hw' => ?_, ?_⟩; focus ((repeat (first | go_skip | go_guarded | go_step | go_upon | go_back)); exact ⟨rfl, rfl, rfl⟩))
                    first | refine pt_skip rfl rfl rfl rfl ?_ | (refine pt_take rfl rfl rfl rfl ?_; apply Exists.intro; refine ⟨fun w' hw' => ?_, ?_⟩; focus ((repeat (first | go_skip | go_guarded | go_step | go_upon | go_back)); exact ⟨rfl, rfl, rfl⟩))
                    first | refine pt_skip rfl rfl rfl rfl ?_ | (refine pt_take rfl rfl rfl rfl ?_; apply Exists.intro; refine ⟨fun w' hw' => ?_, ?_⟩; focus ((repeat (first | go_skip | go_guarded | go_step | go_upon | go_back)); exact ⟨rfl, rfl, rfl⟩))
                    first | refine pt_skip rfl rfl rfl rfl ?_ | (refine pt_take rfl rfl rfl rfl ?_; apply Exists.intro; refine ⟨fun w' hw' => ?_, ?_⟩; focus ((repeat (first | go_skip | go_guarded | go_step | go_upon | go_back)); exact ⟨rfl, rfl, rfl⟩))
                    first | refine pt_skip rfl rfl rfl rfl ?_ | (refine pt_take rfl rfl rfl rfl ?_; apply Exists.intro; refine ⟨fun w' hw' => ?_, ?_⟩; focus ((repeat (first | go_skip | go_guarded | go_step | go_upon | go_back)); exact ⟨rfl, rfl, rfl⟩))
                    first | refine pt_skip rfl rfl rfl rfl ?_ | (refine pt_take rfl rfl rfl rfl ?_; apply Exists.intro; refine ⟨fun w' hw' => ?_, ?_⟩; focus ((repeat (first | go_skip | go_guarded | go_step | go_upon | go_back)); exact ⟨rfl, rfl, rfl⟩))
                    first | refine pt_skip rfl rfl rfl rfl ?_ | (refine pt_take rfl rfl rfl rfl ?_; apply Exists.intro; refine ⟨fun w' hw' => ?_, ?_⟩; focus ((repeat (first | go_skip | go_guarded | go_step | go_upon | go_back)); exact ⟨rfl, rfl, rfl⟩))
                    first | refine pt_skip rfl rfl rfl rfl ?_ | (refine pt_take rfl rfl rfl rfl ?_; apply Exists.intro; refine ⟨fun w' hw' => ?_, ?_⟩; focus ((repeat (first | go_skip | go_guarded | go_step | go_upon | go_back)); exact ⟨rfl, rfl, rfl⟩))
                    first | refine pt_skip rfl rfl rfl rfl ?_ | (refine pt_take rfl rfl rfl rfl ?_; apply Exists.intro; refine ⟨fun w' hw' => ?_, ?_⟩; focus ((repeat (first | go_skip | go_guarded | go_step | go_upon | go_back)); exact ⟨rfl, rfl, rfl⟩))
                    first | refine pt_skip rfl rfl rfl rfl ?_ | (refine pt_take rfl rfl rfl rfl ?_; apply Exists.intro; refine ⟨fun w' hw' => ?_, ?_⟩; focus ((repeat (first | go_skip | go_guarded | go_step | go_upon | go_back)); exact ⟨rfl, rfl, rfl⟩))
                    first | refine pt_skip rfl rfl rfl rfl ?_ | (refine pt_take rfl rfl rfl rfl ?_; apply Exists.intro; refine ⟨fun w' hw' => ?_, ?_⟩; focus ((repeat (first | go_skip | go_guarded | go_step | go_upon | go_back)); exact ⟨rfl, rfl, rfl⟩))
                    first | refine pt_skip rfl rfl rfl rfl ?_ | (refine pt_take rfl rfl rfl rfl ?_; apply Exists.intro; refine ⟨fun w' hw' => ?_, ?_⟩; focus ((repeat (first | go_skip | go_guarded | go_step | go_upon | go_back)); exact ⟨rfl, rfl, rfl⟩))
                    first | refine pt_skip rfl rfl rfl rfl ?_ | (refine pt_take rfl rfl rfl rfl ?_; apply Exists.intro; refine ⟨fun w' hw' => ?_, ?_⟩; focus ((repeat (first | go_skip | go_guarded | go_step | go_upon | go_back)); exact ⟨rfl, rfl, rfl⟩))
                    first | refine pt_skip rfl rfl rfl rfl ?_ | (refine pt_take rfl rfl rfl rfl ?_; apply Exists.intro; refine ⟨fun w' hw' => ?_, ?_⟩; focus ((repeat (first | go_skip | go_guarded | go_step | go_upon | go_back)); exact ⟨rfl, rfl, rfl⟩))
                    first | refine pt_skip rfl rfl rfl rfl ?_ | (refine pt_take rfl rfl rfl rfl ?_; apply Exists.intro; refine ⟨fun w' hw' => ?_, ?_⟩; focus ((repeat (first | go_skip | go_guarded | go_step | go_upon | go_back)); exact ⟨rfl, rfl, rfl⟩))
                    first | refine pt_skip rfl rfl rfl rfl ?_ | (refine pt_take rfl rfl rfl rfl ?_; apply Exists.intro; refine ⟨fun w' hw' => ?_, ?_⟩; focus ((repeat (first | go_skip | go_guarded | go_step | go_upon | go_back)); exact ⟨rfl, rfl, rfl⟩))
                    refine pt_step rfl ?_
                    go_wp2_with fail
                    refine ⟨rfl, Below.refl _ _, ?_⟩
                    refine pt_step rfl ?_
                    go_wp2_with fail
                    refine ⟨rfl, Below.refl _ _, ?_⟩
                    first | refine pt_skip rfl rfl rfl rfl ?_ | (refine pt_take rfl rfl rfl rfl ?_; apply Exists.intro; refine ⟨fun w' hw' => ?_, ?_⟩; focus ((repeat (first | go_skip | go_guarded | go_step | go_upon | go_back)); exact ⟨rfl, rfl, rfl⟩))
                    first | refine pt_skip rfl rfl rfl rfl ?_ | (refine pt_take rfl rfl rfl rfl ?_; apply Exists.intro; refine ⟨fun w' hw' => ?_, ?_⟩; focus ((repeat (first | go_skip | go_guarded | go_step | go_upon | go_back)); exact ⟨rfl, rfl, rfl⟩))
                    change Exit.then _ _ Exit.normal _ _
                    clear cn
                    go_wp2
                    go_roundw
                    case rel => exact ⟨k + 1, by go_num, by omega, hk0, hs0, hm0, b0⟩
                    case measure => simp [intOf]; omega
              · have hne : (CA == CB) = false := beq_eq_false_iff_ne.2 (fun h => hends h.symm)
                clear hends
                go_wp2_with (first
                  | (refine wp_run rfl (exec_conv 29 9 5 rfl (.slice Aa CA.length ca) CA rfl hua10 Tryd.underlying29 Tryd.underlying5 Tryd.underlying9) ?_)
                  | (refine wp_run rfl (exec_conv 29 9 5 rfl (.slice Ab CB.length cb) CB rfl hub Tryd.underlying29 Tryd.underlying5 Tryd.underlying9) ?_))
                refine (tagged_any (.slice Aa CA.length ca) Wt.pubT CA w10 hua10 (HK.out.past bl10) (by rw [HLA.out]; omega) (by decide)).mono ?_
                rintro e w11 ⟨rfl, b11⟩
                have hub11 := hub.past b11
                have bl11 := bl10.trans (b11.mono bl10.size)
                rw [show Sha.tag Wt.pubT CA = P from HKA.out]
                clear hua10 hub bl10 b11 hs10 hm10
                go_wp2_with fail
                refine (tagged_any (.slice Ab CB.length cb) Wt.pubT CB w11 hub11 (HK.out.past bl11) (by rw [HLB.out]; omega) (by decide)).mono ?_
                rintro e w12 ⟨rfl, b12⟩
                have bl12 := bl11.trans (b12.mono bl11.size)
                rw [show Sha.tag Wt.pubT CB = P from HKB.out]
                clear hub11 bl11 b12
                go_wp2_with (refine wp_run rfl (exec_eqB rfl P P rfl rfl HRL.out HRL.out true (beq_self_eq_true P) _) ?_)
                go_ret
                exact ⟨rfl, bl12⟩
          · have hvf : (Wt.rec_ d F == P) = false := beq_eq_false_iff_ne.2 hver
            rw [hvf] at HVR
            clear hvf hver
            go_wp2_with (first
              | (refine wp_run rfl (exec_loadA 23 rfl (ga) rfl 23 _ 32 5 hx5 Tryd.underlying23 (by rw [info_dig, HUR.out])) ?_)
              | (refine wp_run rfl (exec_loadA 23 rfl (W.heap.size) rfl 23 _ 32 5 hd5 Tryd.underlying23 (by rw [info_dig, HUD.out])) ?_))
            refine HVR.out.mono ?_
            rintro e w6 ⟨rfl, b6⟩
            have bl6 := bl5.trans (b6.mono bl5.size)
            go_wp2
            go_ret
            exact ⟨rfl, bl6⟩
        · have HVR := Lib.hid (verify_no P d m A2 cap2 w5 HD.out h18 hml)
          go_wp2_with (first
            | (refine wp_run rfl (exec_loadA 23 rfl (ga) rfl 23 _ 32 5 hx5 Tryd.underlying23 (by rw [info_dig, HUR.out])) ?_)
            | (refine wp_run rfl (exec_loadA 23 rfl (W.heap.size) rfl 23 _ 32 5 hd5 Tryd.underlying23 (by rw [info_dig, HUD.out])) ?_))
          refine HVR.out.mono ?_
          rintro e w6 ⟨rfl, b6⟩
          have bl6 := bl5.trans (b6.mono bl5.size)
          go_wp2
          go_ret
          exact ⟨rfl, bl6⟩
      · have HP := Lib.hid (public_no (.slice A s.length cap) s ix w1 (HV.out.past bl1) hok)
        go_wp2_with fail
        refine HP.out.mono ?_
        rintro e w2 ⟨rfl, b2⟩
        have hd2 := hd1.past b2 hd1.lt
        have bl2 := bl1.trans (b2.mono bl1.size)
        have hx2 := Blk.new w2 23 (u8s z32)
        have b23 : Below w2.heap.size w2 (w2.alloc (.cells (u8s z32).toArray 23)) := (Below.refl _ _).alloc (Nat.le_refl _) _
        clear HP hd1 bl1 b2
        go_upto_region 6 with (refine wp_storeA 23 (.tmp 9) (.tmp 31) rfl rfl w2.heap.size rfl 23 (u8s z32) (u8s z32) rfl hx2 (by rw [info_dig]; rfl) rfl (u8s_one _) rfl ?_; intro w4 hx4 hk4)
        have b24 : Below w2.heap.size w2 w4 := ((Keep.of_below b23).trans (hk4.mono (O' := fun q => q < w2.heap.size) (fun q hq => by omega))).below (fun q hq => hq) (Nat.le_refl _)
        have hd4 := hd2.past b24 hd2.lt
        have bl4 := bl2.trans (b24.mono bl2.size)
        obtain ⟨ga, hga⟩ : ∃ ga, ga = w2.heap.size := ⟨_, rfl⟩
        rw [← hga] at hx4 ⊢
        clear hga hx2 b23 hk4 b24 hd2 bl2
        have HS := Lib.hid (sign_no (.slice A s.length cap) s d ix w4 (HV.out.past bl4) hok)
        go_wp2_with (refine wp_run rfl (exec_loadA 23 rfl W.heap.size rfl 23 _ 32 5 hd4 Tryd.underlying23 (by rw [info_dig, HUD.out])) ?_)
        refine HS.out.mono ?_
        rintro e w5 ⟨rfl, b5⟩
        have bl5 := bl4.trans (b5.mono bl4.size)
        clear HS hd4 hx4 bl4 b5 hok
        go_wp2
        go_ret
        exact ⟨rfl, bl5⟩
    · go_enter Tryd.func9, Tryd.ntmps9
      go_upto_region 1 with (fail)
      rw [← HW.out]
      go_wp2_with fail
      refine (sane_any W0 hk0).mono ?_
      rintro e w1 ⟨rfl, b1⟩
      go_wp2
      go_ret
      exact ⟨rfl, b0.trans (b1.mono b0.size)⟩
  · go_enter Tryd.func9, Tryd.ntmps9
    go_upto_region 1 with (fail)
    rw [← HW.out]
    go_wp2_with fail
    refine (sane_any W0 hk0).mono ?_
    rintro e w1 ⟨rfl, b1⟩
    go_wp2
    go_ret
    exact ⟨rfl, b0.trans (b1.mono b0.size)⟩
end Go.Proofs.YtnfhdjmehhapiaaDoor
