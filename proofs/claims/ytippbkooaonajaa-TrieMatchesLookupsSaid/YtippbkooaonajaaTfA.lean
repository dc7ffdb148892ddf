/-
  The reference's valid and Check.
-/
import Derived.Test.YtippbkooaonajaaTrF
namespace Go.Proofs.Ytippbkooaonajaa
open Go.RowKit Dg Tr
set_option linter.unusedVariables false
set_option linter.unusedSimpArgs false

theorem badv_ok {F : List Int} {n : Nat} (h : ∀ j, j < n → badv (vl F j) = false) : Vals F n := fun j hj => by
  have h2 := h j hj
  unfold badv at h2
  simp only [Bool.or_eq_false_iff, decide_eq_false_iff_not] at h2
  omega

set_option maxRecDepth 100000 in
set_option maxHeartbeats 4000000 in
theorem rvalid_any (A : Option Addr) (n cap : Nat) (F : List Int) (w : World) (hv : Nds w w.heap.size n (.slice A n cap) F) (hn : n ≤ 5000) :
    Calls Try.prog 43 #[.agg #[.slice A n cap]] w fun e w' => IsB (Ok F n) e ∧ Below w.heap.size w w' := by
  have HL := Lib.hid hv.len
  have b0 : Below w.heap.size w (w.alloc (.cells #[.slice A n cap] 24)) := (Below.refl _ _).alloc (Nat.le_refl _) _
  have k0 : Blk (w.alloc (.cells #[.slice A n cap] 24)) w.heap.size 24 [.slice A n cap] := Blk.new _ _ _
  obtain ⟨W0, hW0⟩ : ∃ W, W = w.alloc (.cells #[.slice A n cap] 24) := ⟨_, rfl⟩
  rw [← hW0] at b0 k0
  have hv0 : Nds W0 W0.heap.size n (.slice A n cap) F := Row.past hv b0
  have HV := Lib.hid hv0
  have HW := Lib.hid hW0
  have c0 := k0.cell (j := 0) rfl
  have hg0 := k0.lt
  obtain ⟨i0, hi0, hz0, hz1, hz2⟩ := info_parts info_int3
  clear hv hv0 hW0 k0
  by_cases h0 : n = 0
  · subst h0
    go_enter Try.func43, Try.ntmps43
    go_upto_region 1 with (fail)
    rw [← HW.out]
    go_wp2_with fail
    go_ret
    exact ⟨IsB.no (fun h => by obtain ⟨⟨E, ht⟩, _⟩ := h; exact absurd ht.pos (by omega)), b0⟩
  · have hpos : 0 < n := by omega
    have h1n : ¬ n < 1 := by omega
    obtain ⟨ad, hA, _⟩ := HV.out.at_ hpos
    subst hA
    go_enter Try.func43, Try.ntmps43
    go_upto_region 1 with (fail)
    rw [← HW.out]
    clear HW
    go_upto_region 5 with (refine wpList_make_row _ rfl _ _ 75 rfl 3 i0 (.int .i64 0) Try.underlying75 hi0 hz0 hz1 rfl .i64 .i64 n rfl rfl (by rw [hz2]; omega) (by omega) ?_)
    have e0 : (madeCells #[.int .i64 0] n) = (ints (List.replicate n 0)).toArray := by
      apply Array.ext'
      rw [toList_madeCells_one]; simp [ints, i64]
    have HE0 := Lib.hid e0
    have k1 : Blk (W0.alloc (.cells (madeCells #[.int .i64 0] n) 3)) W0.heap.size 3 (ints (List.replicate n 0)) := by
      rw [e0]; exact Blk.new _ _ _
    have b1 : Below W0.heap.size W0 (W0.alloc (.cells (madeCells #[.int .i64 0] n) 3)) := (Below.refl _ _).alloc (Nat.le_refl _) _
    obtain ⟨W1, hW1⟩ : ∃ W, W = W0.alloc (.cells (madeCells #[.int .i64 0] n) 3) := ⟨_, rfl⟩
    rw [← hW1] at k1 b1 ⊢
    clear hW1 e0
    go_upto_region 6 with (refine wpList_make_row _ rfl _ _ 75 rfl 3 i0 (.int .i64 0) Try.underlying75 hi0 hz0 hz1 rfl .i64 .i64 n rfl rfl (by rw [hz2]; omega) (by omega) ?_)
    have k2 : Blk (W1.alloc (.cells (madeCells #[.int .i64 0] n) 3)) W1.heap.size 3 (ints (List.replicate n 0)) := by
      rw [HE0.out]; exact Blk.new _ _ _
    have b2 : Below W1.heap.size W1 (W1.alloc (.cells (madeCells #[.int .i64 0] n) 3)) := (Below.refl _ _).alloc (Nat.le_refl _) _
    obtain ⟨W2, hW2⟩ : ∃ W, W = W1.alloc (.cells (madeCells #[.int .i64 0] n) 3) := ⟨_, rfl⟩
    rw [← hW2] at k2 b2 ⊢
    have kP0 := k1.past b2 k1.lt
    have bw := b1.trans (b2.mono b1.size)
    obtain ⟨g1, hg1⟩ : ∃ g, g = W0.heap.size := ⟨_, rfl⟩
    obtain ⟨g2, hg2⟩ : ∃ g, g = W1.heap.size := ⟨_, rfl⟩
    have h01 : w.heap.size < g1 := by rw [hg1]; exact hg0
    have h12 : g1 < g2 := by rw [hg1, hg2]; exact k1.lt
    have HG1 := Lib.hid hg1
    rw [← hg1] at kP0 ⊢
    rw [← hg2] at k2 ⊢
    clear hW2 hg1 hg2 k1 b1 b2 HE0
    go_wp2_with fail
    go_loopw [6] (fun vi wr => ∃ (i : Nat) (P D : List Int), vi = .int .i64 (i : Int) ∧ i ≤ n ∧ RI F n P D i 0 ∧ (∀ j, j < i → badv (vl F j) = false) ∧ Blk wr g1 3 (ints P) ∧ Blk wr g2 3 (ints D) ∧ Below W0.heap.size W0 wr)
      (fun vi wr => ixn n vi)
    case atStart => exact ⟨0, _, _, rfl, Nat.zero_le _, RI.start F n, fun j hj => absurd hj (Nat.not_lt_zero _), kP0, k2, bw⟩
    case round =>
      obtain ⟨i, P, D, rfl, hin', hR, hva, kP, kD, hbw⟩ := hrel
      clear k2 bw kP0
      have HR := Lib.hid hR
      have HVA := Lib.hid hva
      have hlP := hR.lenP
      have hlD := hR.lenD
      have cT := (hbw.cell (p := ⟨w.heap.size, 0, none⟩) hg0).trans c0
      clear hR hva
      by_cases hin : i < n
      · obtain ⟨q, nl, hqe, hqb, hnl, hnl11, hq, hv10⟩ := HV.out.node (Below.refl _ _) hin
        have hq0 : ∀ j, j < 11 → W0.cell? (q.add j) = some (.int .i64 (F.getD (11 * i + j) 0)) := fun j hj => hq j _ (by rw [hnl]; exact ndc_get F i j hj)
        have HQ0 := Lib.hid hq0
        obtain ⟨x, hx⟩ : ∃ x, vl F i = x := ⟨_, rfl⟩
        have cv : wr.cell? ⟨q.block, q.off + 10, none⟩ = some (.int .i64 x) := by
          rw [← hx, ← add_ten]
          exact (hbw.cell (by rw [add_block]; exact hqb)).trans (hq0 10 (by omega))
        have HX := Lib.hid hx
        have HQE := Lib.hid hqe
        have HLP := Lib.hid hlP
        have HLD := Lib.hid hlD
        have HKP := Lib.hid kP
        have HKD := Lib.hid kD
        clear hqe hnl hnl11 hq hv10 hq0 hx hlP hlD kP kD
        by_cases hx0 : x < 0
        · go_wp2_with (first | (refine wp_run rfl (exec_ixS 22 59 11 Try.underlying22 info_node _ rfl rfl .i64 (i : Int) i rfl rfl hin HQE.out) ?_))
          go_ret
          exact ⟨IsB.no (fun h => by have := h.2 i hin; rw [HX.out] at this; omega), b0.trans (hbw.mono b0.size)⟩
        · by_cases hx1 : 1099511627776 < x
          · go_wp2_with (first | (refine wp_run rfl (exec_ixS 22 59 11 Try.underlying22 info_node _ rfl rfl .i64 (i : Int) i rfl rfl hin HQE.out) ?_))
            go_ret
            exact ⟨IsB.no (fun h => by have := h.2 i hin; rw [HX.out] at this; omega), b0.trans (hbw.mono b0.size)⟩
          · have HB : Hid (badv (vl F i) = false) := Lib.hid (by
              unfold badv
              rw [HX.out, Bool.or_eq_false_iff, decide_eq_false_iff_not, decide_eq_false_iff_not]
              omega)
            go_wp2_with (first | (refine wp_run rfl (exec_ixS 22 59 11 Try.underlying22 info_node _ rfl rfl .i64 (i : Int) i rfl rfl hin HQE.out) ?_))
            clear cT cv
            go_loopw [7] (fun vd wx => ∃ (d : Nat) (P D : List Int), vd = .int .i64 (d : Int) ∧ d ≤ 10 ∧ RI F n P D i d ∧ Blk wx g1 3 (ints P) ∧ Blk wx g2 3 (ints D) ∧ Below W0.heap.size W0 wx)
              (fun vd wx => ixn 10 vd)
            case atStart => exact ⟨0, P, D, rfl, by omega, HR.out, HKP.out, HKD.out, hbw⟩
            case round =>
              obtain ⟨d, P', D', rfl, hd, hR', kP, kD, hbx⟩ := hrel
              clear hbw HR HKP HKD HLP HLD
              have HR := Lib.hid hR'
              have HLP := Lib.hid hR'.lenP
              have HLD := Lib.hid hR'.lenD
              have cT := (hbx.cell (p := ⟨w.heap.size, 0, none⟩) hg0).trans c0
              by_cases hd10 : d < 10
              · obtain ⟨z, hz⟩ : ∃ z, kI F i d = z := ⟨_, rfl⟩
                have cz : wr.cell? (q.add d) = some (.int .i64 z) := by
                  rw [← hz]
                  exact (hbx.cell (by rw [add_block]; exact hqb)).trans (HQ0.out d (by omega))
                have HZE := Lib.hid hz
                clear hz hR'
                by_cases hz0 : z = 0
                · subst hz0
                  go_wp2_with (first | (refine wp_run rfl (exec_ixS 22 59 11 Try.underlying22 info_node _ rfl rfl .i64 (i : Int) i rfl rfl hin HQE.out) ?_) | (refine wp_run rfl (exec_ixP 57 3 10 1 Try.underlying57 info_int _ rfl q rfl .i64 (d : Int) d rfl rfl hd10 (show q.add d = q.add (d * 1) by rw [Nat.mul_one])) ?_))
                  go_roundw
                  case measure => show 10 - ((d : Int) + 1).toNat < 10 - ((d : Int)).toNat; omega
                  case rel => exact ⟨d + 1, P', D', by simp, by omega, HR.out.skip HZE.out, kP, kD, hbx⟩
                · have hzb : (z == 0) = false := beq_eq_false_iff_ne.2 hz0
                  by_cases hz1 : z ≤ (i : Int)
                  · go_wp2_with (first | (refine wp_run rfl (exec_ixS 22 59 11 Try.underlying22 info_node _ rfl rfl .i64 (i : Int) i rfl rfl hin HQE.out) ?_) | (refine wp_run rfl (exec_ixP 57 3 10 1 Try.underlying57 info_int _ rfl q rfl .i64 (d : Int) d rfl rfl hd10 (show q.add d = q.add (d * 1) by rw [Nat.mul_one])) ?_))
                    go_ret
                    exact ⟨IsB.no (fun ⟨⟨E', hT⟩, _⟩ => (hT.bad2 hin hd10 (by rw [HZE.out]; exact hz0) (by rw [HZE.out]; exact Or.inl hz1)).elim), b0.trans (hbx.mono b0.size)⟩
                  · by_cases hz2 : (n : Int) ≤ z
                    · go_wp2_with (first | (refine wp_run rfl (exec_ixS 22 59 11 Try.underlying22 info_node _ rfl rfl .i64 (i : Int) i rfl rfl hin HQE.out) ?_) | (refine wp_run rfl (exec_ixP 57 3 10 1 Try.underlying57 info_int _ rfl q rfl .i64 (d : Int) d rfl rfl hd10 (show q.add d = q.add (d * 1) by rw [Nat.mul_one])) ?_))
                      go_ret
                      exact ⟨IsB.no (fun ⟨⟨E', hT⟩, _⟩ => (hT.bad2 hin hd10 (by rw [HZE.out]; exact hz0) (by rw [HZE.out]; exact Or.inr hz2)).elim), b0.trans (hbx.mono b0.size)⟩
                    · obtain ⟨k, rfl⟩ : ∃ k : Nat, z = (k : Int) := ⟨z.toNat, by omega⟩
                      have hkn : k < n := by omega
                      obtain ⟨pk, hpk⟩ : ∃ pk, P'.getD k 0 = pk := ⟨_, rfl⟩
                      obtain ⟨di, hdi⟩ : ∃ di, D'.getD i 0 = di := ⟨_, rfl⟩
                      have cP : wr.cell? ⟨g1, k, none⟩ = some (.int .i64 pk) := by rw [← hpk]; exact kP.cell (ints_getD (by rw [HLP.out]; exact hkn))
                      have cD : (ints D')[i]? = some (.int .i64 di) := by rw [← hdi]; exact ints_getD (by rw [HLD.out]; exact hin)
                      have CD := Lib.hid cD
                      have hnp := HR.out.nnP k
                      have hnd := HR.out.nnD i
                      rw [hpk] at hnp
                      rw [hdi] at hnd
                      have HPK := Lib.hid hpk
                      have HDI := Lib.hid hdi
                      have HKP := Lib.hid kP
                      have HKD := Lib.hid kD
                      have hg12 : g2 ≠ g1 := by omega
                      clear hpk hdi cD kP kD
                      go_wp2_with (first | (refine wp_run rfl (exec_ixS 22 59 11 Try.underlying22 info_node _ rfl rfl .i64 (i : Int) i rfl rfl hin HQE.out) ?_) | (refine wp_run rfl (exec_ixP 57 3 10 1 Try.underlying57 info_int _ rfl q rfl .i64 (d : Int) d rfl rfl hd10 (show q.add d = q.add (d * 1) by rw [Nat.mul_one])) ?_) | (refine wp_run rfl (exec_ixS 75 3 1 Try.underlying75 info_int _ rfl rfl .i64 (k : Int) k rfl rfl hkn (show (⟨g1, k, none⟩ : Addr) = (⟨g1, 0, none⟩ : Addr).add (k * 1) by rw [add_zero_addr, Nat.mul_one])) ?_) | (refine wp_run rfl (exec_ixS 75 3 1 Try.underlying75 info_int _ rfl rfl .i64 (i : Int) i rfl rfl hin (show (⟨g2, i, none⟩ : Addr) = (⟨g2, 0, none⟩ : Addr).add (i * 1) by rw [add_zero_addr, Nat.mul_one])) ?_) | (refine wp_run rfl (exec_ixS 75 3 1 Try.underlying75 info_int _ rfl rfl .i64 (k : Int) k rfl rfl hkn (show (⟨g2, k, none⟩ : Addr) = (⟨g2, 0, none⟩ : Addr).add (k * 1) by rw [add_zero_addr, Nat.mul_one])) ?_) | (refine wp_store1 3 .i64 (.tmp 69) (.tmp 68) rfl rfl g1 k rfl 3 (ints P') (pk + 1) rfl HKP.out (by rw [ints_length, HLP.out]; exact hkn) info_int rfl ?_; intro w8 h8 k8; have HKD8 := Lib.hid (HKD.out.keep k8 hg12); have cD8 := HKD8.out.cell CD.out) | (refine wp_store1 3 .i64 (.tmp 77) (.tmp 76) rfl rfl g2 k rfl 3 (ints D') (di + 1) rfl HKD8.out (by rw [ints_length, HLD.out]; exact hkn) info_int rfl ?_; intro w9 h9 k9))
                      have k89 : Keep (fun b => b < W0.heap.size) wr w9 := (k8.mono (O' := fun b => b < W0.heap.size) fun b hb => by have := HG1.out; omega).trans (k9.mono fun b hb => by have := HG1.out; omega)
                      have b9 : Below W0.heap.size W0 w9 := hbx.trans (k89.below (fun q hq => hq) hbx.size)
                      have h8' := h8.keep k9 (fun h => hg12 h.symm)
                      have HR9 := HR.out.step hd10 hin HZE.out (by omega) hkn
                      rw [HPK.out, HDI.out] at HR9
                      rw [← ints_set] at h8' h9
                      go_roundw
                      case measure => show 10 - ((d : Int) + 1).toNat < 10 - ((d : Int)).toNat; omega
                      case rel => exact ⟨d + 1, _, _, by simp, by omega, HR9, h8', h9, b9⟩
              · obtain rfl : d = 10 := by omega
                clear hR'
                go_wp2_with fail
                go_roundw
                case measure => show n - ((i : Int) + 1).toNat < n - ((i : Int)).toNat; omega
                case rel =>
                  refine ⟨i + 1, P', D', by simp, by omega, HR.out.next, fun j hj => ?_, kP, kD, hbx⟩
                  by_cases hji : j = i
                  · subst hji; exact HB.out
                  · exact HVA.out j (by omega)
      · obtain rfl : i = n := by omega
        clear cT
        have HLP := Lib.hid hlP
        have HLD := Lib.hid hlD
        clear hlP hlD
        go_wp2_with fail
        go_loopw [9] (fun vj wx => ∃ j : Nat, vj = .int .i64 (j : Int) ∧ 1 ≤ j ∧ j ≤ i ∧ (∀ k, 0 < k → k < j → P.getD k 0 = 1 ∧ D.getD k 0 ≤ 15) ∧ Blk wx g1 3 (ints P) ∧ Blk wx g2 3 (ints D) ∧ Below W0.heap.size W0 wx)
          (fun vj wx => ixn i vj)
        case atStart => exact ⟨1, rfl, Nat.le_refl _, hpos, fun k h1 h2 => by omega, kP, kD, hbw⟩
        case round =>
          obtain ⟨j, rfl, hj1, hji, hall, kP, kD, hbx⟩ := hrel
          clear hbw
          have HA := Lib.hid hall
          clear hall
          by_cases hlt : j < i
          · obtain ⟨pj, hpj⟩ : ∃ pj, P.getD j 0 = pj := ⟨_, rfl⟩
            obtain ⟨dj, hdj⟩ : ∃ dj, D.getD j 0 = dj := ⟨_, rfl⟩
            have cP : wr.cell? ⟨g1, j, none⟩ = some (.int .i64 pj) := by rw [← hpj]; exact kP.cell (ints_getD (by rw [HLP.out]; exact hlt))
            have cD : wr.cell? ⟨g2, j, none⟩ = some (.int .i64 dj) := by rw [← hdj]; exact kD.cell (ints_getD (by rw [HLD.out]; exact hlt))
            have HPJ := Lib.hid hpj
            have HDJ := Lib.hid hdj
            clear hpj hdj
            by_cases hp : pj = 1
            · subst hp
              by_cases hd : 15 < dj
              · go_wp2_with (first | (refine wp_run rfl (exec_ixS 75 3 1 Try.underlying75 info_int _ rfl rfl .i64 (j : Int) j rfl rfl hlt (show (⟨g1, j, none⟩ : Addr) = (⟨g1, 0, none⟩ : Addr).add (j * 1) by rw [add_zero_addr, Nat.mul_one])) ?_) | (refine wp_run rfl (exec_ixS 75 3 1 Try.underlying75 info_int _ rfl rfl .i64 (j : Int) j rfl rfl hlt (show (⟨g2, j, none⟩ : Addr) = (⟨g2, 0, none⟩ : Addr).add (j * 1) by rw [add_zero_addr, Nat.mul_one])) ?_))
                go_ret
                exact ⟨IsB.no (fun ⟨⟨E', hT⟩, _⟩ => by have := HR.out.isLe hT j hlt; rw [HDJ.out] at this; omega), b0.trans (hbx.mono b0.size)⟩
              · go_wp2_with (first | (refine wp_run rfl (exec_ixS 75 3 1 Try.underlying75 info_int _ rfl rfl .i64 (j : Int) j rfl rfl hlt (show (⟨g1, j, none⟩ : Addr) = (⟨g1, 0, none⟩ : Addr).add (j * 1) by rw [add_zero_addr, Nat.mul_one])) ?_) | (refine wp_run rfl (exec_ixS 75 3 1 Try.underlying75 info_int _ rfl rfl .i64 (j : Int) j rfl rfl hlt (show (⟨g2, j, none⟩ : Addr) = (⟨g2, 0, none⟩ : Addr).add (j * 1) by rw [add_zero_addr, Nat.mul_one])) ?_))
                go_roundw
                case measure => show i - ((j : Int) + 1).toNat < i - ((j : Int)).toNat; omega
                case rel =>
                  refine ⟨j + 1, by simp, by omega, by omega, fun k h1 h2 => ?_, kP, kD, hbx⟩
                  by_cases hkj : k = j
                  · subst hkj; rw [HPJ.out, HDJ.out]; exact ⟨rfl, by omega⟩
                  · exact HA.out k h1 (by omega)
            · have hpb : (pj != 1) = true := bne_iff_ne.2 hp
              go_wp2_with (first | (refine wp_run rfl (exec_ixS 75 3 1 Try.underlying75 info_int _ rfl rfl .i64 (j : Int) j rfl rfl hlt (show (⟨g1, j, none⟩ : Addr) = (⟨g1, 0, none⟩ : Addr).add (j * 1) by rw [add_zero_addr, Nat.mul_one])) ?_) | (refine wp_run rfl (exec_ixS 75 3 1 Try.underlying75 info_int _ rfl rfl .i64 (j : Int) j rfl rfl hlt (show (⟨g2, j, none⟩ : Addr) = (⟨g2, 0, none⟩ : Addr).add (j * 1) by rw [add_zero_addr, Nat.mul_one])) ?_))
              go_ret
              exact ⟨IsB.no (fun ⟨⟨E', hT⟩, _⟩ => hp (by have := HR.out.isOne hT j (by omega) hlt; rw [HPJ.out] at this; exact this)), b0.trans (hbx.mono b0.size)⟩
          · obtain rfl : j = i := by omega
            go_wp2_with fail
            go_ret
            exact ⟨IsB.yes ⟨HR.out.tree hpos HL.out (fun k h1 h2 => (HA.out k h1 h2).1) (fun k h1 h2 => (HA.out k h1 h2).2), badv_ok HVA.out⟩, b0.trans (hbx.mono b0.size)⟩

set_option maxRecDepth 100000 in
set_option maxHeartbeats 1000000 in
theorem rcheck_any (A : Option Addr) (n cap : Nat) (F : List Int) (w : World) (hv : Nds w w.heap.size n (.slice A n cap) F) (hn : n ≤ 10000) :
    Calls Try.prog 18 #[.agg #[.slice A n cap]] w fun e w' => e = .returned (.int .i64 (chk F n)) ∧ Below w.heap.size w w' := by
  have k0 : Blk (w.alloc (.cells #[.slice A n cap] 24)) w.heap.size 24 [.slice A n cap] := Blk.new _ _ _
  have b0 : Below w.heap.size w (w.alloc (.cells #[.slice A n cap] 24)) := (Below.refl _ _).alloc (Nat.le_refl _) _
  obtain ⟨W0, hW0⟩ : ∃ W, W = w.alloc (.cells #[.slice A n cap] 24) := ⟨_, rfl⟩
  rw [← hW0] at k0 b0
  have hv0 : Nds W0 W0.heap.size n (.slice A n cap) F := Row.past hv b0
  have HC := Lib.hid (chk_cases F n)
  obtain ⟨c, hc⟩ : ∃ c, chk F n = c := ⟨_, rfl⟩
  rw [hc] at HC ⊢
  have c0 := k0.cell (j := 0) rfl
  have HV := Lib.hid hv0
  have HW := Lib.hid hW0
  clear hc hv hv0 hW0
  by_cases hbig : 4096 < n
  · have hc2 : c = 2 := by
      rcases HC.out with ⟨_, h⟩ | ⟨h, _⟩ | ⟨h, _⟩
      · exact h
      · omega
      · omega
    go_enter Try.func18, Try.ntmps18
    go_upto_region 1 with (fail)
    rw [← HW.out]
    go_wp2_with fail
    go_ret
    exact ⟨by rw [hc2]; rfl, b0⟩
  · go_enter Try.func18, Try.ntmps18
    go_upto_region 1 with (fail)
    rw [← HW.out]
    go_wp2_with fail
    refine (rvalid_any A n cap F W0 HV.out (by omega)).mono ?_
    rintro e w1 ⟨⟨r, rfl, hr⟩, hb1⟩
    have HR := Lib.hid hr
    have b1 := b0.trans (hb1.mono b0.size)
    clear hr
    cases r with
    | false =>
      have hc1 : c = 1 := by
        rcases HC.out with ⟨h, _⟩ | ⟨_, h, _⟩ | ⟨_, _, h⟩
        · omega
        · exact absurd (HR.out.2 h) (by decide)
        · exact h
      go_wp2_with fail
      go_ret
      exact ⟨by rw [hc1]; rfl, b1⟩
    | true =>
      have hc1 : c = 0 := by
        rcases HC.out with ⟨h, _⟩ | ⟨_, _, h⟩ | ⟨_, h, _⟩
        · omega
        · exact h
        · exact absurd (HR.out.1 rfl) h
      go_wp2_with fail
      go_ret
      exact ⟨by rw [hc1]; rfl, b1⟩
end Go.Proofs.Ytippbkooaonajaa
