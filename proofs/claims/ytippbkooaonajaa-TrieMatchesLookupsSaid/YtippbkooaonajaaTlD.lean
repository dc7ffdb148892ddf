/-
  The reference's Same; the law's without.
-/
import Derived.Test.YtippbkooaonajaaTlC
namespace Go.Proofs.Ytippbkooaonajaa
open Go.RowKit Dg Tr
set_option linter.unusedVariables false
set_option linter.unusedSimpArgs false

theorem ndc_ext {F G : List Int} {n : Nat} (hF : F.length = 11 * n) (hG : G.length = 11 * n) (h : ∀ i, i < n → ndc F i = ndc G i) : F = G := by
  apply List.ext_getElem?
  intro p
  by_cases hp : p < 11 * n
  · have h1 := h (p / 11) (by omega)
    have h2 := congrArg (fun l => l.getD (p % 11) 0) h1
    have e : ∀ H : List Int, (ndc H (p / 11)).getD (p % 11) 0 = H.getD p 0 := fun H => by
      have := ndc_get H (p / 11) (p % 11) (by omega)
      rw [List.getD_eq_getElem?_getD]
      unfold ndc
      rw [List.getElem?_map, List.getElem?_range (by omega)]
      simp only [Option.map_some, Option.getD_some]
      congr 1; omega
    simp only [e] at h2
    rw [List.getElem?_eq_getElem (by omega), List.getElem?_eq_getElem (by omega)]
    simpa [hF, hG, hp] using h2
  · rw [List.getElem?_eq_none (by omega), List.getElem?_eq_none (by omega)]

set_option maxRecDepth 100000 in
set_option maxHeartbeats 1000000 in
theorem same_any (v u : Value) (n m : Nat) (F G : List Int) (w : World) (hv : Nds w w.heap.size n v F) (hu : Nds w w.heap.size m u G) (hn : n ≤ 10000) (hm : m ≤ 10000) :
    Calls Try.prog 19 #[.agg #[v], .agg #[u]] w fun e w' => e = .returned (.bool (decide (F = G))) ∧ Below w.heap.size w w' := by
  obtain ⟨A, c, rfl⟩ := row_form hv
  obtain ⟨A2, c2, rfl⟩ := row_form hu
  have hFl := hv.len
  have hGl := hu.len
  obtain ⟨W0, hW0⟩ : ∃ W, W = (w.alloc (.cells #[.slice A n c] 24)).alloc (.cells #[.slice A2 m c2] 24) := ⟨_, rfl⟩
  have b0 : Below w.heap.size w W0 := by
    rw [hW0]; exact ((Below.refl _ _).alloc (Nat.le_refl _) _).alloc (by simp) _
  have c0 : Blk W0 w.heap.size 24 [.slice A n c] := by rw [hW0]; exact (Blk.newAt _ _ [_] _ rfl).alloc _
  have c1 : Blk W0 (w.heap.size + 1) 24 [.slice A2 m c2] := by rw [hW0]; exact Blk.newAt _ _ [_] _ (by simp)
  have hs0 : w.heap.size + 2 ≤ W0.heap.size := by rw [hW0]; simp
  have HW := Lib.hid hW0
  have HV := Lib.hid hv
  have HU := Lib.hid hu
  have HFL := Lib.hid hFl
  have HGL := Lib.hid hGl
  have cT := c0.cell (j := 0) rfl
  have cU := c1.cell (j := 0) rfl
  clear hv hu hW0 hFl hGl
  by_cases hlm : n = m
  · have hb : ((n : Int) == (m : Int)) = true := by rw [hlm]; simp
    have hb2 : ((n : Int) != (m : Int)) = false := by rw [bne, hb]; rfl
    have HLM := Lib.hid hlm
    have hle : n ≤ m := by omega
    clear hlm
    go_enter Try.func19, Try.ntmps19
    go_upto_region 1 with (fail)
    rw [← HW.out]
    go_wp2_with fail
    clear cT cU
    go_loopw [5] (fun vi wr => ∃ i : Nat, vi = .int .i64 (i : Int) ∧ i ≤ n ∧ Hid (∀ k, k < i → ndc F k = ndc G k) ∧ Below W0.heap.size W0 wr) (fun vi wr => ixn n vi)
    case atStart => exact ⟨0, rfl, Nat.zero_le _, Lib.hid (fun k hk => absurd hk (Nat.not_lt_zero _)), Below.refl _ _⟩
    case round =>
      obtain ⟨i, rfl, hi', HTK, hbw⟩ := hrel
      have cT := cell_past (c0.cell (j := 0) rfl) hbw
      have cU := cell_past (c1.cell (j := 0) rfl) hbw
      by_cases hlt : i < n
      · have hltm : i < m := by omega
        obtain ⟨ad, hA1, hab, _⟩ := HV.out.at_ (by omega)
        obtain ⟨ad2, hA2, hab2, _⟩ := HU.out.at_ (by omega)
        subst hA1 hA2
        obtain ⟨q, px, hqe, hqb, hpx, hpx11, hcx, _⟩ := HV.out.node b0 hlt
        obtain ⟨q2, py, hqe2, hqb2, hpy, hpy11, hcy, _⟩ := HU.out.node b0 hltm
        have HQE := Lib.hid hqe
        have HQE2 := Lib.hid hqe2
        have HCX := Lib.hid hcx
        have HCY := Lib.hid hcy
        have HPX := Lib.hid hpx
        have HPY := Lib.hid hpy
        have HPX11 := Lib.hid hpx11
        have HPY11 := Lib.hid hpy11
        have hqs : q.block < W0.heap.size := by omega
        have hqs2 : q2.block < W0.heap.size := by omega
        obtain ⟨bb, hbb⟩ : ∃ bb, (!decide (ndc F i = ndc G i)) = bb := ⟨_, rfl⟩
        have HBB := Lib.hid hbb
        clear hqe hqe2 hcx hcy hpx hpy hpx11 hpy11 hbb
        cases bb
        all_goals
          go_upto_region 6 with (fail)
          refine wp_region_pt W0.heap.size (.take 0 (.take 1 (.take 2 (.take 3 (.take 4 (.take 5 (.take 6 (.take 7 (.take 8 (.take 9 (.take 10 .done))))))))))) (by kernel_rfl) (by kernel_rfl) (by kernel_rfl) (fun _ _ h => h) ?_
          have b1 : Below W0.heap.size W0 wr.drew := hbw.drew
          first | refine pt_skip rfl rfl rfl rfl ?_ | (refine pt_take rfl rfl rfl rfl ?_; apply Exists.intro; refine ⟨fun w' hw' => ?_, ?_⟩; focus ((repeat (first | go_skip | go_guarded | go_step | go_upon | go_back)); exact ⟨rfl, rfl, rfl⟩))
          refine pt_take rfl rfl rfl rfl ?_
          apply Exists.intro
          refine ⟨fun w' hw' => ?_, ?_⟩
          · have hcell := ((b1.trans hw').cell (p := ⟨w.heap.size, 0, none⟩) c0.lt).trans (c0.cell (j := 0) rfl)
            focus ((repeat (first | go_skip | go_guarded | go_step | go_upon | go_back)); exact ⟨rfl, rfl, rfl⟩)
          first | refine pt_skip rfl rfl rfl rfl ?_ | (refine pt_take rfl rfl rfl rfl ?_; apply Exists.intro; refine ⟨fun w' hw' => ?_, ?_⟩; focus ((repeat (first | go_skip | go_guarded | go_step | go_upon | go_back)); exact ⟨rfl, rfl, rfl⟩))
          refine pt_take rfl rfl rfl rfl ?_
          apply Exists.intro
          refine ⟨fun w' hw' => ?_, ?_⟩
          · refine wp_run rfl (exec_ixS 22 59 11 Try.underlying22 info_node w' rfl rfl .i64 (i : Int) i rfl rfl hlt HQE.out) ?_
            exact ⟨rfl, rfl, rfl⟩
          refine pt_take rfl rfl rfl rfl ?_
          apply Exists.intro
          refine ⟨fun w' hw' => ?_, ?_⟩
          · refine wp_run rfl (exec_loadPS 59 rfl q rfl px _ (fun j u hu => ((b1.trans hw').cell (by rw [add_block]; exact hqs)).trans (HCX.out j u hu)) Try.underlying59 (by rw [info_node, HPX11.out])) ?_
            exact ⟨rfl, rfl, rfl⟩
          first | refine pt_skip rfl rfl rfl rfl ?_ | (refine pt_take rfl rfl rfl rfl ?_; apply Exists.intro; refine ⟨fun w' hw' => ?_, ?_⟩; focus ((repeat (first | go_skip | go_guarded | go_step | go_upon | go_back)); exact ⟨rfl, rfl, rfl⟩))
          refine pt_take rfl rfl rfl rfl ?_
          apply Exists.intro
          refine ⟨fun w' hw' => ?_, ?_⟩
          · have hcell := ((b1.trans hw').cell (p := ⟨w.heap.size + 1, 0, none⟩) c1.lt).trans (c1.cell (j := 0) rfl)
            focus ((repeat (first | go_skip | go_guarded | go_step | go_upon | go_back)); exact ⟨rfl, rfl, rfl⟩)
          first | refine pt_skip rfl rfl rfl rfl ?_ | (refine pt_take rfl rfl rfl rfl ?_; apply Exists.intro; refine ⟨fun w' hw' => ?_, ?_⟩; focus ((repeat (first | go_skip | go_guarded | go_step | go_upon | go_back)); exact ⟨rfl, rfl, rfl⟩))
          refine pt_take rfl rfl rfl rfl ?_
          apply Exists.intro
          refine ⟨fun w' hw' => ?_, ?_⟩
          · refine wp_run rfl (exec_ixS 22 59 11 Try.underlying22 info_node w' rfl rfl .i64 (i : Int) i rfl rfl hltm HQE2.out) ?_
            exact ⟨rfl, rfl, rfl⟩
          refine pt_take rfl rfl rfl rfl ?_
          apply Exists.intro
          refine ⟨fun w' hw' => ?_, ?_⟩
          · refine wp_run rfl (exec_loadPS 59 rfl q2 rfl py _ (fun j u hu => ((b1.trans hw').cell (by rw [add_block]; exact hqs2)).trans (HCY.out j u hu)) Try.underlying59 (by rw [info_node, HPY11.out])) ?_
            exact ⟨rfl, rfl, rfl⟩
          refine pt_take rfl rfl rfl rfl ?_
          apply Exists.intro
          refine ⟨fun w' hw' => ?_, ?_⟩
          · refine wp_run rfl (exec_neqN rfl (ndc F i) (ndc G i) px py HPX.out HPY.out (ndc_len _ _) (ndc_len _ _) _ HBB.out rfl rfl w') ?_
            exact ⟨rfl, rfl, rfl⟩
          change Exit.then _ _ Exit.normal _ _
          clear cT cU
        · have hxy : ndc F i = ndc G i := by
            have h := HBB.out
            simpa using h
          have HXY := Lib.hid hxy
          clear hxy
          go_wp2_with fail
          go_roundw
          case measure => show n - ((i : Int) + 1).toNat < n - ((i : Int)).toNat; omega
          case rel =>
            refine ⟨i + 1, by simp, by omega, Lib.hid (fun k hk => ?_), b1⟩
            by_cases hki : k = i
            · subst hki; exact HXY.out
            · exact HTK.out k (by omega)
        · have hxy : ¬ F = G := by
            have h := HBB.out
            intro he
            rw [he] at h
            simp at h
          go_wp2_with fail
          go_ret
          exact ⟨by rw [decide_eq_false hxy]; rfl, b0.trans (b1.mono b0.size)⟩
      · have hlm : F = G := ndc_ext HFL.out (by rw [HGL.out, HLM.out]) (fun k hk => HTK.out k (by omega))
        have HE : Hid (decide (F = G) = true) := Lib.hid (decide_eq_true hlm)
        clear hlm
        go_wp2_with fail
        go_ret
        exact ⟨by rw [HE.out]; rfl, b0.trans (hbw.mono b0.size)⟩
  · have hb : ((n : Int) == (m : Int)) = false := beq_eq_false_iff_ne.2 (by omega)
    have hb2 : ((n : Int) != (m : Int)) = true := by rw [bne, hb]; rfl
    have HE : Hid (decide (F = G) = false) := Lib.hid (decide_eq_false (fun h => hlm (by
      have h1 := HFL.out
      have h2 := HGL.out
      rw [h] at h1; omega)))
    go_enter Try.func19, Try.ntmps19
    go_upto_region 1 with (fail)
    rw [← HW.out]
    go_wp2_with fail
    go_ret
    exact ⟨by rw [HE.out]; rfl, b0⟩
end Go.Proofs.Ytippbkooaonajaa
