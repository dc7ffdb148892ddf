/-
  The reference's Longest.
-/
import Derived.Test.YtippbkooaonajaaTfF
namespace Go.Proofs.Ytippbkooaonajaa
open Go.RowKit Dg Tr
set_option linter.unusedVariables false
set_option linter.unusedSimpArgs false

/-- The index that runs down to -1. -/
def dnx : Value → Nat
  | .int _ z => (z + 1).toNat
  | _ => 0

set_option maxRecDepth 100000 in
set_option maxHeartbeats 4000000 in
theorem rlongest_any (A : Option Addr) (n cap : Nat) (F : List Int) (s : Str) (w : World) (hv : Nds w w.heap.size n (.slice A n cap) F) (hn : n ≤ 10000) (hl : s.length ≤ 900) :
    Calls Try.prog 21 #[.agg #[.slice A n cap], str s] w fun e w' => e = .returned (lonV (lonR F n s)) ∧ Below w.heap.size w w' := by
  obtain ⟨W0, hW0⟩ : ∃ W, W = w.alloc (.cells #[.slice A n cap] 24) := ⟨_, rfl⟩
  have b0 : Below w.heap.size w W0 := by rw [hW0]; exact (Below.refl _ _).alloc (Nat.le_refl _) _
  have k0 : Blk W0 w.heap.size 24 [.slice A n cap] := by rw [hW0]; exact Blk.newAt _ _ [_] _ rfl
  have hg0 := k0.lt
  have c0 := k0.cell (j := 0) rfl
  have HV := Lib.hid hv
  have HW := Lib.hid hW0
  have hC := rcheck_any A n cap F W0 (Row.past hv b0) hn
  have HLR : Hid (lonR F n s = if s.all isD = true ∧ chk F n = 0 then lonF F s else (0, 0, false)) := Lib.hid rfl
  obtain ⟨R, hR⟩ : ∃ R, lonR F n s = R := ⟨_, rfl⟩
  obtain ⟨c, hc⟩ : ∃ c, chk F n = c := ⟨_, rfl⟩
  obtain ⟨b, hb⟩ : ∃ b, s.all isD = b := ⟨_, rfl⟩
  rw [hR, hc, hb] at HLR
  rw [hc] at hC
  rw [hR]
  have HC := Lib.hid hc
  have HB := Lib.hid hb
  have hsz := str_size s
  have HSL := Lib.hid hl
  have step : ∀ (R : Prop), (∀ hz0 : (c == 0) = true, R) → (∀ hz0 : (c == 0) = false, R) → R := fun R h1 h2 => by
    cases hc : (c == 0)
    · exact h2 hc
    · exact h1 hc
  clear hv hW0 k0 hc hb hR
  unfold str
  refine step _ (fun hz0 => ?_) (fun hz0 => ?_)
  all_goals
    clear step
    go_enter Try.func21, Try.ntmps21
    go_upto_region 1 with (fail)
    rw [← HW.out]
    go_wp2_with fail
    refine hC.mono ?_
    rintro e w1 ⟨rfl, hb1⟩
    have b1 := b0.trans (hb1.mono b0.size)
    have c1 := (hb1.cell (p := ⟨w.heap.size, 0, none⟩) hg0).trans c0
    clear hC c0
  · have hc0 : c = 0 := eq_of_beq hz0
    have hz1 : (c != 0) = false := by rw [bne, hz0]; rfl
    have HC0 := Lib.hid hc0
    obtain ⟨⟨⟨E, hT⟩, _⟩, h4⟩ := chk_zero (HC.out.trans hc0)
    have HT := Lib.hid hT
    obtain ⟨ad, hA, _⟩ := HV.out.at_ hT.pos
    subst hA
    have hD := rdig_any s w1 (by simp only [maxLen]; omega)
    rw [HB.out] at hD
    unfold str at hD
    clear hc0 hT
    go_wp2_with fail
    refine hD.mono ?_
    rintro e w2 ⟨rfl, hb2⟩
    have hs1 := hb1.size
    have b2 := b1.trans (hb2.mono b1.size)
    have c2 := (hb2.cell (p := ⟨w.heap.size, 0, none⟩) (Nat.lt_of_lt_of_le hg0 hb1.size)).trans c1
    have hs2 := hb2.size
    have hg2 : w.heap.size < w2.heap.size := by omega
    clear hD c1 hb1 hb2 b1
    cases b with
    | false =>
      have HR0 : Hid (R = (0, 0, false)) := Lib.hid (by rw [HLR.out, if_neg (by simp)])
      go_wp2_with fail
      go_ret3
      rw [HR0.out]
      exact ⟨rfl, b2⟩
    | true =>
      have HDS : Hid (∀ b ∈ s, isD b = true) := Lib.hid (List.all_eq_true.1 HB.out)
      have HRL : Hid (Lon (get F) s R) := Lib.hid (by
        rw [HLR.out, if_pos ⟨rfl, HC0.out⟩]
        exact lon_spec F HDS.out)
      have HBIG : Hid (∀ k, 15 < k → k ≤ s.length → get F (s.take k) = 0) := Lib.hid fun k h1 h2 => by
        refine Classical.byContradiction fun hne => ?_
        have := has_len HT.out (get_has hne)
        rw [List.length_take] at this
        omega
      clear HLR HB
      have step : ∀ (P : Prop), (15 < s.length → P) → (s.length ≤ 15 → P) → P := fun P h1 h2 => by
        by_cases h : 15 < s.length
        · exact h1 h
        · exact h2 (by omega)
      go_upto_region 3 with (fail)
      go_wp2_with fail
      all_goals
        go_loopw [7] (fun vi wr => ∃ i : Int, vi = .int .i64 i ∧ -1 ≤ i ∧ i ≤ s.length ∧ i ≤ 15 ∧ Hid (∀ k : Nat, i < k → k ≤ s.length → get F (s.take k) = 0) ∧ Below w2.heap.size w2 wr) (fun vi wr => dnx vi)
        case atStart => first
          | exact ⟨15, rfl, by omega, by omega, by omega, Lib.hid (fun k h1 h2 => HBIG.out k (by omega) h2), Below.refl _ _⟩
          | exact ⟨(s.length : Int), rfl, by omega, by omega, by omega, Lib.hid (fun k h1 h2 => by omega), Below.refl _ _⟩
        case round =>
          obtain ⟨i, rfl, hi1, hil, hi15, HZ, hbw⟩ := hrel
          have c3 := (hbw.cell (p := ⟨w.heap.size, 0, none⟩) hg2).trans c2
          have b3 := b2.trans (hbw.mono b2.size)
          by_cases hneg : i < 0
          · have HR0 : Hid (R = (0, 0, false)) := Lib.hid (Lon.unique HRL.out (Or.inl ⟨rfl, fun m hm => HZ.out m (by omega) hm⟩))
            go_wp2_with fail
            go_ret3
            rw [HR0.out]
            exact ⟨rfl, b3⟩
          · obtain ⟨m, rfl⟩ : ∃ m : Nat, i = (m : Int) := ⟨i.toNat, by omega⟩
            have hml : m ≤ s.length := by omega
            have hm15 : m ≤ 15 := by omega
            obtain ⟨sm, hsm⟩ : ∃ sm, s.take m = sm := ⟨_, rfl⟩
            have hcut : (⟨s.toArray⟩ : ByteArray).extract 0 m = ⟨sm.toArray⟩ := by rw [str_cut, hsm, List.drop_zero]
            have HSM := Lib.hid hsm
            have HDM : Hid (∀ b ∈ sm, isD b = true) := Lib.hid (fun b hb => HDS.out b (List.mem_of_mem_take (by rw [hsm]; exact hb)))
            have HLM : Hid (sm.length = m) := Lib.hid (by rw [← hsm, List.length_take]; omega)
            have hg3 : w.heap.size < wr.heap.size := Nat.lt_of_lt_of_le hg2 hbw.size
            clear hsm hi1 hil hi15
            go_upto_region 6 with (fail)
            refine wp_region_pt wr.heap.size (.take 0 (.take 1 (.take 2 (.take 3 (.step 4 (.take 5 .done)))))) (by kernel_rfl) (by kernel_rfl) (by kernel_rfl) (fun _ _ h => h) ?_
            obtain ⟨w4, hdr⟩ : ∃ x, x = wr.drew := ⟨_, rfl⟩
            have bx : Below wr.heap.size wr w4 := by rw [hdr]; exact (Below.refl _ _).drew
            have c4 := (bx.cell (p := ⟨w.heap.size, 0, none⟩) hg3).trans c3
            have b4 := b3.trans (bx.mono b3.size)
            have bw4 := hbw.trans (bx.mono hbw.size)
            have hz4 := bx.size
            rw [← hdr]
            clear hdr bx c3
            refine pt_take rfl rfl rfl rfl ?_
            apply Exists.intro
            refine ⟨fun w' hw' => ?_, ?_⟩
            · have hcell := (hw'.cell (p := ⟨w.heap.size, 0, none⟩) hg3).trans c4
              focus ((repeat (first | go_skip | go_guarded | go_step | go_upon | go_back)); exact ⟨rfl, rfl, rfl⟩)
            first | refine pt_skip rfl rfl rfl rfl ?_ | (refine pt_take rfl rfl rfl rfl ?_; apply Exists.intro; refine ⟨fun w' hw' => ?_, ?_⟩; focus ((repeat (first | go_skip | go_guarded | go_step | go_upon | go_back)); exact ⟨rfl, rfl, rfl⟩))
            first | refine pt_skip rfl rfl rfl rfl ?_ | (refine pt_take rfl rfl rfl rfl ?_; apply Exists.intro; refine ⟨fun w' hw' => ?_, ?_⟩; focus ((repeat (first | go_skip | go_guarded | go_step | go_upon | go_back)); exact ⟨rfl, rfl, rfl⟩))
            first | refine pt_skip rfl rfl rfl rfl ?_ | (refine pt_take rfl rfl rfl rfl ?_; apply Exists.intro; refine ⟨fun w' hw' => ?_, ?_⟩; focus ((repeat (first | go_skip | go_guarded | go_step | go_upon | go_back)); exact ⟨rfl, rfl, rfl⟩))
            refine pt_step rfl ?_
            go_wp2_with fail
            have hC := rnode_any (some ad) n cap F E sm w4 (Row.past HV.out b4) HT.out hn HDM.out (by rw [HLM.out]; omega)
            obtain ⟨oj, hoj⟩ : ∃ o, nod F 0 sm = o := ⟨_, rfl⟩
            have HOJ := Lib.hid hoj
            unfold str at hC
            cases oj with
            | none =>
              have hnd : ndI F sm = -1 := by unfold ndI; rw [hoj]
              rw [hnd] at hC
              clear hoj hnd
              refine hC.mono ?_
              rintro e w5 ⟨rfl, hb5⟩
              have bw5 := bw4.trans (hb5.mono bw4.size)
              clear hC c4
              go_wp2_with fail
              refine ⟨rfl, hb5.mono hz4, ?_⟩
              first | refine pt_skip rfl rfl rfl rfl ?_ | (refine pt_take rfl rfl rfl rfl ?_; apply Exists.intro; refine ⟨fun w' hw' => ?_, ?_⟩; focus ((repeat (first | go_skip | go_guarded | go_step | go_upon | go_back)); exact ⟨rfl, rfl, rfl⟩))
              change Exit.then _ _ Exit.normal _ _
              clear hb5
              go_wp2_with fail
              go_roundw
              case measure => show ((m : Int) - 1 + 1).toNat < ((m : Int) + 1).toNat; omega
              case rel =>
                refine ⟨(m : Int) - 1, rfl, by omega, by omega, by omega, Lib.hid fun k h1 h2 => ?_, bw5⟩
                by_cases hk : k = m
                · subst hk; rw [HSM.out]; exact get_none HOJ.out
                · exact HZ.out k (by omega) h2
            | some j =>
              have hnd : ndI F sm = (j : Int) := by unfold ndI; rw [hoj]
              have hjn := (nod_lt HT.out HT.out.pos hoj).1
              rw [hnd] at hC
              clear hoj hnd
              refine hC.mono ?_
              rintro e w5 ⟨rfl, hb5⟩
              have bw5 := bw4.trans (hb5.mono bw4.size)
              have b5 := b4.trans (hb5.mono b4.size)
              have c5 := (hb5.cell (p := ⟨w.heap.size, 0, none⟩) (show w.heap.size < w4.heap.size by omega)).trans c4
              clear hC c4
              go_wp2_with fail
              refine ⟨rfl, hb5.mono hz4, ?_⟩
              first | refine pt_skip rfl rfl rfl rfl ?_ | (refine pt_take rfl rfl rfl rfl ?_; apply Exists.intro; refine ⟨fun w' hw' => ?_, ?_⟩; focus ((repeat (first | go_skip | go_guarded | go_step | go_upon | go_back)); exact ⟨rfl, rfl, rfl⟩))
              change Exit.then _ _ Exit.normal _ _
              obtain ⟨q, nl, hqe, hqb, hnl, hnl11, hq, hv10⟩ := HV.out.node b5 hjn
              obtain ⟨x, hx⟩ : ∃ x, vl F j = x := ⟨_, rfl⟩
              have cv : w5.cell? ⟨q.block, q.off + 10, none⟩ = some (.int .i64 x) := by
                rw [← hx, ← add_ten]
                exact hq 10 _ hv10
              have HGX : Hid (get F (s.take m) = x) := Lib.hid (by rw [HSM.out, get_some HOJ.out, hx])
              have HQE := Lib.hid hqe
              clear hb5 hqe hnl hnl11 hq hv10 hx
              by_cases hx0 : x = 0
              · subst hx0
                go_wp2_with (first | (refine wp_run rfl (exec_ixS 22 59 11 Try.underlying22 info_node _ rfl rfl .i64 (j : Int) j rfl rfl hjn HQE.out) ?_))
                go_roundw
                case measure => show ((m : Int) - 1 + 1).toNat < ((m : Int) + 1).toNat; omega
                case rel =>
                  refine ⟨(m : Int) - 1, rfl, by omega, by omega, by omega, Lib.hid fun k h1 h2 => ?_, bw5⟩
                  by_cases hk : k = m
                  · subst hk; exact HGX.out
                  · exact HZ.out k (by omega) h2
              · have hxb : (x != 0) = true := bne_iff_ne.2 hx0
                have HR0 : Hid (R = (x, m, true)) := Lib.hid (Lon.unique HRL.out (Or.inr ⟨m, hml, by rw [HGX.out], by rw [HGX.out]; exact hx0, fun k h1 h2 => HZ.out k (by omega) h2⟩))
                go_wp2_with (first | (refine wp_run rfl (exec_ixS 22 59 11 Try.underlying22 info_node _ rfl rfl .i64 (j : Int) j rfl rfl hjn HQE.out) ?_))
                go_ret3
                rw [HR0.out]
                exact ⟨rfl, b5⟩
  · have hc0 : c ≠ 0 := ne_of_beq_false hz0
    have hz1 : (c != 0) = true := by rw [bne, hz0]; rfl
    have HR0 : Hid (R = (0, 0, false)) := Lib.hid (by rw [HLR.out, if_neg (fun h => hc0 h.2)])
    clear hc0
    go_wp2_with fail
    go_ret3
    rw [HR0.out]
    exact ⟨rfl, b1⟩
end Go.Proofs.Ytippbkooaonajaa
