/-
  Package trie: Drop.
-/
import Derived.Test.YtippbkooaonajaaTtM
namespace Go.Proofs.Ytippbkooaonajaa
open Go.RowKit Dg Tr
set_option linter.unusedVariables false
set_option linter.unusedSimpArgs false

/-- What Drop answers beside the error of checkPrefix. -/
noncomputable def drpF (F : List Int) (n : Nat) (s : Str) : List Int := if chp F n s = 0 then drp F s else []
noncomputable def drpN (F : List Int) (n : Nat) (s : Str) : Nat := if chp F n s = 0 then n else 0

set_option maxRecDepth 100000 in
set_option maxHeartbeats 2000000 in
theorem drop_any (A : Option Addr) (n cap : Nat) (F : List Int) (s : Str) (w : World) (hv : Nds w w.heap.size n (.slice A n cap) F) (hn : n ≤ 10000) (hl : s.length ≤ 1000) :
    Calls Try.prog 15 #[.agg #[.slice A n cap], str s] w fun e w' => (∃ u, e = .returned (.tuple #[.agg #[u], .int .i64 (chp F n s)]) ∧ OwnN w' w.heap.size (drpN F n s) u (drpF F n s)) ∧ Below w.heap.size w w' := by
  have HV := Lib.hid hv
  obtain ⟨W0, hW0⟩ : ∃ W, W = (w.alloc (.cells #[.slice A n cap] 24)).alloc (.cells #[.slice none 0 0] 24) := ⟨_, rfl⟩
  have hs0 : W0.heap.size = w.heap.size + 2 := by rw [hW0]; simp
  have b0 : Below w.heap.size w W0 := by
    rw [hW0]; exact ((Below.refl _ _).alloc (Nat.le_refl _) _).alloc (by simp) _
  have c0 : Blk W0 w.heap.size 24 [.slice A n cap] := by rw [hW0]; exact (Blk.newAt _ _ [_] _ rfl).alloc _
  have c1 : Blk W0 (w.heap.size + 1) 24 [.slice none 0 0] := by rw [hW0]; exact Blk.newAt _ _ [_] _ (by simp)
  have hC := checkPrefix_any A n cap F s W0 (Row.past hv b0) hn hl
  have HF : Hid (drpF F n s = if chp F n s = 0 then drp F s else []) := Lib.hid rfl
  have HN : Hid (drpN F n s = if chp F n s = 0 then n else 0) := Lib.hid rfl
  obtain ⟨pf, hpf⟩ : ∃ pf, drpF F n s = pf := ⟨_, rfl⟩
  obtain ⟨pn, hpn⟩ : ∃ pn, drpN F n s = pn := ⟨_, rfl⟩
  obtain ⟨c, hc⟩ : ∃ c, chp F n s = c := ⟨_, rfl⟩
  rw [hc, hpf] at HF
  rw [hc, hpn] at HN
  rw [hc] at hC
  rw [hc, hpf, hpn]
  have HCK := Lib.hid hc
  have HW := Lib.hid hW0
  have HC := Lib.hid (And.intro c0 c1)
  have cT := c0.cell (j := 0) rfl
  have HSZ := Lib.hid (str_size s)
  have step : ∀ (R : Prop), (∀ hz0 : (c == 0) = true, R) → (∀ hz0 : (c == 0) = false, R) → R := fun R h1 h2 => by
    cases hc : (c == 0)
    · exact h2 hc
    · exact h1 hc
  clear hv hW0 c0 c1 hpf hpn hc
  unfold str
  unfold str at hC
  refine step _ (fun hz0 => ?_) (fun hz0 => ?_)
  all_goals
    clear step
    go_enter Try.func15, Try.ntmps15
    go_upto_region 1 with (fail)
    rw [← HW.out]
    go_upto_region 2 with (fail)
    refine hC.mono ?_
    rintro e w1 ⟨rfl, hb1⟩
    have hs1 := hb1.size
    have b1 := b0.trans (hb1.mono b0.size)
    clear hC cT
  · have hc0 : c = 0 := eq_of_beq hz0
    have hz1 : (c != 0) = false := by rw [bne, hz0]; rfl
    have HC0 := Lib.hid hc0
    obtain ⟨hOk, h4096, h15, hds⟩ := chp_zero (HCK.out.trans hc0)
    obtain ⟨E, hT⟩ := hOk.1
    have HT := Lib.hid hT
    have HDS := Lib.hid hds
    have hpos := hT.pos
    have e1 := HC.out.2.past hb1 (by omega)
    have hA : ∃ ad, A = some ad := by obtain ⟨ad, h, _⟩ := HV.out.at_ hpos; exact ⟨ad, h⟩
    obtain ⟨ad, rfl⟩ := hA
    have cT1 := (HC.out.1.past hb1 (by omega)).cell (j := 0) rfl
    have hCL := clone_any ad n cap F w1 (Row.past HV.out b1) hn
    clear hOk hT hds hc0
    go_upto_region 5 with (fail)
    refine hCL.mono ?_
    rintro e w2 ⟨⟨u, rfl, ho2⟩, hb2⟩
    obtain ⟨q, cq, rfl⟩ := ho2.form hpos
    have hs2 := hb2.size
    have b2 := b1.trans (hb2.mono b1.size)
    have cT2 := cell_past cT1 hb2
    have e2 := e1.past hb2 (by omega)
    have hDP := deepest_any ad n cap F E s w2 (Row.past HV.out b2) HT.out hn HDS.out (by omega)
    obtain ⟨j, m, hdp, hml, hjm, hMx⟩ := dp_spec F HDS.out
    rw [hdp] at hDP
    unfold str at hDP
    obtain ⟨gb, hgb⟩ : ∃ gb, gb = w1.heap.size := ⟨_, rfl⟩
    rw [← hgb] at ho2
    have hgbl : w.heap.size + 2 ≤ gb := by omega
    have hjn := (nod_lt HT.out HT.out.pos hjm).1
    have HJM := Lib.hid hjm
    have HMX := Lib.hid hMx
    clear hCL cT1 e1 hgb hdp hjm hMx
    go_upto_region 6 with (fail)
    refine hDP.mono ?_
    rintro e w3 ⟨rfl, hb3⟩
    have hs3 := hb3.size
    have b3 := b2.trans (hb3.mono b2.size)
    have e3 := e2.past hb3 (by omega)
    have ho3 := ho2.go hb3
    have hql := ho3.lt q rfl
    have hsz := HSZ.out
    clear hDP cT2 e2 ho2
    by_cases hml2 : m = s.length
    · have hmb : ((m : Int) == (s.length : Int)) = true := by rw [hml2]; simp
      have hjs : nod F 0 s = some j := by have := HJM.out; rw [hml2, List.take_length] at this; exact this
      have hpf : pf = F.set (j * 11 + 10) 0 := by
        rw [HF.out, if_pos HC0.out]
        unfold drp
        rw [hjs]
        unfold sv
        rw [Nat.mul_comm]
      have HPF := Lib.hid hpf
      have HPN : Hid (pn = n) := Lib.hid (by rw [HN.out, if_pos HC0.out])
      have HOG := Lib.hid ho3
      clear hpf hjs hml2
      go_wp2_with (first | (refine wp_run rfl (exec_ixS 22 59 11 Try.underlying22 info_node _ rfl rfl .i64 (j : Int) j rfl rfl hjn (show (⟨q, j * 11, none⟩ : Addr) = (⟨q, 0, none⟩ : Addr).add (j * 11) by rw [add_zero_addr])) ?_) | (refine wp_storeN (.tmp 33) _ rfl rfl rfl gb n q cq _ F 0 rfl rfl HOG.out (by omega) ?_; intro w5 o5 k5; have h15 := e3.keep k5 (by omega); have HO5 := Lib.hid o5; clear o5) | (refine wp_storeA 24 (.tmp 4) (.tmp 35) rfl rfl (w.heap.size + 1) rfl 24 [.slice none 0 0] [.slice (some ⟨q, 0, none⟩) n cq] rfl h15 (by rw [info_trie]; rfl) rfl (by intro v hv; simp at hv; subst hv; rfl) rfl ?_; intro w7 h7 k7))
      have o7 := HO5.out.keep k7 (fun q' hq' => by simp [Value.ownBlock] at hq'; omega)
      have b7 : Below w.heap.size w w7 := b3.trans (((k5.mono (O' := fun b => b < w.heap.size) fun b hb => by omega).trans (k7.mono fun b hb => by omega)).below (fun q' hq' => hq') b3.size)
      refine ret_row_tmp Try.results15 rfl (w.heap.size + 1) 24 _ _ rfl h7 Try.underlying24 rfl (by rw [info_trie]; rfl) _ rfl ?_
      rw [HPF.out, HPN.out, HC0.out]
      exact ⟨⟨_, rfl, o7.up (by omega)⟩, b7⟩
    · have hmb : ((m : Int) == (s.length : Int)) = false := beq_eq_false_iff_ne.2 (by omega)
      have hjs : nod F 0 s = none := by
        cases hn2 : nod F 0 s with
        | none => rfl
        | some i =>
          have := (HMX.out.2 s.length (Nat.le_refl _)).1 ⟨i, by rw [List.take_length]; exact hn2⟩
          omega
      have hpf : pf = F := by
        rw [HF.out, if_pos HC0.out]
        unfold drp
        rw [hjs]
      have HPF := Lib.hid hpf
      have HPN : Hid (pn = n) := Lib.hid (by rw [HN.out, if_pos HC0.out])
      have HOG := Lib.hid ho3
      clear hpf hjs
      go_wp2_with (first | (refine wp_storeA 24 (.tmp 4) (.tmp 35) rfl rfl (w.heap.size + 1) rfl 24 [.slice none 0 0] [.slice (some ⟨q, 0, none⟩) n cq] rfl e3 (by rw [info_trie]; rfl) rfl (by intro v hv; simp at hv; subst hv; rfl) rfl ?_; intro w7 h7 k7))
      have o7 := HOG.out.keep k7 (fun q' hq' => by simp [Value.ownBlock] at hq'; omega)
      have b7 : Below w.heap.size w w7 := b3.trans (k7.below (fun q' hq' => by omega) b3.size)
      refine ret_row_tmp Try.results15 rfl (w.heap.size + 1) 24 _ _ rfl h7 Try.underlying24 rfl (by rw [info_trie]; rfl) _ rfl ?_
      rw [HPF.out, HPN.out, HC0.out]
      exact ⟨⟨_, rfl, o7.up (by omega)⟩, b7⟩
  · have hc0 : c ≠ 0 := ne_of_beq_false hz0
    have hz1 : (c != 0) = true := by rw [bne, hz0]; rfl
    have HP0 := Lib.hid hc0
    have e1 := HC.out.2.past hb1 (by omega)
    clear hc0
    go_wp2_with (first | (refine wp_storeA 24 (.tmp 4) (.tmp 15) rfl rfl (w.heap.size + 1) rfl 24 [.slice none 0 0] [.slice none 0 0] rfl e1 (by rw [info_trie]; rfl) rfl (by intro v hv; simp at hv; subst hv; rfl) rfl ?_; intro w7 h7 k7))
    have b9 : Below w.heap.size w w7 := b1.trans (k7.below (fun q hq => by omega) b1.size)
    rw [show pf = [] by rw [HF.out, if_neg HP0.out], show pn = 0 by rw [HN.out, if_neg HP0.out]]
    refine ret_row_tmp Try.results15 rfl (w.heap.size + 1) 24 _ _ rfl h7 Try.underlying24 rfl (by rw [info_trie]; rfl) _ rfl ?_
    exact ⟨⟨_, rfl, OwnN.nil_ _ _⟩, b9⟩
end Go.Proofs.Ytippbkooaonajaa
