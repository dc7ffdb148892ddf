/-
  TrieNodesShared: the walk of the law.
-/
import Derived.Test.YtippbkooaonajaaTlF
import Derived.Test.YtippbkooaonajaaOpR
namespace Go.Proofs.Ytippbkooaonajaa
open Go.RowKit Dg Tr
set_option linter.unusedVariables false
set_option linter.unusedSimpArgs false

set_option maxRecDepth 100000 in
set_option maxHeartbeats 4000000 in
theorem trieNodesShared_walk (A : Option Addr) (n cap : Nat) (F : List Int) (s : Str) (v : Int) (w : World) (hv : Nds w w.heap.size n (.slice A n cap) F) (hs : s.length ≤ maxLen) (hvb : -9223372036854775808 ≤ v ∧ v ≤ 9223372036854775807) :
    Calls Try.prog 10 #[.agg #[.slice A n cap], str s, .int .i64 v] w fun e w' => e = .returned (.bool true) ∧ Below w.heap.size w w' := by
  obtain ⟨W0, hW0⟩ : ∃ W, W = w.alloc (.cells #[.slice A n cap] 24) := ⟨_, rfl⟩
  have b0 : Below w.heap.size w W0 := by rw [hW0]; exact (Below.refl _ _).alloc (Nat.le_refl _) _
  have t0 : TrV W0 w.heap.size A n cap F := ⟨by rw [hW0]; exact Blk.newAt _ _ [_] _ rfl, Row.past hv b0⟩
  have HW := Lib.hid hW0
  have hS := sane_any W0
  have hsz := str_size s
  have hml : maxLen = 9223372036854775807 := rfl
  clear hv hW0
  unfold str
  go_enter Try.func10, Try.ntmps10
  go_upto_region 1 with (fail)
  rw [← HW.out]
  go_wp2_with fail
  refine hS.mono ?_
  rintro e w1 ⟨rfl, b01⟩
  have t1 := t0.go b01
  have b1 := b0.trans (b01.mono b0.size)
  have ct1 := t1.cell
  have hnm : n ≤ 9223372036854775807 := by
    obtain ⟨_, _, e, h1, h2, _⟩ := t1.nds
    injection e with _ _ e3
    simp only [maxLen] at h2; omega
  clear hS t0 b01 b0
  by_cases hbig : 400 < n
  · go_wp2_with fail
    go_ret
    exact ⟨rfl, b1⟩
  by_cases hbs : 40 < s.length
  · go_wp2_with fail
    go_ret
    exact ⟨rfl, b1⟩
  have hP := put_any A n cap F s v w1 t1.nds (by omega) (by omega)
  obtain ⟨pe, hpe⟩ : ∃ pe, putE F n s v = pe := ⟨_, rfl⟩
  obtain ⟨k, hk⟩ : ∃ k, putN F n s v = k := ⟨_, rfl⟩
  obtain ⟨G, hG⟩ : ∃ G, putF F n s v = G := ⟨_, rfl⟩
  rw [hpe, hk, hG] at hP
  have HPE := Lib.hid hpe
  have HK := Lib.hid hk
  have HG := Lib.hid hG
  clear hpe hk hG
  unfold str at hP
  go_wp2_with fail
  refine hP.mono ?_
  rintro e w2 ⟨⟨u, rfl, o2⟩, b12⟩
  obtain ⟨Aa, ca, rfl⟩ := row_form o2.nds
  have t2 := t1.go b12
  have b2 := b1.trans (b12.mono b1.size)
  clear hP t1 b12 b1 ct1
  have step : ∀ (R : Prop), (∀ hz0 : (pe == 0) = true, R) → (∀ hz0 : (pe == 0) = false, R) → R := fun R h1 h2 => by
    cases hc : (pe == 0)
    · exact h2 hc
    · exact h1 hc
  refine step _ (fun hz0 => ?_) (fun hz0 => ?_)
  all_goals
    clear step
  · have hz1 : (pe != 0) = false := by rw [bne, hz0]; rfl
    have hp0 : pe = 0 := eq_of_beq hz0
    obtain ⟨hchp, hvr, hkn, hGe, hke⟩ := putE_zero (HPE.out.trans hp0)
    obtain ⟨hOk, h4096, h15, hds⟩ := chp_zero hchp
    have hPut := put_put hOk hds h15 hvr
    rw [← hGe, HG.out, ← hke, HK.out] at hPut
    have hple := putn_le hOk hds
    rw [← hke, HK.out] at hple
    have hk15 : k ≤ 415 := by omega
    obtain ⟨hag1, hag2⟩ := put_again (s := s) (v := v) hPut.ok (by omega) (by rw [hPut.get, if_pos rfl])
    obtain ⟨he1, he2, he3⟩ := putE_ok (s := s) (v := v) hPut.ok (by omega) h15 hds hvr (by rw [hag2]; omega)
    rw [hag1] at he2
    rw [hag2] at he3
    have hchG := chp_ok hPut.ok (by omega : k ≤ 4096) h15 hds
    have hDrp := drp_drp s hPut.ok
    have hcG := chk_ok hPut.ok (by omega : k ≤ 4096)
    have hcD := chk_ok hDrp.ok (by omega : k ≤ 4096)
    have hw1 := wout_put hOk hPut
    have hw2 := wout_drp hOk hPut hDrp
    have hdF : drpF G k s = drp G s ∧ drpN G k s = k := ⟨by unfold drpF; rw [if_pos hchG], by unfold drpN; rw [if_pos hchG]⟩
    obtain ⟨D, hD⟩ : ∃ D, drp G s = D := ⟨_, rfl⟩
    rw [hD] at hDrp hcD hw2 hdF
    have HE1 := Lib.hid (entR_ok hOk h4096)
    have HE2 := Lib.hid (entR_ok hPut.ok (by omega : k ≤ 4096))
    have HE3 := Lib.hid (entR_ok hDrp.ok (by omega : k ≤ 4096))
    have HAG := Lib.hid (And.intro he1 (And.intro he2 he3))
    have HCH := Lib.hid (And.intro hchG (And.intro hcG (And.intro hcD hdF)))
    have HWW := Lib.hid (And.intro hw1 hw2)
    have hkpos : 0 < k := hPut.ok.1.elim fun E h => h.pos
    have hnk := hple.1
    have hkl := hple.2
    clear hp0 hchp hvr hGe hke hOk hds hPut hple hag1 hag2 he1 he2 he3 hchG hDrp hcG hcD hw1 hw2 hdF hD
    go_wp2_with (first | (refine wp_storeA 24 (.tmp 7) (.tmp 30) rfl rfl w2.heap.size rfl 24 [.slice none 0 0] [.slice Aa k ca] rfl (Blk.new _ _ _) (by rw [info_trie]; rfl) rfl (by intro v hv; simp at hv; subst hv; rfl) rfl ?_; intro w3 kx kkx; have bx : Below w2.heap.size w2 w3 := ((Below.refl _ _).alloc (Nat.le_refl _) _).trans (kkx.below (fun q hq => by omega) (by simp)); have a3 := TrV.laid o2 bx kx; have t3 := t2.go bx; have b3 := b2.trans (bx.mono b2.size); have ct3 := t3.cell; have ca3 := a3.cell; clear kkx bx kx))
    clear o2 t2 b2
    have hP2 := put_any Aa k ca G s v w3 a3.nds (by omega) (by omega)
    rw [HAG.out.1, HAG.out.2.1, HAG.out.2.2] at hP2
    unfold str at hP2
    refine hP2.mono ?_
    rintro e w4 ⟨⟨u, rfl, o4⟩, b34⟩
    obtain ⟨Ab, cb, rfl⟩ := row_form o4.nds
    have t4 := t3.go b34
    have a4 := a3.go b34
    have b4 := b3.trans (b34.mono b3.size)
    clear hP2 t3 a3 b3 b34 ct3 ca3
    go_wp2_with (first | (refine wp_storeA 24 (.tmp 9) (.tmp 43) rfl rfl w4.heap.size rfl 24 [.slice none 0 0] [.slice Ab k cb] rfl (Blk.new _ _ _) (by rw [info_trie]; rfl) rfl (by intro v hv; simp at hv; subst hv; rfl) rfl ?_; intro w5 kx kkx; have bx : Below w4.heap.size w4 w5 := ((Below.refl _ _).alloc (Nat.le_refl _) _).trans (kkx.below (fun q hq => by omega) (by simp)); have d5 := TrV.laid o4 bx kx; have t5 := t4.go bx; have a5 := a4.go bx; have b5 := b4.trans (bx.mono b4.size); have ct5 := t5.cell; have ca5 := a5.cell; have cd5 := d5.cell; clear kkx bx kx))
    clear o4 t4 a4 b4
    have hP3 := drop_any Aa k ca G s w5 a5.nds (by omega) (by omega)
    rw [HCH.out.1, HCH.out.2.2.2.1, HCH.out.2.2.2.2] at hP3
    unfold str at hP3
    refine hP3.mono ?_
    rintro e w6 ⟨⟨u, rfl, o6⟩, b56⟩
    obtain ⟨Ac, cc, rfl⟩ := row_form o6.nds
    have t6 := t5.go b56
    have a6 := a5.go b56
    have d6 := d5.go b56
    have b6 := b5.trans (b56.mono b5.size)
    clear hP3 t5 a5 d5 b5 b56 ct5 ca5 cd5
    go_wp2_with (first | (refine wp_storeA 24 (.tmp 11) (.tmp 49) rfl rfl w6.heap.size rfl 24 [.slice none 0 0] [.slice Ac k cc] rfl (Blk.new _ _ _) (by rw [info_trie]; rfl) rfl (by intro v hv; simp at hv; subst hv; rfl) rfl ?_; intro w7 kx kkx; have bx : Below w6.heap.size w6 w7 := ((Below.refl _ _).alloc (Nat.le_refl _) _).trans (kkx.below (fun q hq => by omega) (by simp)); have c7 := TrV.laid o6 bx kx; have t7 := t6.go bx; have a7 := a6.go bx; have d7 := d6.go bx; have b7 := b6.trans (bx.mono b6.size); have ct7 := t7.cell; have ca7 := a7.cell; have cd7 := d7.cell; have cc7 := c7.cell; clear kkx bx kx))
    clear o6 t6 a6 d6 b6
    have hC := check_any Aa k ca G w7 a7.nds (by omega)
    rw [HCH.out.2.1] at hC
    refine hC.mono ?_
    rintro e w8 ⟨rfl, b78⟩
    have t8 := t7.go b78
    have a8 := a7.go b78
    have d8 := d7.go b78
    have c8 := c7.go b78
    have b8 := b7.trans (b78.mono b7.size)
    have cc8 := c8.cell
    clear hC t7 a7 d7 c7 b7 b78 ct7 ca7 cd7 cc7
    go_wp2_with fail
    have hC := check_any Ac k cc D w8 c8.nds (by omega)
    rw [HCH.out.2.2.1] at hC
    refine hC.mono ?_
    rintro e w9 ⟨rfl, b89⟩
    have t9 := t8.go b89
    have a9 := a8.go b89
    have d9 := d8.go b89
    have c9 := c8.go b89
    have b9 := b8.trans (b89.mono b8.size)
    have ct9 := t9.cell
    clear hC t8 a8 d8 c8 b8 b89 cc8
    go_wp2_with fail
    obtain ⟨L1, hL1⟩ : ∃ L1, ents F = L1 := ⟨_, rfl⟩
    obtain ⟨LG, hLG⟩ : ∃ LG, ents G = LG := ⟨_, rfl⟩
    obtain ⟨WL, hWL⟩ : ∃ WL, wout L1 s = WL := ⟨_, rfl⟩
    rw [hL1] at HE1
    rw [hLG] at HE2
    rw [hLG, hL1, hWL] at HWW
    rw [HWW.out.2] at HE3
    have l1 : L1.length ≤ 4096 := by rw [← HE1.out]; exact entR_len F n
    have l2 : LG.length ≤ 4096 := by rw [← HE2.out]; exact entR_len G k
    have l3 : WL.length ≤ 4096 := by rw [← HE3.out]; exact entR_len D k
    have HWL := Lib.hid hWL
    clear hL1 hLG hWL
    have hE := entries_any A n cap F w9 t9.nds (by omega)
    rw [HE1.out] at hE
    refine hE.mono ?_
    rintro e w10 ⟨⟨u, rfl, o10⟩, bx⟩
    obtain ⟨Al, cl, rfl⟩ := own_form o10
    have t10 := t9.go bx
    have a10 := a9.go bx
    have d10 := d9.go bx
    have c10 := c9.go bx
    have b10 := b9.trans (bx.mono b9.size)
    clear hE t9 a9 d9 c9 b9 bx ct9
    go_wp2_with fail
    have hW := without_any (.slice Al L1.length cl) L1 s w10 o10.pl (by omega) (by omega)
    rw [HWL.out] at hW
    unfold str at hW
    refine hW.mono ?_
    rintro e w11 ⟨⟨u, rfl, o11⟩, bx⟩
    obtain ⟨Aw, cw, rfl⟩ := own_form o11
    have p11 := o11.pl
    have t11 := t10.go bx
    have a11 := a10.go bx
    have d11 := d10.go bx
    have c11 := c10.go bx
    have b11 := b10.trans (bx.mono b10.size)
    have ct11 := t11.cell
    have ca11 := a11.cell
    have cd11 := d11.cell
    clear hW t10 a10 d10 c10 b10 bx o10 o11
    go_wp2_with fail
    have hS := same_any (.slice Aa k ca) (.slice Ab k cb) k k G G w11 a11.nds d11.nds (by omega) (by omega)
    rw [decide_eq_true (rfl : G = G)] at hS
    refine hS.mono ?_
    rintro e w12 ⟨rfl, bx⟩
    have p12 := Row.past p11 bx
    have a12 := a11.go bx
    have c12 := c11.go bx
    have b12 := b11.trans (bx.mono b11.size)
    have ca12 := a12.cell
    have cc12 := c12.cell
    clear hS t11 a11 d11 c11 b11 bx p11 ct11 ca11 cd11
    go_wp2_with fail
    have hE := entries_any Aa k ca G w12 a12.nds (by omega)
    rw [HE2.out] at hE
    refine hE.mono ?_
    rintro e w13 ⟨⟨u, rfl, o13⟩, bx⟩
    obtain ⟨A13, c13', rfl⟩ := own_form o13
    have p13 := Row.past p12 bx
    have c13 := c12.go bx
    have b13 := b12.trans (bx.mono b12.size)
    clear hE p12 a12 c12 b12 bx ca12 cc12
    go_wp2_with fail
    have hW := without_any (.slice A13 LG.length c13') LG s w13 o13.pl (by omega) (by omega)
    rw [HWW.out.1] at hW
    unfold str at hW
    refine hW.mono ?_
    rintro e w14 ⟨⟨u, rfl, o14⟩, bx⟩
    obtain ⟨A14, c14', rfl⟩ := own_form o14
    have p14 := Row.past p13 bx
    have c14 := c13.go bx
    have b14 := b13.trans (bx.mono b13.size)
    clear hW p13 c13 b13 bx o13
    go_wp2_with fail
    have hS := sameEntries_any (.slice A14 WL.length c14') (.slice Aw WL.length cw) WL WL w14 o14.pl p14 (by omega) (by omega)
    rw [decide_eq_true (rfl : WL = WL)] at hS
    refine hS.mono ?_
    rintro e w15 ⟨rfl, bx⟩
    have p15 := Row.past p14 bx
    have c15 := c14.go bx
    have b15 := b14.trans (bx.mono b14.size)
    have cc15 := c15.cell
    clear hS p14 c14 b14 bx o14
    go_wp2_with fail
    have hE := entries_any Ac k cc D w15 c15.nds (by omega)
    rw [HE3.out] at hE
    refine hE.mono ?_
    rintro e w16 ⟨⟨u, rfl, o16⟩, bx⟩
    obtain ⟨A16, c16', rfl⟩ := own_form o16
    have p16 := Row.past p15 bx
    have b16 := b15.trans (bx.mono b15.size)
    clear hE p15 c15 b15 bx cc15
    go_wp2_with fail
    have hS := sameEntries_any (.slice A16 WL.length c16') (.slice Aw WL.length cw) WL WL w16 o16.pl p16 (by omega) (by omega)
    rw [decide_eq_true (rfl : WL = WL)] at hS
    refine hS.mono ?_
    rintro e w17 ⟨rfl, bx⟩
    have b17 := b16.trans (bx.mono b16.size)
    clear hS p16 b16 bx o16
    go_wp2_with fail
    go_ret
    exact ⟨rfl, b17⟩
  · have hz1 : (pe != 0) = true := by rw [bne, hz0]; rfl
    have hkz : k = 0 := by rw [← HK.out]; unfold putN; rw [if_neg]; rw [HPE.out]; exact ne_of_beq_false hz0
    subst hkz
    go_wp2_with (first | (refine wp_storeA 24 (.tmp 7) (.tmp 30) rfl rfl w2.heap.size rfl 24 [.slice none 0 0] [.slice Aa 0 ca] rfl (Blk.new _ _ _) (by rw [info_trie]; rfl) rfl (by intro v hv; simp at hv; subst hv; rfl) rfl ?_; intro w3 kx kkx; have bx : Below w2.heap.size w2 w3 := ((Below.refl _ _).alloc (Nat.le_refl _) _).trans (kkx.below (fun q hq => by omega) (by simp)); have a3 := TrV.laid o2 bx kx; have b3 := b2.trans (bx.mono b2.size); have ca3 := a3.cell; clear kkx bx kx))
    go_ret
    exact ⟨rfl, b3⟩
end Go.Proofs.Ytippbkooaonajaa
