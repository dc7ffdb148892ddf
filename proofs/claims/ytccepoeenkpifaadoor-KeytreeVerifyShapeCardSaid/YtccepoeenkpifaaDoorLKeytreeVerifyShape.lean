/-
  The walk of KeytreeVerifyShape.
-/
import Derived.Test.YtccepoeenkpifaaDoorKtS
import Derived.Test.YtccepoeenkpifaaDoorKtV
import Derived.Test.YtccepoeenkpifaaDoorOpS
namespace Go.Proofs.YtccepoeenkpifaaDoor
open Go.RowKit
set_option linter.unusedVariables false
set_option linter.unusedSimpArgs false

theorem row_len {w : World} {B s n : Nat} {v : Value} {xs : List Value} (h : Row w B s n v xs) : n ≤ 9223372036854775807 := by
  obtain ⟨_, _, _, h1, h2, _⟩ := h
  unfold maxLen at h2
  omega
theorem bs_len {w : World} {B : Nat} {v : Value} {l : List UInt8} (h : Bs w B v l) : l.length ≤ 9223372036854775807 := by
  obtain ⟨_, _, _, h1, h2, _⟩ := h
  unfold maxLen at h2
  omega

set_option maxRecDepth 100000 in
set_option maxHeartbeats 4000000 in
theorem keytreeVerifyShape_walk (r : List UInt8) (v : Value) (l : List UInt8) (ix : Int) (A B : Option Addr) (n c m d : Nat) (F PP : List UInt8) (W : World) (hr : r.length = 32) (hv : Bs W W.heap.size v l) (hix : -9223372036854775808 ≤ ix ∧ ix ≤ 9223372036854775807) (hF : Row W W.heap.size 32 n (.slice A n c) (u8s F)) (hG : Row W W.heap.size 32 m (.slice B m d) (u8s PP)) (hk : KIs 1 W) :
    Calls Tryd.prog 9 #[.agg (u8s r).toArray, v, .agg (sg ix (.slice A n c) (.slice B m d)).toArray] W fun e w' => e = .returned (.bool true) ∧ Below W.heap.size W w' := by
  obtain ⟨A0, cap0, rfl⟩ := hv.form
  obtain ⟨hix1, hix2⟩ := hix
  have hnl := row_len hF
  have hml := row_len hG
  have hll := bs_len hv
  have HR := Lib.hid hr
  have HUR := Lib.hid (show (u8s r).length = 32 by rw [u8s_length, hr])
  have b0 : Below W.heap.size W ((W.alloc (.cells (u8s r).toArray 25)).alloc (.cells (sg ix (.slice A n c) (.slice B m d)).toArray 31)) := ((Below.refl _ _).alloc (Nat.le_refl _) _).alloc (by simp) _
  have r0 : Blk ((W.alloc (.cells (u8s r).toArray 25)).alloc (.cells (sg ix (.slice A n c) (.slice B m d)).toArray 31)) W.heap.size 25 (u8s r) := (Blk.new W _ _).past ((Below.refl _ _).alloc (Nat.le_refl _) _) (by simp)
  have q0 : Blk ((W.alloc (.cells (u8s r).toArray 25)).alloc (.cells (sg ix (.slice A n c) (.slice B m d)).toArray 31)) (W.heap.size + 1) 31 (sg ix (.slice A n c) (.slice B m d)) := by
    have h := Blk.new (W.alloc (.cells (u8s r).toArray 25)) 31 (sg ix (.slice A n c) (.slice B m d))
    rw [World.size_alloc] at h
    exact h
  obtain ⟨W0, hW0⟩ : ∃ U, U = (W.alloc (.cells (u8s r).toArray 25)).alloc (.cells (sg ix (.slice A n c) (.slice B m d)).toArray 31) := ⟨_, rfl⟩
  rw [← hW0] at b0 r0 q0
  have HW := Lib.hid hW0
  have m0 := hv.past b0
  have k0 := hk.past b0
  have c0 := hF.past b0
  have p0 := hG.past b0
  clear hW0 hv hk hr hF hG
  go_enter Tryd.func9, Tryd.ntmps9
  go_upto_region 1 with (fail)
  rw [← HW.out]
  obtain ⟨gr, hgr⟩ : ∃ g, g = W.heap.size := ⟨_, rfl⟩
  obtain ⟨gq, hgq⟩ : ∃ g, g = W.heap.size + 1 := ⟨_, rfl⟩
  rw [← hgq] at q0 ⊢
  rw [← hgr] at r0 ⊢
  have HGR := Lib.hid hgr
  clear hgr hgq
  have HC1 := Lib.hid (sane_any W0 k0)
  go_wp2_with fail
  refine HC1.out.mono ?_
  rintro e v1 ⟨rfl, b1⟩
  have f_r1 := r0.past b1 r0.lt
  have f_q1 := q0.past b1 q0.lt
  have f_m1 := m0.past b1
  have f_k1 := k0.past b1
  have f_bel1 := b0.trans (b1.mono b0.size)
  have f_p1 := p0.past b1
  have f_c1 := c0.past b1
  clear r0 q0 m0 k0 b0 p0 c0 HC1 b1
  have d0 : v1.cell? ⟨gq, 0, none⟩ = some (.int .i64 ix) := Blk.cell f_q1 (j := 0) rfl
  have d1 : v1.cell? ⟨gq, 1, none⟩ = some (.slice A n c) := Blk.cell f_q1 (j := 1) rfl
  have d2 : v1.cell? ⟨gq, 2, none⟩ = some (.slice B m d) := Blk.cell f_q1 (j := 2) rfl
  by_cases hn60 : n ≤ 60
  · skip
    by_cases hm60 : m ≤ 60
    · skip
      by_cases hl300 : l.length ≤ 300
      · skip
        by_cases hx0 : 0 ≤ ix
        · skip
          by_cases hx3 : ix ≤ 3
          · skip
            by_cases hn : n = 18
            · subst hn
              by_cases hm : m = 2
              · subst hm
                go_wp2
                go_ret
                rw [HGR.out] at *
                exact ⟨rfl, f_bel1⟩
              · skip
                have HV := Lib.hid (kverify_no1 r l _ ix A B c d 18 m v1 HR.out f_m1 (by omega) (fun h => absurd h hm) f_k1)
                have hme : ((m : Int) == 2) = false := beq_eq_false_iff_ne.2 (by omega)
                clear hm
                go_wp2_with (first
                  | (refine wp_run rfl (exec_loadA 25 rfl gr rfl 25 _ 32 5 f_r1 Tryd.underlying25 (by rw [info_dig, HUR.out])) ?_)
                  | (refine wp_run rfl (exec_loadR 31 rfl gq rfl 31 _ _ f_q1 Tryd.underlying31 rfl (by rw [info_sig]; rfl)) ?_))
                refine HV.out.mono ?_
                rintro e w9 ⟨rfl, b9⟩
                have bel9 := Below.trans f_bel1 (b9.mono (Below.size f_bel1))
                clear HV
                go_wp2_with fail
                go_ret
                rw [HGR.out] at *
                exact ⟨rfl, bel9⟩
            · skip
              by_cases hm : m = 2
              · subst hm
                have HV := Lib.hid (kverify_no2 r l _ ix A B c d n PP v1 HR.out f_m1 (by omega) (fun h => absurd h hn) hnl f_p1 f_k1)
                have hne : ((n : Int) == 18) = false := beq_eq_false_iff_ne.2 (by omega)
                clear hn
                go_wp2_with (first
                  | (refine wp_run rfl (exec_loadA 25 rfl gr rfl 25 _ 32 5 f_r1 Tryd.underlying25 (by rw [info_dig, HUR.out])) ?_)
                  | (refine wp_run rfl (exec_loadR 31 rfl gq rfl 31 _ _ f_q1 Tryd.underlying31 rfl (by rw [info_sig]; rfl)) ?_))
                refine HV.out.mono ?_
                rintro e w9 ⟨rfl, b9⟩
                have bel9 := Below.trans f_bel1 (b9.mono (Below.size f_bel1))
                clear HV
                go_wp2_with fail
                go_ret
                rw [HGR.out] at *
                exact ⟨rfl, bel9⟩
              · skip
                have HV := Lib.hid (kverify_no1 r l _ ix A B c d n m v1 HR.out f_m1 (by omega) (fun h => absurd h hm) f_k1)
                have hne : ((n : Int) == 18) = false := beq_eq_false_iff_ne.2 (by omega)
                have hme : ((m : Int) == 2) = false := beq_eq_false_iff_ne.2 (by omega)
                clear hn hm
                go_wp2_with (first
                  | (refine wp_run rfl (exec_loadA 25 rfl gr rfl 25 _ 32 5 f_r1 Tryd.underlying25 (by rw [info_dig, HUR.out])) ?_)
                  | (refine wp_run rfl (exec_loadR 31 rfl gq rfl 31 _ _ f_q1 Tryd.underlying31 rfl (by rw [info_sig]; rfl)) ?_))
                refine HV.out.mono ?_
                rintro e w9 ⟨rfl, b9⟩
                have bel9 := Below.trans f_bel1 (b9.mono (Below.size f_bel1))
                clear HV
                go_wp2_with fail
                go_ret
                rw [HGR.out] at *
                exact ⟨rfl, bel9⟩
          · skip
            by_cases hn : n = 18
            · subst hn
              by_cases hm : m = 2
              · subst hm
                have HV := Lib.hid (kverify_no3 r l _ ix A B c d F PP v1 HR.out f_m1 (by omega) (by omega) hix1 hix2 f_c1 f_p1 f_k1)
                go_wp2_with (first
                  | (refine wp_run rfl (exec_loadA 25 rfl gr rfl 25 _ 32 5 f_r1 Tryd.underlying25 (by rw [info_dig, HUR.out])) ?_)
                  | (refine wp_run rfl (exec_loadR 31 rfl gq rfl 31 _ _ f_q1 Tryd.underlying31 rfl (by rw [info_sig]; rfl)) ?_))
                refine HV.out.mono ?_
                rintro e w9 ⟨rfl, b9⟩
                have bel9 := Below.trans f_bel1 (b9.mono (Below.size f_bel1))
                clear HV
                go_wp2_with fail
                go_ret
                rw [HGR.out] at *
                exact ⟨rfl, bel9⟩
              · skip
                have HV := Lib.hid (kverify_no1 r l _ ix A B c d 18 m v1 HR.out f_m1 (by omega) (fun h => absurd h hm) f_k1)
                have hme : ((m : Int) == 2) = false := beq_eq_false_iff_ne.2 (by omega)
                clear hm
                go_wp2_with (first
                  | (refine wp_run rfl (exec_loadA 25 rfl gr rfl 25 _ 32 5 f_r1 Tryd.underlying25 (by rw [info_dig, HUR.out])) ?_)
                  | (refine wp_run rfl (exec_loadR 31 rfl gq rfl 31 _ _ f_q1 Tryd.underlying31 rfl (by rw [info_sig]; rfl)) ?_))
                refine HV.out.mono ?_
                rintro e w9 ⟨rfl, b9⟩
                have bel9 := Below.trans f_bel1 (b9.mono (Below.size f_bel1))
                clear HV
                go_wp2_with fail
                go_ret
                rw [HGR.out] at *
                exact ⟨rfl, bel9⟩
            · skip
              by_cases hm : m = 2
              · subst hm
                have HV := Lib.hid (kverify_no2 r l _ ix A B c d n PP v1 HR.out f_m1 (by omega) (fun h => absurd h hn) hnl f_p1 f_k1)
                have hne : ((n : Int) == 18) = false := beq_eq_false_iff_ne.2 (by omega)
                clear hn
                go_wp2_with (first
                  | (refine wp_run rfl (exec_loadA 25 rfl gr rfl 25 _ 32 5 f_r1 Tryd.underlying25 (by rw [info_dig, HUR.out])) ?_)
                  | (refine wp_run rfl (exec_loadR 31 rfl gq rfl 31 _ _ f_q1 Tryd.underlying31 rfl (by rw [info_sig]; rfl)) ?_))
                refine HV.out.mono ?_
                rintro e w9 ⟨rfl, b9⟩
                have bel9 := Below.trans f_bel1 (b9.mono (Below.size f_bel1))
                clear HV
                go_wp2_with fail
                go_ret
                rw [HGR.out] at *
                exact ⟨rfl, bel9⟩
              · skip
                have HV := Lib.hid (kverify_no1 r l _ ix A B c d n m v1 HR.out f_m1 (by omega) (fun h => absurd h hm) f_k1)
                have hne : ((n : Int) == 18) = false := beq_eq_false_iff_ne.2 (by omega)
                have hme : ((m : Int) == 2) = false := beq_eq_false_iff_ne.2 (by omega)
                clear hn hm
                go_wp2_with (first
                  | (refine wp_run rfl (exec_loadA 25 rfl gr rfl 25 _ 32 5 f_r1 Tryd.underlying25 (by rw [info_dig, HUR.out])) ?_)
                  | (refine wp_run rfl (exec_loadR 31 rfl gq rfl 31 _ _ f_q1 Tryd.underlying31 rfl (by rw [info_sig]; rfl)) ?_))
                refine HV.out.mono ?_
                rintro e w9 ⟨rfl, b9⟩
                have bel9 := Below.trans f_bel1 (b9.mono (Below.size f_bel1))
                clear HV
                go_wp2_with fail
                go_ret
                rw [HGR.out] at *
                exact ⟨rfl, bel9⟩
        · skip
          by_cases hn : n = 18
          · subst hn
            by_cases hm : m = 2
            · subst hm
              have HV := Lib.hid (kverify_no3 r l _ ix A B c d F PP v1 HR.out f_m1 (by omega) (by omega) hix1 hix2 f_c1 f_p1 f_k1)
              go_wp2_with (first
                | (refine wp_run rfl (exec_loadA 25 rfl gr rfl 25 _ 32 5 f_r1 Tryd.underlying25 (by rw [info_dig, HUR.out])) ?_)
                | (refine wp_run rfl (exec_loadR 31 rfl gq rfl 31 _ _ f_q1 Tryd.underlying31 rfl (by rw [info_sig]; rfl)) ?_))
              refine HV.out.mono ?_
              rintro e w9 ⟨rfl, b9⟩
              have bel9 := Below.trans f_bel1 (b9.mono (Below.size f_bel1))
              clear HV
              go_wp2_with fail
              go_ret
              rw [HGR.out] at *
              exact ⟨rfl, bel9⟩
            · skip
              have HV := Lib.hid (kverify_no1 r l _ ix A B c d 18 m v1 HR.out f_m1 (by omega) (fun h => absurd h hm) f_k1)
              have hme : ((m : Int) == 2) = false := beq_eq_false_iff_ne.2 (by omega)
              clear hm
              go_wp2_with (first
                | (refine wp_run rfl (exec_loadA 25 rfl gr rfl 25 _ 32 5 f_r1 Tryd.underlying25 (by rw [info_dig, HUR.out])) ?_)
                | (refine wp_run rfl (exec_loadR 31 rfl gq rfl 31 _ _ f_q1 Tryd.underlying31 rfl (by rw [info_sig]; rfl)) ?_))
              refine HV.out.mono ?_
              rintro e w9 ⟨rfl, b9⟩
              have bel9 := Below.trans f_bel1 (b9.mono (Below.size f_bel1))
              clear HV
              go_wp2_with fail
              go_ret
              rw [HGR.out] at *
              exact ⟨rfl, bel9⟩
          · skip
            by_cases hm : m = 2
            · subst hm
              have HV := Lib.hid (kverify_no2 r l _ ix A B c d n PP v1 HR.out f_m1 (by omega) (fun h => absurd h hn) hnl f_p1 f_k1)
              have hne : ((n : Int) == 18) = false := beq_eq_false_iff_ne.2 (by omega)
              clear hn
              go_wp2_with (first
                | (refine wp_run rfl (exec_loadA 25 rfl gr rfl 25 _ 32 5 f_r1 Tryd.underlying25 (by rw [info_dig, HUR.out])) ?_)
                | (refine wp_run rfl (exec_loadR 31 rfl gq rfl 31 _ _ f_q1 Tryd.underlying31 rfl (by rw [info_sig]; rfl)) ?_))
              refine HV.out.mono ?_
              rintro e w9 ⟨rfl, b9⟩
              have bel9 := Below.trans f_bel1 (b9.mono (Below.size f_bel1))
              clear HV
              go_wp2_with fail
              go_ret
              rw [HGR.out] at *
              exact ⟨rfl, bel9⟩
            · skip
              have HV := Lib.hid (kverify_no1 r l _ ix A B c d n m v1 HR.out f_m1 (by omega) (fun h => absurd h hm) f_k1)
              have hne : ((n : Int) == 18) = false := beq_eq_false_iff_ne.2 (by omega)
              have hme : ((m : Int) == 2) = false := beq_eq_false_iff_ne.2 (by omega)
              clear hn hm
              go_wp2_with (first
                | (refine wp_run rfl (exec_loadA 25 rfl gr rfl 25 _ 32 5 f_r1 Tryd.underlying25 (by rw [info_dig, HUR.out])) ?_)
                | (refine wp_run rfl (exec_loadR 31 rfl gq rfl 31 _ _ f_q1 Tryd.underlying31 rfl (by rw [info_sig]; rfl)) ?_))
              refine HV.out.mono ?_
              rintro e w9 ⟨rfl, b9⟩
              have bel9 := Below.trans f_bel1 (b9.mono (Below.size f_bel1))
              clear HV
              go_wp2_with fail
              go_ret
              rw [HGR.out] at *
              exact ⟨rfl, bel9⟩
      · skip
        go_wp2
        go_ret
        rw [HGR.out] at *
        exact ⟨rfl, f_bel1⟩
    · skip
      go_wp2
      go_ret
      rw [HGR.out] at *
      exact ⟨rfl, f_bel1⟩
  · skip
    go_wp2
    go_ret
    rw [HGR.out] at *
    exact ⟨rfl, f_bel1⟩
end Go.Proofs.YtccepoeenkpifaaDoor
