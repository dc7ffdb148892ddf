/-
  The walk of the law HdlcResynchronizes.
-/
import Derived.Test.YtokjlcajcflhgaaHdL
namespace Go.Proofs.Ytokjlcajcflhgaa
open Go.RowKit
set_option linter.unusedVariables false
set_option linter.unusedSimpArgs false

theorem scan_ends (a x c : List UInt8) (ha : a.length ≤ 4096) (hc : c.length ≤ 4096) : ∃ X, scanP (frm a (fcsN a) ++ x ++ frm c (fcsN c)) = a :: (X ++ [c]) := by
  refine ⟨(cts [] (x ++ [126])).filterMap dcd, ?_⟩
  have e : frm a (fcsN a) ++ x ++ frm c (fcsN c) = 126 :: (stuff (a ++ tail2 (fcsN a)) ++ 126 :: (x ++ 126 :: (stuff (c ++ tail2 (fcsN c)) ++ 126 :: []))) := by simp [frm]
  unfold scanP
  rw [e]
  have e2 : ∀ m, cont (126 :: m) = cts [] m := fun m => by simp [cont]
  rw [e2, scan_frame a ha, cts_more x [] _, List.filterMap_append, scan_frame c hc]
  simp [cts]

theorem scan_v2 (v : Value) (b : List UInt8) (w : World) (hv : Bs w w.heap.size v b) (hl : b.length ≤ 1000000) :
    Calls Try.prog 12 #[v] w fun e w' => ∃ v', e = .returned (.tuple #[v', .int .i64 (lastF b)]) ∧ Lst w' w.heap.size v' (scanP b) ∧ Below w.heap.size w w' := by
  obtain ⟨A, cap, rfl⟩ := hv.form
  exact scan_any A cap b w hv hl

set_option maxRecDepth 100000 in
set_option maxHeartbeats 1600000 in
theorem hdlcResynchronizes_walk (va : Value) (a : List UInt8) (vx : Value) (x : List UInt8) (vc : Value) (c : List UInt8) (w : World) (ha : Bs w w.heap.size va a) (hx : Bs w w.heap.size vx x) (hc : Bs w w.heap.size vc c) :
    Calls Try.prog 9 #[va, vx, vc] w fun e w' => e = .returned (.bool true) ∧ Below w.heap.size w w' := by
  have HA := Lib.hid ha
  have HX := Lib.hid hx
  have HC := Lib.hid hc
  obtain ⟨Aa, ca, rfl⟩ := ha.form
  obtain ⟨Ax, cx, rfl⟩ := hx.form
  obtain ⟨Ac, cc, rfl⟩ := hc.form
  clear ha hx hc
  by_cases hla : a.length ≤ 500
  · by_cases hlx : x.length ≤ 500
    · by_cases hlc : c.length ≤ 500
      · obtain ⟨X, hS⟩ := scan_ends a x c (by omega) (by omega)
        obtain ⟨T, hT⟩ : ∃ T, T = frm a (fcsN a) ++ x ++ frm c (fcsN c) := ⟨_, rfl⟩
        have hTl : T.length ≤ 1000000 := by
          have h1 := frm_length a (fcsN a)
          have h2 := frm_length c (fcsN c)
          rw [hT, List.length_append, List.length_append]; omega
        have hf1 := frm_length a (fcsN a)
        have hf2 := frm_length c (fcsN c)
        rw [← hT] at hS
        obtain ⟨S, hSS⟩ : ∃ S, S = scanP T := ⟨_, rfl⟩
        rw [← hSS] at hS
        have hSl : S.length = X.length + 2 := by rw [hS]; simp
        have hS0 : S[0]? = some a := by rw [hS]; rfl
        have hS1 : S[X.length + 1]? = some c := by rw [hS]; simp
        obtain ⟨M, hM⟩ : ∃ M, M = X.length := ⟨_, rfl⟩
        rw [← hM] at hSl hS1
        have HT := Lib.hid hT
        have HSS := Lib.hid hSS
        have HS0 := Lib.hid hS0
        have HS1 := Lib.hid hS1
        have HSL := Lib.hid hSl
        obtain ⟨F, hF⟩ : ∃ F, F = frm a (fcsN a) := ⟨_, rfl⟩
        obtain ⟨G, hG⟩ : ∃ G, G = frm c (fcsN c) := ⟨_, rfl⟩
        rw [← hF] at hf1
        rw [← hG] at hf2
        have HF := Lib.hid hF
        have HG := Lib.hid hG
        clear hT hSS hS0 hS1 hSl hS hF hG hM
        go_enter Try.func9, Try.ntmps9
        go_wp2_with fail
        refine (sane_any _).mono ?_
        rintro e w1 ⟨rfl, b1⟩
        have a1 := HA.out.past b1
        have x1 := HX.out.past b1
        have c1 := HC.out.past b1
        go_wp2_with fail
        refine (encode_yes _ a _ a1 (by omega)).mono ?_
        rintro e w2 ⟨v2, rfl, o2, b2⟩
        rw [← HF.out] at o2
        have a2 := a1.past b2
        have x2 := x1.past b2
        have c2 := c1.past b2
        have hb2 := b1.trans (b2.mono b1.size)
        clear b1 b2 a1 x1 c1
        go_wp2_with fail
        refine (encode_yes _ c _ c2 (by omega)).mono ?_
        rintro e w3 ⟨v3, rfl, o3, b3⟩
        rw [← HG.out] at o3
        have a3 := a2.past b3
        have x3 := x2.past b3
        have c3 := c2.past b3
        have r3 := o2.past b3
        have hb3 := hb2.trans (b3.mono hb2.size)
        clear b3 a2 x2 c2 o2 hb2
        go_wp2_with fail
        refine (refCopy_any _ F _ r3.bs (by omega)).mono ?_
        rintro e w4 ⟨v4, rfl, o4, b4⟩
        have a4 := a3.carry b4 (Nat.le_refl _)
        have x4 := x3.carry b4 (Nat.le_refl _)
        have c4 := c3.carry b4 (Nat.le_refl _)
        have r4 := o3.bs.carry b4 (Nat.le_refl _)
        have hb4 := hb3.trans (b4.mono hb3.size)
        have e4 := b4.size
        have e3 := hb3.size
        clear b4 a3 x3 c3 o3 r3 hb3
        go_wp2_with (first
          | (refine wp_apps w3.heap.size (.tmp 47) (.tmp 48) rfl rfl v4 _ F x rfl rfl o4 e4 x4 (by omega) ?_
             intro v5 w5 o5 b5
             have e5 := Nat.le_trans e4 b5.size
             have r5 := r4.carry b5 (Nat.le_refl _))
          | (refine wp_apps w3.heap.size (.tmp 50) (.tmp 51) rfl rfl v5 _ (F ++ x) G rfl rfl o5 e5 r5 (by rw [List.length_append]; omega) ?_
             intro v6 w6 o6 b6))
        have a5 := a4.carry b5 (Nat.le_refl _)
        have c5 := c4.carry b5 (Nat.le_refl _)
        have hb5 := hb4.trans (b5.mono e3)
        clear b5 a4 x4 c4 r4 o4 hb4 e4
        have a6 := a5.carry b6 (Nat.le_refl _)
        have c6 := c5.carry b6 (Nat.le_refl _)
        have hb6 := hb5.trans (b6.mono e3)
        have e6 := Nat.le_trans e5 b6.size
        rw [HF.out, HG.out, ← HT.out] at o6
        clear b6 a5 c5 r5 o5 hb5 e5
        refine (scan_v2 _ T _ o6.bs hTl).mono ?_
        rintro e w7 ⟨v7, rfl, o7, b7⟩
        rw [← HSS.out] at o7
        have a7 := a6.carry (b7.mono e6) (Nat.le_refl _)
        have c7 := c6.carry (b7.mono e6) (Nat.le_refl _)
        have hb7 := hb6.trans (b7.mono hb6.size)
        clear a6 c6 o6 b7 hb6 e6
        have l7 := o7.ls
        obtain ⟨A7, c7', rfl⟩ := l7.form
        obtain ⟨vs0, A0, c0, hr0, hv0, hb0⟩ := l7.at_ HS0.out
        obtain ⟨vs1, A1, c1, hr1, hv1, hb1⟩ := l7.at_ HS1.out
        have t1 : decide ((2 : Int) ≤ (S.length : Int)) = true := by have := HSL.out; simp; omega
        have HI1 := Lib.hid (show (S.length : Int) - 1 = ((M + 1 : Nat) : Int) by have := HSL.out; omega)
        have hSb : S.length ≤ 1000000 := by
          rw [HSS.out]
          exact Nat.le_trans (Nat.le_trans (List.length_filterMap_le _ _) (cont_count T)) hTl
        have hS2 : 2 ≤ S.length := by have := HSL.out; omega
        clear o7 l7
        go_wp2_with (refine wp_atg 24 22 Try.underlying24 size_bs (.tmp 62) (.const (.int .i64 0)) rfl rfl rfl hr0 _ _ 0 _ rfl rfl hv0 ?_; intro p0 hp0 hcell0)
        refine (same_any _ _ a a _ _ _ hb0 a7).mono ?_
        rintro e w8 ⟨rfl, rfl⟩
        rw [show (a == a) = true by simp]
        clear hr0 hv0 hb0 a7 hcell0
        go_wp2_with (refine wp_atg 24 22 Try.underlying24 size_bs (.tmp 69) (.tmp 72) rfl rfl rfl hr1 _ _ (M + 1) _ rfl HI1.out hv1 ?_; intro p1 hp1 hcell1)
        refine (same_any _ _ c c _ _ _ hb1 c7).mono ?_
        rintro e w9 ⟨rfl, rfl⟩
        rw [show (c == c) = true by simp]
        clear hr1 hv1 hb1 c7 hcell1
        go_wp2_with fail
        go_ret
        exact ⟨rfl, hb7⟩
      · go_enter Try.func9, Try.ntmps9
        go_wp2_with fail
        refine (sane_any _).mono ?_
        rintro e w1 ⟨rfl, b1⟩
        go_wp2_with fail
        go_ret
        exact ⟨rfl, b1⟩
    · go_enter Try.func9, Try.ntmps9
      go_wp2_with fail
      refine (sane_any _).mono ?_
      rintro e w1 ⟨rfl, b1⟩
      go_wp2_with fail
      go_ret
      exact ⟨rfl, b1⟩
  · go_enter Try.func9, Try.ntmps9
    go_wp2_with fail
    refine (sane_any _).mono ?_
    rintro e w1 ⟨rfl, b1⟩
    go_wp2_with fail
    go_ret
    exact ⟨rfl, b1⟩

end Go.Proofs.Ytokjlcajcflhgaa
