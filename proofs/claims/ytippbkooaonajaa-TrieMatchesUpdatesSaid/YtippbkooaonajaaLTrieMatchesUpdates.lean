/-
  TrieMatchesUpdates: the walk of the law.
-/
import Derived.Test.YtippbkooaonajaaTlF
import Derived.Test.YtippbkooaonajaaTfD
import Derived.Test.YtippbkooaonajaaOpR
namespace Go.Proofs.Ytippbkooaonajaa
open Go.RowKit Dg Tr
set_option linter.unusedVariables false
set_option linter.unusedSimpArgs false

theorem putN_le (F : List Int) (n : Nat) (s : Str) (v : Int) : putN F n s v ≤ 4096 := by
  by_cases h : putE F n s v = 0
  · obtain ⟨_, _, h1, _, h2⟩ := putE_zero h
    omega
  · unfold putN; rw [if_neg h]; omega
theorem drpN_le (F : List Int) (n : Nat) (s : Str) : drpN F n s ≤ 4096 := by
  unfold drpN
  by_cases h : chp F n s = 0
  · rw [if_pos h]; exact (chp_zero h).2.1
  · rw [if_neg h]; omega

set_option maxRecDepth 100000 in
set_option maxHeartbeats 4000000 in
theorem trieMatchesUpdates_walk (A : Option Addr) (n cap : Nat) (F : List Int) (s : Str) (v : Int) (w : World) (hv : Nds w w.heap.size n (.slice A n cap) F) (hp : s.length ≤ maxLen) (hvb : -9223372036854775808 ≤ v ∧ v ≤ 9223372036854775807) :
    Calls Try.prog 3 #[.agg #[.slice A n cap], str s, .int .i64 v] w fun e w' => e = .returned (.bool true) ∧ Below w.heap.size w w' := by
  obtain ⟨w0, hW0⟩ : ∃ W, W = w.alloc (.cells #[.slice A n cap] 24) := ⟨_, rfl⟩
  have b0 : Below w.heap.size w w0 := by rw [hW0]; exact (Below.refl _ _).alloc (Nat.le_refl _) _
  have t0 : TrV w0 w.heap.size A n cap F := ⟨by rw [hW0]; exact Blk.newAt _ _ [_] _ rfl, Row.past hv b0⟩
  have ct0 := t0.cell
  have HW := Lib.hid hW0
  have hsz := str_size s
  have hml : maxLen = 9223372036854775807 := rfl
  clear hv hW0
  unfold str
  go_enter Try.func3, Try.ntmps3
  go_upto_region 1 with (fail)
  rw [← HW.out]
  go_wp2_with fail
  have hC := sane_any w0
  refine hC.mono ?_
  rintro e w1 ⟨rfl, bx⟩
  have t1 := t0.go bx
  have ct1 := t1.cell
  have b1 := b0.trans (bx.mono b0.size)
  clear bx t0 ct0 b0 hC
  have hnm : n ≤ 9223372036854775807 := by
    obtain ⟨_, _, e, h1, h2, _⟩ := t1.nds
    injection e with _ _ e3
    simp only [maxLen] at h2; omega
  by_cases hbig : n ≤ 5000
  rotate_left
  · go_wp2_with fail
    have hC := rfew_any A n cap w1 (by omega)
    rw [decide_eq_false hbig] at hC
    refine hC.mono ?_
    rintro e w2 ⟨rfl, bx⟩
    have b2 := b1.trans (bx.mono b1.size)
    clear hC bx
    go_wp2_with fail
    go_ret
    exact ⟨rfl, b2⟩
  go_wp2_with fail
  have hC := rfew_any A n cap w1 (by omega)
  rw [decide_eq_true hbig] at hC
  refine hC.mono ?_
  rintro e w2 ⟨rfl, bx⟩
  have t2 := t1.go bx
  have ct2 := t2.cell
  have b2 := b1.trans (bx.mono b1.size)
  clear bx t1 ct1 b1 hC
  by_cases hbs : 100 < s.length
  · go_wp2_with fail
    go_ret
    exact ⟨rfl, b2⟩
  obtain ⟨pe, hpe⟩ : ∃ pe, putE F n s v = pe := ⟨_, rfl⟩
  have hpl := putN_le F n s v
  obtain ⟨pn, hpn⟩ : ∃ k, putN F n s v = k := ⟨_, rfl⟩
  obtain ⟨P, hP⟩ : ∃ G, putF F n s v = G := ⟨_, rfl⟩
  obtain ⟨de, hde⟩ : ∃ e, chp F n s = e := ⟨_, rfl⟩
  have hdl := drpN_le F n s
  obtain ⟨dn, hdn⟩ : ∃ k, drpN F n s = k := ⟨_, rfl⟩
  obtain ⟨D, hD⟩ : ∃ G, drpF F n s = G := ⟨_, rfl⟩
  obtain ⟨ck, hck⟩ : ∃ c, chk F n = c := ⟨_, rfl⟩
  rw [hpn] at hpl
  rw [hdn] at hdl
  have HP := Lib.hid (And.intro hpe (And.intro hpn hP))
  have HD := Lib.hid (And.intro hde (And.intro hdn hD))
  have HK := Lib.hid hck
  clear hpe hpn hP hde hdn hD hck
  go_wp2_with fail
  have hC := put_any A n cap F s v w2 t2.nds (by omega) (by omega)
  rw [HP.out.1, HP.out.2.1, HP.out.2.2] at hC
  unfold str at hC
  refine hC.mono ?_
  rintro e w3 ⟨⟨u3, rfl, o3⟩, bx⟩
  obtain ⟨Ap, cp, rfl⟩ := row_form o3.nds
  have t3 := t2.go bx
  have ct3 := t3.cell
  have b3 := b2.trans (bx.mono b2.size)
  clear bx t2 ct2 b2 hC
  go_wp2_with (first | (refine wp_storeA 24 (.tmp 7) (.tmp 30) rfl rfl w3.heap.size rfl 24 [.slice none 0 0] [.slice Ap pn cp] rfl (Blk.new _ _ _) (by rw [info_trie]; rfl) rfl (by intro v hv; simp at hv; subst hv; rfl) rfl ?_; intro w4 kx kkx; have bx : Below w3.heap.size w3 w4 := ((Below.refl _ _).alloc (Nat.le_refl _) _).trans (kkx.below (fun q hq => by omega) (by simp)); have a4 := TrV.laid o3 bx kx; have t4 := t3.go bx; have ct4 := t4.cell; have ca4 := a4.cell; have b4 := b3.trans (bx.mono b3.size); clear kkx bx kx o3 t3 ct3 b3))
  have hC := rput_any A n cap F s v w4 t4.nds (by omega) (by omega)
  rw [HP.out.1, HP.out.2.1, HP.out.2.2] at hC
  unfold str at hC
  refine hC.mono ?_
  rintro e w5 ⟨⟨u5, rfl, o5⟩, bx⟩
  obtain ⟨Aq, cq, rfl⟩ := row_form o5.nds
  have t5 := t4.go bx
  have ct5 := t5.cell
  have a5 := a4.go bx
  have ca5 := a5.cell
  have b5 := b4.trans (bx.mono b4.size)
  clear bx t4 a4 ct4 ca4 b4 hC
  go_wp2_with (first | (refine wp_storeA 24 (.tmp 9) (.tmp 37) rfl rfl w5.heap.size rfl 24 [.slice none 0 0] [.slice Aq pn cq] rfl (Blk.new _ _ _) (by rw [info_trie]; rfl) rfl (by intro v hv; simp at hv; subst hv; rfl) rfl ?_; intro w6 kx kkx; have bx : Below w5.heap.size w5 w6 := ((Below.refl _ _).alloc (Nat.le_refl _) _).trans (kkx.below (fun q hq => by omega) (by simp)); have q6 := TrV.laid o5 bx kx; have t6 := t5.go bx; have ct6 := t6.cell; have a6 := a5.go bx; have ca6 := a6.cell; have cq6 := q6.cell; have b6 := b5.trans (bx.mono b5.size); clear kkx bx kx o5 t5 a5 ct5 ca5 b5))
  have hC := drop_any A n cap F s w6 t6.nds (by omega) (by omega)
  rw [HD.out.1, HD.out.2.1, HD.out.2.2] at hC
  unfold str at hC
  refine hC.mono ?_
  rintro e w7 ⟨⟨u7, rfl, o7⟩, bx⟩
  obtain ⟨Ax, cx, rfl⟩ := row_form o7.nds
  have t7 := t6.go bx
  have ct7 := t7.cell
  have a7 := a6.go bx
  have ca7 := a7.cell
  have q7 := q6.go bx
  have cq7 := q7.cell
  have b7 := b6.trans (bx.mono b6.size)
  clear bx t6 a6 q6 ct6 ca6 cq6 b6 hC
  go_wp2_with (first | (refine wp_storeA 24 (.tmp 11) (.tmp 43) rfl rfl w7.heap.size rfl 24 [.slice none 0 0] [.slice Ax dn cx] rfl (Blk.new _ _ _) (by rw [info_trie]; rfl) rfl (by intro v hv; simp at hv; subst hv; rfl) rfl ?_; intro w8 kx kkx; have bx : Below w7.heap.size w7 w8 := ((Below.refl _ _).alloc (Nat.le_refl _) _).trans (kkx.below (fun q hq => by omega) (by simp)); have c8 := TrV.laid o7 bx kx; have t8 := t7.go bx; have ct8 := t8.cell; have a8 := a7.go bx; have ca8 := a8.cell; have q8 := q7.go bx; have cq8 := q8.cell; have cc8 := c8.cell; have b8 := b7.trans (bx.mono b7.size); clear kkx bx kx o7 t7 a7 q7 ct7 ca7 cq7 b7))
  have hC := rdrop_any A n cap F s w8 t8.nds (by omega) (by omega)
  rw [HD.out.1, HD.out.2.1, HD.out.2.2] at hC
  unfold str at hC
  refine hC.mono ?_
  rintro e w9 ⟨⟨u9, rfl, o9⟩, bx⟩
  obtain ⟨Ay, cy, rfl⟩ := row_form o9
  have t9 := t8.go bx
  have ct9 := t9.cell
  have a9 := a8.go bx
  have ca9 := a9.cell
  have q9 := q8.go bx
  have cq9 := q9.cell
  have c9 := c8.go bx
  have cc9 := c9.cell
  have b9 := b8.trans (bx.mono b8.size)
  clear bx t8 a8 q8 c8 ct8 ca8 cq8 cc8 b8 hC
  go_upto_region 9 with (first | (refine wp_storeA 24 (.tmp 13) (.tmp 49) rfl rfl w9.heap.size rfl 24 [.slice none 0 0] [.slice Ay dn cy] rfl (Blk.new _ _ _) (by rw [info_trie]; rfl) rfl (by intro v hv; simp at hv; subst hv; rfl) rfl ?_; intro w10 kx kkx; have bx : Below w9.heap.size w9 w10 := ((Below.refl _ _).alloc (Nat.le_refl _) _).trans (kkx.below (fun q hq => by omega) (by simp)); have d10 := TrV.laidN o9 bx kx; have t10 := t9.go bx; have ct10 := t10.cell; have a10 := a9.go bx; have ca10 := a10.cell; have q10 := q9.go bx; have cq10 := q10.cell; have c10 := c9.go bx; have cc10 := c10.cell; have cd10 := d10.cell; have b10 := b9.trans (bx.mono b9.size); clear kkx bx kx o9 t9 a9 q9 c9 ct9 ca9 cq9 cc9 b9))
  refine wp_region_pt w10.heap.size (.take 0 (.take 2 (.step 1 (.step 3 (.take 4 (.take 5 (.take 6 (.take 7 (.step 8 (.take 9 (.take 10 (.take 11 (.take 12 (.take 13 (.take 14 (.take 15 (.take 16 (.take 17 (.step 18 (.take 19 (.take 20 (.take 21 (.take 22 (.take 23 (.take 24 (.take 25 .done)))))))))))))))))))))))))) (by kernel_rfl) (by kernel_rfl) (by kernel_rfl) (fun _ _ h => h) ?_
  obtain ⟨w11, hdr⟩ : ∃ x, x = w10.drew := ⟨_, rfl⟩
  have bx : Below w10.heap.size w10 w11 := by rw [hdr]; exact (Below.refl _ _).drew
  have ltt : Hid ((⟨w.heap.size, 0, none⟩ : Addr).block < w10.heap.size) := Lib.hid t10.blk.lt
  have lta : Hid ((⟨w3.heap.size, 0, none⟩ : Addr).block < w10.heap.size) := Lib.hid a10.blk.lt
  have ltq : Hid ((⟨w5.heap.size, 0, none⟩ : Addr).block < w10.heap.size) := Lib.hid q10.blk.lt
  have ltc : Hid ((⟨w7.heap.size, 0, none⟩ : Addr).block < w10.heap.size) := Lib.hid c10.blk.lt
  have ltd : Hid ((⟨w9.heap.size, 0, none⟩ : Addr).block < w10.heap.size) := Lib.hid d10.blk.lt
  have hz : w10.heap.size ≤ w11.heap.size := bx.size
  rw [← hdr]
  clear hdr
  have t11 := t10.go bx
  have ct11 := t11.cell
  have a11 := a10.go bx
  have ca11 := a11.cell
  have q11 := q10.go bx
  have cq11 := q11.cell
  have c11 := c10.go bx
  have cc11 := c11.cell
  have d11 := d10.go bx
  have cd11 := d11.cell
  have b11 := b10.trans (bx.mono b10.size)
  clear bx t10 a10 q10 c10 d10 ct10 ca10 cq10 cc10 cd10 b10
  refine pt_take rfl rfl rfl rfl ?_
  apply Exists.intro
  refine ⟨fun w' hw' => ?_, ?_⟩
  · have hcell := (hw'.cell (p := ⟨w.heap.size, 0, none⟩) ltt.out).trans ct11
    focus ((repeat (first | go_skip | go_guarded | go_step | go_upon | go_back)); exact ⟨rfl, rfl, rfl⟩)
  refine pt_take rfl rfl rfl rfl ?_
  apply Exists.intro
  refine ⟨fun w' hw' => ?_, ?_⟩
  · have hcell := (hw'.cell (p := ⟨w.heap.size, 0, none⟩) ltt.out).trans ct11
    focus ((repeat (first | go_skip | go_guarded | go_step | go_upon | go_back)); exact ⟨rfl, rfl, rfl⟩)
  refine pt_step rfl ?_
  go_wp2_with fail
  have hC := check_any A n cap F w11 t11.nds (by omega)
  rw [HK.out] at hC
  refine hC.mono ?_
  rintro e w12 ⟨rfl, bx⟩
  have hstep := bx.mono hz
  have hz12 : w10.heap.size ≤ w12.heap.size := Nat.le_trans hz bx.size
  have t12 := t11.go bx
  have ct12 := t12.cell
  have a12 := a11.go bx
  have ca12 := a12.cell
  have q12 := q11.go bx
  have cq12 := q12.cell
  have c12 := c11.go bx
  have cc12 := c12.cell
  have d12 := d11.go bx
  have cd12 := d12.cell
  have b12 := b11.trans (bx.mono b11.size)
  clear bx t11 a11 q11 c11 d11 ct11 ca11 cq11 cc11 cd11 b11 hC hz
  have hz := hz12
  clear hz12
  go_wp2_with fail
  refine ⟨rfl, hstep, ?_⟩
  clear hstep
  refine pt_step rfl ?_
  go_wp2_with fail
  have hC := rcheck_any A n cap F w12 t12.nds (by omega)
  rw [HK.out] at hC
  refine hC.mono ?_
  rintro e w13 ⟨rfl, bx⟩
  have hstep := bx.mono hz
  have hz13 : w10.heap.size ≤ w13.heap.size := Nat.le_trans hz bx.size
  have t13 := t12.go bx
  have ct13 := t13.cell
  have a13 := a12.go bx
  have ca13 := a13.cell
  have q13 := q12.go bx
  have cq13 := q13.cell
  have c13 := c12.go bx
  have cc13 := c13.cell
  have d13 := d12.go bx
  have cd13 := d13.cell
  have b13 := b12.trans (bx.mono b12.size)
  clear bx t12 a12 q12 c12 d12 ct12 ca12 cq12 cc12 cd12 b12 hC hz
  have hz := hz13
  clear hz13
  go_wp2_with fail
  refine ⟨rfl, hstep, ?_⟩
  clear hstep
  first | refine pt_skip rfl rfl rfl rfl ?_ | (refine pt_take rfl rfl rfl rfl ?_; apply Exists.intro; refine ⟨fun w' hw' => ?_, ?_⟩; focus ((repeat (first | go_skip | go_guarded | go_step | go_upon | go_back)); exact ⟨rfl, rfl, rfl⟩))
  first | refine pt_skip rfl rfl rfl rfl ?_ | (refine pt_take rfl rfl rfl rfl ?_; apply Exists.intro; refine ⟨fun w' hw' => ?_, ?_⟩; focus ((repeat (first | go_skip | go_guarded | go_step | go_upon | go_back)); exact ⟨rfl, rfl, rfl⟩))
  refine pt_take rfl rfl rfl rfl ?_
  apply Exists.intro
  refine ⟨fun w' hw' => ?_, ?_⟩
  · have hcell := (hw'.cell (p := ⟨w3.heap.size, 0, none⟩) lta.out).trans ca13
    focus ((repeat (first | go_skip | go_guarded | go_step | go_upon | go_back)); exact ⟨rfl, rfl, rfl⟩)
  refine pt_take rfl rfl rfl rfl ?_
  apply Exists.intro
  refine ⟨fun w' hw' => ?_, ?_⟩
  · have hcell := (hw'.cell (p := ⟨w5.heap.size, 0, none⟩) ltq.out).trans cq13
    focus ((repeat (first | go_skip | go_guarded | go_step | go_upon | go_back)); exact ⟨rfl, rfl, rfl⟩)
  refine pt_step rfl ?_
  go_wp2_with fail
  have hC := same_any (.slice Ap pn cp) (.slice Aq pn cq) pn pn P P w13 a13.nds q13.nds (by omega) (by omega)
  rw [decide_eq_true (rfl : P = P)] at hC
  refine hC.mono ?_
  rintro e w14 ⟨rfl, bx⟩
  have hstep := bx.mono hz
  have hz14 : w10.heap.size ≤ w14.heap.size := Nat.le_trans hz bx.size
  have t14 := t13.go bx
  have ct14 := t14.cell
  have a14 := a13.go bx
  have ca14 := a14.cell
  have q14 := q13.go bx
  have cq14 := q14.cell
  have c14 := c13.go bx
  have cc14 := c14.cell
  have d14 := d13.go bx
  have cd14 := d14.cell
  have b14 := b13.trans (bx.mono b13.size)
  clear bx t13 a13 q13 c13 d13 ct13 ca13 cq13 cc13 cd13 b13 hC hz
  have hz := hz14
  clear hz14
  go_wp2_with fail
  refine ⟨rfl, hstep, ?_⟩
  clear hstep
  first | refine pt_skip rfl rfl rfl rfl ?_ | (refine pt_take rfl rfl rfl rfl ?_; apply Exists.intro; refine ⟨fun w' hw' => ?_, ?_⟩; focus ((repeat (first | go_skip | go_guarded | go_step | go_upon | go_back)); exact ⟨rfl, rfl, rfl⟩))
  first | refine pt_skip rfl rfl rfl rfl ?_ | (refine pt_take rfl rfl rfl rfl ?_; apply Exists.intro; refine ⟨fun w' hw' => ?_, ?_⟩; focus ((repeat (first | go_skip | go_guarded | go_step | go_upon | go_back)); exact ⟨rfl, rfl, rfl⟩))
  first | refine pt_skip rfl rfl rfl rfl ?_ | (refine pt_take rfl rfl rfl rfl ?_; apply Exists.intro; refine ⟨fun w' hw' => ?_, ?_⟩; focus ((repeat (first | go_skip | go_guarded | go_step | go_upon | go_back)); exact ⟨rfl, rfl, rfl⟩))
  first | refine pt_skip rfl rfl rfl rfl ?_ | (refine pt_take rfl rfl rfl rfl ?_; apply Exists.intro; refine ⟨fun w' hw' => ?_, ?_⟩; focus ((repeat (first | go_skip | go_guarded | go_step | go_upon | go_back)); exact ⟨rfl, rfl, rfl⟩))
  first | refine pt_skip rfl rfl rfl rfl ?_ | (refine pt_take rfl rfl rfl rfl ?_; apply Exists.intro; refine ⟨fun w' hw' => ?_, ?_⟩; focus ((repeat (first | go_skip | go_guarded | go_step | go_upon | go_back)); exact ⟨rfl, rfl, rfl⟩))
  first | refine pt_skip rfl rfl rfl rfl ?_ | (refine pt_take rfl rfl rfl rfl ?_; apply Exists.intro; refine ⟨fun w' hw' => ?_, ?_⟩; focus ((repeat (first | go_skip | go_guarded | go_step | go_upon | go_back)); exact ⟨rfl, rfl, rfl⟩))
  first | refine pt_skip rfl rfl rfl rfl ?_ | (refine pt_take rfl rfl rfl rfl ?_; apply Exists.intro; refine ⟨fun w' hw' => ?_, ?_⟩; focus ((repeat (first | go_skip | go_guarded | go_step | go_upon | go_back)); exact ⟨rfl, rfl, rfl⟩))
  refine pt_take rfl rfl rfl rfl ?_
  apply Exists.intro
  refine ⟨fun w' hw' => ?_, ?_⟩
  · have hcell := (hw'.cell (p := ⟨w7.heap.size, 0, none⟩) ltc.out).trans cc14
    focus ((repeat (first | go_skip | go_guarded | go_step | go_upon | go_back)); exact ⟨rfl, rfl, rfl⟩)
  refine pt_take rfl rfl rfl rfl ?_
  apply Exists.intro
  refine ⟨fun w' hw' => ?_, ?_⟩
  · have hcell := (hw'.cell (p := ⟨w9.heap.size, 0, none⟩) ltd.out).trans cd14
    focus ((repeat (first | go_skip | go_guarded | go_step | go_upon | go_back)); exact ⟨rfl, rfl, rfl⟩)
  refine pt_step rfl ?_
  go_wp2_with fail
  have hC := same_any (.slice Ax dn cx) (.slice Ay dn cy) dn dn D D w14 c14.nds d14.nds (by omega) (by omega)
  rw [decide_eq_true (rfl : D = D)] at hC
  refine hC.mono ?_
  rintro e w15 ⟨rfl, bx⟩
  have hstep := bx.mono hz
  have hz15 : w10.heap.size ≤ w15.heap.size := Nat.le_trans hz bx.size
  have t15 := t14.go bx
  have ct15 := t15.cell
  have a15 := a14.go bx
  have ca15 := a15.cell
  have q15 := q14.go bx
  have cq15 := q15.cell
  have c15 := c14.go bx
  have cc15 := c15.cell
  have d15 := d14.go bx
  have cd15 := d15.cell
  have b15 := b14.trans (bx.mono b14.size)
  clear bx t14 a14 q14 c14 d14 ct14 ca14 cq14 cc14 cd14 b14 hC hz
  have hz := hz15
  clear hz15
  go_wp2_with fail
  refine ⟨rfl, hstep, ?_⟩
  clear hstep
  first | refine pt_skip rfl rfl rfl rfl ?_ | (refine pt_take rfl rfl rfl rfl ?_; apply Exists.intro; refine ⟨fun w' hw' => ?_, ?_⟩; focus ((repeat (first | go_skip | go_guarded | go_step | go_upon | go_back)); exact ⟨rfl, rfl, rfl⟩))
  first | refine pt_skip rfl rfl rfl rfl ?_ | (refine pt_take rfl rfl rfl rfl ?_; apply Exists.intro; refine ⟨fun w' hw' => ?_, ?_⟩; focus ((repeat (first | go_skip | go_guarded | go_step | go_upon | go_back)); exact ⟨rfl, rfl, rfl⟩))
  first | refine pt_skip rfl rfl rfl rfl ?_ | (refine pt_take rfl rfl rfl rfl ?_; apply Exists.intro; refine ⟨fun w' hw' => ?_, ?_⟩; focus ((repeat (first | go_skip | go_guarded | go_step | go_upon | go_back)); exact ⟨rfl, rfl, rfl⟩))
  first | refine pt_skip rfl rfl rfl rfl ?_ | (refine pt_take rfl rfl rfl rfl ?_; apply Exists.intro; refine ⟨fun w' hw' => ?_, ?_⟩; focus ((repeat (first | go_skip | go_guarded | go_step | go_upon | go_back)); exact ⟨rfl, rfl, rfl⟩))
  first | refine pt_skip rfl rfl rfl rfl ?_ | (refine pt_take rfl rfl rfl rfl ?_; apply Exists.intro; refine ⟨fun w' hw' => ?_, ?_⟩; focus ((repeat (first | go_skip | go_guarded | go_step | go_upon | go_back)); exact ⟨rfl, rfl, rfl⟩))
  first | refine pt_skip rfl rfl rfl rfl ?_ | (refine pt_take rfl rfl rfl rfl ?_; apply Exists.intro; refine ⟨fun w' hw' => ?_, ?_⟩; focus ((repeat (first | go_skip | go_guarded | go_step | go_upon | go_back)); exact ⟨rfl, rfl, rfl⟩))
  first | refine pt_skip rfl rfl rfl rfl ?_ | (refine pt_take rfl rfl rfl rfl ?_; apply Exists.intro; refine ⟨fun w' hw' => ?_, ?_⟩; focus ((repeat (first | go_skip | go_guarded | go_step | go_upon | go_back)); exact ⟨rfl, rfl, rfl⟩))
  change Exit.then _ _ Exit.normal _ _
  go_wp2_with fail
  go_ret
  exact ⟨rfl, b15⟩
end Go.Proofs.Ytippbkooaonajaa
