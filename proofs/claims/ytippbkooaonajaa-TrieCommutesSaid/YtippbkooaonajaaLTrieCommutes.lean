/-
  TrieCommutes: the walk of the law.
-/
import Derived.Test.YtippbkooaonajaaTlF
import Derived.Test.YtippbkooaonajaaOpR
namespace Go.Proofs.Ytippbkooaonajaa
open Go.RowKit Dg Tr
set_option linter.unusedVariables false
set_option linter.unusedSimpArgs false

theorem entR_nil : entR [] 0 = [] := by
  unfold entR
  split
  · rename_i h
    obtain ⟨⟨⟨E, ht⟩, _⟩, _⟩ := chk_zero h
    exact absurd ht.pos (by omega)
  · rfl

/-- What the two orders come to. -/
structure Com (F : List Int) (n : Nat) (p : Str) (v : Int) (q : Str) (w : Int) (P : List Int) (np : Nat) (Q : List Int) (nq : Nat) (E : Int) (C : List Int) (nc : Nat) (D : List Int) (nd : Nat) (X : List Int) (L K : List (Str × Int)) : Prop where
  e : E = 0 ∨ E = 2
  e1 : putE P np q w = E
  e2 : putE Q nq p v = E
  f1 : putF P np q w = C
  f2 : putF Q nq p v = D
  n1 : putN P np q w = nc
  n2 : putN Q nq p v = nd
  l1 : entR C nc = L
  l2 : entR D nd = L
  g : chp P np p = 0
  x : drpF P np p = X
  nx : drpN P np p = np
  l3 : entR X np = K
  l4 : wout (entR F n) p = K
  le : n ≤ 4096 ∧ np ≤ n + 15 ∧ nq ≤ n + 15 ∧ nc ≤ np + 15 ∧ nd ≤ nq + 15

theorem com_of {F : List Int} {n : Nat} {p : Str} {v : Int} {q : Str} {w : Int} {P Q : List Int} {np nq : Nat} (hn : n ≤ 400) (hpq : p ≠ q) (e1 : putE F n p v = 0) (e2 : putE F n q w = 0) (hP : putF F n p v = P) (hQ : putF F n q w = Q) (hnp : putN F n p v = np) (hnq : putN F n q w = nq) :
    ∃ E C nc D nd X L K, Com F n p v q w P np Q nq E C nc D nd X L K := by
  obtain ⟨c1, v1, h1, g1, k1⟩ := putE_zero e1
  obtain ⟨c2, v2, h2, g2, k2⟩ := putE_zero e2
  obtain ⟨hOk, h4, l1, d1⟩ := chp_zero c1
  obtain ⟨_, _, l2, d2⟩ := chp_zero c2
  have p1 := put_put hOk d1 l1 v1
  have p2 := put_put hOk d2 l2 v2
  rw [← g1, ← k1, hP, hnp] at p1
  rw [← g2, ← k2, hQ, hnq] at p2
  have t1 : np = putn F n p := by rw [← hnp, k1]
  have t2 : nq = putn F n q := by rw [← hnq, k2]
  have r1 := putn_le hOk d1
  have r2 := putn_le hOk d2
  rw [← t1] at r1
  rw [← t2] at r2
  have hcm := putn_comm hOk p1 p2 d1 d2 t1 t2
  have p3 := put_put p1.ok d2 l2 v2
  have p4 := put_put p2.ok d1 l1 v1
  have r3 := putn_le p1.ok d2
  have r4 := putn_le p2.ok d1
  have hle : putn P np q ≤ 4096 := by omega
  have hle2 : putn Q nq p ≤ 4096 := by omega
  obtain ⟨a1, a2, a3⟩ := putE_ok p1.ok (by omega) l2 d2 v2 hle
  obtain ⟨b1, b2, b3⟩ := putE_ok p2.ok (by omega) l1 d1 v1 hle2
  have hdr := drp_drp p p1.ok
  have hcp := chp_ok p1.ok (by omega : np ≤ 4096) l1 d1
  refine ⟨0, _, _, _, _, drp P p, _, _, Or.inl rfl, a1, b1, a2, b2, a3, b3, entR_ok p3.ok hle, ?_, hcp, by unfold drpF; rw [if_pos hcp], by unfold drpN; rw [if_pos hcp], entR_ok hdr.ok (by omega), ?_, ⟨h4, by omega, by omega, by omega, by omega⟩⟩
  · rw [entR_ok p4.ok hle2]
    refine ents_eq p4.ok p3.ok fun x => ?_
    rw [p4.get, p3.get, p1.get, p2.get]
    by_cases hx : x = p
    · subst hx; rw [if_pos rfl, if_neg hpq, if_pos rfl]
    · rw [if_neg hx, if_neg hx]
  · rw [entR_ok hOk h4]
    exact (wout_drp hOk p1 hdr).symm

set_option maxRecDepth 100000 in
set_option maxHeartbeats 4000000 in
theorem trieCommutes_walk (A : Option Addr) (n cap : Nat) (F : List Int) (p : Str) (v : Int) (q : Str) (u : Int) (w : World) (hv : Nds w w.heap.size n (.slice A n cap) F) (hp : p.length ≤ maxLen) (hvb : -9223372036854775808 ≤ v ∧ v ≤ 9223372036854775807) (hq : q.length ≤ maxLen) (hub : -9223372036854775808 ≤ u ∧ u ≤ 9223372036854775807) :
    Calls Try.prog 9 #[.agg #[.slice A n cap], str p, .int .i64 v, str q, .int .i64 u] w fun e w' => e = .returned (.bool true) ∧ Below w.heap.size w w' := by
  obtain ⟨w0, hW0⟩ : ∃ W, W = w.alloc (.cells #[.slice A n cap] 24) := ⟨_, rfl⟩
  have b0 : Below w.heap.size w w0 := by rw [hW0]; exact (Below.refl _ _).alloc (Nat.le_refl _) _
  have t0 : TrV w0 w.heap.size A n cap F := ⟨by rw [hW0]; exact Blk.newAt _ _ [_] _ rfl, Row.past hv b0⟩
  have ct0 := t0.cell
  have HW := Lib.hid hW0
  have hsz := str_size p
  have hsz2 := str_size q
  have hml : maxLen = 9223372036854775807 := rfl
  have hbe : (p == q) = decide (p = q) := by rw [Bool.eq_iff_iff]; simp
  clear hv hW0
  unfold str
  go_enter Try.func9, Try.ntmps9
  go_upto_region 1 with (fail)
  rw [← HW.out]
  go_wp2_with fail
  have hC := sane_any w0
  refine hC.mono ?_
  rintro e w1 ⟨rfl, bx⟩
  have t1 := t0.go bx
  have ct1 := t1.cell
  have b1 := b0.trans (bx.mono b0.size)
  clear bx t0 ct0 b0 hC
  have hnm : n ≤ 9223372036854775807 := by
    obtain ⟨_, _, e, h1, h2, _⟩ := t1.nds
    injection e with _ _ e3
    simp only [maxLen] at h2; omega
  by_cases hbig : 400 < n
  · go_wp2_with fail
    go_ret
    exact ⟨rfl, b1⟩
  by_cases hbs : 40 < p.length
  · go_wp2_with fail
    go_ret
    exact ⟨rfl, b1⟩
  by_cases hbq : 40 < q.length
  · go_wp2_with fail
    go_ret
    exact ⟨rfl, b1⟩
  by_cases hpq : p = q
  · have HPQ := Lib.hid hpq
    rw [decide_eq_true hpq] at hbe
    clear hpq
    go_wp2_with fail
    go_ret
    exact ⟨rfl, b1⟩
  have HPQ := Lib.hid hpq
  rw [decide_eq_false hpq] at hbe
  clear hpq
  obtain ⟨pe, hpe⟩ : ∃ pe, putE F n p v = pe := ⟨_, rfl⟩
  obtain ⟨np, hnp⟩ : ∃ k, putN F n p v = k := ⟨_, rfl⟩
  obtain ⟨P, hP⟩ : ∃ G, putF F n p v = G := ⟨_, rfl⟩
  obtain ⟨qe, hqe⟩ : ∃ qe, putE F n q u = qe := ⟨_, rfl⟩
  obtain ⟨nq, hnq⟩ : ∃ k, putN F n q u = k := ⟨_, rfl⟩
  obtain ⟨Q, hQ⟩ : ∃ G, putF F n q u = G := ⟨_, rfl⟩
  have HP := Lib.hid (And.intro hpe (And.intro hnp hP))
  have HQ := Lib.hid (And.intro hqe (And.intro hnq hQ))
  clear hpe hnp hP hqe hnq hQ
  go_wp2_with fail
  have hC := put_any A n cap F p v w1 t1.nds (by omega) (by omega)
  rw [HP.out.1, HP.out.2.1, HP.out.2.2] at hC
  unfold str at hC
  refine hC.mono ?_
  rintro e w2 ⟨⟨u2, rfl, o2⟩, bx⟩
  obtain ⟨Ap, cp, rfl⟩ := row_form o2.nds
  have t2 := t1.go bx
  have ct2 := t2.cell
  have b2 := b1.trans (bx.mono b1.size)
  clear bx t1 ct1 b1 hC
  go_wp2_with (first | (refine wp_storeA 24 (.tmp 11) (.tmp 47) rfl rfl w2.heap.size rfl 24 [.slice none 0 0] [.slice Ap np cp] rfl (Blk.new _ _ _) (by rw [info_trie]; rfl) rfl (by intro v hv; simp at hv; subst hv; rfl) rfl ?_; intro w3 kx kkx; have bx : Below w2.heap.size w2 w3 := ((Below.refl _ _).alloc (Nat.le_refl _) _).trans (kkx.below (fun q hq => by omega) (by simp)); have a3 := TrV.laid o2 bx kx; have t3 := t2.go bx; have ct3 := t3.cell; have ca3 := a3.cell; have b3 := b2.trans (bx.mono b2.size); clear kkx bx kx o2 t2 ct2 b2))
  have hC := put_any A n cap F q u w3 t3.nds (by omega) (by omega)
  rw [HQ.out.1, HQ.out.2.1, HQ.out.2.2] at hC
  unfold str at hC
  refine hC.mono ?_
  rintro e w4 ⟨⟨u4, rfl, o4⟩, bx⟩
  obtain ⟨Aq, cq, rfl⟩ := row_form o4.nds
  have t4 := t3.go bx
  have ct4 := t4.cell
  have a4 := a3.go bx
  have ca4 := a4.cell
  have b4 := b3.trans (bx.mono b3.size)
  clear bx t3 a3 ct3 ca3 b3 hC
  have step : ∀ (R : Prop), (∀ hz0 : (pe == 0) = true, R) → (∀ hz0 : (pe == 0) = false, R) → R := fun R h1 h2 => by
    cases hc : (pe == 0)
    · exact h2 hc
    · exact h1 hc
  refine step _ (fun hz0 => ?_) (fun hz0 => ?_)
  rotate_left
  · have hz1 : (pe != 0) = true := by rw [bne, hz0]; rfl
    go_wp2_with (first | (refine wp_storeA 24 (.tmp 13) (.tmp 54) rfl rfl w4.heap.size rfl 24 [.slice none 0 0] [.slice Aq nq cq] rfl (Blk.new _ _ _) (by rw [info_trie]; rfl) rfl (by intro v hv; simp at hv; subst hv; rfl) rfl ?_; intro w5 kx kkx; have bx : Below w4.heap.size w4 w5 := ((Below.refl _ _).alloc (Nat.le_refl _) _).trans (kkx.below (fun q hq => by omega) (by simp)); have q5 := TrV.laid o4 bx kx; have t5 := t4.go bx; have ct5 := t5.cell; have a5 := a4.go bx; have ca5 := a5.cell; have cq5 := q5.cell; have b5 := b4.trans (bx.mono b4.size); clear kkx bx kx o4 t4 a4 ct4 ca4 b4))
    go_ret
    exact ⟨rfl, b5⟩
  have hz1 : (pe != 0) = false := by rw [bne, hz0]; rfl
  have step2 : ∀ (R : Prop), (∀ hy0 : (qe == 0) = true, R) → (∀ hy0 : (qe == 0) = false, R) → R := fun R h1 h2 => by
    cases hc : (qe == 0)
    · exact h2 hc
    · exact h1 hc
  refine step2 _ (fun hy0 => ?_) (fun hy0 => ?_)
  rotate_left
  · have hy1 : (qe != 0) = true := by rw [bne, hy0]; rfl
    go_wp2_with (first | (refine wp_storeA 24 (.tmp 13) (.tmp 54) rfl rfl w4.heap.size rfl 24 [.slice none 0 0] [.slice Aq nq cq] rfl (Blk.new _ _ _) (by rw [info_trie]; rfl) rfl (by intro v hv; simp at hv; subst hv; rfl) rfl ?_; intro w5 kx kkx; have bx : Below w4.heap.size w4 w5 := ((Below.refl _ _).alloc (Nat.le_refl _) _).trans (kkx.below (fun q hq => by omega) (by simp)); have q5 := TrV.laid o4 bx kx; have t5 := t4.go bx; have ct5 := t5.cell; have a5 := a4.go bx; have ca5 := a5.cell; have cq5 := q5.cell; have b5 := b4.trans (bx.mono b4.size); clear kkx bx kx o4 t4 a4 ct4 ca4 b4))
    go_ret
    exact ⟨rfl, b5⟩
  have hy1 : (qe != 0) = false := by rw [bne, hy0]; rfl
  obtain ⟨E, C, nc, D, nd, X, L, K, hcom⟩ := com_of (by omega) HPQ.out (HP.out.1.trans (eq_of_beq hz0)) (HQ.out.1.trans (eq_of_beq hy0)) HP.out.2.2 HQ.out.2.2 HP.out.2.1 HQ.out.2.1
  have HC := Lib.hid hcom
  obtain ⟨hl0, hl1, hl2, hl3, hl4⟩ := hcom.le
  have hE := hcom.e
  have hLl : L.length ≤ 4096 := by rw [← hcom.l1]; exact entR_len C nc
  have hKl : K.length ≤ 4096 := by rw [← hcom.l3]; exact entR_len X np
  have hTl := entR_len F n
  clear hcom step step2
  rcases hE with rfl | rfl
  · go_wp2_with (first | (refine wp_storeA 24 (.tmp 13) (.tmp 54) rfl rfl w4.heap.size rfl 24 [.slice none 0 0] [.slice Aq nq cq] rfl (Blk.new _ _ _) (by rw [info_trie]; rfl) rfl (by intro v hv; simp at hv; subst hv; rfl) rfl ?_; intro w5 kx kkx; have bx : Below w4.heap.size w4 w5 := ((Below.refl _ _).alloc (Nat.le_refl _) _).trans (kkx.below (fun q hq => by omega) (by simp)); have q5 := TrV.laid o4 bx kx; have t5 := t4.go bx; have ct5 := t5.cell; have a5 := a4.go bx; have ca5 := a5.cell; have cq5 := q5.cell; have b5 := b4.trans (bx.mono b4.size); clear kkx bx kx o4 t4 a4 ct4 ca4 b4))
    have hC := put_any Ap np cp P q u w5 a5.nds (by omega) (by omega)
    rw [HC.out.e1, HC.out.n1, HC.out.f1] at hC
    unfold str at hC
    refine hC.mono ?_
    rintro e w6 ⟨⟨u6, rfl, o6⟩, bx⟩
    obtain ⟨Ac, cc, rfl⟩ := row_form o6.nds
    have t6 := t5.go bx
    have ct6 := t6.cell
    have a6 := a5.go bx
    have ca6 := a6.cell
    have q6 := q5.go bx
    have cq6 := q6.cell
    have b6 := b5.trans (bx.mono b5.size)
    clear bx t5 a5 q5 ct5 ca5 cq5 b5 hC
    go_wp2_with (first | (refine wp_storeA 24 (.tmp 15) (.tmp 67) rfl rfl w6.heap.size rfl 24 [.slice none 0 0] [.slice Ac nc cc] rfl (Blk.new _ _ _) (by rw [info_trie]; rfl) rfl (by intro v hv; simp at hv; subst hv; rfl) rfl ?_; intro w7 kx kkx; have bx : Below w6.heap.size w6 w7 := ((Below.refl _ _).alloc (Nat.le_refl _) _).trans (kkx.below (fun q hq => by omega) (by simp)); have c7 := TrV.laid o6 bx kx; have t7 := t6.go bx; have ct7 := t7.cell; have a7 := a6.go bx; have ca7 := a7.cell; have q7 := q6.go bx; have cq7 := q7.cell; have cc7 := c7.cell; have b7 := b6.trans (bx.mono b6.size); clear kkx bx kx o6 t6 a6 q6 ct6 ca6 cq6 b6))
    have hC := put_any Aq nq cq Q p v w7 q7.nds (by omega) (by omega)
    rw [HC.out.e2, HC.out.n2, HC.out.f2] at hC
    unfold str at hC
    refine hC.mono ?_
    rintro e w8 ⟨⟨u8, rfl, o8⟩, bx⟩
    obtain ⟨Ad, cd, rfl⟩ := row_form o8.nds
    have t8 := t7.go bx
    have ct8 := t8.cell
    have a8 := a7.go bx
    have ca8 := a8.cell
    have c8 := c7.go bx
    have cc8 := c8.cell
    have b8 := b7.trans (bx.mono b7.size)
    clear bx t7 a7 q7 c7 ct7 ca7 cq7 cc7 b7 hC
    go_wp2_with (first | (refine wp_storeA 24 (.tmp 17) (.tmp 74) rfl rfl w8.heap.size rfl 24 [.slice none 0 0] [.slice Ad nd cd] rfl (Blk.new _ _ _) (by rw [info_trie]; rfl) rfl (by intro v hv; simp at hv; subst hv; rfl) rfl ?_; intro w9 kx kkx; have bx : Below w8.heap.size w8 w9 := ((Below.refl _ _).alloc (Nat.le_refl _) _).trans (kkx.below (fun q hq => by omega) (by simp)); have d9 := TrV.laid o8 bx kx; have t9 := t8.go bx; have ct9 := t9.cell; have a9 := a8.go bx; have ca9 := a9.cell; have c9 := c8.go bx; have cc9 := c9.cell; have cd9 := d9.cell; have b9 := b8.trans (bx.mono b8.size); clear kkx bx kx o8 t8 a8 c8 ct8 ca8 cc8 b8))
    have hC := drop_any Ap np cp P p w9 a9.nds (by omega) (by omega)
    rw [HC.out.g, HC.out.x, HC.out.nx] at hC
    unfold str at hC
    refine hC.mono ?_
    rintro e w10 ⟨⟨u10, rfl, o10⟩, bx⟩
    obtain ⟨Ax, cx, rfl⟩ := row_form o10.nds
    have t10 := t9.go bx
    have ct10 := t10.cell
    have c10 := c9.go bx
    have cc10 := c10.cell
    have d10 := d9.go bx
    have cd10 := d10.cell
    have b10 := b9.trans (bx.mono b9.size)
    clear bx t9 a9 c9 d9 ct9 ca9 cc9 cd9 b9 hC
    go_upto_region 12 with (first | (refine wp_storeA 24 (.tmp 19) (.tmp 80) rfl rfl w10.heap.size rfl 24 [.slice none 0 0] [.slice Ax np cx] rfl (Blk.new _ _ _) (by rw [info_trie]; rfl) rfl (by intro v hv; simp at hv; subst hv; rfl) rfl ?_; intro w11 kx kkx; have bx : Below w10.heap.size w10 w11 := ((Below.refl _ _).alloc (Nat.le_refl _) _).trans (kkx.below (fun q hq => by omega) (by simp)); have x11 := TrV.laid o10 bx kx; have t11 := t10.go bx; have ct11 := t11.cell; have c11 := c10.go bx; have cc11 := c11.cell; have d11 := d10.go bx; have cd11 := d11.cell; have cx11 := x11.cell; have b11 := b10.trans (bx.mono b10.size); clear kkx bx kx o10 t10 c10 d10 ct10 cc10 cd10 b10))
    go_upto_region 14 with (fail)
    refine wp_region_pt w11.heap.size (.take 0 (.take 2 (.step 1 (.step 3 (.step 4 (.take 5 (.take 6 (.take 8 (.take 10 (.step 7 (.step 9 (.step 11 (.step 12 (.take 13 (.take 14 .done))))))))))))))) (by kernel_rfl) (by kernel_rfl) (by kernel_rfl) (fun _ _ h => h) ?_
    obtain ⟨w12, hdr⟩ : ∃ x, x = w11.drew := ⟨_, rfl⟩
    have bx : Below w11.heap.size w11 w12 := by rw [hdr]; exact (Below.refl _ _).drew
    have ltt : Hid ((⟨w.heap.size, 0, none⟩ : Addr).block < w11.heap.size) := Lib.hid t11.blk.lt
    have ltc : Hid ((⟨w6.heap.size, 0, none⟩ : Addr).block < w11.heap.size) := Lib.hid c11.blk.lt
    have ltd : Hid ((⟨w8.heap.size, 0, none⟩ : Addr).block < w11.heap.size) := Lib.hid d11.blk.lt
    have ltx : Hid ((⟨w10.heap.size, 0, none⟩ : Addr).block < w11.heap.size) := Lib.hid x11.blk.lt
    have hz : w11.heap.size ≤ w12.heap.size := bx.size
    rw [← hdr]
    clear hdr
    have t12 := t11.go bx
    have ct12 := t12.cell
    have c12 := c11.go bx
    have cc12 := c12.cell
    have d12 := d11.go bx
    have cd12 := d12.cell
    have x12 := x11.go bx
    have cx12 := x12.cell
    have b12 := b11.trans (bx.mono b11.size)
    clear bx t11 c11 d11 x11 ct11 cc11 cd11 cx11 b11
    refine pt_take rfl rfl rfl rfl ?_
    apply Exists.intro
    refine ⟨fun w' hw' => ?_, ?_⟩
    · have hcell := (hw'.cell (p := ⟨w6.heap.size, 0, none⟩) ltc.out).trans cc12
      focus ((repeat (first | go_skip | go_guarded | go_step | go_upon | go_back)); exact ⟨rfl, rfl, rfl⟩)
    refine pt_take rfl rfl rfl rfl ?_
    apply Exists.intro
    refine ⟨fun w' hw' => ?_, ?_⟩
    · have hcell := (hw'.cell (p := ⟨w8.heap.size, 0, none⟩) ltd.out).trans cd12
      focus ((repeat (first | go_skip | go_guarded | go_step | go_upon | go_back)); exact ⟨rfl, rfl, rfl⟩)
    refine pt_step rfl ?_
    go_wp2_with fail
    have hC := entries_any Ac nc cc C w12 c12.nds (by omega)
    rw [HC.out.l1] at hC
    refine hC.mono ?_
    rintro e w13 ⟨⟨u13, rfl, o13⟩, bx⟩
    obtain ⟨A13, k13, rfl⟩ := own_form o13
    have pc13 := o13.pl
    have hstep := bx.mono hz
    have hz13 : w11.heap.size ≤ w13.heap.size := Nat.le_trans hz bx.size
    have t13 := t12.go bx
    have ct13 := t13.cell
    have c13 := c12.go bx
    have cc13 := c13.cell
    have d13 := d12.go bx
    have cd13 := d13.cell
    have x13 := x12.go bx
    have cx13 := x13.cell
    have b13 := b12.trans (bx.mono b12.size)
    clear bx t12 c12 d12 x12 ct12 cc12 cd12 cx12 b12 hC hz
    have hz := hz13
    clear hz13
    clear o13
    go_wp2_with fail
    refine ⟨rfl, hstep, ?_⟩
    clear hstep
    refine pt_step rfl ?_
    go_wp2_with fail
    have hC := entries_any Ad nd cd D w13 d13.nds (by omega)
    rw [HC.out.l2] at hC
    refine hC.mono ?_
    rintro e w14 ⟨⟨u14, rfl, o14⟩, bx⟩
    obtain ⟨A14, k14, rfl⟩ := own_form o14
    have pd14 := o14.pl
    have hstep := bx.mono hz
    have hz14 : w11.heap.size ≤ w14.heap.size := Nat.le_trans hz bx.size
    have t14 := t13.go bx
    have ct14 := t14.cell
    have c14 := c13.go bx
    have cc14 := c14.cell
    have d14 := d13.go bx
    have cd14 := d14.cell
    have x14 := x13.go bx
    have cx14 := x14.cell
    have pc14 := Row.past pc13 bx
    have b14 := b13.trans (bx.mono b13.size)
    clear bx t13 c13 d13 x13 ct13 cc13 cd13 cx13 pc13 b13 hC hz
    have hz := hz14
    clear hz14
    clear o14
    go_wp2_with fail
    refine ⟨rfl, hstep, ?_⟩
    clear hstep
    refine pt_step rfl ?_
    go_wp2_with fail
    have hC := sameEntries_any (.slice A13 L.length k13) (.slice A14 L.length k14) L L w14 pc14 pd14 (by omega) (by omega)
    rw [decide_eq_true (rfl : L = L)] at hC
    refine hC.mono ?_
    rintro e w15 ⟨rfl, bx⟩
    have hstep := bx.mono hz
    have hz15 : w11.heap.size ≤ w15.heap.size := Nat.le_trans hz bx.size
    have t15 := t14.go bx
    have ct15 := t15.cell
    have x15 := x14.go bx
    have cx15 := x15.cell
    have b15 := b14.trans (bx.mono b14.size)
    clear bx t14 c14 d14 x14 ct14 cc14 cd14 cx14 pc14 pd14 b14 hC hz
    have hz := hz15
    clear hz15
    go_wp2_with fail
    refine ⟨rfl, hstep, ?_⟩
    clear hstep
    first | refine pt_skip rfl rfl rfl rfl ?_ | (refine pt_take rfl rfl rfl rfl ?_; apply Exists.intro; refine ⟨fun w' hw' => ?_, ?_⟩; focus ((repeat (first | go_skip | go_guarded | go_step | go_upon | go_back)); exact ⟨rfl, rfl, rfl⟩))
    refine pt_take rfl rfl rfl rfl ?_
    apply Exists.intro
    refine ⟨fun w' hw' => ?_, ?_⟩
    · have hcell := (hw'.cell (p := ⟨w10.heap.size, 0, none⟩) ltx.out).trans cx15
      focus ((repeat (first | go_skip | go_guarded | go_step | go_upon | go_back)); exact ⟨rfl, rfl, rfl⟩)
    refine pt_take rfl rfl rfl rfl ?_
    apply Exists.intro
    refine ⟨fun w' hw' => ?_, ?_⟩
    · have hcell := (hw'.cell (p := ⟨w.heap.size, 0, none⟩) ltt.out).trans ct15
      focus ((repeat (first | go_skip | go_guarded | go_step | go_upon | go_back)); exact ⟨rfl, rfl, rfl⟩)
    first | refine pt_skip rfl rfl rfl rfl ?_ | (refine pt_take rfl rfl rfl rfl ?_; apply Exists.intro; refine ⟨fun w' hw' => ?_, ?_⟩; focus ((repeat (first | go_skip | go_guarded | go_step | go_upon | go_back)); exact ⟨rfl, rfl, rfl⟩))
    refine pt_step rfl ?_
    go_wp2_with fail
    have hC := entries_any Ax np cx X w15 x15.nds (by omega)
    rw [HC.out.l3] at hC
    refine hC.mono ?_
    rintro e w16 ⟨⟨u16, rfl, o16⟩, bx⟩
    obtain ⟨A16, k16, rfl⟩ := own_form o16
    have px16 := o16.pl
    have hstep := bx.mono hz
    have hz16 : w11.heap.size ≤ w16.heap.size := Nat.le_trans hz bx.size
    have t16 := t15.go bx
    have ct16 := t16.cell
    have x16 := x15.go bx
    have cx16 := x16.cell
    have b16 := b15.trans (bx.mono b15.size)
    clear bx t15 x15 ct15 cx15 b15 hC hz
    have hz := hz16
    clear hz16
    clear o16
    go_wp2_with fail
    refine ⟨rfl, hstep, ?_⟩
    clear hstep
    refine pt_step rfl ?_
    go_wp2_with fail
    have hC := entries_any A n cap F w16 t16.nds (by omega)
    refine hC.mono ?_
    rintro e w17 ⟨⟨u17, rfl, o17⟩, bx⟩
    obtain ⟨A17, k17, rfl⟩ := own_form o17
    have pt17 := o17.pl
    have hstep := bx.mono hz
    have hz17 : w11.heap.size ≤ w17.heap.size := Nat.le_trans hz bx.size
    have t17 := t16.go bx
    have ct17 := t17.cell
    have x17 := x16.go bx
    have cx17 := x17.cell
    have px17 := Row.past px16 bx
    have b17 := b16.trans (bx.mono b16.size)
    clear bx t16 x16 ct16 cx16 px16 b16 hC hz
    have hz := hz17
    clear hz17
    clear o17
    go_wp2_with fail
    refine ⟨rfl, hstep, ?_⟩
    clear hstep
    refine pt_step rfl ?_
    go_wp2_with fail
    have hC := without_any (.slice A17 (entR F n).length k17) (entR F n) p w17 pt17 (by omega) (by omega)
    rw [HC.out.l4] at hC
    unfold str at hC
    refine hC.mono ?_
    rintro e w18 ⟨⟨u18, rfl, o18⟩, bx⟩
    obtain ⟨A18, k18, rfl⟩ := own_form o18
    have pk18 := o18.pl
    have hstep := bx.mono hz
    have hz18 : w11.heap.size ≤ w18.heap.size := Nat.le_trans hz bx.size
    have t18 := t17.go bx
    have ct18 := t18.cell
    have x18 := x17.go bx
    have cx18 := x18.cell
    have px18 := Row.past px17 bx
    have pt18 := Row.past pt17 bx
    have b18 := b17.trans (bx.mono b17.size)
    clear bx t17 x17 ct17 cx17 px17 pt17 b17 hC hz
    have hz := hz18
    clear hz18
    clear o18
    go_wp2_with fail
    refine ⟨rfl, hstep, ?_⟩
    clear hstep
    refine pt_step rfl ?_
    go_wp2_with fail
    have hC := sameEntries_any (.slice A16 K.length k16) (.slice A18 K.length k18) K K w18 px18 pk18 (by omega) (by omega)
    rw [decide_eq_true (rfl : K = K)] at hC
    refine hC.mono ?_
    rintro e w19 ⟨rfl, bx⟩
    have hstep := bx.mono hz
    have hz19 : w11.heap.size ≤ w19.heap.size := Nat.le_trans hz bx.size
    have t19 := t18.go bx
    have ct19 := t19.cell
    have x19 := x18.go bx
    have cx19 := x19.cell
    have px19 := Row.past px18 bx
    have pt19 := Row.past pt18 bx
    have pk19 := Row.past pk18 bx
    have b19 := b18.trans (bx.mono b18.size)
    clear bx t18 x18 ct18 cx18 px18 pt18 pk18 b18 hC hz
    have hz := hz19
    clear hz19
    go_wp2_with fail
    refine ⟨rfl, hstep, ?_⟩
    clear hstep
    first | refine pt_skip rfl rfl rfl rfl ?_ | (refine pt_take rfl rfl rfl rfl ?_; apply Exists.intro; refine ⟨fun w' hw' => ?_, ?_⟩; focus ((repeat (first | go_skip | go_guarded | go_step | go_upon | go_back)); exact ⟨rfl, rfl, rfl⟩))
    first | refine pt_skip rfl rfl rfl rfl ?_ | (refine pt_take rfl rfl rfl rfl ?_; apply Exists.intro; refine ⟨fun w' hw' => ?_, ?_⟩; focus ((repeat (first | go_skip | go_guarded | go_step | go_upon | go_back)); exact ⟨rfl, rfl, rfl⟩))
    change Exit.then _ _ Exit.normal _ _
    go_wp2_with fail
    go_ret
    exact ⟨rfl, b19⟩
  · go_wp2_with (first | (refine wp_storeA 24 (.tmp 13) (.tmp 54) rfl rfl w4.heap.size rfl 24 [.slice none 0 0] [.slice Aq nq cq] rfl (Blk.new _ _ _) (by rw [info_trie]; rfl) rfl (by intro v hv; simp at hv; subst hv; rfl) rfl ?_; intro w5 kx kkx; have bx : Below w4.heap.size w4 w5 := ((Below.refl _ _).alloc (Nat.le_refl _) _).trans (kkx.below (fun q hq => by omega) (by simp)); have q5 := TrV.laid o4 bx kx; have t5 := t4.go bx; have ct5 := t5.cell; have a5 := a4.go bx; have ca5 := a5.cell; have cq5 := q5.cell; have b5 := b4.trans (bx.mono b4.size); clear kkx bx kx o4 t4 a4 ct4 ca4 b4))
    have hC := put_any Ap np cp P q u w5 a5.nds (by omega) (by omega)
    rw [HC.out.e1, HC.out.n1, HC.out.f1] at hC
    unfold str at hC
    refine hC.mono ?_
    rintro e w6 ⟨⟨u6, rfl, o6⟩, bx⟩
    obtain ⟨Ac, cc, rfl⟩ := row_form o6.nds
    have t6 := t5.go bx
    have ct6 := t6.cell
    have a6 := a5.go bx
    have ca6 := a6.cell
    have q6 := q5.go bx
    have cq6 := q6.cell
    have b6 := b5.trans (bx.mono b5.size)
    clear bx t5 a5 q5 ct5 ca5 cq5 b5 hC
    go_wp2_with (first | (refine wp_storeA 24 (.tmp 15) (.tmp 67) rfl rfl w6.heap.size rfl 24 [.slice none 0 0] [.slice Ac nc cc] rfl (Blk.new _ _ _) (by rw [info_trie]; rfl) rfl (by intro v hv; simp at hv; subst hv; rfl) rfl ?_; intro w7 kx kkx; have bx : Below w6.heap.size w6 w7 := ((Below.refl _ _).alloc (Nat.le_refl _) _).trans (kkx.below (fun q hq => by omega) (by simp)); have c7 := TrV.laid o6 bx kx; have t7 := t6.go bx; have ct7 := t7.cell; have a7 := a6.go bx; have ca7 := a7.cell; have q7 := q6.go bx; have cq7 := q7.cell; have cc7 := c7.cell; have b7 := b6.trans (bx.mono b6.size); clear kkx bx kx o6 t6 a6 q6 ct6 ca6 cq6 b6))
    have hC := put_any Aq nq cq Q p v w7 q7.nds (by omega) (by omega)
    rw [HC.out.e2, HC.out.n2, HC.out.f2] at hC
    unfold str at hC
    refine hC.mono ?_
    rintro e w8 ⟨⟨u8, rfl, o8⟩, bx⟩
    obtain ⟨Ad, cd, rfl⟩ := row_form o8.nds
    have t8 := t7.go bx
    have ct8 := t8.cell
    have a8 := a7.go bx
    have ca8 := a8.cell
    have c8 := c7.go bx
    have cc8 := c8.cell
    have b8 := b7.trans (bx.mono b7.size)
    clear bx t7 a7 q7 c7 ct7 ca7 cq7 cc7 b7 hC
    go_wp2_with (first | (refine wp_storeA 24 (.tmp 17) (.tmp 74) rfl rfl w8.heap.size rfl 24 [.slice none 0 0] [.slice Ad nd cd] rfl (Blk.new _ _ _) (by rw [info_trie]; rfl) rfl (by intro v hv; simp at hv; subst hv; rfl) rfl ?_; intro w9 kx kkx; have bx : Below w8.heap.size w8 w9 := ((Below.refl _ _).alloc (Nat.le_refl _) _).trans (kkx.below (fun q hq => by omega) (by simp)); have d9 := TrV.laid o8 bx kx; have t9 := t8.go bx; have ct9 := t9.cell; have a9 := a8.go bx; have ca9 := a9.cell; have c9 := c8.go bx; have cc9 := c9.cell; have cd9 := d9.cell; have b9 := b8.trans (bx.mono b8.size); clear kkx bx kx o8 t8 a8 c8 ct8 ca8 cc8 b8))
    have hC := drop_any Ap np cp P p w9 a9.nds (by omega) (by omega)
    rw [HC.out.g, HC.out.x, HC.out.nx] at hC
    unfold str at hC
    refine hC.mono ?_
    rintro e w10 ⟨⟨u10, rfl, o10⟩, bx⟩
    obtain ⟨Ax, cx, rfl⟩ := row_form o10.nds
    have t10 := t9.go bx
    have ct10 := t10.cell
    have c10 := c9.go bx
    have cc10 := c10.cell
    have d10 := d9.go bx
    have cd10 := d10.cell
    have b10 := b9.trans (bx.mono b9.size)
    clear bx t9 a9 c9 d9 ct9 ca9 cc9 cd9 b9 hC
    go_upto_region 12 with (first | (refine wp_storeA 24 (.tmp 19) (.tmp 80) rfl rfl w10.heap.size rfl 24 [.slice none 0 0] [.slice Ax np cx] rfl (Blk.new _ _ _) (by rw [info_trie]; rfl) rfl (by intro v hv; simp at hv; subst hv; rfl) rfl ?_; intro w11 kx kkx; have bx : Below w10.heap.size w10 w11 := ((Below.refl _ _).alloc (Nat.le_refl _) _).trans (kkx.below (fun q hq => by omega) (by simp)); have x11 := TrV.laid o10 bx kx; have t11 := t10.go bx; have ct11 := t11.cell; have c11 := c10.go bx; have cc11 := c11.cell; have d11 := d10.go bx; have cd11 := d11.cell; have cx11 := x11.cell; have b11 := b10.trans (bx.mono b10.size); clear kkx bx kx o10 t10 c10 d10 ct10 cc10 cd10 b10))
    go_upto_region 14 with (fail)
    refine wp_region_pt w11.heap.size (.take 0 (.take 2 (.step 1 (.step 3 (.step 4 (.take 5 (.take 6 (.take 8 (.take 10 (.step 7 (.step 9 (.step 11 (.step 12 (.take 13 (.take 14 .done))))))))))))))) (by kernel_rfl) (by kernel_rfl) (by kernel_rfl) (fun _ _ h => h) ?_
    obtain ⟨w12, hdr⟩ : ∃ x, x = w11.drew := ⟨_, rfl⟩
    have bx : Below w11.heap.size w11 w12 := by rw [hdr]; exact (Below.refl _ _).drew
    have ltt : Hid ((⟨w.heap.size, 0, none⟩ : Addr).block < w11.heap.size) := Lib.hid t11.blk.lt
    have ltc : Hid ((⟨w6.heap.size, 0, none⟩ : Addr).block < w11.heap.size) := Lib.hid c11.blk.lt
    have ltd : Hid ((⟨w8.heap.size, 0, none⟩ : Addr).block < w11.heap.size) := Lib.hid d11.blk.lt
    have ltx : Hid ((⟨w10.heap.size, 0, none⟩ : Addr).block < w11.heap.size) := Lib.hid x11.blk.lt
    have hz : w11.heap.size ≤ w12.heap.size := bx.size
    rw [← hdr]
    clear hdr
    have t12 := t11.go bx
    have ct12 := t12.cell
    have c12 := c11.go bx
    have cc12 := c12.cell
    have d12 := d11.go bx
    have cd12 := d12.cell
    have x12 := x11.go bx
    have cx12 := x12.cell
    have b12 := b11.trans (bx.mono b11.size)
    clear bx t11 c11 d11 x11 ct11 cc11 cd11 cx11 b11
    refine pt_take rfl rfl rfl rfl ?_
    apply Exists.intro
    refine ⟨fun w' hw' => ?_, ?_⟩
    · have hcell := (hw'.cell (p := ⟨w6.heap.size, 0, none⟩) ltc.out).trans cc12
      focus ((repeat (first | go_skip | go_guarded | go_step | go_upon | go_back)); exact ⟨rfl, rfl, rfl⟩)
    refine pt_take rfl rfl rfl rfl ?_
    apply Exists.intro
    refine ⟨fun w' hw' => ?_, ?_⟩
    · have hcell := (hw'.cell (p := ⟨w8.heap.size, 0, none⟩) ltd.out).trans cd12
      focus ((repeat (first | go_skip | go_guarded | go_step | go_upon | go_back)); exact ⟨rfl, rfl, rfl⟩)
    refine pt_step rfl ?_
    go_wp2_with fail
    have hC := entries_any Ac nc cc C w12 c12.nds (by omega)
    rw [HC.out.l1] at hC
    refine hC.mono ?_
    rintro e w13 ⟨⟨u13, rfl, o13⟩, bx⟩
    obtain ⟨A13, k13, rfl⟩ := own_form o13
    have pc13 := o13.pl
    have hstep := bx.mono hz
    have hz13 : w11.heap.size ≤ w13.heap.size := Nat.le_trans hz bx.size
    have t13 := t12.go bx
    have ct13 := t13.cell
    have c13 := c12.go bx
    have cc13 := c13.cell
    have d13 := d12.go bx
    have cd13 := d13.cell
    have x13 := x12.go bx
    have cx13 := x13.cell
    have b13 := b12.trans (bx.mono b12.size)
    clear bx t12 c12 d12 x12 ct12 cc12 cd12 cx12 b12 hC hz
    have hz := hz13
    clear hz13
    clear o13
    go_wp2_with fail
    refine ⟨rfl, hstep, ?_⟩
    clear hstep
    refine pt_step rfl ?_
    go_wp2_with fail
    have hC := entries_any Ad nd cd D w13 d13.nds (by omega)
    rw [HC.out.l2] at hC
    refine hC.mono ?_
    rintro e w14 ⟨⟨u14, rfl, o14⟩, bx⟩
    obtain ⟨A14, k14, rfl⟩ := own_form o14
    have pd14 := o14.pl
    have hstep := bx.mono hz
    have hz14 : w11.heap.size ≤ w14.heap.size := Nat.le_trans hz bx.size
    have t14 := t13.go bx
    have ct14 := t14.cell
    have c14 := c13.go bx
    have cc14 := c14.cell
    have d14 := d13.go bx
    have cd14 := d14.cell
    have x14 := x13.go bx
    have cx14 := x14.cell
    have pc14 := Row.past pc13 bx
    have b14 := b13.trans (bx.mono b13.size)
    clear bx t13 c13 d13 x13 ct13 cc13 cd13 cx13 pc13 b13 hC hz
    have hz := hz14
    clear hz14
    clear o14
    go_wp2_with fail
    refine ⟨rfl, hstep, ?_⟩
    clear hstep
    refine pt_step rfl ?_
    go_wp2_with fail
    have hC := sameEntries_any (.slice A13 L.length k13) (.slice A14 L.length k14) L L w14 pc14 pd14 (by omega) (by omega)
    rw [decide_eq_true (rfl : L = L)] at hC
    refine hC.mono ?_
    rintro e w15 ⟨rfl, bx⟩
    have hstep := bx.mono hz
    have hz15 : w11.heap.size ≤ w15.heap.size := Nat.le_trans hz bx.size
    have t15 := t14.go bx
    have ct15 := t15.cell
    have x15 := x14.go bx
    have cx15 := x15.cell
    have b15 := b14.trans (bx.mono b14.size)
    clear bx t14 c14 d14 x14 ct14 cc14 cd14 cx14 pc14 pd14 b14 hC hz
    have hz := hz15
    clear hz15
    go_wp2_with fail
    refine ⟨rfl, hstep, ?_⟩
    clear hstep
    first | refine pt_skip rfl rfl rfl rfl ?_ | (refine pt_take rfl rfl rfl rfl ?_; apply Exists.intro; refine ⟨fun w' hw' => ?_, ?_⟩; focus ((repeat (first | go_skip | go_guarded | go_step | go_upon | go_back)); exact ⟨rfl, rfl, rfl⟩))
    refine pt_take rfl rfl rfl rfl ?_
    apply Exists.intro
    refine ⟨fun w' hw' => ?_, ?_⟩
    · have hcell := (hw'.cell (p := ⟨w10.heap.size, 0, none⟩) ltx.out).trans cx15
      focus ((repeat (first | go_skip | go_guarded | go_step | go_upon | go_back)); exact ⟨rfl, rfl, rfl⟩)
    refine pt_take rfl rfl rfl rfl ?_
    apply Exists.intro
    refine ⟨fun w' hw' => ?_, ?_⟩
    · have hcell := (hw'.cell (p := ⟨w.heap.size, 0, none⟩) ltt.out).trans ct15
      focus ((repeat (first | go_skip | go_guarded | go_step | go_upon | go_back)); exact ⟨rfl, rfl, rfl⟩)
    first | refine pt_skip rfl rfl rfl rfl ?_ | (refine pt_take rfl rfl rfl rfl ?_; apply Exists.intro; refine ⟨fun w' hw' => ?_, ?_⟩; focus ((repeat (first | go_skip | go_guarded | go_step | go_upon | go_back)); exact ⟨rfl, rfl, rfl⟩))
    refine pt_step rfl ?_
    go_wp2_with fail
    have hC := entries_any Ax np cx X w15 x15.nds (by omega)
    rw [HC.out.l3] at hC
    refine hC.mono ?_
    rintro e w16 ⟨⟨u16, rfl, o16⟩, bx⟩
    obtain ⟨A16, k16, rfl⟩ := own_form o16
    have px16 := o16.pl
    have hstep := bx.mono hz
    have hz16 : w11.heap.size ≤ w16.heap.size := Nat.le_trans hz bx.size
    have t16 := t15.go bx
    have ct16 := t16.cell
    have x16 := x15.go bx
    have cx16 := x16.cell
    have b16 := b15.trans (bx.mono b15.size)
    clear bx t15 x15 ct15 cx15 b15 hC hz
    have hz := hz16
    clear hz16
    clear o16
    go_wp2_with fail
    refine ⟨rfl, hstep, ?_⟩
    clear hstep
    refine pt_step rfl ?_
    go_wp2_with fail
    have hC := entries_any A n cap F w16 t16.nds (by omega)
    refine hC.mono ?_
    rintro e w17 ⟨⟨u17, rfl, o17⟩, bx⟩
    obtain ⟨A17, k17, rfl⟩ := own_form o17
    have pt17 := o17.pl
    have hstep := bx.mono hz
    have hz17 : w11.heap.size ≤ w17.heap.size := Nat.le_trans hz bx.size
    have t17 := t16.go bx
    have ct17 := t17.cell
    have x17 := x16.go bx
    have cx17 := x17.cell
    have px17 := Row.past px16 bx
    have b17 := b16.trans (bx.mono b16.size)
    clear bx t16 x16 ct16 cx16 px16 b16 hC hz
    have hz := hz17
    clear hz17
    clear o17
    go_wp2_with fail
    refine ⟨rfl, hstep, ?_⟩
    clear hstep
    refine pt_step rfl ?_
    go_wp2_with fail
    have hC := without_any (.slice A17 (entR F n).length k17) (entR F n) p w17 pt17 (by omega) (by omega)
    rw [HC.out.l4] at hC
    unfold str at hC
    refine hC.mono ?_
    rintro e w18 ⟨⟨u18, rfl, o18⟩, bx⟩
    obtain ⟨A18, k18, rfl⟩ := own_form o18
    have pk18 := o18.pl
    have hstep := bx.mono hz
    have hz18 : w11.heap.size ≤ w18.heap.size := Nat.le_trans hz bx.size
    have t18 := t17.go bx
    have ct18 := t18.cell
    have x18 := x17.go bx
    have cx18 := x18.cell
    have px18 := Row.past px17 bx
    have pt18 := Row.past pt17 bx
    have b18 := b17.trans (bx.mono b17.size)
    clear bx t17 x17 ct17 cx17 px17 pt17 b17 hC hz
    have hz := hz18
    clear hz18
    clear o18
    go_wp2_with fail
    refine ⟨rfl, hstep, ?_⟩
    clear hstep
    refine pt_step rfl ?_
    go_wp2_with fail
    have hC := sameEntries_any (.slice A16 K.length k16) (.slice A18 K.length k18) K K w18 px18 pk18 (by omega) (by omega)
    rw [decide_eq_true (rfl : K = K)] at hC
    refine hC.mono ?_
    rintro e w19 ⟨rfl, bx⟩
    have hstep := bx.mono hz
    have hz19 : w11.heap.size ≤ w19.heap.size := Nat.le_trans hz bx.size
    have t19 := t18.go bx
    have ct19 := t19.cell
    have x19 := x18.go bx
    have cx19 := x19.cell
    have px19 := Row.past px18 bx
    have pt19 := Row.past pt18 bx
    have pk19 := Row.past pk18 bx
    have b19 := b18.trans (bx.mono b18.size)
    clear bx t18 x18 ct18 cx18 px18 pt18 pk18 b18 hC hz
    have hz := hz19
    clear hz19
    go_wp2_with fail
    refine ⟨rfl, hstep, ?_⟩
    clear hstep
    first | refine pt_skip rfl rfl rfl rfl ?_ | (refine pt_take rfl rfl rfl rfl ?_; apply Exists.intro; refine ⟨fun w' hw' => ?_, ?_⟩; focus ((repeat (first | go_skip | go_guarded | go_step | go_upon | go_back)); exact ⟨rfl, rfl, rfl⟩))
    first | refine pt_skip rfl rfl rfl rfl ?_ | (refine pt_take rfl rfl rfl rfl ?_; apply Exists.intro; refine ⟨fun w' hw' => ?_, ?_⟩; focus ((repeat (first | go_skip | go_guarded | go_step | go_upon | go_back)); exact ⟨rfl, rfl, rfl⟩))
    change Exit.then _ _ Exit.normal _ _
    go_wp2_with fail
    go_ret
    exact ⟨rfl, b19⟩
end Go.Proofs.Ytippbkooaonajaa
