/-
  TrieRebuild: the walk of the law.
-/
import Derived.Test.YtippbkooaonajaaTrB
import Derived.Test.YtippbkooaonajaaOpR
namespace Go.Proofs.Ytippbkooaonajaa
open Go.RowKit Dg Tr
set_option linter.unusedVariables false
set_option linter.unusedSimpArgs false

set_option maxRecDepth 100000 in
set_option maxHeartbeats 4000000 in
theorem trieRebuild_walk (A : Option Addr) (n cap : Nat) (F : List Int) (s : Str) (r : Bool) (w : World) (hv : Nds w w.heap.size n (.slice A n cap) F) (hs : s.length ≤ maxLen) :
    Calls Try.prog 8 #[.agg #[.slice A n cap], str s, .bool r] w fun e w' => e = .returned (.bool true) ∧ Below w.heap.size w w' := by
  obtain ⟨w0, hW0⟩ : ∃ W, W = w.alloc (.cells #[.slice A n cap] 24) := ⟨_, rfl⟩
  have b0 : Below w.heap.size w w0 := by rw [hW0]; exact (Below.refl _ _).alloc (Nat.le_refl _) _
  have t0 : TrV w0 w.heap.size A n cap F := ⟨by rw [hW0]; exact Blk.newAt _ _ [_] _ rfl, Row.past hv b0⟩
  have ct0 := t0.cell
  have HW := Lib.hid hW0
  have hN0 := hv
  have hsz := str_size s
  have hml : maxLen = 9223372036854775807 := rfl
  clear hv hW0
  unfold str
  go_enter Try.func8, Try.ntmps8
  go_upto_region 1 with (fail)
  rw [← HW.out]
  go_wp2_with fail
  have hC := sane_any w0
  refine hC.mono ?_
  rintro e w1 ⟨rfl, bx⟩
  have t1 := t0.go bx
  have ct1 := t1.cell
  have b1 := b0.trans (bx.mono b0.size)
  clear bx t0 ct0 b0 hC
  have hnm : n ≤ 9223372036854775807 := by
    obtain ⟨_, _, e, h1, h2, _⟩ := t1.nds
    injection e with _ _ e3
    simp only [maxLen] at h2; omega
  by_cases hbig : 400 < n
  · go_wp2_with fail
    go_ret
    exact ⟨rfl, b1⟩
  by_cases hbs : 40 < s.length
  · go_wp2_with fail
    go_ret
    exact ⟨rfl, b1⟩
  obtain ⟨ce, hce⟩ : ∃ ce, chk F n = ce := ⟨_, rfl⟩
  go_wp2_with fail
  have hC := check_any A n cap F w1 t1.nds (by omega)
  rw [hce] at hC
  refine hC.mono ?_
  rintro e w2 ⟨rfl, bx⟩
  have t2 := t1.go bx
  have ct2 := t2.cell
  have b2 := b1.trans (bx.mono b1.size)
  clear bx t1 ct1 b1 hC
  have step : ∀ (R : Prop), (∀ hz0 : (ce == 0) = true, R) → (∀ hz0 : (ce == 0) = false, R) → R := fun R h1 h2 => by
    cases hc : (ce == 0)
    · exact h2 hc
    · exact h1 hc
  have HCE := Lib.hid hce
  clear hce
  refine step _ (fun hz0 => ?_) (fun hz0 => ?_)
  rotate_left
  · have hz1 : (ce != 0) = true := by rw [bne, hz0]; rfl
    go_wp2_with fail
    go_ret
    exact ⟨rfl, b2⟩
  have hz1 : (ce != 0) = false := by rw [bne, hz0]; rfl
  obtain ⟨hOk, hn4⟩ := chk_zero (HCE.out.trans (eq_of_beq hz0))
  obtain ⟨L, hL⟩ : ∃ L, entR F n = L := ⟨_, rfl⟩
  have HOK := Lib.hid hOk
  have HL := Lib.hid hL
  have hEF : ents F = L := by rw [← entR_ok hOk hn4, hL]
  have HEF := Lib.hid hEF
  have hLl : L.length ≤ 4096 := by rw [← hL]; exact entR_len F n
  clear step hOk hL hEF HW hnm
  go_wp2_with fail
  have hC := entries_any A n cap F w2 t2.nds (by omega)
  rw [HL.out] at hC
  refine hC.mono ?_
  rintro e w3 ⟨⟨u, rfl, o3⟩, bx⟩
  obtain ⟨Al, cl, rfl⟩ := own_form o3
  have l3 := o3.pl
  have t3 := t2.go bx
  have ct3 := t3.cell
  have b3 := b2.trans (bx.mono b2.size)
  clear bx t2 ct2 b2 hC
  clear o3
  go_wp2_with fail
  have hC := new_any w3
  refine hC.mono ?_
  rintro e w4 ⟨⟨u, rfl, o4⟩, bx⟩
  obtain ⟨q4, c4, rfl⟩ := o4.form (by decide)
  have t4 := t3.go bx
  have ct4 := t4.cell
  have l4 := Row.past l3 bx
  have b4 := b3.trans (bx.mono b3.size)
  clear bx t3 ct3 l3 b3 hC
  have bsz : Hid (w.heap.size < w4.heap.size) := Lib.hid t4.blk.lt
  have l4q : Row w4 w4.heap.size 2 L.length (.slice Al L.length cl) (pvs L) := l4
  go_wp2_with (first | (refine wp_storeA 24 (.tmp 8) (.tmp 37) rfl rfl w4.heap.size rfl 24 [.slice none 0 0] [.slice (some ⟨q4, 0, none⟩) 1 c4] rfl (Blk.new _ _ _) (by rw [info_trie]; rfl) rfl (by intro v hv; simp at hv; subst hv; rfl) rfl ?_; intro w5 kx kkx; have bx : Below w4.heap.size w4 w5 := ((Below.refl _ _).alloc (Nat.le_refl _) _).trans (kkx.below (fun q hq => by omega) (by simp)); have x5 := TrV.laid o4 bx kx; have t5 := t4.go bx; have ct5 := t5.cell; have l5 := Row.past l4 bx; have cx5 := x5.cell; have b5 := b4.trans (bx.mono b4.size); have lq5 : Row w5 w4.heap.size 2 L.length (.slice Al L.length cl) (pvs L) := Row.carry l4q bx (Nat.le_refl _); clear l4q; clear kkx bx kx o4 t4 ct4 l4 b4))
  obtain ⟨g8, hg8⟩ : ∃ q, w4.heap.size = q := ⟨_, rfl⟩
  rw [hg8] at x5 cx5 lq5 ⊢
  have hgw : w.heap.size < g8 := by
    have h1 := t5.blk.lt
    have h2 := x5.blk.lt
    have h3 := b5.size
    rcases Nat.lt_or_ge w.heap.size g8 with h | h
    · exact h
    · exact absurd hg8 (by have := bsz.out; omega)
  have tN : Nds w5 w.heap.size n (.slice A n cap) F := Row.carry hN0 b5 (Nat.le_refl _)
  have hx5 := rb_zero (F := F) (n := n) (ordr r L)
  have HX5 := Lib.hid hx5
  clear hx5 hg8 l5
  go_loopw [9] (fun vi wr => ∃ (i : Nat) (Ax : Option Addr) (nx cx : Nat) (X : List Int), vi = .int .i64 (i : Int) ∧ i ≤ L.length ∧ Rb F n (ordr r L) i X nx ∧ TrV wr g8 Ax nx cx X ∧ Blk wr w.heap.size 24 [.slice A n cap] ∧ Nds wr w.heap.size n (.slice A n cap) F ∧ Row wr g8 2 L.length (.slice Al L.length cl) (pvs L) ∧ Below w.heap.size w wr) (fun vi wr => ixn L.length vi)
  case atStart => exact ⟨0, _, _, _, _, rfl, Nat.zero_le _, HX5.out, x5, t5.blk, tN, lq5, b5⟩
  case round =>
    clear x5 t5 tN lq5 b5 ct5 cx5 HX5
    obtain ⟨i, Ax, nx, cx, X, rfl, hi', hrb, x0, tB, tN, lq, hbw⟩ := hrel
    have hnx := hrb.le HOK.out
    have HB := Lib.hid hbw
    have HTB := Lib.hid tB
    have HTN := Lib.hid tN
    have HLQ := Lib.hid lq
    have cx0 := x0.cell
    have hg8 := x0.blk.lt
    have c0 : Below wr.heap.size wr wr := Below.refl _ _
    by_cases hlt : i < L.length
    · clear hi'
      cases r with
      | false =>
        obtain ⟨⟨p, v⟩, hx⟩ : ∃ x, L[i]? = some x := ⟨_, List.getElem?_eq_getElem hlt⟩
        have hM : (ordr false L)[i]? = some (p, v) := by rw [ordr_f L i]; exact hx
        obtain ⟨k, hke⟩ : ∃ k, k = i := ⟨_, rfl⟩
        rw [← hke] at hx
        have hk : k < L.length := by omega
        have HKE : Hid ((i : Int) = (k : Int)) := Lib.hid (by omega)
        obtain ⟨he0, hrb2⟩ := rb_succ HOK.out hn4 (fun x h => by rw [HEF.out]; exact (mem_ordr _ L x).1 h) hrb hM
        have hpl : p.length ≤ 15 := by
          obtain ⟨h1, _⟩ := putE_zero he0
          exact (chp_zero h1).2.2.1
        obtain ⟨ad, q, px, hA, hqe, hpx, hpx2, hqb, _, hcs, hcv⟩ := Pl.elem (w := wr) (Row.carry lq (Below.refl _ _) (Nat.le_of_lt hg8)) (Below.refl _ _) hx
        subst hA
        obtain ⟨ny, hny⟩ : ∃ k, putN X nx p v = k := ⟨_, rfl⟩
        obtain ⟨Y, hY⟩ : ∃ G, putF X nx p v = G := ⟨_, rfl⟩
        rw [hny, hY] at hrb2
        have HP := Lib.hid (And.intro he0 (And.intro hny hY))
        have HRB := Lib.hid hrb2
        have HQE := Lib.hid hqe
        have HQB := Lib.hid hqb
        unfold str at hcs
        have HCS := Lib.hid hcs
        have HCV := Lib.hid hcv
        clear he0 hny hY hqe hpx hpx2 hx hM hrb hrb2 hke lq hqb hcs hcv tB tN hbw
        go_upto_region 13 with (fail)
        refine wp_region_pt wr.heap.size (.take 0 (.take 1 (.take 2 (.take 3 (.take 4 (.take 5 (.take 6 (.take 7 (.take 8 (.take 9 (.take 10 (.two 11 (.take 12 (.take 13 (.take 14 (.step 15 (.step 16 (.take 17 .done)))))) 15 (.step 11 (.take 12 (.take 13 (.take 14 (.step 16 (.take 17 .done)))))))))))))))))) (by kernel_rfl) (by kernel_rfl) (by kernel_rfl) (fun _ _ h => h) ?_
        obtain ⟨z1, hdr⟩ : ∃ x, x = wr.drew := ⟨_, rfl⟩
        have bx : Below wr.heap.size wr z1 := by rw [hdr]; exact (Below.refl _ _).drew
        have x1 := x0.go bx
        have cx1 := x1.cell
        have c1 := bx
        have hz : wr.heap.size ≤ z1.heap.size := bx.size
        have es : z1.cell? q = some (.string ⟨p.toArray⟩) := (bx.cell HQB.out).trans HCS.out
        have ev : z1.cell? ⟨q.block, q.off + 1, none⟩ = some (.int .i64 v) := (bx.cell (p := ⟨q.block, q.off + 1, none⟩) HQB.out).trans HCV.out
        rw [← hdr]
        clear hdr bx x0 cx0 c0
        refine pt_take rfl rfl rfl rfl ?_
        apply Exists.intro
        refine ⟨fun w' hw' => ?_, ?_⟩
        · have hcell := (hw'.cell (p := ⟨g8, 0, none⟩) hg8).trans cx1
          focus ((repeat (first | go_skip | go_guarded | go_step | go_upon | go_back)); exact ⟨rfl, rfl, rfl⟩)
        first | refine pt_skip rfl rfl rfl rfl ?_ | (refine pt_take rfl rfl rfl rfl ?_; apply Exists.intro; refine ⟨fun w' hw' => ?_, ?_⟩; focus ((repeat (first | go_skip | go_guarded | go_step | go_upon | go_back)); exact ⟨rfl, rfl, rfl⟩))
        first | refine pt_skip rfl rfl rfl rfl ?_ | (refine pt_take rfl rfl rfl rfl ?_; apply Exists.intro; refine ⟨fun w' hw' => ?_, ?_⟩; focus ((repeat (first | go_skip | go_guarded | go_step | go_upon | go_back)); exact ⟨rfl, rfl, rfl⟩))
        refine pt_take rfl rfl rfl rfl ?_
        apply Exists.intro
        refine ⟨fun w' hw' => ?_, ?_⟩
        · refine wp_run rfl (exec_ixS 38 45 2 Try.underlying38 info_pv2 w' rfl rfl .i64 _ k rfl HKE.out hk HQE.out) ?_
          exact ⟨rfl, rfl, rfl⟩
        first | refine pt_skip rfl rfl rfl rfl ?_ | (refine pt_take rfl rfl rfl rfl ?_; apply Exists.intro; refine ⟨fun w' hw' => ?_, ?_⟩; focus ((repeat (first | go_skip | go_guarded | go_step | go_upon | go_back)); exact ⟨rfl, rfl, rfl⟩))
        refine pt_take rfl rfl rfl rfl ?_
        apply Exists.intro
        refine ⟨fun w' hw' => ?_, ?_⟩
        · have hcell := (hw'.cell (p := q) HQB.out).trans es
          focus ((repeat (first | go_skip | go_guarded | go_step | go_upon | go_back)); exact ⟨rfl, rfl, rfl⟩)
        first | refine pt_skip rfl rfl rfl rfl ?_ | (refine pt_take rfl rfl rfl rfl ?_; apply Exists.intro; refine ⟨fun w' hw' => ?_, ?_⟩; focus ((repeat (first | go_skip | go_guarded | go_step | go_upon | go_back)); exact ⟨rfl, rfl, rfl⟩))
        first | refine pt_skip rfl rfl rfl rfl ?_ | (refine pt_take rfl rfl rfl rfl ?_; apply Exists.intro; refine ⟨fun w' hw' => ?_, ?_⟩; focus ((repeat (first | go_skip | go_guarded | go_step | go_upon | go_back)); exact ⟨rfl, rfl, rfl⟩))
        refine pt_take rfl rfl rfl rfl ?_
        apply Exists.intro
        refine ⟨fun w' hw' => ?_, ?_⟩
        · refine wp_run rfl (exec_ixS 38 45 2 Try.underlying38 info_pv2 w' rfl rfl .i64 _ k rfl HKE.out hk HQE.out) ?_
          exact ⟨rfl, rfl, rfl⟩
        first | refine pt_skip rfl rfl rfl rfl ?_ | (refine pt_take rfl rfl rfl rfl ?_; apply Exists.intro; refine ⟨fun w' hw' => ?_, ?_⟩; focus ((repeat (first | go_skip | go_guarded | go_step | go_upon | go_back)); exact ⟨rfl, rfl, rfl⟩))
        refine pt_take rfl rfl rfl rfl ?_
        apply Exists.intro
        refine ⟨fun w' hw' => ?_, ?_⟩
        · have hcell := (hw'.cell (p := ⟨q.block, q.off + 1, none⟩) HQB.out).trans ev
          focus ((repeat (first | go_skip | go_guarded | go_step | go_upon | go_back)); exact ⟨rfl, rfl, rfl⟩)
        clear es ev
        refine pt_two rfl rfl ?_ ?_
        · go_wp2_with fail
          have hC := put_any Ax nx cx X p v z1 x1.nds (by omega) (by omega)
          rw [HP.out.1, HP.out.2.1, HP.out.2.2] at hC
          unfold str at hC
          refine hC.mono ?_
          rintro e z2 ⟨⟨u, rfl, o2⟩, bx⟩
          obtain ⟨Ay, cy, rfl⟩ := row_form o2.nds
          clear hC
          go_wp2_with fail
          refine ⟨rfl, bx.mono hz, ?_⟩
          have x2 := x1.go bx
          have c2 := c1.trans (bx.mono c1.size)
          have hz2 : wr.heap.size ≤ z2.heap.size := c2.size
          clear bx x1 cx1 c1
          first | refine pt_skip rfl rfl rfl rfl ?_ | (refine pt_take rfl rfl rfl rfl ?_; apply Exists.intro; refine ⟨fun w' hw' => ?_, ?_⟩; focus ((repeat (first | go_skip | go_guarded | go_step | go_upon | go_back)); exact ⟨rfl, rfl, rfl⟩))
          first | refine pt_skip rfl rfl rfl rfl ?_ | (refine pt_take rfl rfl rfl rfl ?_; apply Exists.intro; refine ⟨fun w' hw' => ?_, ?_⟩; focus ((repeat (first | go_skip | go_guarded | go_step | go_upon | go_back)); exact ⟨rfl, rfl, rfl⟩))
          first | refine pt_skip rfl rfl rfl rfl ?_ | (refine pt_take rfl rfl rfl rfl ?_; apply Exists.intro; refine ⟨fun w' hw' => ?_, ?_⟩; focus ((repeat (first | go_skip | go_guarded | go_step | go_upon | go_back)); exact ⟨rfl, rfl, rfl⟩))
          refine pt_step rfl ?_
          have bx : Below z2.heap.size z2 (z2.alloc (.cells #[.slice none 0 0] 24)) := (Below.refl _ _).alloc (Nat.le_refl _) _
          go_wp2_with fail
          refine ⟨rfl, bx.mono hz2, ?_⟩
          refine pt_step rfl ?_
          go_wp2_with (first | (refine wp_storeA 24 (.tmp 11) (.tmp 64) rfl rfl z2.heap.size rfl 24 [.slice none 0 0] [.slice Ay ny cy] rfl (Blk.new _ _ _) (by rw [info_trie]; rfl) rfl (by intro v hv; simp at hv; subst hv; rfl) rfl ?_; intro z4 kx kkx))
          have by_ : Below z2.heap.size z2 z4 := bx.trans (kkx.below (fun q hq => by omega) (by simp))
          have hza : Below wr.heap.size (z2.alloc (.cells #[.slice none 0 0] 24)) z4 := kkx.below (fun q hq => by omega) (by simp; omega)
          refine ⟨rfl, hza, ?_⟩
          have y4 : TrV z4 z2.heap.size Ay ny cy Y := TrV.laid o2 by_ kx
          have o4 : OwnN z4 wr.heap.size ny (.slice Ay ny cy) Y := (o2.go by_).up hz
          have x4 := x2.go by_
          have c4 := c2.trans (by_.mono c2.size)
          have cy4 := y4.cell
          clear y4 by_ bx kkx kx hza o2 x2 c2 hz2
          first | refine pt_skip rfl rfl rfl rfl ?_ | (refine pt_take rfl rfl rfl rfl ?_; apply Exists.intro; refine ⟨fun w' hw' => ?_, ?_⟩; focus ((repeat (first | go_skip | go_guarded | go_step | go_upon | go_back)); exact ⟨rfl, rfl, rfl⟩))
          have hend := HRB.out.le HOK.out
          change Exit.then _ _ Exit.normal _ _
          go_wp2_with (first | (refine wp_storeA 24 (.tmp 8) (.tmp 68) rfl rfl g8 rfl 24 [.slice Ax nx cx] [.slice Ay ny cy] rfl x4.blk (by rw [info_trie]; rfl) rfl (by intro v hv; simp at hv; subst hv; rfl) rfl ?_; intro z5 k5 kk5))
          have kk : Keep (fun q => q ≠ g8) wr z5 := (Keep.of_below c4).trans kk5
          have x5 : TrV z5 g8 Ay ny cy Y := ⟨k5, (o4.keep kk5 (fun q hq => by have := (o4.lt q hq).1; omega)).nds⟩
          have n1 : Blk z5 w.heap.size 24 [.slice A n cap] := HTB.out.keep kk (by omega)
          have hwr : w.heap.size ≤ wr.heap.size := by omega
          have n2 : Nds z5 w.heap.size n (.slice A n cap) F := kk.row (fun q hq => by omega) hwr HTN.out
          have n3 : Row z5 g8 2 L.length (.slice (some ad) L.length cl) (pvs L) := kk.row (fun q hq => by omega) (by omega) HLQ.out
          have n4 : Below w.heap.size w z5 := HB.out.trans (kk.below (fun q hq => by omega) hwr)
          clear kk kk5 k5 o4 x4 c4
          go_roundw
          case measure => show L.length - ((i : Int) + 1).toNat < L.length - ((i : Int)).toNat; omega
          case rel => exact ⟨i + 1, _, _, _, _, by simp, by omega, HRB.out, x5, n1, n2, n3, n4⟩
        · go_wp2_with fail
          have bx : Below z1.heap.size z1 (z1.alloc (.cells #[.slice none 0 0] 24)) := (Below.refl _ _).alloc (Nat.le_refl _) _
          refine ⟨rfl, bx.mono hz, ?_⟩
          obtain ⟨z2, hz2w⟩ : ∃ x, x = z1.alloc (.cells #[.slice none 0 0] 24) := ⟨_, rfl⟩
          have k2 : Blk z2 z1.heap.size 24 [.slice none 0 0] := by rw [hz2w]; exact Blk.new _ _ _
          rw [← hz2w] at bx ⊢
          have x2 := x1.go bx
          have c2 := c1.trans (bx.mono c1.size)
          have hz2 : wr.heap.size ≤ z2.heap.size := c2.size
          clear hz2w bx x1 cx1 c1
          obtain ⟨ga, hga⟩ : ∃ q, z1.heap.size = q := ⟨_, rfl⟩
          rw [hga] at k2 hz ⊢
          clear hga
          refine pt_step rfl ?_
          go_wp2_with fail
          have hC := put_any Ax nx cx X p v z2 x2.nds (by omega) (by omega)
          rw [HP.out.1, HP.out.2.1, HP.out.2.2] at hC
          unfold str at hC
          refine hC.mono ?_
          rintro e z3 ⟨⟨u, rfl, o3⟩, bx⟩
          obtain ⟨Ay, cy, rfl⟩ := row_form o3.nds
          clear hC
          go_wp2_with fail
          refine ⟨rfl, bx.mono hz2, ?_⟩
          have x3 := x2.go bx
          have k3 := k2.past bx k2.lt
          have hga2 : ga < z2.heap.size := k2.lt
          have c3 := c2.trans (bx.mono c2.size)
          have hz3 : wr.heap.size ≤ z3.heap.size := c3.size
          clear bx x2 k2 c2
          first | refine pt_skip rfl rfl rfl rfl ?_ | (refine pt_take rfl rfl rfl rfl ?_; apply Exists.intro; refine ⟨fun w' hw' => ?_, ?_⟩; focus ((repeat (first | go_skip | go_guarded | go_step | go_upon | go_back)); exact ⟨rfl, rfl, rfl⟩))
          first | refine pt_skip rfl rfl rfl rfl ?_ | (refine pt_take rfl rfl rfl rfl ?_; apply Exists.intro; refine ⟨fun w' hw' => ?_, ?_⟩; focus ((repeat (first | go_skip | go_guarded | go_step | go_upon | go_back)); exact ⟨rfl, rfl, rfl⟩))
          first | refine pt_skip rfl rfl rfl rfl ?_ | (refine pt_take rfl rfl rfl rfl ?_; apply Exists.intro; refine ⟨fun w' hw' => ?_, ?_⟩; focus ((repeat (first | go_skip | go_guarded | go_step | go_upon | go_back)); exact ⟨rfl, rfl, rfl⟩))
          refine pt_step rfl ?_
          go_wp2_with (first | (refine wp_storeA 24 (.tmp 11) (.tmp 64) rfl rfl ga rfl 24 [.slice none 0 0] [.slice Ay ny cy] rfl k3 (by rw [info_trie]; rfl) rfl (by intro v hv; simp at hv; subst hv; rfl) rfl ?_; intro z4 kx kkx))
          have hza : Below wr.heap.size z3 z4 := kkx.below (fun q hq => by omega) hz3
          refine ⟨rfl, hza, ?_⟩
          have o4' := o3.keep kkx (fun q hq => by have := (o3.lt q hq).1; omega)
          have y4 : TrV z4 ga Ay ny cy Y := ⟨kx, o4'.nds⟩
          have o4 : OwnN z4 wr.heap.size ny (.slice Ay ny cy) Y := o4'.up hz2
          have x4b : Blk z4 g8 24 [.slice Ax nx cx] := x3.blk.keep kkx (by omega)
          have c4 := c3.trans hza
          have cy4 := y4.cell
          clear y4 kkx kx hza o4' o3 x3 k3 c3
          first | refine pt_skip rfl rfl rfl rfl ?_ | (refine pt_take rfl rfl rfl rfl ?_; apply Exists.intro; refine ⟨fun w' hw' => ?_, ?_⟩; focus ((repeat (first | go_skip | go_guarded | go_step | go_upon | go_back)); exact ⟨rfl, rfl, rfl⟩))
          have hend := HRB.out.le HOK.out
          change Exit.then _ _ Exit.normal _ _
          go_wp2_with (first | (refine wp_storeA 24 (.tmp 8) (.tmp 68) rfl rfl g8 rfl 24 [.slice Ax nx cx] [.slice Ay ny cy] rfl x4b (by rw [info_trie]; rfl) rfl (by intro v hv; simp at hv; subst hv; rfl) rfl ?_; intro z5 k5 kk5))
          have kk : Keep (fun q => q ≠ g8) wr z5 := (Keep.of_below c4).trans kk5
          have x5 : TrV z5 g8 Ay ny cy Y := ⟨k5, (o4.keep kk5 (fun q hq => by have := (o4.lt q hq).1; omega)).nds⟩
          have n1 : Blk z5 w.heap.size 24 [.slice A n cap] := HTB.out.keep kk (by omega)
          have hwr : w.heap.size ≤ wr.heap.size := by omega
          have n2 : Nds z5 w.heap.size n (.slice A n cap) F := kk.row (fun q hq => by omega) hwr HTN.out
          have n3 : Row z5 g8 2 L.length (.slice (some ad) L.length cl) (pvs L) := kk.row (fun q hq => by omega) (by omega) HLQ.out
          have n4 : Below w.heap.size w z5 := HB.out.trans (kk.below (fun q hq => by omega) hwr)
          clear kk kk5 k5 o4 x4b c4
          go_roundw
          case measure => show L.length - ((i : Int) + 1).toNat < L.length - ((i : Int)).toNat; omega
          case rel => exact ⟨i + 1, _, _, _, _, by simp, by omega, HRB.out, x5, n1, n2, n3, n4⟩
      | true =>
        have hk : L.length - 1 - i < L.length := by omega
        obtain ⟨⟨p, v⟩, hx⟩ : ∃ x, L[L.length - 1 - i]? = some x := ⟨_, List.getElem?_eq_getElem hk⟩
        have hM : (ordr true L)[i]? = some (p, v) := by rw [ordr_t L hlt]; exact hx
        obtain ⟨k, hke⟩ : ∃ k, k = L.length - 1 - i := ⟨_, rfl⟩
        rw [← hke] at hx hk
        have HKE : Hid ((L.length : Int) - 1 - (i : Int) = (k : Int)) := Lib.hid (by omega)
        obtain ⟨he0, hrb2⟩ := rb_succ HOK.out hn4 (fun x h => by rw [HEF.out]; exact (mem_ordr _ L x).1 h) hrb hM
        have hpl : p.length ≤ 15 := by
          obtain ⟨h1, _⟩ := putE_zero he0
          exact (chp_zero h1).2.2.1
        obtain ⟨ad, q, px, hA, hqe, hpx, hpx2, hqb, _, hcs, hcv⟩ := Pl.elem (w := wr) (Row.carry lq (Below.refl _ _) (Nat.le_of_lt hg8)) (Below.refl _ _) hx
        subst hA
        obtain ⟨ny, hny⟩ : ∃ k, putN X nx p v = k := ⟨_, rfl⟩
        obtain ⟨Y, hY⟩ : ∃ G, putF X nx p v = G := ⟨_, rfl⟩
        rw [hny, hY] at hrb2
        have HP := Lib.hid (And.intro he0 (And.intro hny hY))
        have HRB := Lib.hid hrb2
        have HQE := Lib.hid hqe
        have HQB := Lib.hid hqb
        unfold str at hcs
        have HCS := Lib.hid hcs
        have HCV := Lib.hid hcv
        clear he0 hny hY hqe hpx hpx2 hx hM hrb hrb2 hke lq hqb hcs hcv tB tN hbw
        go_upto_region 13 with (fail)
        refine wp_region_pt wr.heap.size (.take 0 (.take 1 (.take 2 (.take 3 (.take 4 (.take 5 (.take 6 (.take 7 (.take 8 (.take 9 (.take 10 (.two 11 (.take 12 (.take 13 (.take 14 (.step 15 (.step 16 (.take 17 .done)))))) 15 (.step 11 (.take 12 (.take 13 (.take 14 (.step 16 (.take 17 .done)))))))))))))))))) (by kernel_rfl) (by kernel_rfl) (by kernel_rfl) (fun _ _ h => h) ?_
        obtain ⟨z1, hdr⟩ : ∃ x, x = wr.drew := ⟨_, rfl⟩
        have bx : Below wr.heap.size wr z1 := by rw [hdr]; exact (Below.refl _ _).drew
        have x1 := x0.go bx
        have cx1 := x1.cell
        have c1 := bx
        have hz : wr.heap.size ≤ z1.heap.size := bx.size
        have es : z1.cell? q = some (.string ⟨p.toArray⟩) := (bx.cell HQB.out).trans HCS.out
        have ev : z1.cell? ⟨q.block, q.off + 1, none⟩ = some (.int .i64 v) := (bx.cell (p := ⟨q.block, q.off + 1, none⟩) HQB.out).trans HCV.out
        rw [← hdr]
        clear hdr bx x0 cx0 c0
        refine pt_take rfl rfl rfl rfl ?_
        apply Exists.intro
        refine ⟨fun w' hw' => ?_, ?_⟩
        · have hcell := (hw'.cell (p := ⟨g8, 0, none⟩) hg8).trans cx1
          focus ((repeat (first | go_skip | go_guarded | go_step | go_upon | go_back)); exact ⟨rfl, rfl, rfl⟩)
        first | refine pt_skip rfl rfl rfl rfl ?_ | (refine pt_take rfl rfl rfl rfl ?_; apply Exists.intro; refine ⟨fun w' hw' => ?_, ?_⟩; focus ((repeat (first | go_skip | go_guarded | go_step | go_upon | go_back)); exact ⟨rfl, rfl, rfl⟩))
        first | refine pt_skip rfl rfl rfl rfl ?_ | (refine pt_take rfl rfl rfl rfl ?_; apply Exists.intro; refine ⟨fun w' hw' => ?_, ?_⟩; focus ((repeat (first | go_skip | go_guarded | go_step | go_upon | go_back)); exact ⟨rfl, rfl, rfl⟩))
        refine pt_take rfl rfl rfl rfl ?_
        apply Exists.intro
        refine ⟨fun w' hw' => ?_, ?_⟩
        · refine wp_run rfl (exec_ixS 38 45 2 Try.underlying38 info_pv2 w' rfl rfl .i64 _ k rfl HKE.out hk HQE.out) ?_
          exact ⟨rfl, rfl, rfl⟩
        first | refine pt_skip rfl rfl rfl rfl ?_ | (refine pt_take rfl rfl rfl rfl ?_; apply Exists.intro; refine ⟨fun w' hw' => ?_, ?_⟩; focus ((repeat (first | go_skip | go_guarded | go_step | go_upon | go_back)); exact ⟨rfl, rfl, rfl⟩))
        refine pt_take rfl rfl rfl rfl ?_
        apply Exists.intro
        refine ⟨fun w' hw' => ?_, ?_⟩
        · have hcell := (hw'.cell (p := q) HQB.out).trans es
          focus ((repeat (first | go_skip | go_guarded | go_step | go_upon | go_back)); exact ⟨rfl, rfl, rfl⟩)
        first | refine pt_skip rfl rfl rfl rfl ?_ | (refine pt_take rfl rfl rfl rfl ?_; apply Exists.intro; refine ⟨fun w' hw' => ?_, ?_⟩; focus ((repeat (first | go_skip | go_guarded | go_step | go_upon | go_back)); exact ⟨rfl, rfl, rfl⟩))
        first | refine pt_skip rfl rfl rfl rfl ?_ | (refine pt_take rfl rfl rfl rfl ?_; apply Exists.intro; refine ⟨fun w' hw' => ?_, ?_⟩; focus ((repeat (first | go_skip | go_guarded | go_step | go_upon | go_back)); exact ⟨rfl, rfl, rfl⟩))
        refine pt_take rfl rfl rfl rfl ?_
        apply Exists.intro
        refine ⟨fun w' hw' => ?_, ?_⟩
        · refine wp_run rfl (exec_ixS 38 45 2 Try.underlying38 info_pv2 w' rfl rfl .i64 _ k rfl HKE.out hk HQE.out) ?_
          exact ⟨rfl, rfl, rfl⟩
        first | refine pt_skip rfl rfl rfl rfl ?_ | (refine pt_take rfl rfl rfl rfl ?_; apply Exists.intro; refine ⟨fun w' hw' => ?_, ?_⟩; focus ((repeat (first | go_skip | go_guarded | go_step | go_upon | go_back)); exact ⟨rfl, rfl, rfl⟩))
        refine pt_take rfl rfl rfl rfl ?_
        apply Exists.intro
        refine ⟨fun w' hw' => ?_, ?_⟩
        · have hcell := (hw'.cell (p := ⟨q.block, q.off + 1, none⟩) HQB.out).trans ev
          focus ((repeat (first | go_skip | go_guarded | go_step | go_upon | go_back)); exact ⟨rfl, rfl, rfl⟩)
        clear es ev
        refine pt_two rfl rfl ?_ ?_
        · go_wp2_with fail
          have hC := put_any Ax nx cx X p v z1 x1.nds (by omega) (by omega)
          rw [HP.out.1, HP.out.2.1, HP.out.2.2] at hC
          unfold str at hC
          refine hC.mono ?_
          rintro e z2 ⟨⟨u, rfl, o2⟩, bx⟩
          obtain ⟨Ay, cy, rfl⟩ := row_form o2.nds
          clear hC
          go_wp2_with fail
          refine ⟨rfl, bx.mono hz, ?_⟩
          have x2 := x1.go bx
          have c2 := c1.trans (bx.mono c1.size)
          have hz2 : wr.heap.size ≤ z2.heap.size := c2.size
          clear bx x1 cx1 c1
          first | refine pt_skip rfl rfl rfl rfl ?_ | (refine pt_take rfl rfl rfl rfl ?_; apply Exists.intro; refine ⟨fun w' hw' => ?_, ?_⟩; focus ((repeat (first | go_skip | go_guarded | go_step | go_upon | go_back)); exact ⟨rfl, rfl, rfl⟩))
          first | refine pt_skip rfl rfl rfl rfl ?_ | (refine pt_take rfl rfl rfl rfl ?_; apply Exists.intro; refine ⟨fun w' hw' => ?_, ?_⟩; focus ((repeat (first | go_skip | go_guarded | go_step | go_upon | go_back)); exact ⟨rfl, rfl, rfl⟩))
          first | refine pt_skip rfl rfl rfl rfl ?_ | (refine pt_take rfl rfl rfl rfl ?_; apply Exists.intro; refine ⟨fun w' hw' => ?_, ?_⟩; focus ((repeat (first | go_skip | go_guarded | go_step | go_upon | go_back)); exact ⟨rfl, rfl, rfl⟩))
          refine pt_step rfl ?_
          have bx : Below z2.heap.size z2 (z2.alloc (.cells #[.slice none 0 0] 24)) := (Below.refl _ _).alloc (Nat.le_refl _) _
          go_wp2_with fail
          refine ⟨rfl, bx.mono hz2, ?_⟩
          refine pt_step rfl ?_
          go_wp2_with (first | (refine wp_storeA 24 (.tmp 11) (.tmp 64) rfl rfl z2.heap.size rfl 24 [.slice none 0 0] [.slice Ay ny cy] rfl (Blk.new _ _ _) (by rw [info_trie]; rfl) rfl (by intro v hv; simp at hv; subst hv; rfl) rfl ?_; intro z4 kx kkx))
          have by_ : Below z2.heap.size z2 z4 := bx.trans (kkx.below (fun q hq => by omega) (by simp))
          have hza : Below wr.heap.size (z2.alloc (.cells #[.slice none 0 0] 24)) z4 := kkx.below (fun q hq => by omega) (by simp; omega)
          refine ⟨rfl, hza, ?_⟩
          have y4 : TrV z4 z2.heap.size Ay ny cy Y := TrV.laid o2 by_ kx
          have o4 : OwnN z4 wr.heap.size ny (.slice Ay ny cy) Y := (o2.go by_).up hz
          have x4 := x2.go by_
          have c4 := c2.trans (by_.mono c2.size)
          have cy4 := y4.cell
          clear y4 by_ bx kkx kx hza o2 x2 c2 hz2
          first | refine pt_skip rfl rfl rfl rfl ?_ | (refine pt_take rfl rfl rfl rfl ?_; apply Exists.intro; refine ⟨fun w' hw' => ?_, ?_⟩; focus ((repeat (first | go_skip | go_guarded | go_step | go_upon | go_back)); exact ⟨rfl, rfl, rfl⟩))
          have hend := HRB.out.le HOK.out
          change Exit.then _ _ Exit.normal _ _
          go_wp2_with (first | (refine wp_storeA 24 (.tmp 8) (.tmp 68) rfl rfl g8 rfl 24 [.slice Ax nx cx] [.slice Ay ny cy] rfl x4.blk (by rw [info_trie]; rfl) rfl (by intro v hv; simp at hv; subst hv; rfl) rfl ?_; intro z5 k5 kk5))
          have kk : Keep (fun q => q ≠ g8) wr z5 := (Keep.of_below c4).trans kk5
          have x5 : TrV z5 g8 Ay ny cy Y := ⟨k5, (o4.keep kk5 (fun q hq => by have := (o4.lt q hq).1; omega)).nds⟩
          have n1 : Blk z5 w.heap.size 24 [.slice A n cap] := HTB.out.keep kk (by omega)
          have hwr : w.heap.size ≤ wr.heap.size := by omega
          have n2 : Nds z5 w.heap.size n (.slice A n cap) F := kk.row (fun q hq => by omega) hwr HTN.out
          have n3 : Row z5 g8 2 L.length (.slice (some ad) L.length cl) (pvs L) := kk.row (fun q hq => by omega) (by omega) HLQ.out
          have n4 : Below w.heap.size w z5 := HB.out.trans (kk.below (fun q hq => by omega) hwr)
          clear kk kk5 k5 o4 x4 c4
          go_roundw
          case measure => show L.length - ((i : Int) + 1).toNat < L.length - ((i : Int)).toNat; omega
          case rel => exact ⟨i + 1, _, _, _, _, by simp, by omega, HRB.out, x5, n1, n2, n3, n4⟩
        · go_wp2_with fail
          have bx : Below z1.heap.size z1 (z1.alloc (.cells #[.slice none 0 0] 24)) := (Below.refl _ _).alloc (Nat.le_refl _) _
          refine ⟨rfl, bx.mono hz, ?_⟩
          obtain ⟨z2, hz2w⟩ : ∃ x, x = z1.alloc (.cells #[.slice none 0 0] 24) := ⟨_, rfl⟩
          have k2 : Blk z2 z1.heap.size 24 [.slice none 0 0] := by rw [hz2w]; exact Blk.new _ _ _
          rw [← hz2w] at bx ⊢
          have x2 := x1.go bx
          have c2 := c1.trans (bx.mono c1.size)
          have hz2 : wr.heap.size ≤ z2.heap.size := c2.size
          clear hz2w bx x1 cx1 c1
          obtain ⟨ga, hga⟩ : ∃ q, z1.heap.size = q := ⟨_, rfl⟩
          rw [hga] at k2 hz ⊢
          clear hga
          refine pt_step rfl ?_
          go_wp2_with fail
          have hC := put_any Ax nx cx X p v z2 x2.nds (by omega) (by omega)
          rw [HP.out.1, HP.out.2.1, HP.out.2.2] at hC
          unfold str at hC
          refine hC.mono ?_
          rintro e z3 ⟨⟨u, rfl, o3⟩, bx⟩
          obtain ⟨Ay, cy, rfl⟩ := row_form o3.nds
          clear hC
          go_wp2_with fail
          refine ⟨rfl, bx.mono hz2, ?_⟩
          have x3 := x2.go bx
          have k3 := k2.past bx k2.lt
          have hga2 : ga < z2.heap.size := k2.lt
          have c3 := c2.trans (bx.mono c2.size)
          have hz3 : wr.heap.size ≤ z3.heap.size := c3.size
          clear bx x2 k2 c2
          first | refine pt_skip rfl rfl rfl rfl ?_ | (refine pt_take rfl rfl rfl rfl ?_; apply Exists.intro; refine ⟨fun w' hw' => ?_, ?_⟩; focus ((repeat (first | go_skip | go_guarded | go_step | go_upon | go_back)); exact ⟨rfl, rfl, rfl⟩))
          first | refine pt_skip rfl rfl rfl rfl ?_ | (refine pt_take rfl rfl rfl rfl ?_; apply Exists.intro; refine ⟨fun w' hw' => ?_, ?_⟩; focus ((repeat (first | go_skip | go_guarded | go_step | go_upon | go_back)); exact ⟨rfl, rfl, rfl⟩))
          first | refine pt_skip rfl rfl rfl rfl ?_ | (refine pt_take rfl rfl rfl rfl ?_; apply Exists.intro; refine ⟨fun w' hw' => ?_, ?_⟩; focus ((repeat (first | go_skip | go_guarded | go_step | go_upon | go_back)); exact ⟨rfl, rfl, rfl⟩))
          refine pt_step rfl ?_
          go_wp2_with (first | (refine wp_storeA 24 (.tmp 11) (.tmp 64) rfl rfl ga rfl 24 [.slice none 0 0] [.slice Ay ny cy] rfl k3 (by rw [info_trie]; rfl) rfl (by intro v hv; simp at hv; subst hv; rfl) rfl ?_; intro z4 kx kkx))
          have hza : Below wr.heap.size z3 z4 := kkx.below (fun q hq => by omega) hz3
          refine ⟨rfl, hza, ?_⟩
          have o4' := o3.keep kkx (fun q hq => by have := (o3.lt q hq).1; omega)
          have y4 : TrV z4 ga Ay ny cy Y := ⟨kx, o4'.nds⟩
          have o4 : OwnN z4 wr.heap.size ny (.slice Ay ny cy) Y := o4'.up hz2
          have x4b : Blk z4 g8 24 [.slice Ax nx cx] := x3.blk.keep kkx (by omega)
          have c4 := c3.trans hza
          have cy4 := y4.cell
          clear y4 kkx kx hza o4' o3 x3 k3 c3
          first | refine pt_skip rfl rfl rfl rfl ?_ | (refine pt_take rfl rfl rfl rfl ?_; apply Exists.intro; refine ⟨fun w' hw' => ?_, ?_⟩; focus ((repeat (first | go_skip | go_guarded | go_step | go_upon | go_back)); exact ⟨rfl, rfl, rfl⟩))
          have hend := HRB.out.le HOK.out
          change Exit.then _ _ Exit.normal _ _
          go_wp2_with (first | (refine wp_storeA 24 (.tmp 8) (.tmp 68) rfl rfl g8 rfl 24 [.slice Ax nx cx] [.slice Ay ny cy] rfl x4b (by rw [info_trie]; rfl) rfl (by intro v hv; simp at hv; subst hv; rfl) rfl ?_; intro z5 k5 kk5))
          have kk : Keep (fun q => q ≠ g8) wr z5 := (Keep.of_below c4).trans kk5
          have x5 : TrV z5 g8 Ay ny cy Y := ⟨k5, (o4.keep kk5 (fun q hq => by have := (o4.lt q hq).1; omega)).nds⟩
          have n1 : Blk z5 w.heap.size 24 [.slice A n cap] := HTB.out.keep kk (by omega)
          have hwr : w.heap.size ≤ wr.heap.size := by omega
          have n2 : Nds z5 w.heap.size n (.slice A n cap) F := kk.row (fun q hq => by omega) hwr HTN.out
          have n3 : Row z5 g8 2 L.length (.slice (some ad) L.length cl) (pvs L) := kk.row (fun q hq => by omega) (by omega) HLQ.out
          have n4 : Below w.heap.size w z5 := HB.out.trans (kk.below (fun q hq => by omega) hwr)
          clear kk kk5 k5 o4 x4b c4
          go_roundw
          case measure => show L.length - ((i : Int) + 1).toNat < L.length - ((i : Int)).toNat; omega
          case rel => exact ⟨i + 1, _, _, _, _, by simp, by omega, HRB.out, x5, n1, n2, n3, n4⟩
    · obtain rfl : i = L.length := by omega
      have hF := hrb
      have hget := rb_end HOK.out (fun x => by rw [mem_ordr, HEF.out]) hF (by rw [len_ordr]; exact Nat.le_refl _)
      have hnx4 : nx ≤ 4096 := by omega
      have e1 := entR_eq HOK.out hF.ok hn4 hnx4 hget
      have e2 := lonR_eq HOK.out hF.ok hn4 hnx4 hget s
      rw [HL.out] at e1
      obtain ⟨⟨lv, ln, lb⟩, hr⟩ : ∃ x, lonR F n s = x := ⟨_, rfl⟩
      rw [hr] at e2
      have HR1 := Lib.hid hr
      have HR2 := Lib.hid e2.symm
      have HR3 := Lib.hid e1.symm
      have tV : TrV wr w.heap.size A n cap F := ⟨tB, Row.carry tN (Below.refl _ _) hbw.size⟩
      have p0 : Row wr wr.heap.size 2 L.length (.slice Al L.length cl) (pvs L) := Row.carry lq (Below.refl _ _) (Nat.le_of_lt hg8)
      have ctV := tV.cell
      clear hF hget e1 e2 hr hrb tB tN lq HTB HTN HLQ HB hlt
      have t0 := tV
      have ct0 := ctV
      clear tV ctV
      obtain ⟨z0, hz0w⟩ : ∃ x, x = wr := ⟨_, rfl⟩
      subst hz0w
      clear c0
      have c0 := hbw
      go_wp2_with fail
      have hC := longest_any A n cap F s z0 t0.nds (by omega) (by omega)
      rw [HR1.out] at hC
      unfold str lonV at hC
      refine hC.mono ?_
      rintro e z1 ⟨rfl, bx⟩
      have x1 := x0.go bx
      have cx1 := x1.cell
      have t1 := t0.go bx
      have ct1 := t1.cell
      have p1 := Row.past p0 bx
      have c1 := c0.trans (bx.mono c0.size)
      clear bx x0 t0 cx0 ct0 p0 c0 hC
      go_wp2_with fail
      have hC := longest_any Ax nx cx X s z1 x1.nds (by omega) (by omega)
      rw [HR2.out] at hC
      unfold str lonV at hC
      refine hC.mono ?_
      rintro e z2 ⟨rfl, bx⟩
      have x2 := x1.go bx
      have cx2 := x2.cell
      have t2 := t1.go bx
      have ct2 := t2.cell
      have p2 := Row.past p1 bx
      have c2 := c1.trans (bx.mono c1.size)
      clear bx x1 t1 cx1 ct1 p1 c1 hC
      go_wp2_with fail
      have hC := entries_any Ax nx cx X z2 x2.nds (by omega)
      rw [HR3.out] at hC
      refine hC.mono ?_
      rintro e z3 ⟨⟨u, rfl, o3⟩, bx⟩
      obtain ⟨A3, k3, rfl⟩ := own_form o3
      have y3 := o3.pl
      have x3 := x2.go bx
      have cx3 := x3.cell
      have t3 := t2.go bx
      have ct3 := t3.cell
      have p3 := Row.past p2 bx
      have c3 := c2.trans (bx.mono c2.size)
      clear bx x2 t2 cx2 ct2 p2 c2 hC
      clear o3
      go_wp2_with fail
      have hC := sameEntries_any (.slice A3 L.length k3) (.slice Al L.length cl) L L z3 y3 p3 (by omega) (by omega)
      rw [decide_eq_true (rfl : L = L)] at hC
      refine hC.mono ?_
      rintro e z4 ⟨rfl, bx⟩
      have x4 := x3.go bx
      have cx4 := x4.cell
      have t4 := t3.go bx
      have ct4 := t4.cell
      have p4 := Row.past p3 bx
      have y4 := Row.past y3 bx
      have c4 := c3.trans (bx.mono c3.size)
      clear bx x3 t3 cx3 ct3 p3 y3 c3 hC
      go_wp2_with fail
      go_ret
      exact ⟨rfl, c4⟩
end Go.Proofs.Ytippbkooaonajaa
