/-
  What a script of updates leaves: built.
-/
import Derived.Test.YtippbkooaonajaaTrC
namespace Go.Proofs.Ytippbkooaonajaa
open Go.RowKit Dg Tr
set_option linter.unusedVariables false
set_option linter.unusedSimpArgs false

theorem keep_lt {B : Nat} {w w' : World} (h : Below B w w') : Keep (fun k => k < B) w w' := ⟨h.os, h.tape, h.output, h.size, fun k hk _ => h.block k hk⟩

set_option maxRecDepth 100000 in
set_option maxHeartbeats 4000000 in
theorem built_any (v : Value) (l : List (Str × Int)) (w : World) (hv : Pl w w.heap.size v l) (hu : ∀ x ∈ l, Upd x) (hl : l.length ≤ 60) (hs : ∀ x ∈ l, x.1.length ≤ 40) :
    Calls Try.prog 28 #[v] w fun e w' => (∃ Ax nx cx X K u, e = .returned (.tuple #[.agg #[.slice Ax nx cx], u]) ∧ Kp X nx K ∧ K.length ≤ 60 ∧ Nds w' w'.heap.size nx (.slice Ax nx cx) X ∧ Pl w' w'.heap.size u K) ∧ Below w.heap.size w w' := by
  obtain ⟨A, c, rfl⟩ := row_form hv
  obtain ⟨i0, hi0, hz0n, hz1n, hz2n⟩ := info_parts info_pv
  have HU := Lib.hid hu
  have HS := Lib.hid hs
  obtain ⟨w0, hW0⟩ : ∃ W, W = w.alloc (.cells #[.slice none 0 0] 24) := ⟨_, rfl⟩
  have b0 : Below w.heap.size w w0 := by rw [hW0]; exact (Below.refl _ _).alloc (Nat.le_refl _) _
  have r0 : Blk w0 w.heap.size 24 [.slice none 0 0] := by rw [hW0]; exact Blk.newAt _ _ [_] _ rfl
  have HW := Lib.hid hW0
  have HV := Lib.hid hv
  clear hv hW0 hu hs
  go_enter Try.func28, Try.ntmps28
  go_upto_region 1 with (fail)
  rw [← HW.out]
  go_wp2_with fail
  refine (new_any w0).mono ?_
  rintro e w1 ⟨⟨u, rfl, o1⟩, bx⟩
  obtain ⟨q1, c1, rfl⟩ := o1.form (by decide)
  have r1 := r0.past bx r0.lt
  have hwr1 : w.heap.size < w1.heap.size := r1.lt
  have b1 := b0.trans (bx.mono b0.size)
  have hwr0 : w.heap.size < w0.heap.size := r0.lt
  clear bx r0 b0
  go_wp2_with (first | (refine wp_storeA 24 (.tmp 4) (.tmp 9) rfl rfl w1.heap.size rfl 24 [.slice none 0 0] [.slice (some ⟨q1, 0, none⟩) 1 c1] rfl (Blk.new _ _ _) (by rw [info_trie]; rfl) rfl (by intro v hv; simp at hv; subst hv; rfl) rfl ?_; intro w2 k2 kk2; have bx : Below w1.heap.size w1 w2 := ((Below.refl _ _).alloc (Nat.le_refl _) _).trans (kk2.below (fun q hq => by omega) (by simp)); have r2 := r1.past bx r1.lt; have o2 := (o1.go bx).up (Nat.succ_le_of_lt hwr0); have b2 := b1.trans (bx.mono b1.size); have v2 := HV.out.carry b2 (Nat.le_refl _); clear kk2 bx r1 o1 b1))
  obtain ⟨g4, hg4⟩ : ∃ q, w1.heap.size = q := ⟨_, rfl⟩
  rw [hg4] at k2 hwr1 ⊢
  clear hg4
  go_loopw [5, 6] (fun vo vi wr => ∃ (i : Nat) (Ax : Option Addr) (nx cx : Nat) (X : List Int) (K : List (Str × Int)), vi = .int .i64 (i : Int) ∧ i ≤ l.length ∧ Kp X nx K ∧ K.length ≤ i ∧ Blk wr g4 24 [.slice Ax nx cx] ∧ OwnN wr (w.heap.size + 1) nx (.slice Ax nx cx) X ∧ OwnP wr (g4 + 1) vo K ∧ Blk wr w.heap.size 24 [.slice none 0 0] ∧ Row wr w.heap.size 2 l.length (.slice A l.length c) (pvs l) ∧ Below w.heap.size w wr) (fun vo vi wr => ixn l.length vi)
  case atStart => exact ⟨0, _, _, _, _, [], rfl, Nat.zero_le _, kp_zero, Nat.le_refl _, k2, o2, OwnP.nil_ _ _, r2, v2, b2⟩
  case round =>
    clear k2 o2 r2 v2 b2
    obtain ⟨i, Ax, nx, cx, X, K, rfl, hi', hkp, hKl, x0, n0, p0, r0, v0, hbw⟩ := hrel
    have hnx := hkp.le
    have hg4 : g4 < wr.heap.size := x0.lt
    by_cases hlt : i < l.length
    · obtain ⟨⟨p, v⟩, hx⟩ : ∃ x, l[i]? = some x := ⟨_, List.getElem?_eq_getElem hlt⟩
      obtain ⟨ad, q, px, hA, hqe, hpx, hpx2, hqb, _, hcs, hcv⟩ := Pl.elem (w := wr) (Row.carry v0 (Below.refl _ _) hbw.size) (Below.refl _ _) hx
      have hqb : q.block < w.heap.size := by
        obtain ⟨ad2, hA2, h1, _⟩ := Pl.at_ (w := wr) (B := w.heap.size) v0 (by omega)
        rw [hA] at hA2; injection hA2 with hA2; subst hA2
        rw [hqe, add_block]; exact h1
      subst hA
      have hps : p.length ≤ 40 := HS.out _ (List.mem_of_getElem? hx)
      have hvb : -9223372036854775808 ≤ v ∧ v ≤ 9223372036854775807 := (HU.out _ (List.mem_of_getElem? hx)).2
      have HQE := Lib.hid hqe
      have HQB := Lib.hid hqb
      obtain ⟨w1', hw1⟩ : ∃ x, x = wr.alloc (.cells #[.slice none 0 0] 24) := ⟨_, rfl⟩
      have bx : Below wr.heap.size wr w1' := by rw [hw1]; exact (Below.refl _ _).alloc (Nat.le_refl _) _
      have y1 : Blk w1' wr.heap.size 24 [.slice none 0 0] := by rw [hw1]; exact Blk.newAt _ _ [_] _ rfl
      have x1 := x0.past bx x0.lt
      have n1 := n0.go bx
      have p1 := p0.go bx
      have r1 := r0.past bx r0.lt
      have v1 : Row w1' w.heap.size 2 l.length (.slice (some ad) l.length c) (pvs l) := v0.carry (bx.mono hbw.size) (Nat.le_refl _)
      have b1 := hbw.trans (bx.mono hbw.size)
      have hwr : w.heap.size ≤ wr.heap.size := hbw.size
      have cs1 : w1'.cell? q = some (.string ⟨p.toArray⟩) := (bx.cell (Nat.lt_of_lt_of_le hqb hwr)).trans hcs
      have cv1 : w1'.cell? ⟨q.block, q.off + 1, none⟩ = some (.int .i64 v) := (bx.cell (p := ⟨q.block, q.off + 1, none⟩) (Nat.lt_of_lt_of_le hqb hwr)).trans hcv
      have hNL : ∀ q, (Value.slice Ax nx cx).ownBlock = some q → q < wr.heap.size := fun q hq => (n0.lt q hq).2
      have hPL : ∀ q, u5.ownBlock = some q → q < wr.heap.size := fun q hq => (p0.lt q hq).2
      have HGW := Lib.hid hwr1
      have HWA := Lib.hid hw1
      have HKP := Lib.hid hkp
      have hz1 : wr.heap.size < w1'.heap.size := y1.lt
      obtain ⟨g7, hg7⟩ : ∃ q, wr.heap.size = q := ⟨_, rfl⟩
      clear hqe hpx hpx2 hx hqb hcs hcv hw1 hkp x0 n0 p0 r0 v0 hbw bx
      go_upto_region 8 with (fail)
      rw [← HWA.out]
      rw [hg7] at y1 hz1 hwr hg4 hNL hPL
      have NLT := Lib.hid hNL
      have PLT := Lib.hid hPL
      clear hNL hPL
      have HG7 := Lib.hid hg7
      clear hg7
      by_cases hpos : 0 < v
      
      · go_upto_region 9 with (first | (refine wp_run rfl (exec_ixS 40 74 2 Try.underlying40 info_upd2 _ rfl rfl .i64 (i : Int) i rfl rfl hlt HQE.out) ?_))
        refine wp_region_pt g7 (.take 0 (.take 1 (.take 2 (.take 3 (.take 4 (.take 5 (.take 6 (.take 7 (.take 8 (.take 9 (.take 10 (.step 11 (.take 12 (.take 13 (.take 14 (.step 15 (.take 16 .done))))))))))))))))) (by kernel_rfl) (by kernel_rfl) (by kernel_rfl) (fun _ _ h => h) ?_
        obtain ⟨w2', hdr⟩ : ∃ x, x = w1'.drew := ⟨_, rfl⟩
        have bx : Below w1'.heap.size w1' w2' := by rw [hdr]; exact (Below.refl _ _).drew
        have x2 := x1.past bx x1.lt
        have y2 := y1.past bx y1.lt
        have n2 := n1.go bx
        have p2 := p1.go bx
        have r2 := r1.past bx r1.lt
        have v2 := v1.carry (bx.mono b1.size) (Nat.le_refl _)
        have b2 := b1.trans (bx.mono b1.size)
        have cs2 := (bx.cell (Nat.lt_of_lt_of_le HQB.out b1.size)).trans cs1
        have cv2 := (bx.cell (p := ⟨q.block, q.off + 1, none⟩) (Nat.lt_of_lt_of_le HQB.out b1.size)).trans cv1
        have hz2 : g7 < w2'.heap.size := y2.lt
        have cx2 := x2.cell (j := 0) rfl
        have hqg : q.block < g7 := Nat.lt_of_lt_of_le HQB.out hwr
        have HQG := Lib.hid hqg
        rw [← hdr]
        clear hdr bx x1 y1 n1 p1 r1 v1 b1 cs1 cv1 hz1 hqg
        refine pt_take rfl rfl rfl rfl ?_
        apply Exists.intro
        refine ⟨fun w' hw' => ?_, ?_⟩
        · have hcell := (hw'.cell (p := ⟨g4, 0, none⟩) hg4).trans cx2
          focus ((repeat (first | go_skip | go_guarded | go_step | go_upon | go_back)); exact ⟨rfl, rfl, rfl⟩)
        first | refine pt_skip rfl rfl rfl rfl ?_ | (refine pt_take rfl rfl rfl rfl ?_; apply Exists.intro; refine ⟨fun w' hw' => ?_, ?_⟩; focus ((repeat (first | go_skip | go_guarded | go_step | go_upon | go_back)); exact ⟨rfl, rfl, rfl⟩))
        first | refine pt_skip rfl rfl rfl rfl ?_ | (refine pt_take rfl rfl rfl rfl ?_; apply Exists.intro; refine ⟨fun w' hw' => ?_, ?_⟩; focus ((repeat (first | go_skip | go_guarded | go_step | go_upon | go_back)); exact ⟨rfl, rfl, rfl⟩))
        refine pt_take rfl rfl rfl rfl ?_
        apply Exists.intro
        refine ⟨fun w' hw' => ?_, ?_⟩
        · refine wp_run rfl (exec_ixS 40 74 2 Try.underlying40 info_upd2 w' rfl rfl .i64 (i : Int) i rfl rfl hlt HQE.out) ?_
          exact ⟨rfl, rfl, rfl⟩
        first | refine pt_skip rfl rfl rfl rfl ?_ | (refine pt_take rfl rfl rfl rfl ?_; apply Exists.intro; refine ⟨fun w' hw' => ?_, ?_⟩; focus ((repeat (first | go_skip | go_guarded | go_step | go_upon | go_back)); exact ⟨rfl, rfl, rfl⟩))
        refine pt_take rfl rfl rfl rfl ?_
        apply Exists.intro
        refine ⟨fun w' hw' => ?_, ?_⟩
        · have hcell := (hw'.cell (p := q) HQG.out).trans cs2
          focus ((repeat (first | go_skip | go_guarded | go_step | go_upon | go_back)); exact ⟨rfl, rfl, rfl⟩)
        first | refine pt_skip rfl rfl rfl rfl ?_ | (refine pt_take rfl rfl rfl rfl ?_; apply Exists.intro; refine ⟨fun w' hw' => ?_, ?_⟩; focus ((repeat (first | go_skip | go_guarded | go_step | go_upon | go_back)); exact ⟨rfl, rfl, rfl⟩))
        first | refine pt_skip rfl rfl rfl rfl ?_ | (refine pt_take rfl rfl rfl rfl ?_; apply Exists.intro; refine ⟨fun w' hw' => ?_, ?_⟩; focus ((repeat (first | go_skip | go_guarded | go_step | go_upon | go_back)); exact ⟨rfl, rfl, rfl⟩))
        refine pt_take rfl rfl rfl rfl ?_
        apply Exists.intro
        refine ⟨fun w' hw' => ?_, ?_⟩
        · refine wp_run rfl (exec_ixS 40 74 2 Try.underlying40 info_upd2 w' rfl rfl .i64 (i : Int) i rfl rfl hlt HQE.out) ?_
          exact ⟨rfl, rfl, rfl⟩
        first | refine pt_skip rfl rfl rfl rfl ?_ | (refine pt_take rfl rfl rfl rfl ?_; apply Exists.intro; refine ⟨fun w' hw' => ?_, ?_⟩; focus ((repeat (first | go_skip | go_guarded | go_step | go_upon | go_back)); exact ⟨rfl, rfl, rfl⟩))
        refine pt_take rfl rfl rfl rfl ?_
        apply Exists.intro
        refine ⟨fun w' hw' => ?_, ?_⟩
        · have hcell := (hw'.cell (p := ⟨q.block, q.off + 1, none⟩) HQG.out).trans cv2
          focus ((repeat (first | go_skip | go_guarded | go_step | go_upon | go_back)); exact ⟨rfl, rfl, rfl⟩)
        refine pt_step rfl ?_
        go_wp2_with fail
        have hC := put_any Ax nx cx X p v w2' n2.nds (by omega) (by omega)
        obtain ⟨pe, hpe⟩ : ∃ z, putE X nx p v = z := ⟨_, rfl⟩
        obtain ⟨ny, hny⟩ : ∃ z, putN X nx p v = z := ⟨_, rfl⟩
        obtain ⟨Y, hY⟩ : ∃ z, putF X nx p v = z := ⟨_, rfl⟩
        rw [hpe, hny, hY] at hC
        have HP := Lib.hid (And.intro hpe (And.intro hny hY))
        clear hpe hny hY
        unfold str at hC
        refine hC.mono ?_
        rintro e w3 ⟨⟨u, rfl, o3⟩, bx⟩
        obtain ⟨Ay, cy, rfl⟩ := row_form o3.nds
        clear hC
        go_wp2_with fail
        refine ⟨rfl, bx.mono (Nat.le_of_lt hz2), ?_⟩
        have x3 := x2.past bx x2.lt
        have y3 := y2.past bx y2.lt
        have n3 := n2.go bx
        have p3 := p2.go bx
        have r3 := r2.past bx r2.lt
        have v3 := v2.carry (bx.mono b2.size) (Nat.le_refl _)
        have b3 := b2.trans (bx.mono b2.size)
        have cs3 := (bx.cell (Nat.lt_of_lt_of_le HQB.out b2.size)).trans cs2
        have cv3 := (bx.cell (p := ⟨q.block, q.off + 1, none⟩) (Nat.lt_of_lt_of_le HQB.out b2.size)).trans cv2
        have hz3 : g7 < w3.heap.size := y3.lt
        clear bx x2 y2 n2 p2 r2 v2 b2 cs2 cv2 cx2
        first | refine pt_skip rfl rfl rfl rfl ?_ | (refine pt_take rfl rfl rfl rfl ?_; apply Exists.intro; refine ⟨fun w' hw' => ?_, ?_⟩; focus ((repeat (first | go_skip | go_guarded | go_step | go_upon | go_back)); exact ⟨rfl, rfl, rfl⟩))
        first | refine pt_skip rfl rfl rfl rfl ?_ | (refine pt_take rfl rfl rfl rfl ?_; apply Exists.intro; refine ⟨fun w' hw' => ?_, ?_⟩; focus ((repeat (first | go_skip | go_guarded | go_step | go_upon | go_back)); exact ⟨rfl, rfl, rfl⟩))
        first | refine pt_skip rfl rfl rfl rfl ?_ | (refine pt_take rfl rfl rfl rfl ?_; apply Exists.intro; refine ⟨fun w' hw' => ?_, ?_⟩; focus ((repeat (first | go_skip | go_guarded | go_step | go_upon | go_back)); exact ⟨rfl, rfl, rfl⟩))
        refine pt_step rfl ?_
        go_wp2_with (first | (refine wp_storeA 24 (.tmp 7) (.tmp 35) rfl rfl g7 rfl 24 [.slice none 0 0] [.slice Ay ny cy] rfl y3 (by rw [info_trie]; rfl) rfl (by intro v hv; simp at hv; subst hv; rfl) rfl ?_; intro w4 k4 kk4))
        have bx : Below g7 w3 w4 := kk4.below (fun q hq => by omega) (Nat.le_of_lt hz3)
        refine ⟨rfl, bx, ?_⟩
        have x4 := x3.past bx hg4
        have n4 := n3.keep kk4 (fun q hq => by have := (n3.lt q hq); have h8 := NLT.out q hq; omega)
        have o4 := (o3.keep kk4 (fun q hq => by have := (o3.lt q hq).1; omega)).up (by omega : g4 + 1 ≤ w2'.heap.size)
        have p4 := p3.keep kk4 (fun q hq => by have h8 := PLT.out q hq; omega)
        have r4 := r3.past bx (by omega)
        have v4 := v3.carry (bx.mono hwr) (Nat.le_refl _)
        have b4 := b3.trans (bx.mono hwr)
        have cs4 := (bx.cell HQG.out).trans cs3
        have cv4 := (bx.cell (p := ⟨q.block, q.off + 1, none⟩) HQG.out).trans cv3
        have cy4 := k4.cell (j := 0) rfl
        have hz4 : g7 < w4.heap.size := k4.lt
        clear bx x3 y3 n3 p3 r3 v3 b3 cs3 cv3 o3 kk4 hz3 hz2
        first | refine pt_skip rfl rfl rfl rfl ?_ | (refine pt_take rfl rfl rfl rfl ?_; apply Exists.intro; refine ⟨fun w' hw' => ?_, ?_⟩; focus ((repeat (first | go_skip | go_guarded | go_step | go_upon | go_back)); exact ⟨rfl, rfl, rfl⟩))
        change Exit.then _ _ Exit.normal _ _
        have step : ∀ (R : Prop), (∀ hy0 : (pe == 0) = true, R) → (∀ hy0 : (pe == 0) = false, R) → R := fun R h1 h2 => by
          cases hc : (pe == 0)
          · exact h2 hc
          · exact h1 hc
        refine step _ (fun hy0 => ?_) (fun hy0 => ?_)
        rotate_left
        · have hy1 : (pe != 0) = true := by rw [bne, hy0]; rfl
          clear step cs4 cv4 cy4 o4 k4
          go_wp2_with fail
          go_roundw
          case measure => show l.length - ((i : Int) + 1).toNat < l.length - ((i : Int)).toNat; omega
          case rel => exact ⟨i + 1, _, _, _, _, _, by simp, by omega, HKP.out, by omega, x4, n4, p4, r4, v4, b4⟩
        have hy1 : (pe != 0) = false := by rw [bne, hy0]; rfl
        have hkp2 := HKP.out.put hpos (HP.out.1.trans (eq_of_beq hy0))
        rw [HP.out.2.1, HP.out.2.2] at hkp2
        have HK2 := Lib.hid hkp2
        have hK2l : (wout K p).length ≤ K.length := wout_len K p
        obtain ⟨K2, hK2⟩ : ∃ z, wout K p = z := ⟨_, rfl⟩
        rw [hK2] at HK2 hK2l
        have HKK := Lib.hid hK2
        clear step hkp2 hK2
        go_wp2_with (first | (refine wp_storeA 24 (.tmp 4) (.tmp 49) rfl rfl g4 rfl 24 [.slice Ax nx cx] [.slice Ay ny cy] rfl x4 (by rw [info_trie]; rfl) rfl (by intro v hv; simp at hv; subst hv; rfl) rfl ?_; intro w5 k5 kk5; have cs5 := kk5.cell (p := q) (by have := HQB.out; have := HGW.out; omega) cs4; have cv5 := kk5.cell (p := ⟨q.block, q.off + 1, none⟩) (show q.block ≠ g4 by have := HQB.out; have := HGW.out; omega) cv4; have p5 := p4.keep kk5 (fun q hq => by have h8 := (p4.lt q hq).1; omega); have o5 := (o4.keep kk5 (fun q hq => by have h8 := (o4.lt q hq).1; omega)); have bw5 : Below w.heap.size w4 w5 := kk5.below (fun q hq => by have := HGW.out; omega) (by omega); have r5 := r4.keep kk5 (by have := HGW.out; omega); have v5 := v4.carry bw5 (Nat.le_refl _); have b5 := b4.trans bw5; have hz5 : g7 < w5.heap.size := Nat.lt_of_lt_of_le hz4 kk5.size; clear n4 x4 k4 o4 p4 kk5 bw5 r4 v4 b4 cs4 cv4 cy4 hz4) | (refine wp_run rfl (exec_ixS 40 74 2 Try.underlying40 info_upd2 _ rfl rfl .i64 (i : Int) i rfl rfl hlt HQE.out) ?_))
        obtain ⟨Ak, ck, rfl⟩ := own_form p5
        have hC := without_any (.slice Ak K.length ck) K p w5 p5.pl (by omega) (by omega)
        rw [HKK.out] at hC
        unfold str at hC
        refine hC.mono ?_
        rintro e w6 ⟨⟨u, rfl, o6⟩, bx⟩
        have x6 := k5.past bx k5.lt
        have n6 := o5.go bx
        have r6 := r5.past bx r5.lt
        have v6 := v5.carry (bx.mono b5.size) (Nat.le_refl _)
        have b6 := b5.trans (bx.mono b5.size)
        have cs6 := (bx.cell (Nat.lt_of_lt_of_le HQB.out b5.size)).trans cs5
        have cv6 := (bx.cell (p := ⟨q.block, q.off + 1, none⟩) (Nat.lt_of_lt_of_le HQB.out b5.size)).trans cv5
        have hz6 : g7 < w6.heap.size := Nat.lt_of_lt_of_le hz5 bx.size
        have NL5 := Lib.hid (fun q hq => (o5.lt q hq).2 : ∀ q, (Value.slice Ay ny cy).ownBlock = some q → q < w5.heap.size)
        have hg45 : g4 < w5.heap.size := k5.lt
        have hw56 : w5.heap.size ≤ w6.heap.size := bx.size
        have hww5 : w.heap.size ≤ w5.heap.size := b5.size
        clear hC bx k5 o5 r5 v5 b5 cs5 cv5 p5 hz5
        go_upto_region 15 with (first | (refine wp_run rfl (exec_ixS 40 74 2 Try.underlying40 info_upd2 _ rfl rfl .i64 (i : Int) i rfl rfl hlt HQE.out) ?_))
        refine wp_region_pt w5.heap.size (.take 0 (.take 1 (.take 2 (.take 3 (.take 4 (.take 5 (.take 6 (.take 7 (.take 8 (.take 9 (.take 10 (.step 11 (.step 12 (.step 13 (.take 14 .done))))))))))))))) (by kernel_rfl) (by kernel_rfl) (by kernel_rfl) (fun _ _ h => h) ?_
        obtain ⟨w7, hdr⟩ : ∃ x, x = w6.drew := ⟨_, rfl⟩
        have bx : Below w6.heap.size w6 w7 := by rw [hdr]; exact (Below.refl _ _).drew
        have o7 := o6.go bx
        have cs7 := (bx.cell (Nat.lt_of_lt_of_le HQB.out b6.size)).trans cs6
        have cv7 := (bx.cell (p := ⟨q.block, q.off + 1, none⟩) (Nat.lt_of_lt_of_le HQB.out b6.size)).trans cv6
        have hq6 : q.block < w5.heap.size := Nat.lt_of_lt_of_le HQB.out hww5
        have HQ6 := Lib.hid hq6
        obtain ⟨Au, cu, rfl⟩ := own_form o6
        have b67 : Below w5.heap.size w6 w7 := bx.mono hw56
        have hzz : w5.heap.size ≤ w7.heap.size := Nat.le_trans hw56 bx.size
        rw [← hdr]
        clear hdr cs6 cv6 o6 hq6 bx
        first | refine pt_skip rfl rfl rfl rfl ?_ | (refine pt_take rfl rfl rfl rfl ?_; apply Exists.intro; refine ⟨fun w' hw' => ?_, ?_⟩; focus ((repeat (first | go_skip | go_guarded | go_step | go_upon | go_back)); exact ⟨rfl, rfl, rfl⟩))
        first | refine pt_skip rfl rfl rfl rfl ?_ | (refine pt_take rfl rfl rfl rfl ?_; apply Exists.intro; refine ⟨fun w' hw' => ?_, ?_⟩; focus ((repeat (first | go_skip | go_guarded | go_step | go_upon | go_back)); exact ⟨rfl, rfl, rfl⟩))
        first | refine pt_skip rfl rfl rfl rfl ?_ | (refine pt_take rfl rfl rfl rfl ?_; apply Exists.intro; refine ⟨fun w' hw' => ?_, ?_⟩; focus ((repeat (first | go_skip | go_guarded | go_step | go_upon | go_back)); exact ⟨rfl, rfl, rfl⟩))
        refine pt_take rfl rfl rfl rfl ?_
        apply Exists.intro
        refine ⟨fun w' hw' => ?_, ?_⟩
        · refine wp_run rfl (exec_ixS 40 74 2 Try.underlying40 info_upd2 w' rfl rfl .i64 (i : Int) i rfl rfl hlt HQE.out) ?_
          exact ⟨rfl, rfl, rfl⟩
        first | refine pt_skip rfl rfl rfl rfl ?_ | (refine pt_take rfl rfl rfl rfl ?_; apply Exists.intro; refine ⟨fun w' hw' => ?_, ?_⟩; focus ((repeat (first | go_skip | go_guarded | go_step | go_upon | go_back)); exact ⟨rfl, rfl, rfl⟩))
        refine pt_take rfl rfl rfl rfl ?_
        apply Exists.intro
        refine ⟨fun w' hw' => ?_, ?_⟩
        · have hcell := (hw'.cell (p := q) HQ6.out).trans cs7
          focus ((repeat (first | go_skip | go_guarded | go_step | go_upon | go_back)); exact ⟨rfl, rfl, rfl⟩)
        first | refine pt_skip rfl rfl rfl rfl ?_ | (refine pt_take rfl rfl rfl rfl ?_; apply Exists.intro; refine ⟨fun w' hw' => ?_, ?_⟩; focus ((repeat (first | go_skip | go_guarded | go_step | go_upon | go_back)); exact ⟨rfl, rfl, rfl⟩))
        first | refine pt_skip rfl rfl rfl rfl ?_ | (refine pt_take rfl rfl rfl rfl ?_; apply Exists.intro; refine ⟨fun w' hw' => ?_, ?_⟩; focus ((repeat (first | go_skip | go_guarded | go_step | go_upon | go_back)); exact ⟨rfl, rfl, rfl⟩))
        refine pt_take rfl rfl rfl rfl ?_
        apply Exists.intro
        refine ⟨fun w' hw' => ?_, ?_⟩
        · refine wp_run rfl (exec_ixS 40 74 2 Try.underlying40 info_upd2 w' rfl rfl .i64 (i : Int) i rfl rfl hlt HQE.out) ?_
          exact ⟨rfl, rfl, rfl⟩
        first | refine pt_skip rfl rfl rfl rfl ?_ | (refine pt_take rfl rfl rfl rfl ?_; apply Exists.intro; refine ⟨fun w' hw' => ?_, ?_⟩; focus ((repeat (first | go_skip | go_guarded | go_step | go_upon | go_back)); exact ⟨rfl, rfl, rfl⟩))
        refine pt_take rfl rfl rfl rfl ?_
        apply Exists.intro
        refine ⟨fun w' hw' => ?_, ?_⟩
        · have hcell := (hw'.cell (p := ⟨q.block, q.off + 1, none⟩) HQ6.out).trans cv7
          focus ((repeat (first | go_skip | go_guarded | go_step | go_upon | go_back)); exact ⟨rfl, rfl, rfl⟩)
        obtain ⟨pc, hpc⟩ : ∃ pc, pc = pvc (p, v) := ⟨_, rfl⟩
        have hpc2 : pc.length = 2 := by rw [hpc]; rfl
        have HPC := Lib.hid hpc
        have HPC2 := Lib.hid hpc2
        clear hpc hpc2
        refine pt_step rfl ?_
        go_wp2_with (first | (refine wp_run rfl (exec_pv (.tmp 68) (.tmp 73) rfl (p, v) pc HPC.out rfl rfl _) ?_))
        refine ⟨rfl, Below.refl _ _, ?_⟩
        refine pt_step rfl ?_
        go_wp2_with (first | (refine wp_run rfl (exec_build1 38 45 2 i0 _ (by decide) (by decide) Try.underlying38 hi0 hz0n hz1n pc HPC2.out (.tmp 74) rfl rfl _) ?_))
        have ba : Below w5.heap.size w7 (w7.alloc (.cells pc.toArray 45)) := (Below.refl _ _).alloc hzz _
        refine ⟨rfl, ba, ?_⟩
        refine pt_step rfl ?_
        go_wp2_with (first | (refine wp_appP w5.heap.size (.tmp 63) (.tmp 75) rfl rfl (.slice Au K2.length cu) K2 (p, v) pc HPC.out rfl rfl rfl o7 hzz (by omega) ?_; intro v8 w8 o8 gr8))
        have bb : Below w5.heap.size (w7.alloc (.cells pc.toArray 45)) w8 := below_ownP (World.ownsRow.alloc o7 _) (by simp; omega) gr8.1
        refine ⟨rfl, bb, ?_⟩
        have b68 := b67.trans (ba.trans bb)
        have x8 := x6.past b68 hg45
        have n8 := n6.keep (keep_lt b68) NL5.out
        have r8 := r6.past b68 (by omega)
        have v8' := v6.carry (b68.mono hww5) (Nat.le_refl _)
        have b8 := b6.trans (b68.mono hww5)
        clear b67 ba bb gr8 b68 o7 x6 n6 r6 v6 b6 cs7 cv7
        first | refine pt_skip rfl rfl rfl rfl ?_ | (refine pt_take rfl rfl rfl rfl ?_; apply Exists.intro; refine ⟨fun w' hw' => ?_, ?_⟩; focus ((repeat (first | go_skip | go_guarded | go_step | go_upon | go_back)); exact ⟨rfl, rfl, rfl⟩))
        change Exit.inBlock _ _ Exit.normal _ _
        go_wp2_with fail
        go_roundw
        case measure => show l.length - ((i : Int) + 1).toNat < l.length - ((i : Int)).toNat; omega
        case rel => exact ⟨i + 1, _, _, _, _, _, by simp, by omega, HK2.out, by simp; omega, x8, n8.up (by omega), o8.up (by omega), r8, v8', b8⟩
      · go_upto_region 10 with (first | (refine wp_run rfl (exec_ixS 40 74 2 Try.underlying40 info_upd2 _ rfl rfl .i64 (i : Int) i rfl rfl hlt HQE.out) ?_))
        refine wp_region_pt g7 (.take 0 (.take 1 (.take 2 (.take 3 (.take 4 (.take 5 (.step 6 (.take 7 (.take 8 (.take 9 (.step 10 (.take 11 .done)))))))))))) (by kernel_rfl) (by kernel_rfl) (by kernel_rfl) (fun _ _ h => h) ?_
        obtain ⟨w2', hdr⟩ : ∃ x, x = w1'.drew := ⟨_, rfl⟩
        have bx : Below w1'.heap.size w1' w2' := by rw [hdr]; exact (Below.refl _ _).drew
        have x2 := x1.past bx x1.lt
        have y2 := y1.past bx y1.lt
        have n2 := n1.go bx
        have p2 := p1.go bx
        have r2 := r1.past bx r1.lt
        have v2 := v1.carry (bx.mono b1.size) (Nat.le_refl _)
        have b2 := b1.trans (bx.mono b1.size)
        have cs2 := (bx.cell (Nat.lt_of_lt_of_le HQB.out b1.size)).trans cs1
        have cv2 := (bx.cell (p := ⟨q.block, q.off + 1, none⟩) (Nat.lt_of_lt_of_le HQB.out b1.size)).trans cv1
        have hz2 : g7 < w2'.heap.size := y2.lt
        have cx2 := x2.cell (j := 0) rfl
        have hqg : q.block < g7 := Nat.lt_of_lt_of_le HQB.out hwr
        have HQG := Lib.hid hqg
        rw [← hdr]
        clear hdr bx x1 y1 n1 p1 r1 v1 b1 cs1 cv1 hz1 hqg
        refine pt_take rfl rfl rfl rfl ?_
        apply Exists.intro
        refine ⟨fun w' hw' => ?_, ?_⟩
        · have hcell := (hw'.cell (p := ⟨g4, 0, none⟩) hg4).trans cx2
          focus ((repeat (first | go_skip | go_guarded | go_step | go_upon | go_back)); exact ⟨rfl, rfl, rfl⟩)
        first | refine pt_skip rfl rfl rfl rfl ?_ | (refine pt_take rfl rfl rfl rfl ?_; apply Exists.intro; refine ⟨fun w' hw' => ?_, ?_⟩; focus ((repeat (first | go_skip | go_guarded | go_step | go_upon | go_back)); exact ⟨rfl, rfl, rfl⟩))
        first | refine pt_skip rfl rfl rfl rfl ?_ | (refine pt_take rfl rfl rfl rfl ?_; apply Exists.intro; refine ⟨fun w' hw' => ?_, ?_⟩; focus ((repeat (first | go_skip | go_guarded | go_step | go_upon | go_back)); exact ⟨rfl, rfl, rfl⟩))
        refine pt_take rfl rfl rfl rfl ?_
        apply Exists.intro
        refine ⟨fun w' hw' => ?_, ?_⟩
        · refine wp_run rfl (exec_ixS 40 74 2 Try.underlying40 info_upd2 w' rfl rfl .i64 (i : Int) i rfl rfl hlt HQE.out) ?_
          exact ⟨rfl, rfl, rfl⟩
        first | refine pt_skip rfl rfl rfl rfl ?_ | (refine pt_take rfl rfl rfl rfl ?_; apply Exists.intro; refine ⟨fun w' hw' => ?_, ?_⟩; focus ((repeat (first | go_skip | go_guarded | go_step | go_upon | go_back)); exact ⟨rfl, rfl, rfl⟩))
        refine pt_take rfl rfl rfl rfl ?_
        apply Exists.intro
        refine ⟨fun w' hw' => ?_, ?_⟩
        · have hcell := (hw'.cell (p := q) HQG.out).trans cs2
          focus ((repeat (first | go_skip | go_guarded | go_step | go_upon | go_back)); exact ⟨rfl, rfl, rfl⟩)
        refine pt_step rfl ?_
        go_wp2_with fail
        have hC := drop_any Ax nx cx X p w2' n2.nds (by omega) (by omega)
        obtain ⟨pe, hpe⟩ : ∃ z, chp X nx p = z := ⟨_, rfl⟩
        obtain ⟨ny, hny⟩ : ∃ z, drpN X nx p = z := ⟨_, rfl⟩
        obtain ⟨Y, hY⟩ : ∃ z, drpF X nx p = z := ⟨_, rfl⟩
        rw [hpe, hny, hY] at hC
        have HP := Lib.hid (And.intro hpe (And.intro hny hY))
        clear hpe hny hY
        unfold str at hC
        refine hC.mono ?_
        rintro e w3 ⟨⟨u, rfl, o3⟩, bx⟩
        obtain ⟨Ay, cy, rfl⟩ := row_form o3.nds
        clear hC
        go_wp2_with fail
        refine ⟨rfl, bx.mono (Nat.le_of_lt hz2), ?_⟩
        have x3 := x2.past bx x2.lt
        have y3 := y2.past bx y2.lt
        have n3 := n2.go bx
        have p3 := p2.go bx
        have r3 := r2.past bx r2.lt
        have v3 := v2.carry (bx.mono b2.size) (Nat.le_refl _)
        have b3 := b2.trans (bx.mono b2.size)
        have cs3 := (bx.cell (Nat.lt_of_lt_of_le HQB.out b2.size)).trans cs2
        have cv3 := (bx.cell (p := ⟨q.block, q.off + 1, none⟩) (Nat.lt_of_lt_of_le HQB.out b2.size)).trans cv2
        have hz3 : g7 < w3.heap.size := y3.lt
        clear bx x2 y2 n2 p2 r2 v2 b2 cs2 cv2 cx2
        first | refine pt_skip rfl rfl rfl rfl ?_ | (refine pt_take rfl rfl rfl rfl ?_; apply Exists.intro; refine ⟨fun w' hw' => ?_, ?_⟩; focus ((repeat (first | go_skip | go_guarded | go_step | go_upon | go_back)); exact ⟨rfl, rfl, rfl⟩))
        first | refine pt_skip rfl rfl rfl rfl ?_ | (refine pt_take rfl rfl rfl rfl ?_; apply Exists.intro; refine ⟨fun w' hw' => ?_, ?_⟩; focus ((repeat (first | go_skip | go_guarded | go_step | go_upon | go_back)); exact ⟨rfl, rfl, rfl⟩))
        first | refine pt_skip rfl rfl rfl rfl ?_ | (refine pt_take rfl rfl rfl rfl ?_; apply Exists.intro; refine ⟨fun w' hw' => ?_, ?_⟩; focus ((repeat (first | go_skip | go_guarded | go_step | go_upon | go_back)); exact ⟨rfl, rfl, rfl⟩))
        refine pt_step rfl ?_
        go_wp2_with (first | (refine wp_storeA 24 (.tmp 7) (.tmp 45) rfl rfl g7 rfl 24 [.slice none 0 0] [.slice Ay ny cy] rfl y3 (by rw [info_trie]; rfl) rfl (by intro v hv; simp at hv; subst hv; rfl) rfl ?_; intro w4 k4 kk4))
        have bx : Below g7 w3 w4 := kk4.below (fun q hq => by omega) (Nat.le_of_lt hz3)
        refine ⟨rfl, bx, ?_⟩
        have x4 := x3.past bx hg4
        have n4 := n3.keep kk4 (fun q hq => by have := (n3.lt q hq); have h8 := NLT.out q hq; omega)
        have o4 := (o3.keep kk4 (fun q hq => by have := (o3.lt q hq).1; omega)).up (by omega : g4 + 1 ≤ w2'.heap.size)
        have p4 := p3.keep kk4 (fun q hq => by have h8 := PLT.out q hq; omega)
        have r4 := r3.past bx (by omega)
        have v4 := v3.carry (bx.mono hwr) (Nat.le_refl _)
        have b4 := b3.trans (bx.mono hwr)
        have cs4 := (bx.cell HQG.out).trans cs3
        have cv4 := (bx.cell (p := ⟨q.block, q.off + 1, none⟩) HQG.out).trans cv3
        have cy4 := k4.cell (j := 0) rfl
        have hz4 : g7 < w4.heap.size := k4.lt
        clear bx x3 y3 n3 p3 r3 v3 b3 cs3 cv3 o3 kk4 hz3 hz2
        first | refine pt_skip rfl rfl rfl rfl ?_ | (refine pt_take rfl rfl rfl rfl ?_; apply Exists.intro; refine ⟨fun w' hw' => ?_, ?_⟩; focus ((repeat (first | go_skip | go_guarded | go_step | go_upon | go_back)); exact ⟨rfl, rfl, rfl⟩))
        change Exit.then _ _ Exit.normal _ _
        have step : ∀ (R : Prop), (∀ hy0 : (pe == 0) = true, R) → (∀ hy0 : (pe == 0) = false, R) → R := fun R h1 h2 => by
          cases hc : (pe == 0)
          · exact h2 hc
          · exact h1 hc
        refine step _ (fun hy0 => ?_) (fun hy0 => ?_)
        rotate_left
        · have hy1 : (pe != 0) = true := by rw [bne, hy0]; rfl
          clear step cs4 cv4 cy4 o4 k4
          go_wp2_with fail
          go_roundw
          case measure => show l.length - ((i : Int) + 1).toNat < l.length - ((i : Int)).toNat; omega
          case rel => exact ⟨i + 1, _, _, _, _, _, by simp, by omega, HKP.out, by omega, x4, n4, p4, r4, v4, b4⟩
        have hy1 : (pe != 0) = false := by rw [bne, hy0]; rfl
        have hkp2 := HKP.out.drop (HP.out.1.trans (eq_of_beq hy0))
        rw [HP.out.2.1, HP.out.2.2] at hkp2
        have HK2 := Lib.hid hkp2
        have hK2l : (wout K p).length ≤ K.length := wout_len K p
        obtain ⟨K2, hK2⟩ : ∃ z, wout K p = z := ⟨_, rfl⟩
        rw [hK2] at HK2 hK2l
        have HKK := Lib.hid hK2
        clear step hkp2 hK2
        go_wp2_with (first | (refine wp_storeA 24 (.tmp 4) (.tmp 49) rfl rfl g4 rfl 24 [.slice Ax nx cx] [.slice Ay ny cy] rfl x4 (by rw [info_trie]; rfl) rfl (by intro v hv; simp at hv; subst hv; rfl) rfl ?_; intro w5 k5 kk5; have cs5 := kk5.cell (p := q) (by have := HQB.out; have := HGW.out; omega) cs4; have cv5 := kk5.cell (p := ⟨q.block, q.off + 1, none⟩) (show q.block ≠ g4 by have := HQB.out; have := HGW.out; omega) cv4; have p5 := p4.keep kk5 (fun q hq => by have h8 := (p4.lt q hq).1; omega); have o5 := (o4.keep kk5 (fun q hq => by have h8 := (o4.lt q hq).1; omega)); have bw5 : Below w.heap.size w4 w5 := kk5.below (fun q hq => by have := HGW.out; omega) (by omega); have r5 := r4.keep kk5 (by have := HGW.out; omega); have v5 := v4.carry bw5 (Nat.le_refl _); have b5 := b4.trans bw5; have hz5 : g7 < w5.heap.size := Nat.lt_of_lt_of_le hz4 kk5.size; clear n4 x4 k4 o4 p4 kk5 bw5 r4 v4 b4 cs4 cv4 cy4 hz4) | (refine wp_run rfl (exec_ixS 40 74 2 Try.underlying40 info_upd2 _ rfl rfl .i64 (i : Int) i rfl rfl hlt HQE.out) ?_))
        obtain ⟨Ak, ck, rfl⟩ := own_form p5
        have hC := without_any (.slice Ak K.length ck) K p w5 p5.pl (by omega) (by omega)
        rw [HKK.out] at hC
        unfold str at hC
        refine hC.mono ?_
        rintro e w6 ⟨⟨u, rfl, o6⟩, bx⟩
        have x6 := k5.past bx k5.lt
        have n6 := o5.go bx
        have r6 := r5.past bx r5.lt
        have v6 := v5.carry (bx.mono b5.size) (Nat.le_refl _)
        have b6 := b5.trans (bx.mono b5.size)
        have cs6 := (bx.cell (Nat.lt_of_lt_of_le HQB.out b5.size)).trans cs5
        have cv6 := (bx.cell (p := ⟨q.block, q.off + 1, none⟩) (Nat.lt_of_lt_of_le HQB.out b5.size)).trans cv5
        have hz6 : g7 < w6.heap.size := Nat.lt_of_lt_of_le hz5 bx.size
        have o6b : OwnP w6 (g4 + 1) u K2 := o6.up (by omega)
        clear hC bx k5 o5 r5 v5 b5 cs5 cv5 p5 hz5
        go_wp2_with (first | (refine wp_run rfl (exec_ixS 40 74 2 Try.underlying40 info_upd2 _ rfl rfl .i64 (i : Int) i rfl rfl hlt HQE.out) ?_))
        go_roundw
        case measure => show l.length - ((i : Int) + 1).toNat < l.length - ((i : Int)).toNat; omega
        case rel => exact ⟨i + 1, _, _, _, _, _, by simp, by omega, HK2.out, by omega, x6, n6.up (by omega), o6b, r6, v6, b6⟩
    · obtain rfl : i = l.length := by omega
      obtain ⟨Ak, ck, rfl⟩ := own_form p0
      have HKP := Lib.hid hkp
      have cx0 := x0.cell (j := 0) rfl
      go_wp2_with (first | (refine wp_storeA 24 (.tmp 2) (.tmp 77) rfl rfl w.heap.size rfl 24 [.slice none 0 0] [.slice Ax nx cx] rfl r0 (by rw [info_trie]; rfl) rfl (by intro v hv; simp at hv; subst hv; rfl) rfl ?_; intro w9 k9 kk9))
      have n9 := n0.keep kk9 (fun q hq => by have := (n0.lt q hq).1; omega)
      have p9 := p0.keep kk9 (fun q hq => by have := (p0.lt q hq).1; omega)
      have b9 := hbw.trans (kk9.below (fun q hq => by omega) hbw.size)
      refine ret_row_tmp Try.results28 rfl w.heap.size 24 _ _ rfl k9 Try.underlying24 rfl (by rw [info_trie]; rfl) _ rfl ?_
      exact ⟨⟨_, _, _, _, _, _, rfl, HKP.out, by omega, n9.nds, p9.pl⟩, b9⟩
end Go.Proofs.Ytippbkooaonajaa
