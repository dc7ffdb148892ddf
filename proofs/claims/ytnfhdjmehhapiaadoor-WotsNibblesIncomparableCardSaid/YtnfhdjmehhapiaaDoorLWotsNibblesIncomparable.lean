/-
  The walk of WotsNibblesIncomparable.
-/
import Derived.Test.YtnfhdjmehhapiaaDoorWtH
import Derived.Test.YtnfhdjmehhapiaaDoorWtI
import Derived.Test.YtnfhdjmehhapiaaDoorOpA
namespace Go.Proofs.YtnfhdjmehhapiaaDoor
open Go.RowKit
set_option linter.unusedVariables false
set_option linter.unusedSimpArgs false

theorem ns_small (d : List UInt8) : ∀ x ∈ Wt.ns d, x < 1000000 := by
  intro x hx
  simp only [Wt.ns, List.mem_map] at hx
  obtain ⟨i, _, rfl⟩ := hx
  have := Wt.nn_le d i
  omega

theorem head_bs {w : World} {g : Nat} {d : List UInt8} (h : Blk w g 23 (u8s d)) (hd : d.length = 32) : Bs w w.heap.size (.slice (some ⟨g, 0, none⟩) 8 32) (d.take 8) := by
  have h1 := dig_bs h hd
  have e : d.take 8 ++ d.drop 8 = d := List.take_append_drop 8 d
  have hl : (d.take 8).length = 8 := by rw [List.length_take, hd]; rfl
  have h2 : Bs w w.heap.size (.slice (some ⟨g, 0, none⟩) (d.take 8 ++ d.drop 8).length 32) (d.take 8 ++ d.drop 8) := by rw [e, hd]; exact h1
  have h3 := h2.to
  rwa [hl] at h3

theorem exec_conv {P : Program} {o : Oper} {a : Act} {w : World} {B : Nat} (src dst e : TypeId) {x : Operand} (ho : o.op = .convert src dst x) (v : Value) (l : List UInt8) (hx : a.eval x = v) (h : Bs w B v l) (hs : P.underlying src = some (.slice e)) (he : P.underlying e = some (.int .u8)) (hd : P.underlying dst = some .string) :
    (execOp a.eval o).run P w = .ok (.value (.string ⟨l.toArray⟩)) w := by
  unfold execOp
  simp only [ho, hx, Sem.run_bind, Sem.run_pure, Result.andThen_ok, h.conv src dst e hs he hd, str]

set_option maxRecDepth 100000 in
set_option maxHeartbeats 2000000 in
theorem wotsNibblesIncomparable_walk (a b : List UInt8) (W : World) (ha : a.length = 32) (hb : b.length = 32) (hk : KIs 0 W) :
    Calls Tryd.prog 7 #[.agg (u8s a).toArray, .agg (u8s b).toArray] W fun e w' => e = .returned (.bool true) ∧ Below W.heap.size W w' := by
  have HUA := Lib.hid (show (u8s a).length = 32 by rw [u8s_length, ha])
  have HUB := Lib.hid (show (u8s b).length = 32 by rw [u8s_length, hb])
  have HA := Lib.hid ha
  have HB := Lib.hid hb
  obtain ⟨W0, hW0⟩ : ∃ W0, W0 = (W.alloc (.cells (u8s a).toArray 23)).alloc (.cells (u8s b).toArray 23) := ⟨_, rfl⟩
  have b0 : Below W.heap.size W W0 := by rw [hW0]; exact ((Below.refl _ _).alloc (Nat.le_refl _) _).alloc (by simp) _
  have ha0 : Blk W0 W.heap.size 23 (u8s a) := by
    rw [hW0]
    exact (Blk.new W _ _).past ((Below.refl _ _).alloc (Nat.le_refl _) _) (by simp)
  have hb0 : Blk W0 (W.heap.size + 1) 23 (u8s b) := by
    have h := Blk.new (W.alloc (.cells (u8s a).toArray 23)) 23 (u8s b)
    rw [World.size_alloc] at h
    rw [hW0]; exact h
  have HW := Lib.hid hW0
  have hk0 := hk.past b0
  clear hW0 ha hb
  go_enter Tryd.func7, Tryd.ntmps7
  go_upto_region 1 with (fail)
  rw [← HW.out]
  go_wp2_with fail
  refine (sane_any W0 hk0).mono ?_
  rintro e w1 ⟨rfl, b1⟩
  have ha1 := ha0.past b1 ha0.lt
  have hb1 := hb0.past b1 hb0.lt
  have bl1 := b0.trans (b1.mono b0.size)
  clear ha0 hb0 hk0 b0 b1
  go_wp2_with (refine wp_run rfl (exec_loadA 23 rfl W.heap.size rfl 23 _ 32 5 ha1 Tryd.underlying23 (by rw [info_dig, HUA.out])) ?_)
  refine (nibbles_any a w1 HA.out).mono ?_
  rintro e w2 ⟨g1, rfl, hm2, hg1, b2⟩
  have ha2 := ha1.past b2 ha1.lt
  have hb2 := hb1.past b2 hb1.lt
  have bl2 := bl1.trans (b2.mono bl1.size)
  clear ha1 hb1 bl1 b2
  go_wp2_with (refine wp_run rfl (exec_loadA 23 rfl (W.heap.size + 1) rfl 23 _ 32 5 hb2 Tryd.underlying23 (by rw [info_dig, HUB.out])) ?_)
  refine (nibbles_any b w2 HB.out).mono ?_
  rintro e w3 ⟨g2, rfl, hn3, hg2, b3⟩
  have ha3 := ha2.past b3 ha2.lt
  have hb3 := hb2.past b3 hb2.lt
  have hm3 := hm2.past b3 hm2.lt
  have bl3 := bl2.trans (b3.mono bl2.size)
  clear ha2 hb2 hm2 bl2 b3
  go_wp2_with fail
  go_loopw [8, 7] (fun i c wr => ∃ k : Nat, i = .int .i64 k ∧ k ≤ 18 ∧ (∃ cv : Bool, c = .bool cv ∧ Hid (cv = true ↔ ∀ j, j < k → Wt.nn b j ≤ Wt.nn a j)) ∧ Blk wr W.heap.size 23 (u8s a) ∧ Blk wr (W.heap.size + 1) 23 (u8s b) ∧ Blk wr g1 48 (ins (Wt.ns a)) ∧ Blk wr g2 48 (ins (Wt.ns b)) ∧ Below W.heap.size W wr) (fun i _ _ => 18 - (intOf i).toNat)
  case atStart => exact ⟨0, rfl, by omega, ⟨true, rfl, Lib.hid ⟨fun _ j hj => by omega, fun _ => rfl⟩⟩, ha3, hb3, hm3, hn3, bl3⟩
  case round =>
    clear ha3 hb3 hm3 hn3 bl3
    obtain ⟨k, rfl, hkn, ⟨cv, rfl, HCV⟩, har, hbr, hmr, hnr, hbl⟩ := hrel
    by_cases hlt : k < 18
    · have cm := hmr.cell (ins_get (Wt.ns_get a hlt))
      have cn := hnr.cell (ins_get (Wt.ns_get b hlt))
      have hml := Wt.nn_le a k
      have hnl := Wt.nn_le b k
      obtain ⟨m, hm⟩ : ∃ m, m = Wt.nn a k := ⟨_, rfl⟩
      obtain ⟨n, hn⟩ : ∃ n, n = Wt.nn b k := ⟨_, rfl⟩
      rw [← hm] at cm hml
      rw [← hn] at cn hnl
      have HM := Lib.hid hm
      have HN := Lib.hid hn
      have hg1 := hmr.lt
      have hg2 := hnr.lt
      clear hm hn
      by_cases hcv : cv = true
      · subst hcv
        by_cases hle : n ≤ m
        · have HC2 : Hid ((true : Bool) = true ↔ ∀ j, j < k + 1 → Wt.nn b j ≤ Wt.nn a j) := Lib.hid ⟨fun _ j hj => by
            by_cases hjk : j < k
            · exact HCV.out.1 rfl j hjk
            · obtain rfl : j = k := by omega
              rw [← HM.out, ← HN.out]; exact hle, fun _ => rfl⟩
          have hle' : (n : Int) ≤ (m : Int) := by omega
          go_upto_region 13 with (fail)
          refine wp_region_pt wr.heap.size (.take 0 (.take 1 (.take 2 (.take 3 (.take 4 (.take 5 (.take 6 (.take 7 (.take 8 (.take 9 (.take 10 (.take 11 (.take 12 .done))))))))))))) (by kernel_rfl) (by kernel_rfl) (by kernel_rfl) (fun _ _ h => h) ?_
          have dm : wr.drew.cell? ⟨g1, k, none⟩ = some (.int .i64 (m : Int)) := by simpa using cm
          have dn : wr.drew.cell? ⟨g2, k, none⟩ = some (.int .i64 (n : Int)) := by simpa using cn
          have bd : Below wr.heap.size wr wr.drew := (Below.refl _ _).drew
          have ha4 := har.past bd har.lt
          have hb4 := hbr.past bd hbr.lt
          have hm4 := hmr.past bd hmr.lt
          have hn4 := hnr.past bd hnr.lt
          have b4 : Below W.heap.size W wr.drew := hbl.drew
          obtain ⟨wd, hwd⟩ : ∃ wd, wd = wr.drew := ⟨_, rfl⟩
          rw [← hwd] at dm dn ha4 hb4 hm4 hn4 b4 ⊢
          clear hwd cm cn har hbr hmr hnr hbl bd
          first | refine pt_skip rfl rfl rfl rfl ?_ | (refine pt_take rfl rfl rfl rfl ?_; apply Exists.intro; refine ⟨fun w' hw' => ?_, ?_⟩; focus ((repeat (first | go_skip | go_guarded | go_step | go_upon | go_back)); exact ⟨rfl, rfl, rfl⟩))
          first | refine pt_skip rfl rfl rfl rfl ?_ | (refine pt_take rfl rfl rfl rfl ?_; apply Exists.intro; refine ⟨fun w' hw' => ?_, ?_⟩; focus ((repeat (first | go_skip | go_guarded | go_step | go_upon | go_back)); exact ⟨rfl, rfl, rfl⟩))
          first | refine pt_skip rfl rfl rfl rfl ?_ | (refine pt_take rfl rfl rfl rfl ?_; apply Exists.intro; refine ⟨fun w' hw' => ?_, ?_⟩; focus ((repeat (first | go_skip | go_guarded | go_step | go_upon | go_back)); exact ⟨rfl, rfl, rfl⟩))
          first | refine pt_skip rfl rfl rfl rfl ?_ | (refine pt_take rfl rfl rfl rfl ?_; apply Exists.intro; refine ⟨fun w' hw' => ?_, ?_⟩; focus ((repeat (first | go_skip | go_guarded | go_step | go_upon | go_back)); exact ⟨rfl, rfl, rfl⟩))
          refine pt_take rfl rfl rfl rfl ?_
          apply Exists.intro
          refine ⟨fun w' hw' => ?_, ?_⟩
          · refine wp_run rfl (exec_ixS 26 3 1 Tryd.underlying26 size_int w' rfl rfl _ _ k rfl rfl hlt (q := ⟨g1, k, none⟩) (by rw [add_zero_addr, Nat.mul_one])) ?_
            exact ⟨rfl, rfl, rfl⟩
          refine pt_take rfl rfl rfl rfl ?_
          apply Exists.intro
          refine ⟨fun w' hw' => ?_, ?_⟩
          · have hcell := (hw'.cell (p := ⟨g1, k, none⟩) hg1).trans dm
            focus ((repeat (first | go_skip | go_guarded | go_step | go_upon | go_back)); exact ⟨rfl, rfl, rfl⟩)
          first | refine pt_skip rfl rfl rfl rfl ?_ | (refine pt_take rfl rfl rfl rfl ?_; apply Exists.intro; refine ⟨fun w' hw' => ?_, ?_⟩; focus ((repeat (first | go_skip | go_guarded | go_step | go_upon | go_back)); exact ⟨rfl, rfl, rfl⟩))
          first | refine pt_skip rfl rfl rfl rfl ?_ | (refine pt_take rfl rfl rfl rfl ?_; apply Exists.intro; refine ⟨fun w' hw' => ?_, ?_⟩; focus ((repeat (first | go_skip | go_guarded | go_step | go_upon | go_back)); exact ⟨rfl, rfl, rfl⟩))
          refine pt_take rfl rfl rfl rfl ?_
          apply Exists.intro
          refine ⟨fun w' hw' => ?_, ?_⟩
          · refine wp_run rfl (exec_ixS 26 3 1 Tryd.underlying26 size_int w' rfl rfl _ _ k rfl rfl hlt (q := ⟨g2, k, none⟩) (by rw [add_zero_addr, Nat.mul_one])) ?_
            exact ⟨rfl, rfl, rfl⟩
          refine pt_take rfl rfl rfl rfl ?_
          apply Exists.intro
          refine ⟨fun w' hw' => ?_, ?_⟩
          · have hcell := (hw'.cell (p := ⟨g2, k, none⟩) hg2).trans dn
            focus ((repeat (first | go_skip | go_guarded | go_step | go_upon | go_back)); exact ⟨rfl, rfl, rfl⟩)
          first | refine pt_skip rfl rfl rfl rfl ?_ | (refine pt_take rfl rfl rfl rfl ?_; apply Exists.intro; refine ⟨fun w' hw' => ?_, ?_⟩; focus ((repeat (first | go_skip | go_guarded | go_step | go_upon | go_back)); exact ⟨rfl, rfl, rfl⟩))
          first | refine pt_skip rfl rfl rfl rfl ?_ | (refine pt_take rfl rfl rfl rfl ?_; apply Exists.intro; refine ⟨fun w' hw' => ?_, ?_⟩; focus ((repeat (first | go_skip | go_guarded | go_step | go_upon | go_back)); exact ⟨rfl, rfl, rfl⟩))
          first | refine pt_skip rfl rfl rfl rfl ?_ | (refine pt_take rfl rfl rfl rfl ?_; apply Exists.intro; refine ⟨fun w' hw' => ?_, ?_⟩; focus ((repeat (first | go_skip | go_guarded | go_step | go_upon | go_back)); exact ⟨rfl, rfl, rfl⟩))
          change Exit.inBlock _ _ Exit.normal _ _
          clear dm dn
          go_wp2
          go_roundw
          case rel => exact ⟨k + 1, by go_num, by omega, ⟨_, rfl, HC2⟩, ha4, hb4, hm4, hn4, b4⟩
          case measure => simp [intOf]; omega
        · have HC2 : Hid ((false : Bool) = true ↔ ∀ j, j < k + 1 → Wt.nn b j ≤ Wt.nn a j) := Lib.hid ⟨fun h => (by cases h), fun h => absurd (h k (by omega)) (by rw [← HM.out, ← HN.out]; exact hle)⟩
          have hle' : (m : Int) < (n : Int) := by omega
          go_upto_region 13 with (fail)
          refine wp_region_pt wr.heap.size (.take 0 (.take 1 (.take 2 (.take 3 (.take 4 (.take 5 (.take 6 (.take 7 (.take 8 (.take 9 (.take 10 (.take 11 (.take 12 .done))))))))))))) (by kernel_rfl) (by kernel_rfl) (by kernel_rfl) (fun _ _ h => h) ?_
          have dm : wr.drew.cell? ⟨g1, k, none⟩ = some (.int .i64 (m : Int)) := by simpa using cm
          have dn : wr.drew.cell? ⟨g2, k, none⟩ = some (.int .i64 (n : Int)) := by simpa using cn
          have bd : Below wr.heap.size wr wr.drew := (Below.refl _ _).drew
          have ha4 := har.past bd har.lt
          have hb4 := hbr.past bd hbr.lt
          have hm4 := hmr.past bd hmr.lt
          have hn4 := hnr.past bd hnr.lt
          have b4 : Below W.heap.size W wr.drew := hbl.drew
          obtain ⟨wd, hwd⟩ : ∃ wd, wd = wr.drew := ⟨_, rfl⟩
          rw [← hwd] at dm dn ha4 hb4 hm4 hn4 b4 ⊢
          clear hwd cm cn har hbr hmr hnr hbl bd
          first | refine pt_skip rfl rfl rfl rfl ?_ | (refine pt_take rfl rfl rfl rfl ?_; apply Exists.intro; refine ⟨fun w' hw' => ?_, ?_⟩; focus ((repeat (first | go_skip | go_guarded | go_step | go_upon | go_back)); exact ⟨rfl, rfl, rfl⟩))
          first | refine pt_skip rfl rfl rfl rfl ?_ | (refine pt_take rfl rfl rfl rfl ?_; apply Exists.intro; refine ⟨fun w' hw' => ?_, ?_⟩; focus ((repeat (first | go_skip | go_guarded | go_step | go_upon | go_back)); exact ⟨rfl, rfl, rfl⟩))
          first | refine pt_skip rfl rfl rfl rfl ?_ | (refine pt_take rfl rfl rfl rfl ?_; apply Exists.intro; refine ⟨fun w' hw' => ?_, ?_⟩; focus ((repeat (first | go_skip | go_guarded | go_step | go_upon | go_back)); exact ⟨rfl, rfl, rfl⟩))
          first | refine pt_skip rfl rfl rfl rfl ?_ | (refine pt_take rfl rfl rfl rfl ?_; apply Exists.intro; refine ⟨fun w' hw' => ?_, ?_⟩; focus ((repeat (first | go_skip | go_guarded | go_step | go_upon | go_back)); exact ⟨rfl, rfl, rfl⟩))
          refine pt_take rfl rfl rfl rfl ?_
          apply Exists.intro
          refine ⟨fun w' hw' => ?_, ?_⟩
          · refine wp_run rfl (exec_ixS 26 3 1 Tryd.underlying26 size_int w' rfl rfl _ _ k rfl rfl hlt (q := ⟨g1, k, none⟩) (by rw [add_zero_addr, Nat.mul_one])) ?_
            exact ⟨rfl, rfl, rfl⟩
          refine pt_take rfl rfl rfl rfl ?_
          apply Exists.intro
          refine ⟨fun w' hw' => ?_, ?_⟩
          · have hcell := (hw'.cell (p := ⟨g1, k, none⟩) hg1).trans dm
            focus ((repeat (first | go_skip | go_guarded | go_step | go_upon | go_back)); exact ⟨rfl, rfl, rfl⟩)
          first | refine pt_skip rfl rfl rfl rfl ?_ | (refine pt_take rfl rfl rfl rfl ?_; apply Exists.intro; refine ⟨fun w' hw' => ?_, ?_⟩; focus ((repeat (first | go_skip | go_guarded | go_step | go_upon | go_back)); exact ⟨rfl, rfl, rfl⟩))
          first | refine pt_skip rfl rfl rfl rfl ?_ | (refine pt_take rfl rfl rfl rfl ?_; apply Exists.intro; refine ⟨fun w' hw' => ?_, ?_⟩; focus ((repeat (first | go_skip | go_guarded | go_step | go_upon | go_back)); exact ⟨rfl, rfl, rfl⟩))
          refine pt_take rfl rfl rfl rfl ?_
          apply Exists.intro
          refine ⟨fun w' hw' => ?_, ?_⟩
          · refine wp_run rfl (exec_ixS 26 3 1 Tryd.underlying26 size_int w' rfl rfl _ _ k rfl rfl hlt (q := ⟨g2, k, none⟩) (by rw [add_zero_addr, Nat.mul_one])) ?_
            exact ⟨rfl, rfl, rfl⟩
          refine pt_take rfl rfl rfl rfl ?_
          apply Exists.intro
          refine ⟨fun w' hw' => ?_, ?_⟩
          · have hcell := (hw'.cell (p := ⟨g2, k, none⟩) hg2).trans dn
            focus ((repeat (first | go_skip | go_guarded | go_step | go_upon | go_back)); exact ⟨rfl, rfl, rfl⟩)
          first | refine pt_skip rfl rfl rfl rfl ?_ | (refine pt_take rfl rfl rfl rfl ?_; apply Exists.intro; refine ⟨fun w' hw' => ?_, ?_⟩; focus ((repeat (first | go_skip | go_guarded | go_step | go_upon | go_back)); exact ⟨rfl, rfl, rfl⟩))
          first | refine pt_skip rfl rfl rfl rfl ?_ | (refine pt_take rfl rfl rfl rfl ?_; apply Exists.intro; refine ⟨fun w' hw' => ?_, ?_⟩; focus ((repeat (first | go_skip | go_guarded | go_step | go_upon | go_back)); exact ⟨rfl, rfl, rfl⟩))
          first | refine pt_skip rfl rfl rfl rfl ?_ | (refine pt_take rfl rfl rfl rfl ?_; apply Exists.intro; refine ⟨fun w' hw' => ?_, ?_⟩; focus ((repeat (first | go_skip | go_guarded | go_step | go_upon | go_back)); exact ⟨rfl, rfl, rfl⟩))
          change Exit.inBlock _ _ Exit.normal _ _
          clear dm dn
          go_wp2
          go_roundw
          case rel => exact ⟨k + 1, by go_num, by omega, ⟨_, rfl, HC2⟩, ha4, hb4, hm4, hn4, b4⟩
          case measure => simp [intOf]; omega
      · obtain rfl : cv = false := by simpa using hcv
        have HC2 : Hid ((false : Bool) = true ↔ ∀ j, j < k + 1 → Wt.nn b j ≤ Wt.nn a j) := Lib.hid ⟨fun h => (by cases h), fun h => absurd (HCV.out.2 fun j hj => h j (by omega)) (by simp)⟩
        clear hcv
        go_upto_region 13 with (fail)
        refine wp_region_pt wr.heap.size (.take 0 (.take 1 (.take 2 (.take 3 (.take 4 (.take 5 (.take 6 (.take 7 (.take 8 (.take 9 (.take 10 (.take 11 (.take 12 .done))))))))))))) (by kernel_rfl) (by kernel_rfl) (by kernel_rfl) (fun _ _ h => h) ?_
        have dm : wr.drew.cell? ⟨g1, k, none⟩ = some (.int .i64 (m : Int)) := by simpa using cm
        have dn : wr.drew.cell? ⟨g2, k, none⟩ = some (.int .i64 (n : Int)) := by simpa using cn
        have bd : Below wr.heap.size wr wr.drew := (Below.refl _ _).drew
        have ha4 := har.past bd har.lt
        have hb4 := hbr.past bd hbr.lt
        have hm4 := hmr.past bd hmr.lt
        have hn4 := hnr.past bd hnr.lt
        have b4 : Below W.heap.size W wr.drew := hbl.drew
        obtain ⟨wd, hwd⟩ : ∃ wd, wd = wr.drew := ⟨_, rfl⟩
        rw [← hwd] at dm dn ha4 hb4 hm4 hn4 b4 ⊢
        clear hwd cm cn har hbr hmr hnr hbl bd
        first | refine pt_skip rfl rfl rfl rfl ?_ | (refine pt_take rfl rfl rfl rfl ?_; apply Exists.intro; refine ⟨fun w' hw' => ?_, ?_⟩; focus ((repeat (first | go_skip | go_guarded | go_step | go_upon | go_back)); exact ⟨rfl, rfl, rfl⟩))
        first | refine pt_skip rfl rfl rfl rfl ?_ | (refine pt_take rfl rfl rfl rfl ?_; apply Exists.intro; refine ⟨fun w' hw' => ?_, ?_⟩; focus ((repeat (first | go_skip | go_guarded | go_step | go_upon | go_back)); exact ⟨rfl, rfl, rfl⟩))
        first | refine pt_skip rfl rfl rfl rfl ?_ | (refine pt_take rfl rfl rfl rfl ?_; apply Exists.intro; refine ⟨fun w' hw' => ?_, ?_⟩; focus ((repeat (first | go_skip | go_guarded | go_step | go_upon | go_back)); exact ⟨rfl, rfl, rfl⟩))
        first | refine pt_skip rfl rfl rfl rfl ?_ | (refine pt_take rfl rfl rfl rfl ?_; apply Exists.intro; refine ⟨fun w' hw' => ?_, ?_⟩; focus ((repeat (first | go_skip | go_guarded | go_step | go_upon | go_back)); exact ⟨rfl, rfl, rfl⟩))
        first | refine pt_skip rfl rfl rfl rfl ?_ | (refine pt_take rfl rfl rfl rfl ?_; apply Exists.intro; refine ⟨fun w' hw' => ?_, ?_⟩; focus ((repeat (first | go_skip | go_guarded | go_step | go_upon | go_back)); exact ⟨rfl, rfl, rfl⟩))
        first | refine pt_skip rfl rfl rfl rfl ?_ | (refine pt_take rfl rfl rfl rfl ?_; apply Exists.intro; refine ⟨fun w' hw' => ?_, ?_⟩; focus ((repeat (first | go_skip | go_guarded | go_step | go_upon | go_back)); exact ⟨rfl, rfl, rfl⟩))
        first | refine pt_skip rfl rfl rfl rfl ?_ | (refine pt_take rfl rfl rfl rfl ?_; apply Exists.intro; refine ⟨fun w' hw' => ?_, ?_⟩; focus ((repeat (first | go_skip | go_guarded | go_step | go_upon | go_back)); exact ⟨rfl, rfl, rfl⟩))
        first | refine pt_skip rfl rfl rfl rfl ?_ | (refine pt_take rfl rfl rfl rfl ?_; apply Exists.intro; refine ⟨fun w' hw' => ?_, ?_⟩; focus ((repeat (first | go_skip | go_guarded | go_step | go_upon | go_back)); exact ⟨rfl, rfl, rfl⟩))
        first | refine pt_skip rfl rfl rfl rfl ?_ | (refine pt_take rfl rfl rfl rfl ?_; apply Exists.intro; refine ⟨fun w' hw' => ?_, ?_⟩; focus ((repeat (first | go_skip | go_guarded | go_step | go_upon | go_back)); exact ⟨rfl, rfl, rfl⟩))
        first | refine pt_skip rfl rfl rfl rfl ?_ | (refine pt_take rfl rfl rfl rfl ?_; apply Exists.intro; refine ⟨fun w' hw' => ?_, ?_⟩; focus ((repeat (first | go_skip | go_guarded | go_step | go_upon | go_back)); exact ⟨rfl, rfl, rfl⟩))
        first | refine pt_skip rfl rfl rfl rfl ?_ | (refine pt_take rfl rfl rfl rfl ?_; apply Exists.intro; refine ⟨fun w' hw' => ?_, ?_⟩; focus ((repeat (first | go_skip | go_guarded | go_step | go_upon | go_back)); exact ⟨rfl, rfl, rfl⟩))
        first | refine pt_skip rfl rfl rfl rfl ?_ | (refine pt_take rfl rfl rfl rfl ?_; apply Exists.intro; refine ⟨fun w' hw' => ?_, ?_⟩; focus ((repeat (first | go_skip | go_guarded | go_step | go_upon | go_back)); exact ⟨rfl, rfl, rfl⟩))
        first | refine pt_skip rfl rfl rfl rfl ?_ | (refine pt_take rfl rfl rfl rfl ?_; apply Exists.intro; refine ⟨fun w' hw' => ?_, ?_⟩; focus ((repeat (first | go_skip | go_guarded | go_step | go_upon | go_back)); exact ⟨rfl, rfl, rfl⟩))
        change Exit.inBlock _ _ Exit.normal _ _
        clear dm dn
        go_wp2
        go_roundw
        case rel => exact ⟨k + 1, by go_num, by omega, ⟨_, rfl, HC2⟩, ha4, hb4, hm4, hn4, b4⟩
        case measure => simp [intOf]; omega
    · have hk18 : k = 18 := by omega
      subst hk18
      by_cases hS : a.take 8 = b.take 8
      · obtain rfl : cv = true := HCV.out.2 ((Wt.covers_iff HA.out HB.out).2 hS)
        have HS := Lib.hid hS.symm
        have HNS : Hid ((Wt.ns a == Wt.ns b) = true) := Lib.hid (beq_iff_eq.2 (Wt.ns_congr hS))
        clear hS hlt hkn
        go_upto_region 14 with (fail)
        refine wp_region_pt wr.heap.size (.take 0 (.take 1 (.take 2 (.take 3 (.take 4 (.take 5 .done)))))) (by kernel_rfl) (by kernel_rfl) (by kernel_rfl) (fun _ _ h => h) ?_
        have bd : Below wr.heap.size wr wr.drew := (Below.refl _ _).drew
        have ha4 := har.past bd har.lt
        have hb4 := hbr.past bd hbr.lt
        have hm4 := hmr.past bd hmr.lt
        have hn4 := hnr.past bd hnr.lt
        have b4 : Below W.heap.size W wr.drew := hbl.drew
        have hax := har.lt
        have hbx := hbr.lt
        obtain ⟨wd, hwd⟩ : ∃ wd, wd = wr.drew := ⟨_, rfl⟩
        rw [← hwd] at ha4 hb4 hm4 hn4 b4 ⊢
        clear hwd har hbr hmr hnr hbl bd
        first | refine pt_skip rfl rfl rfl rfl ?_ | (refine pt_take rfl rfl rfl rfl ?_; apply Exists.intro; refine ⟨fun w' hw' => ?_, ?_⟩; focus ((repeat (first | go_skip | go_guarded | go_step | go_upon | go_back)); exact ⟨rfl, rfl, rfl⟩))
        refine pt_take rfl rfl rfl rfl ?_
        apply Exists.intro
        refine ⟨fun w' hw' => ?_, ?_⟩
        · refine wp_run rfl (exec_conv 29 9 5 rfl _ (a.take 8) rfl (head_bs (ha4.past hw' hax) HA.out) Tryd.underlying29 Tryd.underlying5 Tryd.underlying9) ?_
          exact ⟨rfl, rfl, rfl⟩
        first | refine pt_skip rfl rfl rfl rfl ?_ | (refine pt_take rfl rfl rfl rfl ?_; apply Exists.intro; refine ⟨fun w' hw' => ?_, ?_⟩; focus ((repeat (first | go_skip | go_guarded | go_step | go_upon | go_back)); exact ⟨rfl, rfl, rfl⟩))
        refine pt_take rfl rfl rfl rfl ?_
        apply Exists.intro
        refine ⟨fun w' hw' => ?_, ?_⟩
        · refine wp_run rfl (exec_conv 29 9 5 rfl _ (a.take 8) rfl (HS.out ▸ head_bs (hb4.past hw' hbx) HB.out) Tryd.underlying29 Tryd.underlying5 Tryd.underlying9) ?_
          exact ⟨rfl, rfl, rfl⟩
        first | refine pt_skip rfl rfl rfl rfl ?_ | (refine pt_take rfl rfl rfl rfl ?_; apply Exists.intro; refine ⟨fun w' hw' => ?_, ?_⟩; focus ((repeat (first | go_skip | go_guarded | go_step | go_upon | go_back)); exact ⟨rfl, rfl, rfl⟩))
        first | refine pt_skip rfl rfl rfl rfl ?_ | (refine pt_take rfl rfl rfl rfl ?_; apply Exists.intro; refine ⟨fun w' hw' => ?_, ?_⟩; focus ((repeat (first | go_skip | go_guarded | go_step | go_upon | go_back)); exact ⟨rfl, rfl, rfl⟩))
        change Exit.then _ _ Exit.normal _ _
        have hr1 : Row wd wd.heap.size 1 (Wt.ns a).length (.slice (some ⟨g1, 0, none⟩) 18 18) (ins (Wt.ns a)) := by rw [Wt.ns_len]; exact row_of_blkS hm4 hm4.lt (by rw [ins_length, Wt.ns_len]) (by decide)
        have hr2 : Row wd wd.heap.size 1 (Wt.ns b).length (.slice (some ⟨g2, 0, none⟩) 18 18) (ins (Wt.ns b)) := by rw [Wt.ns_len]; exact row_of_blkS hn4 hn4.lt (by rw [ins_length, Wt.ns_len]) (by decide)
        have hcall := ints_any _ _ _ _ wd hr1 hr2 (by rw [Wt.ns_len]; decide) (by rw [Wt.ns_len]; decide) (ns_small a) (ns_small b)
        rw [HNS.out] at hcall
        have HC := Lib.hid hcall
        clear hr1 hr2 hcall ha4 hb4 hm4 hn4 hax hbx
        go_wp2_with fail
        refine HC.out.mono ?_
        rintro e w9 ⟨rfl, b9⟩
        have b49 := b4.trans (b9.mono b4.size)
        go_wp2
        go_ret
        exact ⟨rfl, b49⟩
      · obtain rfl : cv = false := by
          cases cv with
          | false => rfl
          | true => exact absurd ((Wt.covers_iff HA.out HB.out).1 (HCV.out.1 rfl)) hS
        have HNE := Lib.hid hS
        have HNS : Hid ((Wt.ns a == Wt.ns b) = false) := Lib.hid (beq_eq_false_iff_ne.2 (fun h => hS ((Wt.ns_iff HA.out HB.out).1 h)))
        clear hS hlt hkn
        go_upto_region 14 with (fail)
        refine wp_region_pt wr.heap.size (.take 0 (.take 1 (.take 2 (.take 3 (.take 4 (.take 5 .done)))))) (by kernel_rfl) (by kernel_rfl) (by kernel_rfl) (fun _ _ h => h) ?_
        have bd : Below wr.heap.size wr wr.drew := (Below.refl _ _).drew
        have ha4 := har.past bd har.lt
        have hb4 := hbr.past bd hbr.lt
        have hm4 := hmr.past bd hmr.lt
        have hn4 := hnr.past bd hnr.lt
        have b4 : Below W.heap.size W wr.drew := hbl.drew
        have hax := har.lt
        have hbx := hbr.lt
        obtain ⟨wd, hwd⟩ : ∃ wd, wd = wr.drew := ⟨_, rfl⟩
        rw [← hwd] at ha4 hb4 hm4 hn4 b4 ⊢
        clear hwd har hbr hmr hnr hbl bd
        first | refine pt_skip rfl rfl rfl rfl ?_ | (refine pt_take rfl rfl rfl rfl ?_; apply Exists.intro; refine ⟨fun w' hw' => ?_, ?_⟩; focus ((repeat (first | go_skip | go_guarded | go_step | go_upon | go_back)); exact ⟨rfl, rfl, rfl⟩))
        refine pt_take rfl rfl rfl rfl ?_
        apply Exists.intro
        refine ⟨fun w' hw' => ?_, ?_⟩
        · refine wp_run rfl (exec_conv 29 9 5 rfl _ (a.take 8) rfl (head_bs (ha4.past hw' hax) HA.out) Tryd.underlying29 Tryd.underlying5 Tryd.underlying9) ?_
          exact ⟨rfl, rfl, rfl⟩
        first | refine pt_skip rfl rfl rfl rfl ?_ | (refine pt_take rfl rfl rfl rfl ?_; apply Exists.intro; refine ⟨fun w' hw' => ?_, ?_⟩; focus ((repeat (first | go_skip | go_guarded | go_step | go_upon | go_back)); exact ⟨rfl, rfl, rfl⟩))
        refine pt_take rfl rfl rfl rfl ?_
        apply Exists.intro
        refine ⟨fun w' hw' => ?_, ?_⟩
        · refine wp_run rfl (exec_conv 29 9 5 rfl _ (b.take 8) rfl (head_bs (hb4.past hw' hbx) HB.out) Tryd.underlying29 Tryd.underlying5 Tryd.underlying9) ?_
          exact ⟨rfl, rfl, rfl⟩
        have hne : (a.take 8 == b.take 8) = false := beq_eq_false_iff_ne.2 HNE.out
        first | refine pt_skip rfl rfl rfl rfl ?_ | (refine pt_take rfl rfl rfl rfl ?_; apply Exists.intro; refine ⟨fun w' hw' => ?_, ?_⟩; focus ((repeat (first | go_skip | go_guarded | go_step | go_upon | go_back)); exact ⟨rfl, rfl, rfl⟩))
        first | refine pt_skip rfl rfl rfl rfl ?_ | (refine pt_take rfl rfl rfl rfl ?_; apply Exists.intro; refine ⟨fun w' hw' => ?_, ?_⟩; focus ((repeat (first | go_skip | go_guarded | go_step | go_upon | go_back)); exact ⟨rfl, rfl, rfl⟩))
        change Exit.then _ _ Exit.normal _ _
        have hr1 : Row wd wd.heap.size 1 (Wt.ns a).length (.slice (some ⟨g1, 0, none⟩) 18 18) (ins (Wt.ns a)) := by rw [Wt.ns_len]; exact row_of_blkS hm4 hm4.lt (by rw [ins_length, Wt.ns_len]) (by decide)
        have hr2 : Row wd wd.heap.size 1 (Wt.ns b).length (.slice (some ⟨g2, 0, none⟩) 18 18) (ins (Wt.ns b)) := by rw [Wt.ns_len]; exact row_of_blkS hn4 hn4.lt (by rw [ins_length, Wt.ns_len]) (by decide)
        have hcall := ints_any _ _ _ _ wd hr1 hr2 (by rw [Wt.ns_len]; decide) (by rw [Wt.ns_len]; decide) (ns_small a) (ns_small b)
        rw [HNS.out] at hcall
        have HC := Lib.hid hcall
        clear hr1 hr2 hcall ha4 hb4 hm4 hn4 hax hbx
        go_wp2_with fail
        refine HC.out.mono ?_
        rintro e w9 ⟨rfl, b9⟩
        have b49 := b4.trans (b9.mono b4.size)
        go_wp2
        go_ret
        exact ⟨rfl, b49⟩
end Go.Proofs.YtnfhdjmehhapiaaDoor
