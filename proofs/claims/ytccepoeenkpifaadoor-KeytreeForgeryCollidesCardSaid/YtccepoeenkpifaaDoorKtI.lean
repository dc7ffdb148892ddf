/-
  Digests of the reference of layer 5.
-/
import Derived.Test.YtccepoeenkpifaaDoorWtJ
namespace Go.Proofs.YtccepoeenkpifaaDoor
open Go.RowKit
set_option linter.unusedVariables false
set_option linter.unusedSimpArgs false

set_option maxRecDepth 100000 in
set_option maxHeartbeats 1000000 in
theorem digests_any (v u : Value) (a b : List UInt8) (n m : Nat) (w : World) (hv : Row w w.heap.size 32 n v (u8s a)) (hu : Row w w.heap.size 32 m u (u8s b)) (ha : n ≤ 1000000) (hb : m ≤ 1000000) :
    Calls Tryd.prog 21 #[v, u] w fun e w' => e = .returned (.bool (a == b)) ∧ Below w.heap.size w w' := by
  obtain ⟨A, cap, rfl⟩ := row_form hv
  obtain ⟨A2, cap2, rfl⟩ := row_form hu
  have hla := row_flen hv
  have hlb := row_flen hu
  by_cases hlen : n = m
  · subst hlen
    have HN := Lib.hid hla
    have HN2 := Lib.hid hlb
    clear hla hlb hb
    go_enter Tryd.func21, Tryd.ntmps21
    go_wp2_with fail
    go_loopw [13] (fun i wr => ∃ k : Nat, i = .int .i64 k ∧ k ≤ n ∧ Hid (a.take (32 * k) = b.take (32 * k)) ∧ Below w.heap.size w wr) (fun i _ => n - (intOf i).toNat)
    case atStart => exact ⟨0, rfl, by omega, Lib.hid rfl, Below.refl _ _⟩
    case round =>
      obtain ⟨k, rfl, hk, HT, hbl⟩ := hrel
      by_cases hlt : k < n
      · obtain ⟨x, hx⟩ : ∃ x, x = Wt.el a k := ⟨_, rfl⟩
        obtain ⟨y, hy⟩ : ∃ y, y = Wt.el b k := ⟨_, rfl⟩
        have HXL := Lib.hid (show x.length = 32 by rw [hx]; exact Wt.el_len (n := n) (by have := HN.out; omega) hlt)
        have HYL := Lib.hid (show y.length = 32 by rw [hy]; exact Wt.el_len (n := n) (by have := HN2.out; omega) hlt)
        have HUX := Lib.hid (show (u8s x).length = 32 by rw [u8s_length, HXL.out])
        have HUY := Lib.hid (show (u8s y).length = 32 by rw [u8s_length, HYL.out])
        have rv := hv.past hbl
        have ru := hu.past hbl
        obtain ⟨ad, rfl, hd1, hd2⟩ := rv.at_ (by omega)
        obtain ⟨ae, rfl, he1, he2⟩ := ru.at_ (by omega)
        have cx := fun (W : World) (hW : Below wr.heap.size wr W) => row_elem (rv.carry hW (Nat.le_refl _)) hlt
        have cy := fun (W : World) (hW : Below wr.heap.size wr W) => row_elem (ru.carry hW (Nat.le_refl _)) hlt
        rw [← hx] at cx
        rw [← hy] at cy
        have HX := Lib.hid hx
        have HY := Lib.hid hy
        have CX := Lib.hid cx
        have CY := Lib.hid cy
        clear hd1 hd2 he1 he2 hx hy rv ru cx cy
        by_cases hxy : x = y
        · have HQ : Hid ((!(x == y)) = false) := Lib.hid (by rw [beq_iff_eq.2 hxy]; rfl)
          have HE := Lib.hid hxy
          clear hxy
          go_upto_region 6 with (fail)
          refine wp_region_pt wr.heap.size (.take 0 (.take 1 (.take 2 (.take 3 (.take 4 (.take 5 (.take 6 (.take 7 (.take 8 .done))))))))) (by kernel_rfl) (by kernel_rfl) (by kernel_rfl) (fun _ _ h => h) ?_
          have bd : Below wr.heap.size wr wr.drew := (Below.refl _ _).drew
          have b1 : Below w.heap.size w wr.drew := hbl.drew
          first | refine pt_skip rfl rfl rfl rfl ?_ | (refine pt_take rfl rfl rfl rfl ?_; apply Exists.intro; refine ⟨fun w' hw' => ?_, ?_⟩; focus ((repeat (first | go_skip | go_guarded | go_step | go_upon | go_back)); exact ⟨rfl, rfl, rfl⟩))
          first | refine pt_skip rfl rfl rfl rfl ?_ | (refine pt_take rfl rfl rfl rfl ?_; apply Exists.intro; refine ⟨fun w' hw' => ?_, ?_⟩; focus ((repeat (first | go_skip | go_guarded | go_step | go_upon | go_back)); exact ⟨rfl, rfl, rfl⟩))
          refine pt_take rfl rfl rfl rfl ?_
          apply Exists.intro
          refine ⟨fun w' hw' => ?_, ?_⟩
          · refine wp_run rfl (exec_ixS 29 25 32 Tryd.underlying29 info_dig w' rfl rfl _ _ k rfl rfl hlt (q := ad.add (k * 32)) rfl) ?_
            exact ⟨rfl, rfl, rfl⟩
          refine pt_take rfl rfl rfl rfl ?_
          apply Exists.intro
          refine ⟨fun w' hw' => ?_, ?_⟩
          · refine wp_run rfl (exec_loadP 25 rfl (ad.add (k * 32)) rfl (u8s x) 32 5 (CX.out w' (bd.trans hw')) Tryd.underlying25 (by rw [info_dig, HUX.out])) ?_
            exact ⟨rfl, rfl, rfl⟩
          first | refine pt_skip rfl rfl rfl rfl ?_ | (refine pt_take rfl rfl rfl rfl ?_; apply Exists.intro; refine ⟨fun w' hw' => ?_, ?_⟩; focus ((repeat (first | go_skip | go_guarded | go_step | go_upon | go_back)); exact ⟨rfl, rfl, rfl⟩))
          first | refine pt_skip rfl rfl rfl rfl ?_ | (refine pt_take rfl rfl rfl rfl ?_; apply Exists.intro; refine ⟨fun w' hw' => ?_, ?_⟩; focus ((repeat (first | go_skip | go_guarded | go_step | go_upon | go_back)); exact ⟨rfl, rfl, rfl⟩))
          refine pt_take rfl rfl rfl rfl ?_
          apply Exists.intro
          refine ⟨fun w' hw' => ?_, ?_⟩
          · refine wp_run rfl (exec_ixS 29 25 32 Tryd.underlying29 info_dig w' rfl rfl _ _ k rfl rfl hlt (q := ae.add (k * 32)) rfl) ?_
            exact ⟨rfl, rfl, rfl⟩
          refine pt_take rfl rfl rfl rfl ?_
          apply Exists.intro
          refine ⟨fun w' hw' => ?_, ?_⟩
          · refine wp_run rfl (exec_loadP 25 rfl (ae.add (k * 32)) rfl (u8s y) 32 5 (CY.out w' (bd.trans hw')) Tryd.underlying25 (by rw [info_dig, HUY.out])) ?_
            exact ⟨rfl, rfl, rfl⟩
          refine pt_take rfl rfl rfl rfl ?_
          apply Exists.intro
          refine ⟨fun w' hw' => ?_, ?_⟩
          · refine wp_run rfl (exec_neqD rfl x y rfl rfl HXL.out HYL.out _ HQ.out w') ?_
            exact ⟨rfl, rfl, rfl⟩
          change Exit.then _ _ Exit.normal _ _
          obtain ⟨wd, hwd⟩ : ∃ wd, wd = wr.drew := ⟨_, rfl⟩
          rw [← hwd] at b1 ⊢
          clear bd hwd
          go_wp2
          go_roundw
          case rel => exact ⟨k + 1, by go_num, by omega, Lib.hid (takeS_eq HT.out (by rw [← HX.out, ← HY.out]; exact HE.out)), b1⟩
          case measure => simp [intOf]; omega
        · have HQ : Hid ((!(x == y)) = true) := Lib.hid (by rw [beq_eq_false_iff_ne.2 hxy]; rfl)
          have HAB : Hid ((a == b) = false) := Lib.hid (beq_eq_false_iff_ne.2 (fun h => hxy (by rw [HX.out, HY.out, h])))
          clear hxy
          go_upto_region 6 with (fail)
          refine wp_region_pt wr.heap.size (.take 0 (.take 1 (.take 2 (.take 3 (.take 4 (.take 5 (.take 6 (.take 7 (.take 8 .done))))))))) (by kernel_rfl) (by kernel_rfl) (by kernel_rfl) (fun _ _ h => h) ?_
          have bd : Below wr.heap.size wr wr.drew := (Below.refl _ _).drew
          have b1 : Below w.heap.size w wr.drew := hbl.drew
          first | refine pt_skip rfl rfl rfl rfl ?_ | (refine pt_take rfl rfl rfl rfl ?_; apply Exists.intro; refine ⟨fun w' hw' => ?_, ?_⟩; focus ((repeat (first | go_skip | go_guarded | go_step | go_upon | go_back)); exact ⟨rfl, rfl, rfl⟩))
          first | refine pt_skip rfl rfl rfl rfl ?_ | (refine pt_take rfl rfl rfl rfl ?_; apply Exists.intro; refine ⟨fun w' hw' => ?_, ?_⟩; focus ((repeat (first | go_skip | go_guarded | go_step | go_upon | go_back)); exact ⟨rfl, rfl, rfl⟩))
          refine pt_take rfl rfl rfl rfl ?_
          apply Exists.intro
          refine ⟨fun w' hw' => ?_, ?_⟩
          · refine wp_run rfl (exec_ixS 29 25 32 Tryd.underlying29 info_dig w' rfl rfl _ _ k rfl rfl hlt (q := ad.add (k * 32)) rfl) ?_
            exact ⟨rfl, rfl, rfl⟩
          refine pt_take rfl rfl rfl rfl ?_
          apply Exists.intro
          refine ⟨fun w' hw' => ?_, ?_⟩
          · refine wp_run rfl (exec_loadP 25 rfl (ad.add (k * 32)) rfl (u8s x) 32 5 (CX.out w' (bd.trans hw')) Tryd.underlying25 (by rw [info_dig, HUX.out])) ?_
            exact ⟨rfl, rfl, rfl⟩
          first | refine pt_skip rfl rfl rfl rfl ?_ | (refine pt_take rfl rfl rfl rfl ?_; apply Exists.intro; refine ⟨fun w' hw' => ?_, ?_⟩; focus ((repeat (first | go_skip | go_guarded | go_step | go_upon | go_back)); exact ⟨rfl, rfl, rfl⟩))
          first | refine pt_skip rfl rfl rfl rfl ?_ | (refine pt_take rfl rfl rfl rfl ?_; apply Exists.intro; refine ⟨fun w' hw' => ?_, ?_⟩; focus ((repeat (first | go_skip | go_guarded | go_step | go_upon | go_back)); exact ⟨rfl, rfl, rfl⟩))
          refine pt_take rfl rfl rfl rfl ?_
          apply Exists.intro
          refine ⟨fun w' hw' => ?_, ?_⟩
          · refine wp_run rfl (exec_ixS 29 25 32 Tryd.underlying29 info_dig w' rfl rfl _ _ k rfl rfl hlt (q := ae.add (k * 32)) rfl) ?_
            exact ⟨rfl, rfl, rfl⟩
          refine pt_take rfl rfl rfl rfl ?_
          apply Exists.intro
          refine ⟨fun w' hw' => ?_, ?_⟩
          · refine wp_run rfl (exec_loadP 25 rfl (ae.add (k * 32)) rfl (u8s y) 32 5 (CY.out w' (bd.trans hw')) Tryd.underlying25 (by rw [info_dig, HUY.out])) ?_
            exact ⟨rfl, rfl, rfl⟩
          refine pt_take rfl rfl rfl rfl ?_
          apply Exists.intro
          refine ⟨fun w' hw' => ?_, ?_⟩
          · refine wp_run rfl (exec_neqD rfl x y rfl rfl HXL.out HYL.out _ HQ.out w') ?_
            exact ⟨rfl, rfl, rfl⟩
          change Exit.then _ _ Exit.normal _ _
          obtain ⟨wd, hwd⟩ : ∃ wd, wd = wr.drew := ⟨_, rfl⟩
          rw [← hwd] at b1 ⊢
          clear bd hwd
          go_wp2
          go_ret
          rw [HAB.out]
          exact ⟨rfl, b1⟩
      · have hkn : k = n := by omega
        have HAB : Hid ((a == b) = true) := Lib.hid (by
          have h := HT.out
          rw [hkn, List.take_of_length_le (by have := HN.out; omega), List.take_of_length_le (by have := HN2.out; omega)] at h
          rw [h]; exact beq_iff_eq.2 rfl)
        clear hkn HT
        go_wp2
        go_ret
        rw [HAB.out]
        exact ⟨rfl, hbl⟩
  · have HAB : Hid ((a == b) = false) := Lib.hid (beq_eq_false_iff_ne.2 (fun h => hlen (by rw [h] at hla; omega)))
    have hne : ((n : Int) == (m : Int)) = false := beq_eq_false_iff_ne.2 (by omega)
    clear hlen hv hu hla hlb
    go_enter Tryd.func21, Tryd.ntmps21
    go_wp2
    go_ret
    rw [HAB.out]
    exact ⟨rfl, Below.refl _ _⟩
end Go.Proofs.YtccepoeenkpifaaDoor
