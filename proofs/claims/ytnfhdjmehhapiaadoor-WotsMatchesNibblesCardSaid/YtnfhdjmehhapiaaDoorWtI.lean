/-
  Walks of the reference's package for layer 4: lists compared.
-/
import Derived.Test.YtnfhdjmehhapiaaDoorWtF
namespace Go.Proofs.YtnfhdjmehhapiaaDoor
open Go.RowKit
set_option linter.unusedVariables false
set_option linter.unusedSimpArgs false

theorem take_succ_eq {α : Type} {a b : List α} {k : Nat} {x y : α} (hx : a[k]? = some x) (hy : b[k]? = some y) (h : a.take k = b.take k) (e : x = y) : a.take (k + 1) = b.take (k + 1) := by
  rw [List.take_add_one, List.take_add_one, h, hx, hy, e]

set_option maxRecDepth 100000 in
set_option maxHeartbeats 1000000 in
theorem ints_any (v u : Value) (a b : List Nat) (w : World) (hv : Row w w.heap.size 1 a.length v (ins a)) (hu : Row w w.heap.size 1 b.length u (ins b)) (ha : a.length ≤ 1000000) (hb : b.length ≤ 1000000) (hab : ∀ x ∈ a, x < 1000000) (hbb : ∀ x ∈ b, x < 1000000) :
    Calls Tryd.prog 12 #[v, u] w fun e w' => e = .returned (.bool (a == b)) ∧ Below w.heap.size w w' := by
  obtain ⟨A, cap, rfl⟩ := row_form hv
  obtain ⟨A2, cap2, rfl⟩ := row_form hu
  by_cases hlen : a.length = b.length
  · obtain ⟨n, hn⟩ : ∃ n, n = a.length := ⟨_, rfl⟩
    have hn2 : n = b.length := by omega
    have HN := Lib.hid hn
    have HN2 := Lib.hid hn2
    rw [← hn] at hv ha ⊢
    rw [← hn2] at hu ⊢
    clear hlen hn hn2 hb
    go_enter Tryd.func12, Tryd.ntmps12
    go_wp2_with fail
    go_loopw [5] (fun i wr => ∃ k : Nat, i = .int .i64 k ∧ k ≤ n ∧ Hid (a.take k = b.take k) ∧ Below w.heap.size w wr) (fun i _ => n - (intOf i).toNat)
    case atStart => exact ⟨0, rfl, by omega, Lib.hid rfl, Below.refl _ _⟩
    case round =>
      obtain ⟨k, rfl, hk, HT, hbl⟩ := hrel
      by_cases hlt : k < n
      · obtain ⟨x, hx⟩ : ∃ x, a[k]? = some x := ⟨_, List.getElem?_eq_getElem (by have := HN.out; omega)⟩
        obtain ⟨y, hy⟩ : ∃ y, b[k]? = some y := ⟨_, List.getElem?_eq_getElem (by have := HN2.out; omega)⟩
        have hxb := hab x (List.mem_of_getElem? hx)
        have hyb := hbb y (List.mem_of_getElem? hy)
        obtain ⟨ad, rfl, hd1, hd2⟩ := (hv.past hbl).at_ (by omega)
        obtain ⟨ae, rfl, he1, he2⟩ := (hu.past hbl).at_ (by omega)
        have cx := hd2 k _ (ins_get hx)
        have cy := he2 k _ (ins_get hy)
        have hdk : (ad.add k).block < wr.heap.size := by rw [add_block]; exact hd1
        have hek : (ae.add k).block < wr.heap.size := by rw [add_block]; exact he1
        have HX := Lib.hid hx
        have HY := Lib.hid hy
        clear hd1 hd2 he1 he2 hx hy
        obtain ⟨pd, hpd⟩ : ∃ pd, pd = ad.add k := ⟨_, rfl⟩
        obtain ⟨pe, hpe⟩ : ∃ pe, pe = ae.add k := ⟨_, rfl⟩
        rw [← hpd] at cx hdk
        rw [← hpe] at cy hek
        have HPD := Lib.hid (show pd = ad.add (k * 1) by rw [Nat.mul_one]; exact hpd)
        have HPE := Lib.hid (show pe = ae.add (k * 1) by rw [Nat.mul_one]; exact hpe)
        clear hpd hpe
        by_cases hxy : x = y
        · have HXY : Hid (((x : Int) == (y : Int)) = true) := Lib.hid (beq_iff_eq.2 (by omega))
          have hxy' : ((x : Int) == (y : Int)) = true := HXY.out
          go_upto_region 6 with (fail)
          refine wp_region_pt wr.heap.size (.take 0 (.take 1 (.take 2 (.take 3 (.take 4 (.take 5 (.take 6 (.take 7 (.take 8 .done))))))))) (by kernel_rfl) (by kernel_rfl) (by kernel_rfl) (fun _ _ h => h) ?_
          have dx : wr.drew.cell? pd = some (.int .i64 (x : Int)) := by simpa using cx
          have dy : wr.drew.cell? pe = some (.int .i64 (y : Int)) := by simpa using cy
          have b1 : Below w.heap.size w wr.drew := hbl.drew
          first | refine pt_skip rfl rfl rfl rfl ?_ | (refine pt_take rfl rfl rfl rfl ?_; apply Exists.intro; refine ⟨fun w' hw' => ?_, ?_⟩; focus ((repeat (first | go_skip | go_guarded | go_step | go_upon | go_back)); exact ⟨rfl, rfl, rfl⟩))
          first | refine pt_skip rfl rfl rfl rfl ?_ | (refine pt_take rfl rfl rfl rfl ?_; apply Exists.intro; refine ⟨fun w' hw' => ?_, ?_⟩; focus ((repeat (first | go_skip | go_guarded | go_step | go_upon | go_back)); exact ⟨rfl, rfl, rfl⟩))
          refine pt_take rfl rfl rfl rfl ?_
          apply Exists.intro
          refine ⟨fun w' hw' => ?_, ?_⟩
          · refine wp_run rfl (exec_ixS 26 3 1 Tryd.underlying26 size_int w' rfl rfl _ _ k rfl rfl hlt HPD.out) ?_
            exact ⟨rfl, rfl, rfl⟩
          refine pt_take rfl rfl rfl rfl ?_
          apply Exists.intro
          refine ⟨fun w' hw' => ?_, ?_⟩
          · have hcell := (hw'.cell (p := pd) hdk).trans dx
            focus ((repeat (first | go_skip | go_guarded | go_step | go_upon | go_back)); exact ⟨rfl, rfl, rfl⟩)
          first | refine pt_skip rfl rfl rfl rfl ?_ | (refine pt_take rfl rfl rfl rfl ?_; apply Exists.intro; refine ⟨fun w' hw' => ?_, ?_⟩; focus ((repeat (first | go_skip | go_guarded | go_step | go_upon | go_back)); exact ⟨rfl, rfl, rfl⟩))
          first | refine pt_skip rfl rfl rfl rfl ?_ | (refine pt_take rfl rfl rfl rfl ?_; apply Exists.intro; refine ⟨fun w' hw' => ?_, ?_⟩; focus ((repeat (first | go_skip | go_guarded | go_step | go_upon | go_back)); exact ⟨rfl, rfl, rfl⟩))
          refine pt_take rfl rfl rfl rfl ?_
          apply Exists.intro
          refine ⟨fun w' hw' => ?_, ?_⟩
          · refine wp_run rfl (exec_ixS 26 3 1 Tryd.underlying26 size_int w' rfl rfl _ _ k rfl rfl hlt HPE.out) ?_
            exact ⟨rfl, rfl, rfl⟩
          refine pt_take rfl rfl rfl rfl ?_
          apply Exists.intro
          refine ⟨fun w' hw' => ?_, ?_⟩
          · have hcell := (hw'.cell (p := pe) hek).trans dy
            focus ((repeat (first | go_skip | go_guarded | go_step | go_upon | go_back)); exact ⟨rfl, rfl, rfl⟩)
          first | refine pt_skip rfl rfl rfl rfl ?_ | (refine pt_take rfl rfl rfl rfl ?_; apply Exists.intro; refine ⟨fun w' hw' => ?_, ?_⟩; focus ((repeat (first | go_skip | go_guarded | go_step | go_upon | go_back)); exact ⟨rfl, rfl, rfl⟩))
          change Exit.then _ _ Exit.normal _ _
          obtain ⟨wd, hwd⟩ : ∃ wd, wd = wr.drew := ⟨_, rfl⟩
          rw [← hwd] at b1 ⊢
          clear dx dy cx cy hwd
          subst hxy
          go_wp2
          go_roundw
          case rel => exact ⟨k + 1, by go_num, by omega, Lib.hid (take_succ_eq HX.out HY.out HT.out rfl), b1⟩
          case measure => simp [intOf]; omega
        · have hxy' : ((x : Int) == (y : Int)) = false := beq_eq_false_iff_ne.2 (by omega)
          have HAB : Hid ((a == b) = false) := Lib.hid (beq_eq_false_iff_ne.2 (fun h => hxy (by
            have h1 := HX.out
            rw [h, HY.out] at h1
            injection h1 with h1; exact h1.symm)))
          clear hxy
          go_upto_region 6 with (fail)
          refine wp_region_pt wr.heap.size (.take 0 (.take 1 (.take 2 (.take 3 (.take 4 (.take 5 (.take 6 (.take 7 (.take 8 .done))))))))) (by kernel_rfl) (by kernel_rfl) (by kernel_rfl) (fun _ _ h => h) ?_
          have dx : wr.drew.cell? pd = some (.int .i64 (x : Int)) := by simpa using cx
          have dy : wr.drew.cell? pe = some (.int .i64 (y : Int)) := by simpa using cy
          have b1 : Below w.heap.size w wr.drew := hbl.drew
          first | refine pt_skip rfl rfl rfl rfl ?_ | (refine pt_take rfl rfl rfl rfl ?_; apply Exists.intro; refine ⟨fun w' hw' => ?_, ?_⟩; focus ((repeat (first | go_skip | go_guarded | go_step | go_upon | go_back)); exact ⟨rfl, rfl, rfl⟩))
          first | refine pt_skip rfl rfl rfl rfl ?_ | (refine pt_take rfl rfl rfl rfl ?_; apply Exists.intro; refine ⟨fun w' hw' => ?_, ?_⟩; focus ((repeat (first | go_skip | go_guarded | go_step | go_upon | go_back)); exact ⟨rfl, rfl, rfl⟩))
          refine pt_take rfl rfl rfl rfl ?_
          apply Exists.intro
          refine ⟨fun w' hw' => ?_, ?_⟩
          · refine wp_run rfl (exec_ixS 26 3 1 Tryd.underlying26 size_int w' rfl rfl _ _ k rfl rfl hlt HPD.out) ?_
            exact ⟨rfl, rfl, rfl⟩
          refine pt_take rfl rfl rfl rfl ?_
          apply Exists.intro
          refine ⟨fun w' hw' => ?_, ?_⟩
          · have hcell := (hw'.cell (p := pd) hdk).trans dx
            focus ((repeat (first | go_skip | go_guarded | go_step | go_upon | go_back)); exact ⟨rfl, rfl, rfl⟩)
          first | refine pt_skip rfl rfl rfl rfl ?_ | (refine pt_take rfl rfl rfl rfl ?_; apply Exists.intro; refine ⟨fun w' hw' => ?_, ?_⟩; focus ((repeat (first | go_skip | go_guarded | go_step | go_upon | go_back)); exact ⟨rfl, rfl, rfl⟩))
          first | refine pt_skip rfl rfl rfl rfl ?_ | (refine pt_take rfl rfl rfl rfl ?_; apply Exists.intro; refine ⟨fun w' hw' => ?_, ?_⟩; focus ((repeat (first | go_skip | go_guarded | go_step | go_upon | go_back)); exact ⟨rfl, rfl, rfl⟩))
          refine pt_take rfl rfl rfl rfl ?_
          apply Exists.intro
          refine ⟨fun w' hw' => ?_, ?_⟩
          · refine wp_run rfl (exec_ixS 26 3 1 Tryd.underlying26 size_int w' rfl rfl _ _ k rfl rfl hlt HPE.out) ?_
            exact ⟨rfl, rfl, rfl⟩
          refine pt_take rfl rfl rfl rfl ?_
          apply Exists.intro
          refine ⟨fun w' hw' => ?_, ?_⟩
          · have hcell := (hw'.cell (p := pe) hek).trans dy
            focus ((repeat (first | go_skip | go_guarded | go_step | go_upon | go_back)); exact ⟨rfl, rfl, rfl⟩)
          first | refine pt_skip rfl rfl rfl rfl ?_ | (refine pt_take rfl rfl rfl rfl ?_; apply Exists.intro; refine ⟨fun w' hw' => ?_, ?_⟩; focus ((repeat (first | go_skip | go_guarded | go_step | go_upon | go_back)); exact ⟨rfl, rfl, rfl⟩))
          change Exit.then _ _ Exit.normal _ _
          obtain ⟨wd, hwd⟩ : ∃ wd, wd = wr.drew := ⟨_, rfl⟩
          rw [← hwd] at b1 ⊢
          clear dx dy cx cy hwd
          go_wp2
          go_ret
          rw [HAB.out]
          exact ⟨rfl, b1⟩
      · have hkn : k = n := by omega
        have HAB : Hid ((a == b) = true) := Lib.hid (by
          have h := HT.out
          rw [hkn, List.take_of_length_le (by have := HN.out; omega), List.take_of_length_le (by have := HN2.out; omega)] at h
          rw [h]; exact beq_iff_eq.2 rfl)
        clear hkn HT
        go_wp2
        go_ret
        rw [HAB.out]
        exact ⟨rfl, hbl⟩
  · have HAB : Hid ((a == b) = false) := Lib.hid (beq_eq_false_iff_ne.2 (fun h => hlen (by rw [h])))
    have hne : ((a.length : Int) == (b.length : Int)) = false := beq_eq_false_iff_ne.2 (by omega)
    obtain ⟨n, hn⟩ : ∃ n, n = a.length := ⟨_, rfl⟩
    obtain ⟨m, hm⟩ : ∃ m, m = b.length := ⟨_, rfl⟩
    rw [← hn, ← hm] at hne
    rw [← hn, ← hm]
    clear hlen hv hu hn hm
    go_enter Tryd.func12, Tryd.ntmps12
    go_wp2
    go_ret
    rw [HAB.out]
    exact ⟨rfl, Below.refl _ _⟩
end Go.Proofs.YtnfhdjmehhapiaaDoor
