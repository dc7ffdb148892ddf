/-
  Walks of the reference's package for layer 4: lists compared.
  Walks of the reference's package for layer 4: lists of digests compared.
-/
import Derived.Test.YtnfhdjmehhapiaaDoorWtF
namespace Go.Proofs.YtnfhdjmehhapiaaDoor
section
open Go.RowKit
set_option linter.unusedVariables false
set_option linter.unusedSimpArgs false

theorem take_succ_eq {α : Type} {a b : List α} {k : Nat} {x y : α} (hx : a[k]? = some x) (hy : b[k]? = some y) (h : a.take k = b.take k) (e : x = y) : a.take (k + 1) = b.take (k + 1) := by
  rw [List.take_add_one, List.take_add_one, h, hx, hy, e]

set_option maxRecDepth 100000 in
set_option maxHeartbeats 1000000 in
theorem ints_any (v u : Value) (a b : List Nat) (w : World) (hv : Row w w.heap.size 1 a.length v (ins a)) (hu : Row w w.heap.size 1 b.length u (ins b)) (ha : a.length ≤ 1000000) (hb : b.length ≤ 1000000) (hab : ∀ x ∈ a, x < 1000000) (hbb : ∀ x ∈ b, x < 1000000) :
    Calls Tryd.prog 12 #[v, u] w fun e w' => e = .returned (.bool (a == b)) ∧ Below w.heap.size w w' := by
  obtain ⟨A, cap, rfl⟩ := row_form hv
  obtain ⟨A2, cap2, rfl⟩ := row_form hu
  by_cases hlen : a.length = b.length
  · obtain ⟨n, hn⟩ : ∃ n, n = a.length := ⟨_, rfl⟩
    have hn2 : n = b.length := by omega
    have HN := Lib.hid hn
    have HN2 := Lib.hid hn2
    rw [← hn] at hv ha ⊢
    rw [← hn2] at hu ⊢
    clear hlen hn hn2 hb
    go_enter Tryd.func12, Tryd.ntmps12
    go_wp2_with fail
    go_loopw [5] (fun i wr => ∃ k : Nat, i = .int .i64 k ∧ k ≤ n ∧ Hid (a.take k = b.take k) ∧ Below w.heap.size w wr) (fun i _ => n - (intOf i).toNat)
    case atStart => exact ⟨0, rfl, by omega, Lib.hid rfl, Below.refl _ _⟩
    case round =>
      obtain ⟨k, rfl, hk, HT, hbl⟩ := hrel
      by_cases hlt : k < n
      · obtain ⟨x, hx⟩ : ∃ x, a[k]? = some x := ⟨_, List.getElem?_eq_getElem (by have := HN.out; omega)⟩
        obtain ⟨y, hy⟩ : ∃ y, b[k]? = some y := ⟨_, List.getElem?_eq_getElem (by have := HN2.out; omega)⟩
        have hxb := hab x (List.mem_of_getElem? hx)
        have hyb := hbb y (List.mem_of_getElem? hy)
        obtain ⟨ad, rfl, hd1, hd2⟩ := (hv.past hbl).at_ (by omega)
        obtain ⟨ae, rfl, he1, he2⟩ := (hu.past hbl).at_ (by omega)
        have cx := hd2 k _ (ins_get hx)
        have cy := he2 k _ (ins_get hy)
        have hdk : (ad.add k).block < wr.heap.size := by rw [add_block]; exact hd1
        have hek : (ae.add k).block < wr.heap.size := by rw [add_block]; exact he1
        have HX := Lib.hid hx
        have HY := Lib.hid hy
        clear hd1 hd2 he1 he2 hx hy
        obtain ⟨pd, hpd⟩ : ∃ pd, pd = ad.add k := ⟨_, rfl⟩
        obtain ⟨pe, hpe⟩ : ∃ pe, pe = ae.add k := ⟨_, rfl⟩
        rw [← hpd] at cx hdk
        rw [← hpe] at cy hek
        have HPD := Lib.hid (show pd = ad.add (k * 1) by rw [Nat.mul_one]; exact hpd)
        have HPE := Lib.hid (show pe = ae.add (k * 1) by rw [Nat.mul_one]; exact hpe)
        clear hpd hpe
        by_cases hxy : x = y
        · have HXY : Hid (((x : Int) == (y : Int)) = true) := Lib.hid (beq_iff_eq.2 (by omega))
          have hxy' : ((x : Int) == (y : Int)) = true := HXY.out
          go_upto_region 6 with (fail)
          refine wp_region_pt wr.heap.size (.take 0 (.take 1 (.take 2 (.take 3 (.take 4 (.take 5 (.take 6 (.take 7 (.take 8 .done))))))))) (by kernel_rfl) (by kernel_rfl) (by kernel_rfl) (fun _ _ h => h) ?_
          have dx : wr.drew.cell? pd = some (.int .i64 (x : Int)) := by simpa using cx
          have dy : wr.drew.cell? pe = some (.int .i64 (y : Int)) := by simpa using cy
          have b1 : Below w.heap.size w wr.drew := hbl.drew
          first | refine pt_skip rfl rfl rfl rfl ?_ | (refine pt_take rfl rfl rfl rfl ?_; apply Exists.intro; refine ⟨fun w' hw' => ?_, ?_⟩; focus ((repeat (first | go_skip | go_guarded | go_step | go_upon | go_back)); exact ⟨rfl, rfl, rfl⟩))
          first | refine pt_skip rfl rfl rfl rfl ?_ | (refine pt_take rfl rfl rfl rfl ?_; apply Exists.intro; refine ⟨fun w' hw' => ?_, ?_⟩; focus ((repeat (first | go_skip | go_guarded | go_step | go_upon | go_back)); exact ⟨rfl, rfl, rfl⟩))
          refine pt_take rfl rfl rfl rfl ?_
          apply Exists.intro
          refine ⟨fun w' hw' => ?_, ?_⟩
          · refine wp_run rfl (exec_ixS 26 3 1 Tryd.underlying26 size_int w' rfl rfl _ _ k rfl rfl hlt HPD.out) ?_
            exact ⟨rfl, rfl, rfl⟩
          refine pt_take rfl rfl rfl rfl ?_
          apply Exists.intro
          refine ⟨fun w' hw' => ?_, ?_⟩
          · have hcell := (hw'.cell (p := pd) hdk).trans dx
            focus ((repeat (first | go_skip | go_guarded | go_step | go_upon | go_back)); exact ⟨rfl, rfl, rfl⟩)
          first | refine pt_skip rfl rfl rfl rfl ?_ | (refine pt_take rfl rfl rfl rfl ?_; apply Exists.intro; refine ⟨fun w' hw' => ?_, ?_⟩; focus ((repeat (first | go_skip | go_guarded | go_step | go_upon | go_back)); exact ⟨rfl, rfl, rfl⟩))
          first | refine pt_skip rfl rfl rfl rfl ?_ | (refine pt_take rfl rfl rfl rfl ?_; apply Exists.intro; refine ⟨fun w' hw' => ?_, ?_⟩; focus ((repeat (first | go_skip | go_guarded | go_step | go_upon | go_back)); exact ⟨rfl, rfl, rfl⟩))
          refine pt_take rfl rfl rfl rfl ?_
          apply Exists.intro
          refine ⟨fun w' hw' => ?_, ?_⟩
          · refine wp_run rfl (exec_ixS 26 3 1 Tryd.underlying26 size_int w' rfl rfl _ _ k rfl rfl hlt HPE.out) ?_
            exact ⟨rfl, rfl, rfl⟩
          refine pt_take rfl rfl rfl rfl ?_
          apply Exists.intro
          refine ⟨fun w' hw' => ?_, ?_⟩
          · have hcell := (hw'.cell (p := pe) hek).trans dy
            focus ((repeat (first | go_skip | go_guarded | go_step | go_upon | go_back)); exact ⟨rfl, rfl, rfl⟩)
          first | refine pt_skip rfl rfl rfl rfl ?_ | (refine pt_take rfl rfl rfl rfl ?_; apply Exists.intro; refine ⟨fun w' hw' => ?_, ?_⟩; focus ((repeat (first | go_skip | go_guarded | go_step | go_upon | go_back)); exact ⟨rfl, rfl, rfl⟩))
          change Exit.then _ _ Exit.normal _ _
          obtain ⟨wd, hwd⟩ : ∃ wd, wd = wr.drew := ⟨_, rfl⟩
          rw [← hwd] at b1 ⊢
          clear dx dy cx cy hwd
          subst hxy
          go_wp2
          go_roundw
          case rel => exact ⟨k + 1, by go_num, by omega, Lib.hid (take_succ_eq HX.out HY.out HT.out rfl), b1⟩
          case measure => simp [intOf]; omega
        · have hxy' : ((x : Int) == (y : Int)) = false := beq_eq_false_iff_ne.2 (by omega)
          have HAB : Hid ((a == b) = false) := Lib.hid (beq_eq_false_iff_ne.2 (fun h => hxy (by
            have h1 := HX.out
            rw [h, HY.out] at h1
            injection h1 with h1; exact h1.symm)))
          clear hxy
          go_upto_region 6 with (fail)
          refine wp_region_pt wr.heap.size (.take 0 (.take 1 (.take 2 (.take 3 (.take 4 (.take 5 (.take 6 (.take 7 (.take 8 .done))))))))) (by kernel_rfl) (by kernel_rfl) (by kernel_rfl) (fun _ _ h => h) ?_
          have dx : wr.drew.cell? pd = some (.int .i64 (x : Int)) := by simpa using cx
          have dy : wr.drew.cell? pe = some (.int .i64 (y : Int)) := by simpa using cy
          have b1 : Below w.heap.size w wr.drew := hbl.drew
          first | refine pt_skip rfl rfl rfl rfl ?_ | (refine pt_take rfl rfl rfl rfl ?_; apply Exists.intro; refine ⟨fun w' hw' => ?_, ?_⟩; focus ((repeat (first | go_skip | go_guarded | go_step | go_upon | go_back)); exact ⟨rfl, rfl, rfl⟩))
          first | refine pt_skip rfl rfl rfl rfl ?_ | (refine pt_take rfl rfl rfl rfl ?_; apply Exists.intro; refine ⟨fun w' hw' => ?_, ?_⟩; focus ((repeat (first | go_skip | go_guarded | go_step | go_upon | go_back)); exact ⟨rfl, rfl, rfl⟩))
          refine pt_take rfl rfl rfl rfl ?_
          apply Exists.intro
          refine ⟨fun w' hw' => ?_, ?_⟩
          · refine wp_run rfl (exec_ixS 26 3 1 Tryd.underlying26 size_int w' rfl rfl _ _ k rfl rfl hlt HPD.out) ?_
            exact ⟨rfl, rfl, rfl⟩
          refine pt_take rfl rfl rfl rfl ?_
          apply Exists.intro
          refine ⟨fun w' hw' => ?_, ?_⟩
          · have hcell := (hw'.cell (p := pd) hdk).trans dx
            focus ((repeat (first | go_skip | go_guarded | go_step | go_upon | go_back)); exact ⟨rfl, rfl, rfl⟩)
          first | refine pt_skip rfl rfl rfl rfl ?_ | (refine pt_take rfl rfl rfl rfl ?_; apply Exists.intro; refine ⟨fun w' hw' => ?_, ?_⟩; focus ((repeat (first | go_skip | go_guarded | go_step | go_upon | go_back)); exact ⟨rfl, rfl, rfl⟩))
          first | refine pt_skip rfl rfl rfl rfl ?_ | (refine pt_take rfl rfl rfl rfl ?_; apply Exists.intro; refine ⟨fun w' hw' => ?_, ?_⟩; focus ((repeat (first | go_skip | go_guarded | go_step | go_upon | go_back)); exact ⟨rfl, rfl, rfl⟩))
          refine pt_take rfl rfl rfl rfl ?_
          apply Exists.intro
          refine ⟨fun w' hw' => ?_, ?_⟩
          · refine wp_run rfl (exec_ixS 26 3 1 Tryd.underlying26 size_int w' rfl rfl _ _ k rfl rfl hlt HPE.out) ?_
            exact ⟨rfl, rfl, rfl⟩
          refine pt_take rfl rfl rfl rfl ?_
          apply Exists.intro
          refine ⟨fun w' hw' => ?_, ?_⟩
          · have hcell := (hw'.cell (p := pe) hek).trans dy
            focus ((repeat (first | go_skip | go_guarded | go_step | go_upon | go_back)); exact ⟨rfl, rfl, rfl⟩)
          first | refine pt_skip rfl rfl rfl rfl ?_ | (refine pt_take rfl rfl rfl rfl ?_; apply Exists.intro; refine ⟨fun w' hw' => ?_, ?_⟩; focus ((repeat (first | go_skip | go_guarded | go_step | go_upon | go_back)); exact ⟨rfl, rfl, rfl⟩))
          change Exit.then _ _ Exit.normal _ _
          obtain ⟨wd, hwd⟩ : ∃ wd, wd = wr.drew := ⟨_, rfl⟩
          rw [← hwd] at b1 ⊢
          clear dx dy cx cy hwd
          go_wp2
          go_ret
          rw [HAB.out]
          exact ⟨rfl, b1⟩
      · have hkn : k = n := by omega
        have HAB : Hid ((a == b) = true) := Lib.hid (by
          have h := HT.out
          rw [hkn, List.take_of_length_le (by have := HN.out; omega), List.take_of_length_le (by have := HN2.out; omega)] at h
          rw [h]; exact beq_iff_eq.2 rfl)
        clear hkn HT
        go_wp2
        go_ret
        rw [HAB.out]
        exact ⟨rfl, hbl⟩
  · have HAB : Hid ((a == b) = false) := Lib.hid (beq_eq_false_iff_ne.2 (fun h => hlen (by rw [h])))
    have hne : ((a.length : Int) == (b.length : Int)) = false := beq_eq_false_iff_ne.2 (by omega)
    obtain ⟨n, hn⟩ : ∃ n, n = a.length := ⟨_, rfl⟩
    obtain ⟨m, hm⟩ : ∃ m, m = b.length := ⟨_, rfl⟩
    rw [← hn, ← hm] at hne
    rw [← hn, ← hm]
    clear hlen hv hu hn hm
    go_enter Tryd.func12, Tryd.ntmps12
    go_wp2
    go_ret
    rw [HAB.out]
    exact ⟨rfl, Below.refl _ _⟩
end

section
open Go.RowKit
set_option linter.unusedVariables false
set_option linter.unusedSimpArgs false

theorem exec_neqD {o : Oper} {act : Act} {x y : Operand} (ho : o.op = .binOp .neq 23 x y 23) (a b : List UInt8) (hx : act.eval x = .agg (u8s a).toArray) (hy : act.eval y = .agg (u8s b).toArray) (ha : a.length = 32) (hb : b.length = 32) (B : Bool) (hB : (!(a == b)) = B) (w : World) :
    (execOp act.eval o).run Tryd.prog w = .ok (.value (.bool B)) w := by
  subst hB
  unfold execOp
  simp only [ho, hx, hy, Sem.run_bind, run_eqGuard_agg _ _ _ _ _ _ _ guard_dig, run_neq_struct, run_eqD a b ha hb w, Result.andThen_ok, Sem.run_pure]
theorem exec_eqB {o : Oper} {act : Act} {x y : Operand} (ho : o.op = .binOp .eql 23 x y 23) (a b : List UInt8) (hx : act.eval x = .agg (u8s a).toArray) (hy : act.eval y = .agg (u8s b).toArray) (ha : a.length = 32) (hb : b.length = 32) (B : Bool) (hB : (a == b) = B) (w : World) :
    (execOp act.eval o).run Tryd.prog w = .ok (.value (.bool B)) w := by
  subst hB
  exact exec_eqD ho a b hx hy ha hb w

theorem takeS_eq {F G : List UInt8} {k : Nat} (h : F.take (32 * k) = G.take (32 * k)) (e : Wt.el F k = Wt.el G k) : F.take (32 * (k + 1)) = G.take (32 * (k + 1)) := by
  unfold Wt.el at e
  rw [show 32 * (k + 1) = 32 * k + 32 by omega, List.take_add, List.take_add, h, e]

set_option maxRecDepth 100000 in
set_option maxHeartbeats 1000000 in
theorem digests_any (v u : Value) (a b : List UInt8) (n m : Nat) (w : World) (hv : Row w w.heap.size 32 n v (u8s a)) (hu : Row w w.heap.size 32 m u (u8s b)) (ha : n ≤ 1000000) (hb : m ≤ 1000000) :
    Calls Tryd.prog 19 #[v, u] w fun e w' => e = .returned (.bool (a == b)) ∧ Below w.heap.size w w' := by
  obtain ⟨A, cap, rfl⟩ := row_form hv
  obtain ⟨A2, cap2, rfl⟩ := row_form hu
  have hla := row_flen hv
  have hlb := row_flen hu
  by_cases hlen : n = m
  · subst hlen
    have HN := Lib.hid hla
    have HN2 := Lib.hid hlb
    clear hla hlb hb
    go_enter Tryd.func19, Tryd.ntmps19
    go_wp2_with fail
    go_loopw [5] (fun i wr => ∃ k : Nat, i = .int .i64 k ∧ k ≤ n ∧ Hid (a.take (32 * k) = b.take (32 * k)) ∧ Below w.heap.size w wr) (fun i _ => n - (intOf i).toNat)
    case atStart => exact ⟨0, rfl, by omega, Lib.hid rfl, Below.refl _ _⟩
    case round =>
      obtain ⟨k, rfl, hk, HT, hbl⟩ := hrel
      by_cases hlt : k < n
      · obtain ⟨x, hx⟩ : ∃ x, x = Wt.el a k := ⟨_, rfl⟩
        obtain ⟨y, hy⟩ : ∃ y, y = Wt.el b k := ⟨_, rfl⟩
        have HXL := Lib.hid (show x.length = 32 by rw [hx]; exact Wt.el_len (n := n) (by have := HN.out; omega) hlt)
        have HYL := Lib.hid (show y.length = 32 by rw [hy]; exact Wt.el_len (n := n) (by have := HN2.out; omega) hlt)
        have HUX := Lib.hid (show (u8s x).length = 32 by rw [u8s_length, HXL.out])
        have HUY := Lib.hid (show (u8s y).length = 32 by rw [u8s_length, HYL.out])
        have rv := hv.past hbl
        have ru := hu.past hbl
        obtain ⟨ad, rfl, hd1, hd2⟩ := rv.at_ (by omega)
        obtain ⟨ae, rfl, he1, he2⟩ := ru.at_ (by omega)
        have cx := fun (W : World) (hW : Below wr.heap.size wr W) => row_elem (rv.carry hW (Nat.le_refl _)) hlt
        have cy := fun (W : World) (hW : Below wr.heap.size wr W) => row_elem (ru.carry hW (Nat.le_refl _)) hlt
        rw [← hx] at cx
        rw [← hy] at cy
        have HX := Lib.hid hx
        have HY := Lib.hid hy
        have CX := Lib.hid cx
        have CY := Lib.hid cy
        clear hd1 hd2 he1 he2 hx hy rv ru cx cy
        by_cases hxy : x = y
        · have HQ : Hid ((!(x == y)) = false) := Lib.hid (by rw [beq_iff_eq.2 hxy]; rfl)
          have HE := Lib.hid hxy
          clear hxy
          go_upto_region 6 with (fail)
          refine wp_region_pt wr.heap.size (.take 0 (.take 1 (.take 2 (.take 3 (.take 4 (.take 5 (.take 6 (.take 7 (.take 8 .done))))))))) (by kernel_rfl) (by kernel_rfl) (by kernel_rfl) (fun _ _ h => h) ?_
          have bd : Below wr.heap.size wr wr.drew := (Below.refl _ _).drew
          have b1 : Below w.heap.size w wr.drew := hbl.drew
          first | refine pt_skip rfl rfl rfl rfl ?_ | (refine pt_take rfl rfl rfl rfl ?_; apply Exists.intro; refine ⟨fun w' hw' => ?_, ?_⟩; focus ((repeat (first | go_skip | go_guarded | go_step | go_upon | go_back)); exact ⟨rfl, rfl, rfl⟩))
          first | refine pt_skip rfl rfl rfl rfl ?_ | (refine pt_take rfl rfl rfl rfl ?_; apply Exists.intro; refine ⟨fun w' hw' => ?_, ?_⟩; focus ((repeat (first | go_skip | go_guarded | go_step | go_upon | go_back)); exact ⟨rfl, rfl, rfl⟩))
          refine pt_take rfl rfl rfl rfl ?_
          apply Exists.intro
          refine ⟨fun w' hw' => ?_, ?_⟩
          · refine wp_run rfl (exec_ixS 33 23 32 Tryd.underlying33 info_dig w' rfl rfl _ _ k rfl rfl hlt (q := ad.add (k * 32)) rfl) ?_
            exact ⟨rfl, rfl, rfl⟩
          refine pt_take rfl rfl rfl rfl ?_
          apply Exists.intro
          refine ⟨fun w' hw' => ?_, ?_⟩
          · refine wp_run rfl (exec_loadP 23 rfl (ad.add (k * 32)) rfl (u8s x) 32 5 (CX.out w' (bd.trans hw')) Tryd.underlying23 (by rw [info_dig, HUX.out])) ?_
            exact ⟨rfl, rfl, rfl⟩
          first | refine pt_skip rfl rfl rfl rfl ?_ | (refine pt_take rfl rfl rfl rfl ?_; apply Exists.intro; refine ⟨fun w' hw' => ?_, ?_⟩; focus ((repeat (first | go_skip | go_guarded | go_step | go_upon | go_back)); exact ⟨rfl, rfl, rfl⟩))
          first | refine pt_skip rfl rfl rfl rfl ?_ | (refine pt_take rfl rfl rfl rfl ?_; apply Exists.intro; refine ⟨fun w' hw' => ?_, ?_⟩; focus ((repeat (first | go_skip | go_guarded | go_step | go_upon | go_back)); exact ⟨rfl, rfl, rfl⟩))
          refine pt_take rfl rfl rfl rfl ?_
          apply Exists.intro
          refine ⟨fun w' hw' => ?_, ?_⟩
          · refine wp_run rfl (exec_ixS 33 23 32 Tryd.underlying33 info_dig w' rfl rfl _ _ k rfl rfl hlt (q := ae.add (k * 32)) rfl) ?_
            exact ⟨rfl, rfl, rfl⟩
          refine pt_take rfl rfl rfl rfl ?_
          apply Exists.intro
          refine ⟨fun w' hw' => ?_, ?_⟩
          · refine wp_run rfl (exec_loadP 23 rfl (ae.add (k * 32)) rfl (u8s y) 32 5 (CY.out w' (bd.trans hw')) Tryd.underlying23 (by rw [info_dig, HUY.out])) ?_
            exact ⟨rfl, rfl, rfl⟩
          refine pt_take rfl rfl rfl rfl ?_
          apply Exists.intro
          refine ⟨fun w' hw' => ?_, ?_⟩
          · refine wp_run rfl (exec_neqD rfl x y rfl rfl HXL.out HYL.out _ HQ.out w') ?_
            exact ⟨rfl, rfl, rfl⟩
          change Exit.then _ _ Exit.normal _ _
          obtain ⟨wd, hwd⟩ : ∃ wd, wd = wr.drew := ⟨_, rfl⟩
          rw [← hwd] at b1 ⊢
          clear bd hwd
          go_wp2
          go_roundw
          case rel => exact ⟨k + 1, by go_num, by omega, Lib.hid (takeS_eq HT.out (by rw [← HX.out, ← HY.out]; exact HE.out)), b1⟩
          case measure => simp [intOf]; omega
        · have HQ : Hid ((!(x == y)) = true) := Lib.hid (by rw [beq_eq_false_iff_ne.2 hxy]; rfl)
          have HAB : Hid ((a == b) = false) := Lib.hid (beq_eq_false_iff_ne.2 (fun h => hxy (by rw [HX.out, HY.out, h])))
          clear hxy
          go_upto_region 6 with (fail)
          refine wp_region_pt wr.heap.size (.take 0 (.take 1 (.take 2 (.take 3 (.take 4 (.take 5 (.take 6 (.take 7 (.take 8 .done))))))))) (by kernel_rfl) (by kernel_rfl) (by kernel_rfl) (fun _ _ h => h) ?_
          have bd : Below wr.heap.size wr wr.drew := (Below.refl _ _).drew
          have b1 : Below w.heap.size w wr.drew := hbl.drew
          first | refine pt_skip rfl rfl rfl rfl ?_ | (refine pt_take rfl rfl rfl rfl ?_; apply Exists.intro; refine ⟨fun w' hw' => ?_, ?_⟩; focus ((repeat (first | go_skip | go_guarded | go_step | go_upon | go_back)); exact ⟨rfl, rfl, rfl⟩))
          first | refine pt_skip rfl rfl rfl rfl ?_ | (refine pt_take rfl rfl rfl rfl ?_; apply Exists.intro; refine ⟨fun w' hw' => ?_, ?_⟩; focus ((repeat (first | go_skip | go_guarded | go_step | go_upon | go_back)); exact ⟨rfl, rfl, rfl⟩))
          refine pt_take rfl rfl rfl rfl ?_
          apply Exists.intro
          refine ⟨fun w' hw' => ?_, ?_⟩
          · refine wp_run rfl (exec_ixS 33 23 32 Tryd.underlying33 info_dig w' rfl rfl _ _ k rfl rfl hlt (q := ad.add (k * 32)) rfl) ?_
            exact ⟨rfl, rfl, rfl⟩
          refine pt_take rfl rfl rfl rfl ?_
          apply Exists.intro
          refine ⟨fun w' hw' => ?_, ?_⟩
          · refine wp_run rfl (exec_loadP 23 rfl (ad.add (k * 32)) rfl (u8s x) 32 5 (CX.out w' (bd.trans hw')) Tryd.underlying23 (by rw [info_dig, HUX.out])) ?_
            exact ⟨rfl, rfl, rfl⟩
          first | refine pt_skip rfl rfl rfl rfl ?_ | (refine pt_take rfl rfl rfl rfl ?_; apply Exists.intro; refine ⟨fun w' hw' => ?_, ?_⟩; focus ((repeat (first | go_skip | go_guarded | go_step | go_upon | go_back)); exact ⟨rfl, rfl, rfl⟩))
          first | refine pt_skip rfl rfl rfl rfl ?_ | (refine pt_take rfl rfl rfl rfl ?_; apply Exists.intro; refine ⟨fun w' hw' => ?_, ?_⟩; focus ((repeat (first | go_skip | go_guarded | go_step | go_upon | go_back)); exact ⟨rfl, rfl, rfl⟩))
          refine pt_take rfl rfl rfl rfl ?_
          apply Exists.intro
          refine ⟨fun w' hw' => ?_, ?_⟩
          · refine wp_run rfl (exec_ixS 33 23 32 Tryd.underlying33 info_dig w' rfl rfl _ _ k rfl rfl hlt (q := ae.add (k * 32)) rfl) ?_
            exact ⟨rfl, rfl, rfl⟩
          refine pt_take rfl rfl rfl rfl ?_
          apply Exists.intro
          refine ⟨fun w' hw' => ?_, ?_⟩
          · refine wp_run rfl (exec_loadP 23 rfl (ae.add (k * 32)) rfl (u8s y) 32 5 (CY.out w' (bd.trans hw')) Tryd.underlying23 (by rw [info_dig, HUY.out])) ?_
            exact ⟨rfl, rfl, rfl⟩
          refine pt_take rfl rfl rfl rfl ?_
          apply Exists.intro
          refine ⟨fun w' hw' => ?_, ?_⟩
          · refine wp_run rfl (exec_neqD rfl x y rfl rfl HXL.out HYL.out _ HQ.out w') ?_
            exact ⟨rfl, rfl, rfl⟩
          change Exit.then _ _ Exit.normal _ _
          obtain ⟨wd, hwd⟩ : ∃ wd, wd = wr.drew := ⟨_, rfl⟩
          rw [← hwd] at b1 ⊢
          clear bd hwd
          go_wp2
          go_ret
          rw [HAB.out]
          exact ⟨rfl, b1⟩
      · have hkn : k = n := by omega
        have HAB : Hid ((a == b) = true) := Lib.hid (by
          have h := HT.out
          rw [hkn, List.take_of_length_le (by have := HN.out; omega), List.take_of_length_le (by have := HN2.out; omega)] at h
          rw [h]; exact beq_iff_eq.2 rfl)
        clear hkn HT
        go_wp2
        go_ret
        rw [HAB.out]
        exact ⟨rfl, hbl⟩
  · have HAB : Hid ((a == b) = false) := Lib.hid (beq_eq_false_iff_ne.2 (fun h => hlen (by rw [h] at hla; omega)))
    have hne : ((n : Int) == (m : Int)) = false := beq_eq_false_iff_ne.2 (by omega)
    clear hlen hv hu hla hlb
    go_enter Tryd.func19, Tryd.ntmps19
    go_wp2
    go_ret
    rw [HAB.out]
    exact ⟨rfl, Below.refl _ _⟩
end
end Go.Proofs.YtnfhdjmehhapiaaDoor
