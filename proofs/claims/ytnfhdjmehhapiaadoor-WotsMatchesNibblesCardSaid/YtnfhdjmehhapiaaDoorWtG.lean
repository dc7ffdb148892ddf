/-
  Walks of package wots: verification.
-/
import Derived.Test.YtnfhdjmehhapiaaDoorWtF
namespace Go.Proofs.YtnfhdjmehhapiaaDoor
open Go.RowKit
set_option linter.unusedVariables false
set_option linter.unusedSimpArgs false

set_option maxRecDepth 100000 in
set_option maxHeartbeats 1000000 in
theorem verify_yes (p d F : List UInt8) (v : Value) (w : World) (hv : Row w w.heap.size 32 18 v (u8s F)) (hp : p.length = 32) (hd : d.length = 32) (hk : KIs 0 w) :
    Calls Tryd.prog 22 #[.agg (u8s p).toArray, .agg (u8s d).toArray, v] w fun e w' => e = .returned (.bool (Wt.rec_ d F == p)) ∧ Below w.heap.size w w' := by
  obtain ⟨A, cap, rfl⟩ := row_form hv
  have hz := zero_dig
  have HUD := Lib.hid (show (u8s d).length = 32 by rw [u8s_length, hd])
  have HUP := Lib.hid (show (u8s p).length = 32 by rw [u8s_length, hp])
  have HPL := Lib.hid hp
  obtain ⟨W0, hW0⟩ : ∃ W0, W0 = (w.alloc (.cells (u8s p).toArray 23)).alloc (.cells (u8s d).toArray 23) := ⟨_, rfl⟩
  have b0 : Below w.heap.size w W0 := by rw [hW0]; exact ((Below.refl _ _).alloc (Nat.le_refl _) _).alloc (by simp) _
  have hp0 : Blk W0 w.heap.size 23 (u8s p) := by
    rw [hW0]
    exact (Blk.new w _ _).past ((Below.refl _ _).alloc (Nat.le_refl _) _) (by simp)
  have hd0 : Blk W0 (w.heap.size + 1) 23 (u8s d) := by
    have h := Blk.new (w.alloc (.cells (u8s p).toArray 23)) 23 (u8s d)
    rw [World.size_alloc] at h
    rw [hW0]; exact h
  have hc := recover_yes d F (.slice A 18 cap) W0 (hv.past b0) hd (hk.past b0)
  have HC := Lib.hid hc
  have HW := Lib.hid hW0
  clear hW0 hc hv hd hp
  go_enter Tryd.func22, Tryd.ntmps22
  go_upto_region 1 with (fail)
  rw [← HW.out]
  go_wp2_with (refine wp_run rfl (exec_loadA 23 rfl (w.heap.size + 1) rfl 23 _ 32 5 hd0 Tryd.underlying23 (by rw [info_dig, HUD.out])) ?_)
  refine HC.out.mono ?_
  rintro e w2 ⟨rfl, b2⟩
  have b02 := b0.trans (b2.mono b0.size)
  have hp2 := hp0.past b2 hp0.lt
  have HRL := Lib.hid (Wt.rec_len d F)
  obtain ⟨R, hR⟩ : ∃ R, R = Wt.rec_ d F := ⟨_, rfl⟩
  rw [← hR] at HRL ⊢
  have HUR := Lib.hid (show (u8s R).length = 32 by rw [u8s_length, HRL.out])
  have HR := Lib.hid hR
  have hg2 := Blk.new w2 23 (u8s z32)
  have b23 : Below w2.heap.size w2 (w2.alloc (.cells (u8s z32).toArray 23)) := (Below.refl _ _).alloc (Nat.le_refl _) _
  clear hR HC b2 hp0 hd0
  go_upto_region 2 with (refine wp_storeA 23 (.tmp 7) (.tmp 13) rfl rfl w2.heap.size rfl 23 (u8s z32) _ rfl hg2 (by rw [info_dig, HUR.out]) (by rw [HUR.out]; rfl) (u8s_one _) rfl ?_; intro w4 hg4 hk4)
  have b24 : Below w2.heap.size w2 w4 := ((Keep.of_below b23).trans (hk4.mono (O' := fun q => q < w2.heap.size) (fun q hq => by omega))).below (fun q hq => hq) (Nat.le_refl _)
  have hp4 := hp2.past b24 hp2.lt
  have b04 := b02.trans (b24.mono b02.size)
  clear b23 hp2 hg2 hk4 b02
  obtain ⟨B, hB⟩ : ∃ B, B = (R == p) := ⟨_, rfl⟩
  have HB := Lib.hid hB
  have hrun : ∀ {o : Oper} {act : Act} {x y : Operand}, o.op = .binOp .eql 23 x y 23 → act.eval x = .agg (u8s R).toArray → act.eval y = .agg (u8s p).toArray → (execOp act.eval o).run Tryd.prog w4 = .ok (.value (.bool B)) w4 := fun ho hx hy => by
    rw [hB]; exact exec_eqD ho R p hx hy HRL.out HPL.out w4
  clear hB
  go_wp2_with (first
    | (refine wp_run rfl (exec_loadA 23 rfl w2.heap.size rfl 23 _ 32 5 hg4 Tryd.underlying23 (by rw [info_dig, HUR.out])) ?_)
    | (refine wp_run rfl (exec_loadA 23 rfl w.heap.size rfl 23 _ 32 5 hp4 Tryd.underlying23 (by rw [info_dig, HUP.out])) ?_)
    | (refine wp_run rfl (hrun rfl rfl rfl) ?_))
  go_ret
  rw [← HR.out, ← HB.out]
  exact ⟨rfl, b04⟩

set_option maxRecDepth 100000 in
set_option maxHeartbeats 1000000 in
theorem verify_no (p d : List UInt8) (n : Nat) (A : Option Addr) (cap : Nat) (w : World) (hd : d.length = 32) (hn : n ≠ 18) (hm : n ≤ 9223372036854775807) :
    Calls Tryd.prog 22 #[.agg (u8s p).toArray, .agg (u8s d).toArray, .slice A n cap] w fun e w' => e = .returned (.bool false) ∧ Below w.heap.size w w' := by
  have hz := zero_dig
  have HUD := Lib.hid (show (u8s d).length = 32 by rw [u8s_length, hd])
  obtain ⟨W0, hW0⟩ : ∃ W0, W0 = (w.alloc (.cells (u8s p).toArray 23)).alloc (.cells (u8s d).toArray 23) := ⟨_, rfl⟩
  have b0 : Below w.heap.size w W0 := by rw [hW0]; exact ((Below.refl _ _).alloc (Nat.le_refl _) _).alloc (by simp) _
  have hd0 : Blk W0 (w.heap.size + 1) 23 (u8s d) := by
    have h := Blk.new (w.alloc (.cells (u8s p).toArray 23)) 23 (u8s d)
    rw [World.size_alloc] at h
    rw [hW0]; exact h
  have hc := recover_no d n A cap W0 hn hm
  have HC := Lib.hid hc
  have HW := Lib.hid hW0
  clear hW0 hc hd hn
  go_enter Tryd.func22, Tryd.ntmps22
  go_upto_region 1 with (fail)
  rw [← HW.out]
  go_wp2_with (refine wp_run rfl (exec_loadA 23 rfl (w.heap.size + 1) rfl 23 _ 32 5 hd0 Tryd.underlying23 (by rw [info_dig, HUD.out])) ?_)
  refine HC.out.mono ?_
  rintro e w2 ⟨rfl, b2⟩
  have b02 := b0.trans (b2.mono b0.size)
  have hg2 := Blk.new w2 23 (u8s z32)
  have b23 : Below w2.heap.size w2 (w2.alloc (.cells (u8s z32).toArray 23)) := (Below.refl _ _).alloc (Nat.le_refl _) _
  clear HC b2 hd0
  go_upto_region 2 with (refine wp_storeA 23 (.tmp 7) (.tmp 13) rfl rfl w2.heap.size rfl 23 (u8s z32) (u8s z32) rfl hg2 (by rw [info_dig]; rfl) rfl (u8s_one _) rfl ?_; intro w4 hg4 hk4)
  have b24 : Below w2.heap.size w2 w4 := ((Keep.of_below b23).trans (hk4.mono (O' := fun q => q < w2.heap.size) (fun q hq => by omega))).below (fun q hq => hq) (Nat.le_refl _)
  have b04 := b02.trans (b24.mono b02.size)
  clear b23 hg2 hk4 b02
  go_wp2
  go_ret
  exact ⟨rfl, b04⟩
end Go.Proofs.YtnfhdjmehhapiaaDoor
