/-
  Walks of package wots: the digests of all chains, by a function value.
-/
import Derived.Test.YtnfhdjmehhapiaaDoorWtB
namespace Go.Proofs.YtnfhdjmehhapiaaDoor
open Go.RowKit
set_option linter.unusedVariables false
set_option linter.unusedSimpArgs false

/-- The ends so far; zeros behind. -/
def endsTo (f : Nat → List UInt8) (k : Nat) : List UInt8 := Wt.cat f k ++ List.replicate (576 - 32 * k) 0
theorem endsTo_len {f : Nat → List UInt8} {k : Nat} (hf : ∀ i, i < 18 → (f i).length = 32) (hk : k ≤ 18) : (endsTo f k).length = 576 := by
  unfold endsTo
  rw [List.length_append, Wt.cat_len k (fun i hi => hf i (by omega)), List.length_replicate]; omega
theorem endsTo_zero (f : Nat → List UInt8) : endsTo f 0 = z576 := rfl
theorem endsTo_done (f : Nat → List UInt8) : endsTo f 18 = Wt.cat f 18 := by unfold endsTo; simp
theorem endsTo_put {f : Nat → List UInt8} {k : Nat} (hf : ∀ i, i < 18 → (f i).length = 32) (hk : k < 18) :
    (u8s (endsTo f k)).take (k * 32) ++ u8s (f k) ++ (u8s (endsTo f k)).drop (k * 32 + (u8s (f k)).length) = u8s (endsTo f (k + 1)) := by
  have hl := Wt.cat_len (f := f) k (fun i hi => hf i (by omega))
  rw [u8s_length, hf k hk]
  unfold endsTo
  rw [u8s_append, List.take_left' (by rw [u8s_length, hl]; omega), List.drop_append, u8s_length, hl, List.drop_of_length_le (by rw [u8s_length, hl]; omega), List.nil_append, Wt.cat, u8s_append, u8s_append, List.append_assoc]
  have e : (u8s (List.replicate (576 - 32 * k) 0)).drop (k * 32 + 32 - 32 * k) = u8s (List.replicate (576 - 32 * (k + 1)) 0) := by
    unfold u8s
    rw [← List.map_drop, List.drop_replicate]
    congr 2; omega
  rw [e]
  simp

theorem enters_any {P : Program} {f : FuncId} {fn : Func} {c : Code} (hf : P.funcs[f]? = some fn) (hn : (fn.name == "runtime.NumGoroutine") = false) (hb : fn.body = some c) (args : Array Value) (w : World) : (callFunc f args).run P w = .ok (.enter f args) w := by
  have h1 : fn.name ≠ "runtime.NumGoroutine" := by simpa using hn
  unfold callFunc
  simp [Sem.run_bind, hf, h1, hb]

set_option maxRecDepth 100000 in
set_option maxHeartbeats 1000000 in
theorem eachChain_any (fid : FuncId) (caps : Array Value) (f : Nat → List UInt8) (w : World) (hent : ∀ args w', (callFunc fid args).run Tryd.prog w' = .ok (.enter fid args) w') (hf : ∀ i, i < 18 → (f i).length = 32)
    (hcall : ∀ (i : Nat) (w' : World), i < 18 → Below w.heap.size w w' → Calls Tryd.prog fid (#[.int .i64 i] ++ caps) w' fun e w'' => e = .returned (.agg (u8s (f i)).toArray) ∧ Below w'.heap.size w' w'') :
    Calls Tryd.prog 30 #[.func (.func fid) #[] caps] w fun e w' => e = .returned (.agg (u8s (Wt.cat f 18)).toArray) ∧ Below w.heap.size w w' := by
  have hz := zero_ends
  have HF := Lib.hid hf
  have HC := Lib.hid hcall
  have HEN := Lib.hid hent
  clear hf hcall hent
  obtain ⟨W0, hW0⟩ : ∃ W0, W0 = (w.alloc (.cells (u8s z576).toArray 51)).alloc (.cells (u8s z576).toArray 51) := ⟨_, rfl⟩
  have hb0 : Below w.heap.size w W0 := by rw [hW0]; exact ((Below.refl _ _).alloc (Nat.le_refl _) _).alloc (by simp) _
  have hr0 : Blk W0 w.heap.size 51 (u8s z576) := by
    rw [hW0]
    exact (Blk.new w _ _).past ((Below.refl _ _).alloc (Nat.le_refl _) _) (by simp)
  have hl0 : Blk W0 (w.heap.size + 1) 51 (u8s (endsTo f 0)) := by
    have h := Blk.new (w.alloc (.cells (u8s z576).toArray 51)) 51 (u8s z576)
    rw [World.size_alloc] at h
    rw [hW0]; exact h
  have HW0 := Lib.hid hW0
  clear hW0
  go_enter Tryd.func30, Tryd.ntmps30
  go_upto_region 2 with (fail)
  rw [← HW0.out]
  clear hz
  go_wp2_with fail
  go_loopw [5] (fun i wr => ∃ k : Nat, i = .int .i64 k ∧ k ≤ 18 ∧ Blk wr w.heap.size 51 (u8s z576) ∧ Blk wr (w.heap.size + 1) 51 (u8s (endsTo f k)) ∧ Below w.heap.size w wr) (fun i _ => 18 - (intOf i).toNat)
  case atStart => exact ⟨0, rfl, by omega, hr0, hl0, hb0⟩
  case round =>
    clear hr0 hl0 hb0
    obtain ⟨k, rfl, hkn, hr, hl, hb⟩ := hrel
    have hs1 : w.heap.size + 1 < wr.heap.size := hl.lt
    by_cases hlt : k < 18
    · have HCK := Lib.hid (HC.out k wr hlt hb)
      have HP := Lib.hid (endsTo_put HF.out hlt)
      have HLK : Hid ((u8s (f k)).length = 32) := Lib.hid (by rw [u8s_length, HF.out k hlt])
      have HLE : Hid ((u8s (endsTo f k)).length = 576) := Lib.hid (by rw [u8s_length, endsTo_len HF.out (by omega)])
      go_wp2_with fail
      rw [HEN.out]
      refine HCK.out.mono ?_
      rintro e w2 ⟨rfl, b2⟩
      have hr2 := hr.past b2 hr.lt
      have hl2 := hl.past b2 hl.lt
      have bb2 := hb.trans (b2.mono hb.size)
      clear hr hl hb b2 HCK
      go_wp2_with (first
        | (refine wp_run rfl (exec_ixA 51 23 18 32 Tryd.underlying51 info_dig _ rfl (w.heap.size + 1) rfl _ _ k rfl rfl hlt (q := k * 32) rfl) ?_)
        | (refine wp_storeM 23 (.tmp 12) (.tmp 11) rfl rfl (w.heap.size + 1) (k * 32) rfl 51 _ (u8s (f k)) rfl hl2 (by rw [info_dig, HLK.out]) (by rw [HLK.out, HLE.out]; omega) (u8s_one _) rfl ?_; intro w3 hl3 hk3))
      rw [HP.out] at hl3
      have hr3 := hr2.keep hk3 (by omega)
      have bb3 : Below w.heap.size w w3 := bb2.trans (hk3.below (fun q hq => by omega) bb2.size)
      clear hr2 hl2 bb2 hk3
      go_roundw
      case rel => exact ⟨k + 1, by go_num, by omega, hr3, hl3, bb3⟩
      case measure => simp [intOf]; omega
    · have hk18 : k = 18 := by omega
      rw [hk18, endsTo_done] at hl
      obtain ⟨D, hD⟩ : ∃ D, D = Wt.cat f 18 := ⟨_, rfl⟩
      rw [← hD] at hl
      have HDL : Hid ((u8s D).length = 576) := Lib.hid (by rw [u8s_length, hD, Wt.cat_len 18 HF.out])
      have HD := Lib.hid hD
      clear hD hk18
      go_wp2_with (first
        | (refine wp_run rfl (exec_loadA 51 rfl (w.heap.size + 1) rfl 51 _ 18 23 hl Tryd.underlying51 (by rw [info_ends, HDL.out])) ?_)
        | (refine wp_storeA 51 (.tmp 2) (.tmp 14) rfl rfl w.heap.size rfl 51 (u8s z576) _ rfl hr (by rw [info_ends, HDL.out]) (by rw [HDL.out]; rfl) (u8s_one _) rfl ?_; intro w6 hr6 hk6))
      have hb6 : Below w.heap.size w w6 := hb.trans (hk6.below (n := w.heap.size) (fun q hq => by omega) hb.size)
      refine ret_arr Tryd.results30 rfl w.heap.size 51 _ 18 23 rfl hr6 Tryd.underlying51 (by rw [info_ends, HDL.out]) ?_
      rw [HD.out]
      exact ⟨rfl, hb6⟩
end Go.Proofs.YtnfhdjmehhapiaaDoor
