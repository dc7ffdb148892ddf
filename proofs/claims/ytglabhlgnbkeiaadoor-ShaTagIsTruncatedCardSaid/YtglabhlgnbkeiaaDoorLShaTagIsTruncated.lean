/-
  The walk of ShaTagIsTruncated.
-/
import Derived.Test.YtglabhlgnbkeiaaDoorShM
import Derived.Test.YtglabhlgnbkeiaaDoorOpA
namespace Go.Proofs.YtglabhlgnbkeiaaDoor
open Go.RowKit
set_option linter.unusedVariables false
set_option linter.unusedSimpArgs false

theorem str_cat (a b : List UInt8) : (ByteArray.mk a.toArray) ++ (ByteArray.mk b.toArray) = ⟨(a ++ b).toArray⟩ := by
  apply ByteArray.ext
  simp
def sizeOfStr : Value → Nat
  | .string b => b.size
  | _ => 0
theorem take_take_255 (T : List UInt8) : (T.take 255).take 255 = T.take 255 := by rw [List.take_take, Nat.min_self]
theorem tag_take (T l : List UInt8) : Sha.tag (T.take 255) l = Sha.tag T l := by unfold Sha.tag; rw [take_take_255]
theorem tag_more (T t l : List UInt8) (h : 255 ≤ T.length) : Sha.tag (T ++ t) l = Sha.tag T l := by unfold Sha.tag; rw [List.take_append_of_le_length h]

attribute [local irreducible] Sha.sum Sha.tag Sha.chain

set_option maxRecDepth 100000 in
set_option maxHeartbeats 2000000 in
theorem shaTagIsTruncated_walk (t : List UInt8) (v : Value) (l : List UInt8) (W : World) (ht : t.length ≤ maxLen) (hv : Bs W W.heap.size v l) (hk : KIs 1 W) :
    Calls Tryd.prog 7 #[str t, v] W fun e w' => e = .returned (.bool true) ∧ Below W.heap.size W w' := by
  obtain ⟨A, cap, rfl⟩ := hv.form
  have hlm : l.length ≤ maxLen := by
    obtain ⟨_, _, e, h1, h2, _⟩ := hv
    omega
  unfold maxLen at ht hlm
  unfold str
  by_cases h1 : (2000 : Int) < (t.length : Int)
  · go_enter Tryd.func7, Tryd.ntmps7
    go_wp2_with fail
    refine (sane_any W hk).mono ?_
    rintro e w1 ⟨rfl, b1⟩
    go_wp2
    go_ret
    exact ⟨rfl, b1⟩
  · by_cases h2 : (600 : Int) < (l.length : Int)
    · go_enter Tryd.func7, Tryd.ntmps7
      go_wp2_with fail
      refine (sane_any W hk).mono ?_
      rintro e w1 ⟨rfl, b1⟩
      go_wp2
      go_ret
      exact ⟨rfl, b1⟩
    · go_enter Tryd.func7, Tryd.ntmps7
      go_wp2_with fail
      refine (sane_any W hk).mono ?_
      rintro e w1 ⟨rfl, b1⟩
      have hv1 := hv.past b1
      have hk1 := hk.past b1
      clear hv hk
      have HL : Hid (l.length ≤ 600) := Lib.hid (by omega)
      have HT : Hid (t.length ≤ 2000) := Lib.hid (by omega)
      go_wp2_with fail
      go_loop [5] (fun s => ∃ T : List UInt8, s = .string ⟨T.toArray⟩ ∧ T.length ≤ 2000) (fun s => 255 - sizeOfStr s)
      case atStart => exact ⟨t, rfl, HT.out⟩
      case round =>
        obtain ⟨T, rfl, hT⟩ := hrel
        by_cases h3 : (T.length : Int) < 255
        · go_wp2
          go_round
          case rel => exact ⟨T ++ [120], congrArg Value.string (str_cat T [120]), by simp; omega⟩
          case measure => 
            have e1 : sizeOfStr (.string ⟨T.toArray⟩) = T.length := by simp [sizeOfStr, ByteArray.size]
            have e2 : sizeOfStr (.string (ByteArray.mk T.toArray ++ ByteArray.mk [120].toArray)) = T.length + 1 := by rw [str_cat]; simp [sizeOfStr, ByteArray.size]
            omega
        · go_upto_region 8 with (fail)
          have HB : Hid (T.length ≤ 2000 ∧ 255 ≤ T.length) := Lib.hid (by omega)
          have HCAT := Lib.hid (str_cat T t)
          have HEXT := Lib.hid (extract_str T 255)
          have h255 : 255 ≤ T.length := by omega
          have HX1 : Hid (Sha.tag T l = Sha.tag (T.take 255) l) := Lib.hid (tag_take T l).symm
          have HX2 : Hid (Sha.tag (T ++ t) l = Sha.tag T l) := Lib.hid (tag_more T t l (by omega))
          have HLT : Hid ((T.take 255).length ≤ 100000) := Lib.hid (by rw [List.length_take]; omega)
          have HLC : Hid ((T ++ t).length ≤ 100000) := Lib.hid (by rw [List.length_append]; have := HT.out; omega)
          clear h1 h2 h3 hT ht hlm
          refine wp_region_pt w1.heap.size (.take 0 (.take 1 (.take 3 (.take 4 (.take 5 (.step 2 (.step 6 (.take 7 (.take 8 (.take 9 (.take 10 (.take 11 (.take 12 (.take 14 (.take 15 (.step 13 (.step 16 (.take 17 (.take 18 (.take 19 .done)))))))))))))))))))) (by kernel_rfl) (by kernel_rfl) (by kernel_rfl) (fun _ _ h => h) ?_
          obtain ⟨w2, hw2⟩ : ∃ w2, w2 = w1.drew := ⟨_, rfl⟩
          have hv2 : Bs w2 w2.heap.size (.slice A l.length cap) l := by rw [hw2]; exact hv1.past (Below.refl _ _).drew
          have hk2 : KIs 1 w2 := by rw [hw2]; exact hk1.past (Below.refl _ _).drew
          have bl2 : Below W.heap.size W w2 := by rw [hw2]; exact b1.drew
          have z2 : w1.heap.size ≤ w2.heap.size := by rw [hw2]; exact (Below.refl w1.heap.size w1).drew.size
          rw [← hw2]
          clear hw2 hv1 hk1 b1
          first | refine pt_skip rfl rfl rfl rfl ?_ | (refine pt_take rfl rfl rfl rfl ?_; apply Exists.intro; refine ⟨fun w' hw' => ?_, ?_⟩; focus ((repeat (first | go_skip | go_guarded | go_step | go_upon | go_back)); exact ⟨rfl, rfl, rfl⟩))
          first | refine pt_skip rfl rfl rfl rfl ?_ | (refine pt_take rfl rfl rfl rfl ?_; apply Exists.intro; refine ⟨fun w' hw' => ?_, ?_⟩; focus ((repeat (first | go_skip | go_guarded | go_step | go_upon | go_back)); exact ⟨rfl, rfl, rfl⟩))
          first | refine pt_skip rfl rfl rfl rfl ?_ | (refine pt_take rfl rfl rfl rfl ?_; apply Exists.intro; refine ⟨fun w' hw' => ?_, ?_⟩; focus ((repeat (first | go_skip | go_guarded | go_step | go_upon | go_back)); exact ⟨rfl, rfl, rfl⟩))
          first | refine pt_skip rfl rfl rfl rfl ?_ | (refine pt_take rfl rfl rfl rfl ?_; apply Exists.intro; refine ⟨fun w' hw' => ?_, ?_⟩; focus ((repeat (first | go_skip | go_guarded | go_step | go_upon | go_back)); exact ⟨rfl, rfl, rfl⟩))
          first | refine pt_skip rfl rfl rfl rfl ?_ | (refine pt_take rfl rfl rfl rfl ?_; apply Exists.intro; refine ⟨fun w' hw' => ?_, ?_⟩; focus ((repeat (first | go_skip | go_guarded | go_step | go_upon | go_back)); exact ⟨rfl, rfl, rfl⟩))
          refine pt_step rfl ?_
          go_wp2_with fail
          refine (tagged_any (.slice A l.length cap) T l w2 hv2 hk2 (by have := HL.out; omega) (by have := HB.out; omega)).mono ?_
          rintro e w3 ⟨rfl, b3⟩
          go_wp2_with fail
          refine ⟨rfl, b3.mono z2, ?_⟩
          have hv3 := hv2.past b3
          have hk3 := hk2.past b3
          have bl3 := bl2.trans (b3.mono bl2.size)
          have z3 := Nat.le_trans z2 b3.size
          clear hv2 hk2 bl2 z2 b3
          refine pt_step rfl ?_
          go_wp2_with fail
          rw [HEXT.out]
          refine (tagged_any (.slice A l.length cap) (T.take 255) l w3 hv3 hk3 (by have := HL.out; omega) HLT.out).mono ?_
          rintro e w4 ⟨rfl, b4⟩
          go_wp2_with fail
          refine ⟨rfl, b4.mono z3, ?_⟩
          have hv4 := hv3.past b4
          have hk4 := hk3.past b4
          have bl4 := bl3.trans (b4.mono bl3.size)
          have z4 := Nat.le_trans z3 b4.size
          clear hv3 hk3 bl3 z3 b4
          refine pt_take rfl rfl rfl rfl ?_
          apply Exists.intro
          refine ⟨fun w' hw' => ?_, ?_⟩
          · refine wp_run rfl (exec_eqT rfl (Sha.tag T l) (Sha.tag (T.take 255) l) rfl rfl HX1.out (Sha.tag_len _ _) (Sha.tag_len _ _) w') ?_
            exact ⟨rfl, rfl, rfl⟩
          first | refine pt_skip rfl rfl rfl rfl ?_ | (refine pt_take rfl rfl rfl rfl ?_; apply Exists.intro; refine ⟨fun w' hw' => ?_, ?_⟩; focus ((repeat (first | go_skip | go_guarded | go_step | go_upon | go_back)); exact ⟨rfl, rfl, rfl⟩))
          first | refine pt_skip rfl rfl rfl rfl ?_ | (refine pt_take rfl rfl rfl rfl ?_; apply Exists.intro; refine ⟨fun w' hw' => ?_, ?_⟩; focus ((repeat (first | go_skip | go_guarded | go_step | go_upon | go_back)); exact ⟨rfl, rfl, rfl⟩))
          first | refine pt_skip rfl rfl rfl rfl ?_ | (refine pt_take rfl rfl rfl rfl ?_; apply Exists.intro; refine ⟨fun w' hw' => ?_, ?_⟩; focus ((repeat (first | go_skip | go_guarded | go_step | go_upon | go_back)); exact ⟨rfl, rfl, rfl⟩))
          refine pt_take rfl rfl rfl rfl ?_
          apply Exists.intro
          refine ⟨fun w' hw' => ?_, ?_⟩
          · have q1 := HB.out
            have q2 := HT.out
            (repeat (first | go_skip | go_guarded | go_step | go_upon | go_back))
            all_goals first | (exfalso; simp at *; omega) | ((repeat (first | go_skip | go_guarded | go_step | go_upon | go_back)); exact ⟨rfl, rfl, rfl⟩)
          first | refine pt_skip rfl rfl rfl rfl ?_ | (refine pt_take rfl rfl rfl rfl ?_; apply Exists.intro; refine ⟨fun w' hw' => ?_, ?_⟩; focus ((repeat (first | go_skip | go_guarded | go_step | go_upon | go_back)); exact ⟨rfl, rfl, rfl⟩))
          first | refine pt_skip rfl rfl rfl rfl ?_ | (refine pt_take rfl rfl rfl rfl ?_; apply Exists.intro; refine ⟨fun w' hw' => ?_, ?_⟩; focus ((repeat (first | go_skip | go_guarded | go_step | go_upon | go_back)); exact ⟨rfl, rfl, rfl⟩))
          first | refine pt_skip rfl rfl rfl rfl ?_ | (refine pt_take rfl rfl rfl rfl ?_; apply Exists.intro; refine ⟨fun w' hw' => ?_, ?_⟩; focus ((repeat (first | go_skip | go_guarded | go_step | go_upon | go_back)); exact ⟨rfl, rfl, rfl⟩))
          refine pt_step rfl ?_
          go_wp2_with fail
          rw [HCAT.out]
          refine (tagged_any (.slice A l.length cap) (T ++ t) l w4 hv4 hk4 (by have := HL.out; omega) HLC.out).mono ?_
          rintro e w5 ⟨rfl, b5⟩
          go_wp2_with fail
          refine ⟨rfl, b5.mono z4, ?_⟩
          have hv5 := hv4.past b5
          have hk5 := hk4.past b5
          have bl5 := bl4.trans (b5.mono bl4.size)
          have z5 := Nat.le_trans z4 b5.size
          clear hv4 hk4 bl4 z4 b5
          refine pt_step rfl ?_
          go_wp2_with fail
          refine (tagged_any (.slice A l.length cap) T l w5 hv5 hk5 (by have := HL.out; omega) (by have := HB.out; omega)).mono ?_
          rintro e w6 ⟨rfl, b6⟩
          go_wp2_with fail
          refine ⟨rfl, b6.mono z5, ?_⟩
          have hv6 := hv5.past b6
          have hk6 := hk5.past b6
          have bl6 := bl5.trans (b6.mono bl5.size)
          have z6 := Nat.le_trans z5 b6.size
          clear hv5 hk5 bl5 z5 b6
          refine pt_take rfl rfl rfl rfl ?_
          apply Exists.intro
          refine ⟨fun w' hw' => ?_, ?_⟩
          · refine wp_run rfl (exec_eqT rfl (Sha.tag (T ++ t) l) (Sha.tag T l) rfl rfl HX2.out (Sha.tag_len _ _) (Sha.tag_len _ _) w') ?_
            exact ⟨rfl, rfl, rfl⟩
          first | refine pt_skip rfl rfl rfl rfl ?_ | (refine pt_take rfl rfl rfl rfl ?_; apply Exists.intro; refine ⟨fun w' hw' => ?_, ?_⟩; focus ((repeat (first | go_skip | go_guarded | go_step | go_upon | go_back)); exact ⟨rfl, rfl, rfl⟩))
          first | refine pt_skip rfl rfl rfl rfl ?_ | (refine pt_take rfl rfl rfl rfl ?_; apply Exists.intro; refine ⟨fun w' hw' => ?_, ?_⟩; focus ((repeat (first | go_skip | go_guarded | go_step | go_upon | go_back)); exact ⟨rfl, rfl, rfl⟩))
          change Exit.then _ _ Exit.normal _ _
          go_wp2
          go_ret
          exact ⟨rfl, bl6⟩
end Go.Proofs.YtglabhlgnbkeiaaDoor
