/-
  Walks of the reference's package for layer 3: the compression function.
-/
import Derived.Test.YtnfhdjmehhapiaaDoorSrB
namespace Go.Proofs.YtnfhdjmehhapiaaDoor
open Go.RowKit
set_option linter.unusedVariables false
set_option linter.unusedSimpArgs false

def z8 : List Nat := [0, 0, 0, 0, 0, 0, 0, 0]
theorem zero_8 (w : World) : (zeroValue 63).run Tryd.prog w = .ok (.agg (w32s z8).toArray) w := by kernel_rfl
theorem info_8 : (Tryd.prog.info? 63).map (·.size) = some 8 := by kernel_rfl
theorem st_len (s : Sha.St) : (w32s s.list).length = 8 := rfl

set_option maxRecDepth 100000 in
set_option maxHeartbeats 2000000 in
theorem rcompress_any (s : Sha.St) (v : Value) (l : List UInt8) (w : World) (hv : Bs w w.heap.size v l) (hl : l.length = 64) (hs : s.ok) (hk : KIs 2 w) :
    Calls Tryd.prog 68 #[.agg (w32s s.list).toArray, v] w fun e w' => e = .returned (.agg (w32s (Sha.cmp s l).list).toArray) ∧ Below w.heap.size w w' := by
  have hz := zero_8
  have hz2 := zero_64
  obtain ⟨W0, hW0⟩ : ∃ W0, W0 = (w.alloc (.cells (w32s s.list).toArray 63)).alloc (.cells (w32s z8).toArray 63) := ⟨_, rfl⟩
  have hb0 : Below w.heap.size w W0 := by rw [hW0]; exact ((Below.refl _ _).alloc (Nat.le_refl _) _).alloc (by simp) _
  have hx0 : Blk W0 w.heap.size 63 (w32s s.list) := by
    rw [hW0]
    exact (Blk.new w _ _).past ((Below.refl _ _).alloc (Nat.le_refl _) _) (by simp)
  have hr0 : Blk W0 (w.heap.size + 1) 63 (w32s z8) := by
    have h := Blk.new (w.alloc (.cells (w32s s.list).toArray 63)) 63 (w32s z8)
    rw [World.size_alloc] at h
    rw [hW0]; exact h
  have hc := rschedule_any v l W0 (hv.past hb0) hl
  have hk0 := hk.past hb0
  have HC := Lib.hid hc
  have HW0 := Lib.hid hW0
  clear hW0 hc hv hk hl
  go_enter Tryd.func68, Tryd.ntmps68
  go_wp2_with fail
  rw [← HW0.out]
  refine HC.out.mono ?_
  rintro e w2 ⟨rfl, hb2⟩
  obtain ⟨S, hS⟩ : ∃ S, S = Sha.sch l := ⟨_, rfl⟩
  have hSl : S.length = 64 := by rw [hS, Sha.sch_len]
  have hSw : Sha.Ws S := by rw [hS]; exact Sha.sch_ws l
  have hSg : ∀ t, t < 64 → (w32s S)[t]? = some (.int .u32 (S.getD t 0)) := by rw [hS]; exact sch_get l
  rw [← hS]
  have HS := Lib.hid hS
  have HSL := Lib.hid (show (w32s S).length = 64 by rw [w32s_length, hSl])
  have HSG := Lib.hid hSg
  have hx2 := hx0.past hb2 hx0.lt
  have hr2 := hr0.past hb2 hr0.lt
  have hk2 := hk0.past hb2
  have hbl2 := hb0.trans (hb2.mono hb0.size)
  have hs2 : w.heap.size + 1 < w2.heap.size := hr2.lt
  clear hS hSl hSg hx0 hr0 hk0 hb0 hb2 HC HW0
  go_upto_region 2 with (refine wp_storeA 75 (.tmp 5) (.tmp 24) rfl rfl w2.heap.size rfl 75 z64 _ rfl (Blk.new w2 _ _) (by rw [info_64, HSL.out]) (by rw [HSL.out]; rfl) (w32s_one _) rfl ?_; intro w3 hbw3 hk3)
  have hka : Keep (fun q => q < w2.heap.size) w2 w3 := (Keep.of_below ((Below.refl _ _).alloc (Nat.le_refl _) _)).trans (hk3.mono (fun q hq => by omega))
  have g3 : Below w2.heap.size w2 w3 := hka.below (fun q hq => hq) (Nat.le_refl _)
  have hx3 := hx2.past g3 hx2.lt
  have hr3 := hr2.past g3 hr2.lt
  have hkk3 := hk2.past g3
  have hbl3 := hbl2.trans (g3.mono hbl2.size)
  obtain ⟨T, hT⟩ : ∃ T, T = w2.heap.size := ⟨_, rfl⟩
  rw [← hT] at hbw3 hs2 ⊢
  clear hk3 hka g3 hx2 hr2 hk2 hbl2 hT hz2
  go_wp2_with (first
    | (refine wp_loadA 63 (.tmp 2) rfl rfl w.heap.size rfl 63 _ 8 62 hx3 Tryd.underlying63 (by rw [info_8, st_len]) ?_)
    | (refine wp_storeA 63 (.tmp 6) (.tmp 25) rfl rfl w3.heap.size rfl 63 (w32s z8) (w32s s.list) rfl (Blk.new w3 _ _) (by rw [info_8, st_len]) rfl (w32s_one _) rfl ?_; intro w4 hbv4 hk4))
  have hka : Keep (fun q => q < w3.heap.size) w3 w4 := (Keep.of_below ((Below.refl _ _).alloc (Nat.le_refl _) _)).trans (hk4.mono (fun q hq => by omega))
  have g4 : Below w3.heap.size w3 w4 := hka.below (fun q hq => hq) (Nat.le_refl _)
  have hx4 := hx3.past g4 hx3.lt
  have hr4 := hr3.past g4 hr3.lt
  have hkk4 := hkk3.past g4
  have hbw4 := hbw3.past g4 hbw3.lt
  have hbl4 := hbl3.trans (g4.mono hbl3.size)
  have hT3 := hbw3.lt
  have hkV : 2 < w3.heap.size := block_lt_of_cell (hkk3 0 (by omega))
  obtain ⟨V, hV⟩ : ∃ V, V = w3.heap.size := ⟨_, rfl⟩
  rw [← hV] at hbv4 hT3 hkV ⊢
  clear hk4 hka g4 hx3 hr3 hkk3 hbw3 hbl3 hV hz
  obtain ⟨a0, b0, c0, d0, e0, f0, g0, h0⟩ := s
  go_loopw [7] (fun i wr => ∃ (t : Nat) (r : Sha.St), i = .int .i64 t ∧ t ≤ 64 ∧ Hid (r = Sha.rnds S ⟨a0, b0, c0, d0, e0, f0, g0, h0⟩ t) ∧ r.ok ∧ Blk wr V 63 (w32s r.list) ∧ Keep (fun q => q ≠ V) w4 wr) (fun i _ => (64 - intOf i).toNat)
  case atStart => exact ⟨0, ⟨a0, b0, c0, d0, e0, f0, g0, h0⟩, rfl, by omega, Lib.hid rfl, hs, hbv4, Keep.refl _ _⟩
  case round =>
    obtain ⟨t, ⟨A, B, C, D, E, F, G, H⟩, rfl, ht, HR, ⟨mA, mB, mC, mD, mE, mF, mG, mH⟩, hbv, hkr⟩ := hrel
    simp only at mA mB mC mD mE mF mG mH
    by_cases hlt : t < 64
    · obtain ⟨kt, hkt⟩ : ∃ k, k = Sha.Kn t := ⟨_, rfl⟩
      obtain ⟨wt, hwt⟩ : ∃ k, k = S.getD t 0 := ⟨_, rfl⟩
      have ckt0 : wr.cell? ⟨2, t, none⟩ = some (.int .u32 kt) := by
        rw [hkt]
        exact hkr.cell (p := ⟨_, t, none⟩) (by show (2 : Nat) ≠ V; omega) (hkk4 t hlt)
      have cwt0 : wr.cell? ⟨T, t, none⟩ = some (.int .u32 wt) := by
        rw [hwt]
        exact hkr.cell (p := ⟨_, t, none⟩) (by show T ≠ V; omega) (hbw4.cell (HSG.out t hlt))
      have lkt : kt < 4294967296 := by rw [hkt]; exact Sha.Kn_lt t
      have lwt : wt < 4294967296 := by rw [hwt]; exact hSw.getD t
      have HN := Lib.hid (show Sha.rnds S ⟨a0, b0, c0, d0, e0, f0, g0, h0⟩ (t + 1) = Sha.rnd kt wt ⟨A, B, C, D, E, F, G, H⟩ by
        rw [hkt, hwt, HR.out]; rfl)
      clear hkt hwt
      obtain ⟨p1, hp1⟩ : ∃ y, y = Sha.rr 6 E := ⟨_, rfl⟩
      obtain ⟨p2, hp2⟩ : ∃ y, y = Sha.rr 11 E := ⟨_, rfl⟩
      obtain ⟨p3, hp3⟩ : ∃ y, y = Sha.rr 25 E := ⟨_, rfl⟩
      obtain ⟨p4, hp4⟩ : ∃ y, y = Sha.rr 2 A := ⟨_, rfl⟩
      obtain ⟨p5, hp5⟩ : ∃ y, y = Sha.rr 13 A := ⟨_, rfl⟩
      obtain ⟨p6, hp6⟩ : ∃ y, y = Sha.rr 22 A := ⟨_, rfl⟩
      obtain ⟨y1, hy1⟩ : ∃ y, y = Sha.bs1 E := ⟨_, rfl⟩
      obtain ⟨y2, hy2⟩ : ∃ y, y = Sha.chh E F G := ⟨_, rfl⟩
      obtain ⟨y3, hy3⟩ : ∃ y, y = Sha.bs0 A := ⟨_, rfl⟩
      obtain ⟨y4, hy4⟩ : ∃ y, y = Sha.maj A B C := ⟨_, rfl⟩
      have k1 := fun W => rrot6 E W mE
      have k2 := fun W => rrot11 E W mE
      have k3 := fun W => rrot25 E W mE
      have k4 := fun W => rrot2 A W mA
      have k5 := fun W => rrot13 A W mA
      have k6 := fun W => rrot22 A W mA
      rw [← hp1] at k1
      rw [← hp2] at k2
      rw [← hp3] at k3
      rw [← hp4] at k4
      rw [← hp5] at k5
      rw [← hp6] at k6
      have K1 := Lib.hid k1
      have K2 := Lib.hid k2
      have K3 := Lib.hid k3
      have K4 := Lib.hid k4
      have K5 := Lib.hid k5
      have K6 := Lib.hid k6
      have R1 := Lib.hid (show bits .xor .u32 (bits .xor .u32 (p1 : Int) (p2 : Int)) (p3 : Int) = (y1 : Int) by
        rw [hp1, hp2, hp3, hy1, xor_n (Sha.rr_lt _ mE) (Sha.rr_lt _ mE), xor_n (Sha.xor_lt (Sha.rr_lt _ mE) (Sha.rr_lt _ mE)) (Sha.rr_lt _ mE)]; rfl)
      have R3 := Lib.hid (show bits .xor .u32 (bits .xor .u32 (p4 : Int) (p5 : Int)) (p6 : Int) = (y3 : Int) by
        rw [hp4, hp5, hp6, hy3, xor_n (Sha.rr_lt _ mA) (Sha.rr_lt _ mA), xor_n (Sha.xor_lt (Sha.rr_lt _ mA) (Sha.rr_lt _ mA)) (Sha.rr_lt _ mA)]; rfl)
      have c2 := chh_val mE mF mG
      have c4 := maj_val mA mB mC
      rw [← hy2] at c2
      rw [← hy4] at c4
      have R2 := Lib.hid c2
      have R4 := Lib.hid c4
      have HY := Lib.hid (show y1 = Sha.bs1 E ∧ y2 = Sha.chh E F G ∧ y3 = Sha.bs0 A ∧ y4 = Sha.maj A B C from ⟨hy1, hy2, hy3, hy4⟩)
      have ly1 : y1 < 4294967296 := by rw [hy1]; exact Sha.bs1_lt mE
      have ly2 : y2 < 4294967296 := by rw [hy2]; exact Sha.chh_lt mE
      have ly3 : y3 < 4294967296 := by rw [hy3]; exact Sha.bs0_lt mA
      have ly4 : y4 < 4294967296 := by rw [hy4]; exact Sha.maj_lt mA mB
      clear k1 k2 k3 k4 k5 k6 hy1 hy2 hy3 hy4 hp1 hp2 hp3 hp4 hp5 hp6 c2 c4
      have q0 : wr.cell? ⟨V, 0, none⟩ = some (.int .u32 A) := hbv.cell rfl
      have q1 : wr.cell? ⟨V, 1, none⟩ = some (.int .u32 B) := hbv.cell rfl
      have q2 : wr.cell? ⟨V, 2, none⟩ = some (.int .u32 C) := hbv.cell rfl
      have q3 : wr.cell? ⟨V, 3, none⟩ = some (.int .u32 D) := hbv.cell rfl
      have q4 : wr.cell? ⟨V, 4, none⟩ = some (.int .u32 E) := hbv.cell rfl
      have q5 : wr.cell? ⟨V, 5, none⟩ = some (.int .u32 F) := hbv.cell rfl
      have q6 : wr.cell? ⟨V, 6, none⟩ = some (.int .u32 G) := hbv.cell rfl
      have q7 : wr.cell? ⟨V, 7, none⟩ = some (.int .u32 H) := hbv.cell rfl
      go_wp2_with fail
      go_quiet (fail)
      obtain ⟨w5, hw5⟩ : ∃ w5, w5 = wr.drewN nq := ⟨_, rfl⟩
      have h5 : Below wr.heap.size wr w5 := by rw [hw5]; exact below_drewN (Below.refl _ _) nq
      rw [← hw5]
      have hbv5 := hbv.past h5 hbv.lt
      have hkr5 : Keep (fun q => q ≠ V) w4 w5 := hkr.trans ((Keep.of_below h5).mono (fun q hq => trivial))
      have ckt : w5.cell? ⟨2, t, none⟩ = some (.int .u32 kt) := cell_past ckt0 h5
      have cwt : w5.cell? ⟨T, t, none⟩ = some (.int .u32 wt) := cell_past cwt0 h5
      clear hw5 h5 hbv hkr ckt0 cwt0 q0 q1 q2 q3 q4 q5 q6 q7
      go_wp2_with fail
      refine (K1.out _).mono ?_
      rintro e w6 ⟨rfl, rfl⟩
      go_wp2_with fail
      refine (K2.out _).mono ?_
      rintro e w6 ⟨rfl, rfl⟩
      go_wp2_with fail
      refine (K3.out _).mono ?_
      rintro e w6 ⟨rfl, rfl⟩
      go_wp2_with fail
      all_goals try (exfalso; revert h; decide)
      clear h
      rw [R1.out, R2.out]
      go_quiet (fail)
      obtain ⟨t1, ht1⟩ : ∃ t1, t1 = Sha.ad (Sha.ad (Sha.ad (Sha.ad H y1) y2) kt) wt := ⟨_, rfl⟩
      obtain ⟨t2, ht2⟩ : ∃ t2, t2 = Sha.ad y3 y4 := ⟨_, rfl⟩
      have lt1 : t1 < 4294967296 := by rw [ht1]; exact Sha.ad_lt _ _
      have lt2 : t2 < 4294967296 := by rw [ht2]; exact Sha.ad_lt _ _
      have HT1 := Lib.hid (show (((H : Int) + y1 + y2 + kt) % 4294967296 + wt) % 4294967296 = (t1 : Int) by rw [ht1]; unfold Sha.ad; omega)
      have HT2 := Lib.hid (show ((y3 : Int) + y4) % 4294967296 = (t2 : Int) by rw [ht2]; unfold Sha.ad; omega)
      have HN2 := Lib.hid (show Sha.rnds S ⟨a0, b0, c0, d0, e0, f0, g0, h0⟩ (t + 1) = ⟨Sha.ad t1 t2, A, B, C, Sha.ad D t1, E, F, G⟩ by
        rw [HN.out, ht1, ht2, HY.out.1, HY.out.2.1, HY.out.2.2.1, HY.out.2.2.2]; rfl)
      rw [HT1.out]
      obtain ⟨w6, hw6⟩ : ∃ w6, w6 = w5.drewN nq := ⟨_, rfl⟩
      have h6 : Below w5.heap.size w5 w6 := by rw [hw6]; exact below_drewN (Below.refl _ _) nq
      rw [← hw6]
      have hbv6 := hbv5.past h6 hbv5.lt
      have hkr6 : Keep (fun q => q ≠ V) w4 w6 := hkr5.trans ((Keep.of_below h6).mono (fun q hq => trivial))
      clear hw6 h6 hbv5 hkr5 ckt cwt ht1 ht2 HN HT1
      go_wp2_with fail
      refine (K4.out _).mono ?_
      rintro e w7 ⟨rfl, rfl⟩
      go_wp2_with fail
      refine (K5.out _).mono ?_
      rintro e w7 ⟨rfl, rfl⟩
      go_wp2_with fail
      refine (K6.out _).mono ?_
      rintro e w7 ⟨rfl, rfl⟩
      go_upto_region 12 with (fail)
      rw [R3.out, R4.out]
      go_upto_region 13 with (fail)
      rw [HT2.out]
      go_wp2_with (refine wp_storeA 63 (.tmp 6) (.tmp 109) rfl rfl V rfl 63 (w32s (Sha.St.mk A B C D E F G H).list) _ rfl hbv6 (by rw [info_8]; rfl) rfl (by intro u hu; simp only [List.mem_cons, List.not_mem_nil, or_false] at hu; rcases hu with rfl | rfl | rfl | rfl | rfl | rfl | rfl | rfl <;> rfl) rfl ?_; intro w7 hbv7 hkr7)
      have hbv8 : Blk w7 V 63 (w32s (Sha.St.mk (Sha.ad t1 t2) A B C (Sha.ad D t1) E F G).list) := by
        have h := hbv7
        rw [ad_mod, ad_mod] at h
        exact h
      have hkr8 : Keep (fun q => q ≠ V) w4 w7 := hkr6.trans hkr7
      go_roundw
      case rel => exact ⟨t + 1, ⟨Sha.ad t1 t2, A, B, C, Sha.ad D t1, E, F, G⟩, by go_num, by omega, Lib.hid HN2.out.symm, ⟨Sha.ad_lt _ _, mA, mB, mC, Sha.ad_lt _ _, mE, mF, mG⟩, hbv8, hkr8⟩
      case measure => simp [intOf]; omega
    · have HP := Lib.hid (show Sha.cmp ⟨a0, b0, c0, d0, e0, f0, g0, h0⟩ l = Sha.plus ⟨a0, b0, c0, d0, e0, f0, g0, h0⟩ ⟨A, B, C, D, E, F, G, H⟩ by
        rw [HR.out, show t = 64 by omega, HS.out]; rfl)
      have hx5 := hx4.keep hkr (by omega)
      have hr5 := hr4.keep hkr (by omega)
      have hbl5 : Below w.heap.size w wr := hbl4.trans (hkr.below (n := w.heap.size) (fun q hq => by omega) hbl4.size)
      clear hx4 hr4 hbl4 hkk4 hbw4 hbv4 hkr
      obtain ⟨PL, hPL⟩ : ∃ PL, PL = Sha.plus ⟨a0, b0, c0, d0, e0, f0, g0, h0⟩ ⟨A, B, C, D, E, F, G, H⟩ := ⟨_, rfl⟩
      have HPL := Lib.hid hPL
      have hxV := hbv.lt
      obtain ⟨w6, hw6⟩ : ∃ w6, w6 = wr := ⟨_, rfl⟩
      rw [← hw6] at hx5 hr5 hbl5 hbv hxV ⊢
      clear hPL hw6
      go_wp2_with fail
      go_loopw [22] (fun i wq => ∃ k : Nat, i = .int .i64 k ∧ k ≤ 8 ∧ Blk wq w.heap.size 63 (w32s (PL.list.take k ++ (Sha.St.mk a0 b0 c0 d0 e0 f0 g0 h0).list.drop k)) ∧ Keep (fun q => q ≠ w.heap.size) w6 wq) (fun i _ => (8 - intOf i).toNat)
      case atStart => exact ⟨0, rfl, by omega, hx5, Keep.refl _ _⟩
      case round =>
        obtain ⟨k, rfl, hk8, hbq, hkq⟩ := hrel
        by_cases hlt8 : k < 8
        · have hkq2 := hkq
          have hput : ∀ W, Blk W w.heap.size 63 (w32s (PL.list.take k ++ (Sha.St.mk a0 b0 c0 d0 e0 f0 g0 h0).list.drop k)) → Keep (fun q => q ≠ w.heap.size) w6 W → ∀ z : Nat, PL.list[k]? = some z →
              Blk (W.setCell ⟨w.heap.size, k, none⟩ (.int .u32 z)) w.heap.size 63 (w32s (PL.list.take (k + 1) ++ (Sha.St.mk a0 b0 c0 d0 e0 f0 g0 h0).list.drop (k + 1))) ∧ Keep (fun q => q ≠ w.heap.size) w6 (W.setCell ⟨w.heap.size, k, none⟩ (.int .u32 z)) := by
            intro W hB hK z hz
            refine ⟨?_, hK.trans (Keep.setCell _ _ _ (fun h => h rfl))⟩
            have h := hB.set k (w32 z)
            rw [← w32s_set, mix_set PL _ hlt8 hz] at h
            exact h
          have HPUT := Lib.hid hput
          clear hput
          obtain ⟨x, hx⟩ : ∃ x, [A, B, C, D, E, F, G, H][k]? = some x := ⟨_, List.getElem?_eq_getElem (by simpa using hlt8)⟩
          obtain ⟨y, hy⟩ : ∃ y, (Sha.St.mk a0 b0 c0 d0 e0 f0 g0 h0).list[k]? = some y := ⟨_, List.getElem?_eq_getElem (by simpa [Sha.St.list] using hlt8)⟩
          have hpz : PL.list[k]? = some (Sha.ad y x) := by rw [HPL.out]; exact plus_get ⟨a0, b0, c0, d0, e0, f0, g0, h0⟩ ⟨A, B, C, D, E, F, G, H⟩ hy hx
          have hbvr := hbv.keep hkq (by omega)
          have cv : wr.cell? ⟨V, k, none⟩ = some (.int .u32 x) := by
            refine hbvr.cell ?_
            show ([A, B, C, D, E, F, G, H].map w32)[k]? = _
            rw [List.getElem?_map, hx]; rfl
          have cq : wr.cell? ⟨w.heap.size, k, none⟩ = some (.int .u32 y) := by
            refine hbq.cell ?_
            unfold w32s
            rw [List.getElem?_map, List.getElem?_append_right (by rw [List.length_take, PL.list_len]; omega)]
            rw [List.length_take, PL.list_len, show k - min k 8 = 0 by omega, List.getElem?_drop, Nat.add_zero, hy]
            rfl
          have HPZ := Lib.hid hpz
          clear hx hy hpz hbvr
          go_wp2_with fail
          go_still_tail 9, (by kernel_rfl)
          change wpList _ _ _ _ _ wr.drew
          rw [ad_n]
          have hbd := hbq.past (Below.refl wr.heap.size wr).drew hbq.lt
          have hkd : Keep (fun q => q ≠ w.heap.size) w6 wr.drew := hkq2.trans (Keep.of_below (Below.refl wr.heap.size wr).drew)
          have HE := Lib.hid (HPUT.out wr.drew hbd hkd (Sha.ad y x) HPZ.out)
          have fq := hbd.frozen k
          have cd : wr.drew.cell? ⟨w.heap.size, k, none⟩ = some (.int .u32 y) := cq
          obtain ⟨z, hz⟩ : ∃ z, z = Sha.ad y x := ⟨_, rfl⟩
          obtain ⟨wd, hwd⟩ : ∃ wd, wd = wr.drew := ⟨_, rfl⟩
          rw [← hz, ← hwd] at HE
          rw [← hwd] at fq cd ⊢
          rw [← hz]
          clear hz hwd hbd hkd hbq hkq hkq2 cq cv
          go_wp2
          go_roundw
          case rel => exact ⟨k + 1, by go_num, by omega, HE.out.1, HE.out.2⟩
          case measure => simp [intOf]; omega
        · have hbf : Blk wr w.heap.size 63 (w32s PL.list) := by
            have h := hbq
            rw [show k = 8 by omega] at h
            exact h
          have hrf := hr5.keep hkq (by omega)
          have hblf : Below w.heap.size w wr := hbl5.trans (hkq.below (n := w.heap.size) (fun q hq => by omega) hbl5.size)
          clear hbq hkq hr5 hbl5
          go_upto_region 18 with (fail)
          refine wp_region_lit ?_
          refine wp_loadA 63 (.tmp 2) rfl rfl w.heap.size rfl 63 _ 8 62 hbf Tryd.underlying63 (by rw [info_8, st_len]) ?_
          refine wp_storeA 63 (.tmp 4) (.tmp 123) rfl rfl (w.heap.size + 1) rfl 63 (w32s z8) (w32s PL.list) rfl hrf (by rw [info_8, st_len]) rfl (w32s_one _) rfl ?_
          intro w9 hr9 hk9
          have hbl9 := hblf.trans (hk9.below (n := w.heap.size) (fun q hq => by omega) hblf.size)
          clear hbf hrf hblf hk9
          go_wp2
          refine ret_arr Tryd.results68 rfl (w.heap.size + 1) 63 _ 8 62 rfl hr9 Tryd.underlying63 (by rw [info_8, st_len]) ?_
          rw [HP.out, ← HPL.out]
          exact ⟨rfl, hbl9⟩
end Go.Proofs.YtnfhdjmehhapiaaDoor
