/-
  Walks of the reference's package for layer 3: the message schedule.
-/
import Derived.Test.YtnfhdjmehhapiaaDoorSrA
namespace Go.Proofs.YtnfhdjmehhapiaaDoor
open Go.RowKit
set_option linter.unusedVariables false
set_option linter.unusedSimpArgs false

set_option maxRecDepth 100000 in
set_option maxHeartbeats 1000000 in
theorem rschedule_any (v : Value) (l : List UInt8) (w : World) (hv : Bs w w.heap.size v l) (hl : l.length = 64) :
    Calls Tryd.prog 70 #[v] w fun e w' => e = .returned (.agg (w32s (Sha.sch l)).toArray) ∧ Below w.heap.size w w' := by
  obtain ⟨A, cap, rfl⟩ := hv.form
  have hz := zero_64
  have HL := Lib.hid hl
  clear hl
  go_enter Tryd.func70, Tryd.ntmps70
  go_wp2
  obtain ⟨W, hW⟩ : ∃ W, W = (w.alloc (.cells z64.toArray 75)).alloc (.cells z64.toArray 75) := ⟨_, rfl⟩
  rw [← hW]
  have hb0 : Below w.heap.size w W := by rw [hW]; exact ((Below.refl _ _).alloc (Nat.le_refl _) _).alloc (by simp) _
  have hr0 : Blk W w.heap.size 75 z64 := by rw [hW]; exact (Blk.new w _ _).past ((Below.refl _ _).alloc (Nat.le_refl _) _) (by simp)
  have hw0 : Blk W (w.heap.size + 1) 75 (w32s (arr [])) := by
    have h := Blk.new (w.alloc (.cells z64.toArray 75)) 75 z64
    rw [World.size_alloc] at h
    rw [hW]; exact h
  clear hW hz
  go_loopw [4] (fun i wr => ∃ k : Nat, i = .int .i64 k ∧ k ≤ 16 ∧ Blk wr (w.heap.size + 1) 75 (w32s (arr ((Sha.w16 l).take k))) ∧ Blk wr w.heap.size 75 z64 ∧ Below w.heap.size w wr) (fun i _ => (16 - intOf i).toNat)
  case atStart => exact ⟨0, rfl, by omega, hw0, hr0, hb0⟩
  case round =>
    obtain ⟨k, rfl, hk, hbw, hbr, hbl⟩ := hrel
    have hvr := hv.carry hbl hbl.size
    by_cases hlt : k < 16
    · go_wp2_with (refine wp_cut 29 5 Tryd.underlying29 size_u8 (.tmp 15) (some (.tmp 17)) none rfl rfl rfl hvr (4 * k) (64 - 4 * k) (.inr ⟨_, _, rfl, by push_cast; rfl⟩) (.inl ⟨rfl, by have := HL.out; omega⟩) (by have := HL.out; omega) ?_; intro A1 c1 hrow)
      have hlen : ((Sha.w16 l).take k).length = k := by rw [List.length_take, Sha.w16_len]; omega
      refine (rword_b _ l k wr wr.heap.size (cut_bs hrow (by have := HL.out; omega)) (by have := HL.out; omega)).mono ?_
      rintro e w2 ⟨rfl, hb2⟩
      have hbw2 := hbw.past hb2 hbw.lt
      have hbr2 := hbr.past hb2 hbr.lt
      obtain ⟨u, hu⟩ := arr_some (L := (Sha.w16 l).take k) (by omega) (show k < 64 by omega)
      have hc := hbw2.cell hu
      have hf := hbw2.frozen k
      have hput := hbw2.set k (w32 (Sha.word l k))
      rw [← w32s_set] at hput
      have e1 : (arr ((Sha.w16 l).take k)).set k (Sha.word l k) = arr ((Sha.w16 l).take (k + 1)) := by
        have h := arr_put (L := (Sha.w16 l).take k) (by omega) (Sha.word l k)
        rw [hlen] at h
        rw [h, w16_take hlt]
      rw [e1] at hput
      have hbl2 := hbl.trans (hb2.mono hbl.size)
      have hs0 : w.heap.size + 1 < w2.heap.size := hbw2.lt
      have hbr3 := hbr2.keep (Keep.setCell w2 ⟨w.heap.size + 1, k, none⟩ (w32 (Sha.word l k)) (O := fun q => q ≠ w.heap.size + 1) (fun h => h rfl)) (by omega)
      have hbl3 : Below w.heap.size w (w2.setCell ⟨w.heap.size + 1, k, none⟩ (w32 (Sha.word l k))) := hbl2.setCell (by simp) _
      clear hlen hu e1 hrow hvr hbw hbr hbw2 hbr2 hbl hb2
      go_wp2
      go_roundw
      case rel => exact ⟨k + 1, by go_num, by omega, hput, hbr3, hbl3⟩
      case measure => simp [intOf]; omega
    · have hbw1 : Blk wr (w.heap.size + 1) 75 (w32s (arr (Sha.ext 0 (Sha.w16 l)))) := by
        have h := hbw
        rw [List.take_of_length_le (by rw [Sha.w16_len]; omega)] at h
        exact h
      clear hbw
      go_wp2
      go_loopw [5] (fun i wr => ∃ (k j : Nat), i = .int .i64 k ∧ k ≤ 64 ∧ Hid (k = 16 + j) ∧ 16 ≤ k ∧ Blk wr (w.heap.size + 1) 75 (w32s (arr (Sha.ext j (Sha.w16 l)))) ∧ Blk wr w.heap.size 75 z64 ∧ Below w.heap.size w wr) (fun i _ => (64 - intOf i).toNat)
      case atStart => exact ⟨16, 0, rfl, by omega, Lib.hid rfl, by omega, hbw1, hbr, hbl⟩
      case round =>
        obtain ⟨k, j, rfl, hk, HKJ, hk16, hbw, hbr, hbl⟩ := hrel
        obtain ⟨L, hL⟩ : ∃ L, L = Sha.ext j (Sha.w16 l) := ⟨_, rfl⟩
        have hlen : L.length = k := by rw [hL, Sha.ext_len, Sha.w16_len]; exact HKJ.out.symm
        have hws : Sha.Ws L := by rw [hL]; exact Sha.ext_ws j (Sha.w16_ws l)
        rw [← hL] at hbw
        by_cases hlt : k < 64
        · have hs1 : Sha.ext (j + 1) (Sha.w16 l) = L ++ [Sha.nxt L] := by rw [hL, Sha.ext_snoc]
          have hnx : Sha.nxt L = Sha.ad (Sha.ad (Sha.ad (Sha.ss1 (L.getD (k - 2) 0)) (L.getD (k - 7) 0)) (Sha.ss0 (L.getD (k - 15) 0))) (L.getD (k - 16) 0) := by unfold Sha.nxt; rw [hlen]
          obtain ⟨x2, hx2⟩ : ∃ x, x = L.getD (k - 2) 0 := ⟨_, rfl⟩
          obtain ⟨x7, hx7⟩ : ∃ x, x = L.getD (k - 7) 0 := ⟨_, rfl⟩
          obtain ⟨x15, hx15⟩ : ∃ x, x = L.getD (k - 15) 0 := ⟨_, rfl⟩
          obtain ⟨x16, hx16⟩ : ∃ x, x = L.getD (k - 16) 0 := ⟨_, rfl⟩
          have c2 := hbw.cell (arr_get (L := L) (i := k - 2) (by omega))
          have c7 := hbw.cell (arr_get (L := L) (i := k - 7) (by omega))
          have c15 := hbw.cell (arr_get (L := L) (i := k - 15) (by omega))
          have c16 := hbw.cell (arr_get (L := L) (i := k - 16) (by omega))
          have l2 := hws.getD (k - 2)
          have l7 := hws.getD (k - 7)
          have l15 := hws.getD (k - 15)
          have l16 := hws.getD (k - 16)
          rw [← hx2] at c2 l2 hnx
          rw [← hx7] at c7 l7 hnx
          rw [← hx15] at c15 l15 hnx
          rw [← hx16] at c16 l16 hnx
          obtain ⟨y2, hy2⟩ : ∃ y, y = Sha.ss1 x2 := ⟨_, rfl⟩
          obtain ⟨y15, hy15⟩ : ∃ y, y = Sha.ss0 x15 := ⟨_, rfl⟩
          obtain ⟨p1, hp1⟩ : ∃ y, y = Sha.rr 7 x15 := ⟨_, rfl⟩
          obtain ⟨p2, hp2⟩ : ∃ y, y = Sha.rr 18 x15 := ⟨_, rfl⟩
          obtain ⟨p3, hp3⟩ : ∃ y, y = Sha.rr 17 x2 := ⟨_, rfl⟩
          obtain ⟨p4, hp4⟩ : ∃ y, y = Sha.rr 19 x2 := ⟨_, rfl⟩
          have k1 := fun W => rrot7 x15 W l15
          have k2 := fun W => rrot18 x15 W l15
          have k3 := fun W => rrot17 x2 W l2
          have k4 := fun W => rrot19 x2 W l2
          rw [← hp1] at k1
          rw [← hp2] at k2
          rw [← hp3] at k3
          rw [← hp4] at k4
          have K1 := Lib.hid k1
          have K2 := Lib.hid k2
          have K3 := Lib.hid k3
          have K4 := Lib.hid k4
          have R15 := Lib.hid (show bits .xor .u32 (bits .xor .u32 (p1 : Int) (p2 : Int)) ((x15 : Int) / 8) = (y15 : Int) by
            rw [show (x15 : Int) / 8 = ((x15 / 8 : Nat) : Int) by omega, hp1, hp2, xor_n (Sha.rr_lt _ l15) (Sha.rr_lt _ l15), xor_n (Sha.xor_lt (Sha.rr_lt _ l15) (Sha.rr_lt _ l15)) (Sha.div_lt _ l15), hy15]; rfl)
          have R2 := Lib.hid (show bits .xor .u32 (bits .xor .u32 (p3 : Int) (p4 : Int)) ((x2 : Int) / 1024) = (y2 : Int) by
            rw [show (x2 : Int) / 1024 = ((x2 / 1024 : Nat) : Int) by omega, hp3, hp4, xor_n (Sha.rr_lt _ l2) (Sha.rr_lt _ l2), xor_n (Sha.xor_lt (Sha.rr_lt _ l2) (Sha.rr_lt _ l2)) (Sha.div_lt _ l2), hy2]; rfl)
          have ly2 : y2 < 4294967296 := by rw [hy2]; exact Sha.ss1_lt l2
          have ly15 : y15 < 4294967296 := by rw [hy15]; exact Sha.ss0_lt l15
          rw [← hy2] at hnx
          rw [← hy15] at hnx
          have HNX := Lib.hid hnx
          have HS1 := Lib.hid hs1
          clear k1 k2 k3 k4 hnx hs1 hy2 hy15 hp1 hp2 hp3 hp4
          have HLEN := Lib.hid hlen
          have HLL := Lib.hid hL
          have G7 := Lib.hid (show (w32s (arr L))[k - 7]? = some (.int .u32 x7) by rw [hx7]; exact arr_get (by omega))
          have G16 := Lib.hid (show (w32s (arr L))[k - 16]? = some (.int .u32 x16) by rw [hx16]; exact arr_get (by omega))
          clear hlen hL c7 c16 hx2 hx7 hx15 hx16
          have i2 : IntKind.i64.wrap ((k : Int) - 2) = ((k - 2 : Nat) : Int) := by rw [IntKind.wrap_i64]; omega
          have i7 : IntKind.i64.wrap ((k : Int) - 7) = ((k - 7 : Nat) : Int) := by rw [IntKind.wrap_i64]; omega
          have i15 : IntKind.i64.wrap ((k : Int) - 15) = ((k - 15 : Nat) : Int) := by rw [IntKind.wrap_i64]; omega
          have i16 : IntKind.i64.wrap ((k : Int) - 16) = ((k - 16 : Nat) : Int) := by rw [IntKind.wrap_i64]; omega
          have b2 : ((k - 2 : Nat) : Int) < 64 := by omega
          have b7 : ((k - 7 : Nat) : Int) < 64 := by omega
          have b15 : ((k - 15 : Nat) : Int) < 64 := by omega
          have b16 : ((k - 16 : Nat) : Int) < 64 := by omega
          go_wp2_with fail
          go_quiet (fail)
          obtain ⟨w4, hw4⟩ : ∃ w4, w4 = wr.drewN nq := ⟨_, rfl⟩
          have h34 : Below wr.heap.size wr w4 := by rw [hw4]; exact below_drewN (Below.refl _ _) nq
          rw [← hw4]
          have hbw' := hbw.past h34 hbw.lt
          have hbr' := hbr.past h34 hbr.lt
          have hbl' := hbl.trans (h34.mono hbl.size)
          have c7 := hbw'.cell G7.out
          have c16 := hbw'.cell G16.out
          clear hw4 h34 hbw hbr hbl c2 c15
          go_wp2_with fail
          refine (K1.out _).mono ?_
          rintro e w6 ⟨rfl, rfl⟩
          go_wp2_with fail
          refine (K2.out _).mono ?_
          rintro e w6 ⟨rfl, rfl⟩
          go_wp2_with fail
          refine (K3.out _).mono ?_
          rintro e w6 ⟨rfl, rfl⟩
          go_wp2_with fail
          refine (K4.out _).mono ?_
          rintro e w6 ⟨rfl, rfl⟩
          go_wp2_with fail
          rw [R15.out, R2.out]
          go_still_tail 14, (by kernel_rfl)
          rw [ad_n, ad_n, ad_n, ← HNX.out]
          obtain ⟨nx, hnx⟩ : ∃ nx, nx = Sha.nxt L := ⟨_, rfl⟩
          rw [← hnx]
          change wpList _ _ _ _ _ w4.drew
          have hbd : Below w4.heap.size w4 w4.drew := (Below.refl _ _).drew
          have hbw2 := hbw'.past hbd hbw'.lt
          have hbr2 := hbr'.past hbd hbr'.lt
          have hbl2 : Below w.heap.size w w4.drew := hbl'.drew
          obtain ⟨w2, hw2⟩ : ∃ w2, w2 = w4.drew := ⟨_, rfl⟩
          rw [← hw2] at hbw2 hbr2 hbl2 ⊢
          obtain ⟨u, hu⟩ := arr_some (L := L) (by have := HLEN.out; omega) (show k < 64 by omega)
          have hc := hbw2.cell hu
          have hf := hbw2.frozen k
          have hput := hbw2.set k (w32 nx)
          rw [← w32s_set] at hput
          have e1 : (arr L).set k nx = arr (Sha.ext (j + 1) (Sha.w16 l)) := by
            have h := arr_put (L := L) (by have := HLEN.out; omega) nx
            rw [HLEN.out] at h
            rw [h, HS1.out, hnx]
          rw [e1] at hput
          have hs0 : w.heap.size + 1 < w2.heap.size := hbw2.lt
          have hbr3 := hbr2.keep (Keep.setCell w2 ⟨w.heap.size + 1, k, none⟩ (w32 nx) (O := fun q => q ≠ w.heap.size + 1) (fun h => h rfl)) (by omega)
          have hbl3 : Below w.heap.size w (w2.setCell ⟨w.heap.size + 1, k, none⟩ (w32 nx)) := hbl2.setCell (by simp) _
          clear hu e1 hbw' hbr' hbw2 hbr2 hbl' hbl2 hbd hw2 hnx i2 i7 i15 i16 c7 c16
          go_wp2
          go_roundw
          case rel => exact ⟨k + 1, j + 1, by go_num, by omega, Lib.hid (by have := HKJ.out; omega), by omega, hput, hbr3, hbl3⟩
          case measure => simp [intOf]; omega
        · have hj : j = 48 := by have := HKJ.out; omega
          have hLs : L = Sha.sch l := by rw [hL, hj]; rfl
          have harr : arr L = L := by unfold arr; rw [hlen, show k = 64 by omega]; simp
          rw [harr] at hbw
          have hlen2 : (w32s L).length = 64 := by rw [w32s_length, hlen]; omega
          have HL2 := Lib.hid hlen2
          have HLS := Lib.hid hLs
          have hs0 : w.heap.size + 1 < wr.heap.size := hbw.lt
          clear hLs hL hj harr hlen hws hlen2
          go_upto_region 13 with (fail)
          refine wp_region_lit ?_
          refine wp_loadA 75 (.tmp 3) rfl rfl (w.heap.size + 1) rfl 75 _ 64 62 hbw Tryd.underlying75 (by rw [info_64, HL2.out]) ?_
          refine wp_storeA 75 (.tmp 2) (.tmp 64) rfl rfl w.heap.size rfl 75 z64 _ rfl hbr (by rw [info_64, HL2.out]) (by rw [HL2.out]; rfl) (w32s_one _) rfl ?_
          intro w2 hbr2 hk2
          have hbl2 := hbl.trans (hk2.below (n := w.heap.size) (fun q hq => by omega) hbl.size)
          clear hbw hbr hbl hk2
          go_wp2
          refine ret_arr Tryd.results70 rfl w.heap.size 75 _ 64 62 rfl hbr2 Tryd.underlying75 (by rw [info_64, HL2.out]) ?_
          rw [HLS.out]
          exact ⟨rfl, hbl2⟩
end Go.Proofs.YtnfhdjmehhapiaaDoor
