/-
  Walks of the reference's package for layer 3: rotations, words.
  Walks of the reference's package for layer 3: the message schedule.
  Walks of the reference's package for layer 3: the compression function.
  Steps of a still region whose run is known: the load of a whole array, 'x[lo:hi]'. Nothing of a program is named here.
  Walks of the reference's package for layer 3: blocks.
-/
import Derived.Test.YtccepoeenkpifaaDoorShA
import Derived.Test.YtccepoeenkpifaaDoorAgg
import Derived.StillTailTactics
namespace Go.Proofs.YtccepoeenkpifaaDoor
section
open Go.RowKit
set_option linter.unusedVariables false
set_option linter.unusedSimpArgs false

theorem rrot2 (x : Nat) (w : World) (h : x < 4294967296) :
    Calls Tryd.prog 94 #[.int .u32 x, .int .u64 2] w fun e w' => e = .returned (.int .u32 (Sha.rr 2 x)) ∧ w = w' := by
  have r := or_rot' 2 x h
  have R := Lib.hid r
  clear r
  go_enter Tryd.func94, Tryd.ntmps94
  go_wp2
  go_ret
  exact ⟨ret_u32 (by have := R.out; simpa using this), rfl⟩

theorem rrot6 (x : Nat) (w : World) (h : x < 4294967296) :
    Calls Tryd.prog 94 #[.int .u32 x, .int .u64 6] w fun e w' => e = .returned (.int .u32 (Sha.rr 6 x)) ∧ w = w' := by
  have r := or_rot' 6 x h
  have R := Lib.hid r
  clear r
  go_enter Tryd.func94, Tryd.ntmps94
  go_wp2
  go_ret
  exact ⟨ret_u32 (by have := R.out; simpa using this), rfl⟩

theorem rrot7 (x : Nat) (w : World) (h : x < 4294967296) :
    Calls Tryd.prog 94 #[.int .u32 x, .int .u64 7] w fun e w' => e = .returned (.int .u32 (Sha.rr 7 x)) ∧ w = w' := by
  have r := or_rot' 7 x h
  have R := Lib.hid r
  clear r
  go_enter Tryd.func94, Tryd.ntmps94
  go_wp2
  go_ret
  exact ⟨ret_u32 (by have := R.out; simpa using this), rfl⟩

theorem rrot11 (x : Nat) (w : World) (h : x < 4294967296) :
    Calls Tryd.prog 94 #[.int .u32 x, .int .u64 11] w fun e w' => e = .returned (.int .u32 (Sha.rr 11 x)) ∧ w = w' := by
  have r := or_rot' 11 x h
  have R := Lib.hid r
  clear r
  go_enter Tryd.func94, Tryd.ntmps94
  go_wp2
  go_ret
  exact ⟨ret_u32 (by have := R.out; simpa using this), rfl⟩

theorem rrot13 (x : Nat) (w : World) (h : x < 4294967296) :
    Calls Tryd.prog 94 #[.int .u32 x, .int .u64 13] w fun e w' => e = .returned (.int .u32 (Sha.rr 13 x)) ∧ w = w' := by
  have r := or_rot' 13 x h
  have R := Lib.hid r
  clear r
  go_enter Tryd.func94, Tryd.ntmps94
  go_wp2
  go_ret
  exact ⟨ret_u32 (by have := R.out; simpa using this), rfl⟩

theorem rrot17 (x : Nat) (w : World) (h : x < 4294967296) :
    Calls Tryd.prog 94 #[.int .u32 x, .int .u64 17] w fun e w' => e = .returned (.int .u32 (Sha.rr 17 x)) ∧ w = w' := by
  have r := or_rot' 17 x h
  have R := Lib.hid r
  clear r
  go_enter Tryd.func94, Tryd.ntmps94
  go_wp2
  go_ret
  exact ⟨ret_u32 (by have := R.out; simpa using this), rfl⟩

theorem rrot18 (x : Nat) (w : World) (h : x < 4294967296) :
    Calls Tryd.prog 94 #[.int .u32 x, .int .u64 18] w fun e w' => e = .returned (.int .u32 (Sha.rr 18 x)) ∧ w = w' := by
  have r := or_rot' 18 x h
  have R := Lib.hid r
  clear r
  go_enter Tryd.func94, Tryd.ntmps94
  go_wp2
  go_ret
  exact ⟨ret_u32 (by have := R.out; simpa using this), rfl⟩

theorem rrot19 (x : Nat) (w : World) (h : x < 4294967296) :
    Calls Tryd.prog 94 #[.int .u32 x, .int .u64 19] w fun e w' => e = .returned (.int .u32 (Sha.rr 19 x)) ∧ w = w' := by
  have r := or_rot' 19 x h
  have R := Lib.hid r
  clear r
  go_enter Tryd.func94, Tryd.ntmps94
  go_wp2
  go_ret
  exact ⟨ret_u32 (by have := R.out; simpa using this), rfl⟩

theorem rrot22 (x : Nat) (w : World) (h : x < 4294967296) :
    Calls Tryd.prog 94 #[.int .u32 x, .int .u64 22] w fun e w' => e = .returned (.int .u32 (Sha.rr 22 x)) ∧ w = w' := by
  have r := or_rot' 22 x h
  have R := Lib.hid r
  clear r
  go_enter Tryd.func94, Tryd.ntmps94
  go_wp2
  go_ret
  exact ⟨ret_u32 (by have := R.out; simpa using this), rfl⟩

theorem rrot25 (x : Nat) (w : World) (h : x < 4294967296) :
    Calls Tryd.prog 94 #[.int .u32 x, .int .u64 25] w fun e w' => e = .returned (.int .u32 (Sha.rr 25 x)) ∧ w = w' := by
  have r := or_rot' 25 x h
  have R := Lib.hid r
  clear r
  go_enter Tryd.func94, Tryd.ntmps94
  go_wp2
  go_ret
  exact ⟨ret_u32 (by have := R.out; simpa using this), rfl⟩

theorem rword_any (v : Value) (a b c d : UInt8) (l : List UInt8) (w : World) (B : Nat) (hv : Bs w B v (a :: b :: c :: d :: l)) :
    Calls Tryd.prog 96 #[v] w fun e w' => e = .returned (.int .u32 (Sha.wd a.toNat b.toNat c.toNat d.toNat)) ∧ ∃ n, w' = w.drewN n := by
  obtain ⟨g, o, cap, rfl, hg, hcap, hc⟩ := hv.addr (by simp)
  have c0 : w.cell? ⟨g, o, none⟩ = some (.int .u8 (a.toNat : Int)) := hc 0 a rfl
  have c1 := hc 1 b rfl
  have c2 := hc 2 c rfl
  have c3 := hc 3 d rfl
  have ha := a.toNat_lt
  have hb := b.toNat_lt
  have hc' := c.toNat_lt
  have hd := d.toNat_lt
  have R := Lib.hid (wd_val ha hb hc' hd)
  obtain ⟨n, hn⟩ : ∃ n, n = (a :: b :: c :: d :: l).length := ⟨_, rfl⟩
  have hn4 : 4 ≤ n := by rw [hn]; simp
  rw [← hn]
  clear hn hc hv hcap
  have q0 : 0 < n := by omega
  have q1 : (1 : Int) < (n : Int) := by omega
  have q2 : (2 : Int) < (n : Int) := by omega
  have q3 : (3 : Int) < (n : Int) := by omega
  go_enter Tryd.func96, Tryd.ntmps96
  go_wp2
  go_quiet (fail)
  go_wp2
  go_ret
  exact ⟨ret_u32 R.out, _, rfl⟩


theorem rword_b (v : Value) (l : List UInt8) (k : Nat) (w : World) (B : Nat) (hv : Bs w B v (l.drop (4 * k))) (h : 4 * k + 4 ≤ l.length) :
    Calls Tryd.prog 96 #[v] w fun e w' => e = .returned (.int .u32 (Sha.word l k)) ∧ Below w.heap.size w w' := by
  obtain ⟨a, b, c, d, r, h1, h2⟩ := drop4 h
  rw [h1] at hv
  rw [h2]
  exact (rword_any v a b c d r w B hv).mono fun e w' ⟨h1, n, h2⟩ => ⟨h1, by rw [h2]; exact below_drewN (Below.refl _ _) n⟩
end

section
open Go.RowKit
set_option linter.unusedVariables false
set_option linter.unusedSimpArgs false

set_option maxRecDepth 100000 in
set_option maxHeartbeats 1000000 in
theorem rschedule_any (v : Value) (l : List UInt8) (w : World) (hv : Bs w w.heap.size v l) (hl : l.length = 64) :
    Calls Tryd.prog 93 #[v] w fun e w' => e = .returned (.agg (w32s (Sha.sch l)).toArray) ∧ Below w.heap.size w w' := by
  obtain ⟨A, cap, rfl⟩ := hv.form
  have hz := zero_64
  have HL := Lib.hid hl
  clear hl
  go_enter Tryd.func93, Tryd.ntmps93
  go_wp2
  obtain ⟨W, hW⟩ : ∃ W, W = (w.alloc (.cells z64.toArray 100)).alloc (.cells z64.toArray 100) := ⟨_, rfl⟩
  rw [← hW]
  have hb0 : Below w.heap.size w W := by rw [hW]; exact ((Below.refl _ _).alloc (Nat.le_refl _) _).alloc (by simp) _
  have hr0 : Blk W w.heap.size 100 z64 := by rw [hW]; exact (Blk.new w _ _).past ((Below.refl _ _).alloc (Nat.le_refl _) _) (by simp)
  have hw0 : Blk W (w.heap.size + 1) 100 (w32s (arr [])) := by
    have h := Blk.new (w.alloc (.cells z64.toArray 100)) 100 z64
    rw [World.size_alloc] at h
    rw [hW]; exact h
  clear hW hz
  go_loopw [4] (fun i wr => ∃ k : Nat, i = .int .i64 k ∧ k ≤ 16 ∧ Blk wr (w.heap.size + 1) 100 (w32s (arr ((Sha.w16 l).take k))) ∧ Blk wr w.heap.size 100 z64 ∧ Below w.heap.size w wr) (fun i _ => (16 - intOf i).toNat)
  case atStart => exact ⟨0, rfl, by omega, hw0, hr0, hb0⟩
  case round =>
    obtain ⟨k, rfl, hk, hbw, hbr, hbl⟩ := hrel
    have hvr := hv.carry hbl hbl.size
    by_cases hlt : k < 16
    · go_wp2_with (refine wp_cut 22 5 Tryd.underlying22 size_u8 (.tmp 15) (some (.tmp 17)) none rfl rfl rfl hvr (4 * k) (64 - 4 * k) (.inr ⟨_, _, rfl, by push_cast; rfl⟩) (.inl ⟨rfl, by have := HL.out; omega⟩) (by have := HL.out; omega) ?_; intro A1 c1 hrow)
      have hlen : ((Sha.w16 l).take k).length = k := by rw [List.length_take, Sha.w16_len]; omega
      refine (rword_b _ l k wr wr.heap.size (cut_bs hrow (by have := HL.out; omega)) (by have := HL.out; omega)).mono ?_
      rintro e w2 ⟨rfl, hb2⟩
      have hbw2 := hbw.past hb2 hbw.lt
      have hbr2 := hbr.past hb2 hbr.lt
      obtain ⟨u, hu⟩ := arr_some (L := (Sha.w16 l).take k) (by omega) (show k < 64 by omega)
      have hc := hbw2.cell hu
      have hf := hbw2.frozen k
      have hput := hbw2.set k (w32 (Sha.word l k))
      rw [← w32s_set] at hput
      have e1 : (arr ((Sha.w16 l).take k)).set k (Sha.word l k) = arr ((Sha.w16 l).take (k + 1)) := by
        have h := arr_put (L := (Sha.w16 l).take k) (by omega) (Sha.word l k)
        rw [hlen] at h
        rw [h, w16_take hlt]
      rw [e1] at hput
      have hbl2 := hbl.trans (hb2.mono hbl.size)
      have hs0 : w.heap.size + 1 < w2.heap.size := hbw2.lt
      have hbr3 := hbr2.keep (Keep.setCell w2 ⟨w.heap.size + 1, k, none⟩ (w32 (Sha.word l k)) (O := fun q => q ≠ w.heap.size + 1) (fun h => h rfl)) (by omega)
      have hbl3 : Below w.heap.size w (w2.setCell ⟨w.heap.size + 1, k, none⟩ (w32 (Sha.word l k))) := hbl2.setCell (by simp) _
      clear hlen hu e1 hrow hvr hbw hbr hbw2 hbr2 hbl hb2
      go_wp2
      go_roundw
      case rel => exact ⟨k + 1, by go_num, by omega, hput, hbr3, hbl3⟩
      case measure => simp [intOf]; omega
    · have hbw1 : Blk wr (w.heap.size + 1) 100 (w32s (arr (Sha.ext 0 (Sha.w16 l)))) := by
        have h := hbw
        rw [List.take_of_length_le (by rw [Sha.w16_len]; omega)] at h
        exact h
      clear hbw
      go_wp2
      go_loopw [5] (fun i wr => ∃ (k j : Nat), i = .int .i64 k ∧ k ≤ 64 ∧ Hid (k = 16 + j) ∧ 16 ≤ k ∧ Blk wr (w.heap.size + 1) 100 (w32s (arr (Sha.ext j (Sha.w16 l)))) ∧ Blk wr w.heap.size 100 z64 ∧ Below w.heap.size w wr) (fun i _ => (64 - intOf i).toNat)
      case atStart => exact ⟨16, 0, rfl, by omega, Lib.hid rfl, by omega, hbw1, hbr, hbl⟩
      case round =>
        obtain ⟨k, j, rfl, hk, HKJ, hk16, hbw, hbr, hbl⟩ := hrel
        obtain ⟨L, hL⟩ : ∃ L, L = Sha.ext j (Sha.w16 l) := ⟨_, rfl⟩
        have hlen : L.length = k := by rw [hL, Sha.ext_len, Sha.w16_len]; exact HKJ.out.symm
        have hws : Sha.Ws L := by rw [hL]; exact Sha.ext_ws j (Sha.w16_ws l)
        rw [← hL] at hbw
        by_cases hlt : k < 64
        · have hs1 : Sha.ext (j + 1) (Sha.w16 l) = L ++ [Sha.nxt L] := by rw [hL, Sha.ext_snoc]
          have hnx : Sha.nxt L = Sha.ad (Sha.ad (Sha.ad (Sha.ss1 (L.getD (k - 2) 0)) (L.getD (k - 7) 0)) (Sha.ss0 (L.getD (k - 15) 0))) (L.getD (k - 16) 0) := by unfold Sha.nxt; rw [hlen]
          obtain ⟨x2, hx2⟩ : ∃ x, x = L.getD (k - 2) 0 := ⟨_, rfl⟩
          obtain ⟨x7, hx7⟩ : ∃ x, x = L.getD (k - 7) 0 := ⟨_, rfl⟩
          obtain ⟨x15, hx15⟩ : ∃ x, x = L.getD (k - 15) 0 := ⟨_, rfl⟩
          obtain ⟨x16, hx16⟩ : ∃ x, x = L.getD (k - 16) 0 := ⟨_, rfl⟩
          have c2 := hbw.cell (arr_get (L := L) (i := k - 2) (by omega))
          have c7 := hbw.cell (arr_get (L := L) (i := k - 7) (by omega))
          have c15 := hbw.cell (arr_get (L := L) (i := k - 15) (by omega))
          have c16 := hbw.cell (arr_get (L := L) (i := k - 16) (by omega))
          have l2 := hws.getD (k - 2)
          have l7 := hws.getD (k - 7)
          have l15 := hws.getD (k - 15)
          have l16 := hws.getD (k - 16)
          rw [← hx2] at c2 l2 hnx
          rw [← hx7] at c7 l7 hnx
          rw [← hx15] at c15 l15 hnx
          rw [← hx16] at c16 l16 hnx
          obtain ⟨y2, hy2⟩ : ∃ y, y = Sha.ss1 x2 := ⟨_, rfl⟩
          obtain ⟨y15, hy15⟩ : ∃ y, y = Sha.ss0 x15 := ⟨_, rfl⟩
          obtain ⟨p1, hp1⟩ : ∃ y, y = Sha.rr 7 x15 := ⟨_, rfl⟩
          obtain ⟨p2, hp2⟩ : ∃ y, y = Sha.rr 18 x15 := ⟨_, rfl⟩
          obtain ⟨p3, hp3⟩ : ∃ y, y = Sha.rr 17 x2 := ⟨_, rfl⟩
          obtain ⟨p4, hp4⟩ : ∃ y, y = Sha.rr 19 x2 := ⟨_, rfl⟩
          have k1 := fun W => rrot7 x15 W l15
          have k2 := fun W => rrot18 x15 W l15
          have k3 := fun W => rrot17 x2 W l2
          have k4 := fun W => rrot19 x2 W l2
          rw [← hp1] at k1
          rw [← hp2] at k2
          rw [← hp3] at k3
          rw [← hp4] at k4
          have K1 := Lib.hid k1
          have K2 := Lib.hid k2
          have K3 := Lib.hid k3
          have K4 := Lib.hid k4
          have R15 := Lib.hid (show bits .xor .u32 (bits .xor .u32 (p1 : Int) (p2 : Int)) ((x15 : Int) / 8) = (y15 : Int) by
            rw [show (x15 : Int) / 8 = ((x15 / 8 : Nat) : Int) by omega, hp1, hp2, xor_n (Sha.rr_lt _ l15) (Sha.rr_lt _ l15), xor_n (Sha.xor_lt (Sha.rr_lt _ l15) (Sha.rr_lt _ l15)) (Sha.div_lt _ l15), hy15]; rfl)
          have R2 := Lib.hid (show bits .xor .u32 (bits .xor .u32 (p3 : Int) (p4 : Int)) ((x2 : Int) / 1024) = (y2 : Int) by
            rw [show (x2 : Int) / 1024 = ((x2 / 1024 : Nat) : Int) by omega, hp3, hp4, xor_n (Sha.rr_lt _ l2) (Sha.rr_lt _ l2), xor_n (Sha.xor_lt (Sha.rr_lt _ l2) (Sha.rr_lt _ l2)) (Sha.div_lt _ l2), hy2]; rfl)
          have ly2 : y2 < 4294967296 := by rw [hy2]; exact Sha.ss1_lt l2
          have ly15 : y15 < 4294967296 := by rw [hy15]; exact Sha.ss0_lt l15
          rw [← hy2] at hnx
          rw [← hy15] at hnx
          have HNX := Lib.hid hnx
          have HS1 := Lib.hid hs1
          clear k1 k2 k3 k4 hnx hs1 hy2 hy15 hp1 hp2 hp3 hp4
          have HLEN := Lib.hid hlen
          have HLL := Lib.hid hL
          have G7 := Lib.hid (show (w32s (arr L))[k - 7]? = some (.int .u32 x7) by rw [hx7]; exact arr_get (by omega))
          have G16 := Lib.hid (show (w32s (arr L))[k - 16]? = some (.int .u32 x16) by rw [hx16]; exact arr_get (by omega))
          clear hlen hL c7 c16 hx2 hx7 hx15 hx16
          have i2 : IntKind.i64.wrap ((k : Int) - 2) = ((k - 2 : Nat) : Int) := by rw [IntKind.wrap_i64]; omega
          have i7 : IntKind.i64.wrap ((k : Int) - 7) = ((k - 7 : Nat) : Int) := by rw [IntKind.wrap_i64]; omega
          have i15 : IntKind.i64.wrap ((k : Int) - 15) = ((k - 15 : Nat) : Int) := by rw [IntKind.wrap_i64]; omega
          have i16 : IntKind.i64.wrap ((k : Int) - 16) = ((k - 16 : Nat) : Int) := by rw [IntKind.wrap_i64]; omega
          have b2 : ((k - 2 : Nat) : Int) < 64 := by omega
          have b7 : ((k - 7 : Nat) : Int) < 64 := by omega
          have b15 : ((k - 15 : Nat) : Int) < 64 := by omega
          have b16 : ((k - 16 : Nat) : Int) < 64 := by omega
          go_wp2_with fail
          go_quiet (fail)
          obtain ⟨w4, hw4⟩ : ∃ w4, w4 = wr.drewN nq := ⟨_, rfl⟩
          have h34 : Below wr.heap.size wr w4 := by rw [hw4]; exact below_drewN (Below.refl _ _) nq
          rw [← hw4]
          have hbw' := hbw.past h34 hbw.lt
          have hbr' := hbr.past h34 hbr.lt
          have hbl' := hbl.trans (h34.mono hbl.size)
          have c7 := hbw'.cell G7.out
          have c16 := hbw'.cell G16.out
          clear hw4 h34 hbw hbr hbl c2 c15
          go_wp2_with fail
          refine (K1.out _).mono ?_
          rintro e w6 ⟨rfl, rfl⟩
          go_wp2_with fail
          refine (K2.out _).mono ?_
          rintro e w6 ⟨rfl, rfl⟩
          go_wp2_with fail
          refine (K3.out _).mono ?_
          rintro e w6 ⟨rfl, rfl⟩
          go_wp2_with fail
          refine (K4.out _).mono ?_
          rintro e w6 ⟨rfl, rfl⟩
          go_wp2_with fail
          rw [R15.out, R2.out]
          go_still_tail 14, (by kernel_rfl)
          rw [ad_n, ad_n, ad_n, ← HNX.out]
          obtain ⟨nx, hnx⟩ : ∃ nx, nx = Sha.nxt L := ⟨_, rfl⟩
          rw [← hnx]
          change wpList _ _ _ _ _ w4.drew
          have hbd : Below w4.heap.size w4 w4.drew := (Below.refl _ _).drew
          have hbw2 := hbw'.past hbd hbw'.lt
          have hbr2 := hbr'.past hbd hbr'.lt
          have hbl2 : Below w.heap.size w w4.drew := hbl'.drew
          obtain ⟨w2, hw2⟩ : ∃ w2, w2 = w4.drew := ⟨_, rfl⟩
          rw [← hw2] at hbw2 hbr2 hbl2 ⊢
          obtain ⟨u, hu⟩ := arr_some (L := L) (by have := HLEN.out; omega) (show k < 64 by omega)
          have hc := hbw2.cell hu
          have hf := hbw2.frozen k
          have hput := hbw2.set k (w32 nx)
          rw [← w32s_set] at hput
          have e1 : (arr L).set k nx = arr (Sha.ext (j + 1) (Sha.w16 l)) := by
            have h := arr_put (L := L) (by have := HLEN.out; omega) nx
            rw [HLEN.out] at h
            rw [h, HS1.out, hnx]
          rw [e1] at hput
          have hs0 : w.heap.size + 1 < w2.heap.size := hbw2.lt
          have hbr3 := hbr2.keep (Keep.setCell w2 ⟨w.heap.size + 1, k, none⟩ (w32 nx) (O := fun q => q ≠ w.heap.size + 1) (fun h => h rfl)) (by omega)
          have hbl3 : Below w.heap.size w (w2.setCell ⟨w.heap.size + 1, k, none⟩ (w32 nx)) := hbl2.setCell (by simp) _
          clear hu e1 hbw' hbr' hbw2 hbr2 hbl' hbl2 hbd hw2 hnx i2 i7 i15 i16 c7 c16
          go_wp2
          go_roundw
          case rel => exact ⟨k + 1, j + 1, by go_num, by omega, Lib.hid (by have := HKJ.out; omega), by omega, hput, hbr3, hbl3⟩
          case measure => simp [intOf]; omega
        · have hj : j = 48 := by have := HKJ.out; omega
          have hLs : L = Sha.sch l := by rw [hL, hj]; rfl
          have harr : arr L = L := by unfold arr; rw [hlen, show k = 64 by omega]; simp
          rw [harr] at hbw
          have hlen2 : (w32s L).length = 64 := by rw [w32s_length, hlen]; omega
          have HL2 := Lib.hid hlen2
          have HLS := Lib.hid hLs
          have hs0 : w.heap.size + 1 < wr.heap.size := hbw.lt
          clear hLs hL hj harr hlen hws hlen2
          go_upto_region 13 with (fail)
          refine wp_region_lit ?_
          refine wp_loadA 100 (.tmp 3) rfl rfl (w.heap.size + 1) rfl 100 _ 64 80 hbw Tryd.underlying100 (by rw [info_64, HL2.out]) ?_
          refine wp_storeA 100 (.tmp 2) (.tmp 64) rfl rfl w.heap.size rfl 100 z64 _ rfl hbr (by rw [info_64, HL2.out]) (by rw [HL2.out]; rfl) (w32s_one _) rfl ?_
          intro w2 hbr2 hk2
          have hbl2 := hbl.trans (hk2.below (n := w.heap.size) (fun q hq => by omega) hbl.size)
          clear hbw hbr hbl hk2
          go_wp2
          refine ret_arr Tryd.results93 rfl w.heap.size 100 _ 64 80 rfl hbr2 Tryd.underlying100 (by rw [info_64, HL2.out]) ?_
          rw [HLS.out]
          exact ⟨rfl, hbl2⟩
end

section
open Go.RowKit
set_option linter.unusedVariables false
set_option linter.unusedSimpArgs false

def z8 : List Nat := [0, 0, 0, 0, 0, 0, 0, 0]
theorem zero_8 (w : World) : (zeroValue 81).run Tryd.prog w = .ok (.agg (w32s z8).toArray) w := by kernel_rfl
theorem info_8 : (Tryd.prog.info? 81).map (·.size) = some 8 := by kernel_rfl
theorem st_len (s : Sha.St) : (w32s s.list).length = 8 := rfl

set_option maxRecDepth 100000 in
set_option maxHeartbeats 2000000 in
theorem rcompress_any (s : Sha.St) (v : Value) (l : List UInt8) (w : World) (hv : Bs w w.heap.size v l) (hl : l.length = 64) (hs : s.ok) (hk : KIs 2 w) :
    Calls Tryd.prog 87 #[.agg (w32s s.list).toArray, v] w fun e w' => e = .returned (.agg (w32s (Sha.cmp s l).list).toArray) ∧ Below w.heap.size w w' := by
  have hz := zero_8
  have hz2 := zero_64
  obtain ⟨W0, hW0⟩ : ∃ W0, W0 = (w.alloc (.cells (w32s s.list).toArray 81)).alloc (.cells (w32s z8).toArray 81) := ⟨_, rfl⟩
  have hb0 : Below w.heap.size w W0 := by rw [hW0]; exact ((Below.refl _ _).alloc (Nat.le_refl _) _).alloc (by simp) _
  have hx0 : Blk W0 w.heap.size 81 (w32s s.list) := by
    rw [hW0]
    exact (Blk.new w _ _).past ((Below.refl _ _).alloc (Nat.le_refl _) _) (by simp)
  have hr0 : Blk W0 (w.heap.size + 1) 81 (w32s z8) := by
    have h := Blk.new (w.alloc (.cells (w32s s.list).toArray 81)) 81 (w32s z8)
    rw [World.size_alloc] at h
    rw [hW0]; exact h
  have hc := rschedule_any v l W0 (hv.past hb0) hl
  have hk0 := hk.past hb0
  have HC := Lib.hid hc
  have HW0 := Lib.hid hW0
  clear hW0 hc hv hk hl
  go_enter Tryd.func87, Tryd.ntmps87
  go_wp2_with fail
  rw [← HW0.out]
  refine HC.out.mono ?_
  rintro e w2 ⟨rfl, hb2⟩
  obtain ⟨S, hS⟩ : ∃ S, S = Sha.sch l := ⟨_, rfl⟩
  have hSl : S.length = 64 := by rw [hS, Sha.sch_len]
  have hSw : Sha.Ws S := by rw [hS]; exact Sha.sch_ws l
  have hSg : ∀ t, t < 64 → (w32s S)[t]? = some (.int .u32 (S.getD t 0)) := by rw [hS]; exact sch_get l
  rw [← hS]
  have HS := Lib.hid hS
  have HSL := Lib.hid (show (w32s S).length = 64 by rw [w32s_length, hSl])
  have HSG := Lib.hid hSg
  have hx2 := hx0.past hb2 hx0.lt
  have hr2 := hr0.past hb2 hr0.lt
  have hk2 := hk0.past hb2
  have hbl2 := hb0.trans (hb2.mono hb0.size)
  have hs2 : w.heap.size + 1 < w2.heap.size := hr2.lt
  clear hS hSl hSg hx0 hr0 hk0 hb0 hb2 HC HW0
  go_upto_region 2 with (refine wp_storeA 100 (.tmp 5) (.tmp 24) rfl rfl w2.heap.size rfl 100 z64 _ rfl (Blk.new w2 _ _) (by rw [info_64, HSL.out]) (by rw [HSL.out]; rfl) (w32s_one _) rfl ?_; intro w3 hbw3 hk3)
  have hka : Keep (fun q => q < w2.heap.size) w2 w3 := (Keep.of_below ((Below.refl _ _).alloc (Nat.le_refl _) _)).trans (hk3.mono (fun q hq => by omega))
  have g3 : Below w2.heap.size w2 w3 := hka.below (fun q hq => hq) (Nat.le_refl _)
  have hx3 := hx2.past g3 hx2.lt
  have hr3 := hr2.past g3 hr2.lt
  have hkk3 := hk2.past g3
  have hbl3 := hbl2.trans (g3.mono hbl2.size)
  obtain ⟨T, hT⟩ : ∃ T, T = w2.heap.size := ⟨_, rfl⟩
  rw [← hT] at hbw3 hs2 ⊢
  clear hk3 hka g3 hx2 hr2 hk2 hbl2 hT hz2
  go_wp2_with (first
    | (refine wp_loadA 81 (.tmp 2) rfl rfl w.heap.size rfl 81 _ 8 80 hx3 Tryd.underlying81 (by rw [info_8, st_len]) ?_)
    | (refine wp_storeA 81 (.tmp 6) (.tmp 25) rfl rfl w3.heap.size rfl 81 (w32s z8) (w32s s.list) rfl (Blk.new w3 _ _) (by rw [info_8, st_len]) rfl (w32s_one _) rfl ?_; intro w4 hbv4 hk4))
  have hka : Keep (fun q => q < w3.heap.size) w3 w4 := (Keep.of_below ((Below.refl _ _).alloc (Nat.le_refl _) _)).trans (hk4.mono (fun q hq => by omega))
  have g4 : Below w3.heap.size w3 w4 := hka.below (fun q hq => hq) (Nat.le_refl _)
  have hx4 := hx3.past g4 hx3.lt
  have hr4 := hr3.past g4 hr3.lt
  have hkk4 := hkk3.past g4
  have hbw4 := hbw3.past g4 hbw3.lt
  have hbl4 := hbl3.trans (g4.mono hbl3.size)
  have hT3 := hbw3.lt
  have hkV : 2 < w3.heap.size := block_lt_of_cell (hkk3 0 (by omega))
  obtain ⟨V, hV⟩ : ∃ V, V = w3.heap.size := ⟨_, rfl⟩
  rw [← hV] at hbv4 hT3 hkV ⊢
  clear hk4 hka g4 hx3 hr3 hkk3 hbw3 hbl3 hV hz
  obtain ⟨a0, b0, c0, d0, e0, f0, g0, h0⟩ := s
  go_loopw [7] (fun i wr => ∃ (t : Nat) (r : Sha.St), i = .int .i64 t ∧ t ≤ 64 ∧ Hid (r = Sha.rnds S ⟨a0, b0, c0, d0, e0, f0, g0, h0⟩ t) ∧ r.ok ∧ Blk wr V 81 (w32s r.list) ∧ Keep (fun q => q ≠ V) w4 wr) (fun i _ => (64 - intOf i).toNat)
  case atStart => exact ⟨0, ⟨a0, b0, c0, d0, e0, f0, g0, h0⟩, rfl, by omega, Lib.hid rfl, hs, hbv4, Keep.refl _ _⟩
  case round =>
    obtain ⟨t, ⟨A, B, C, D, E, F, G, H⟩, rfl, ht, HR, ⟨mA, mB, mC, mD, mE, mF, mG, mH⟩, hbv, hkr⟩ := hrel
    simp only at mA mB mC mD mE mF mG mH
    by_cases hlt : t < 64
    · obtain ⟨kt, hkt⟩ : ∃ k, k = Sha.Kn t := ⟨_, rfl⟩
      obtain ⟨wt, hwt⟩ : ∃ k, k = S.getD t 0 := ⟨_, rfl⟩
      have ckt0 : wr.cell? ⟨2, t, none⟩ = some (.int .u32 kt) := by
        rw [hkt]
        exact hkr.cell (p := ⟨_, t, none⟩) (by show (2 : Nat) ≠ V; omega) (hkk4 t hlt)
      have cwt0 : wr.cell? ⟨T, t, none⟩ = some (.int .u32 wt) := by
        rw [hwt]
        exact hkr.cell (p := ⟨_, t, none⟩) (by show T ≠ V; omega) (hbw4.cell (HSG.out t hlt))
      have lkt : kt < 4294967296 := by rw [hkt]; exact Sha.Kn_lt t
      have lwt : wt < 4294967296 := by rw [hwt]; exact hSw.getD t
      have HN := Lib.hid (show Sha.rnds S ⟨a0, b0, c0, d0, e0, f0, g0, h0⟩ (t + 1) = Sha.rnd kt wt ⟨A, B, C, D, E, F, G, H⟩ by
        rw [hkt, hwt, HR.out]; rfl)
      clear hkt hwt
      obtain ⟨p1, hp1⟩ : ∃ y, y = Sha.rr 6 E := ⟨_, rfl⟩
      obtain ⟨p2, hp2⟩ : ∃ y, y = Sha.rr 11 E := ⟨_, rfl⟩
      obtain ⟨p3, hp3⟩ : ∃ y, y = Sha.rr 25 E := ⟨_, rfl⟩
      obtain ⟨p4, hp4⟩ : ∃ y, y = Sha.rr 2 A := ⟨_, rfl⟩
      obtain ⟨p5, hp5⟩ : ∃ y, y = Sha.rr 13 A := ⟨_, rfl⟩
      obtain ⟨p6, hp6⟩ : ∃ y, y = Sha.rr 22 A := ⟨_, rfl⟩
      obtain ⟨y1, hy1⟩ : ∃ y, y = Sha.bs1 E := ⟨_, rfl⟩
      obtain ⟨y2, hy2⟩ : ∃ y, y = Sha.chh E F G := ⟨_, rfl⟩
      obtain ⟨y3, hy3⟩ : ∃ y, y = Sha.bs0 A := ⟨_, rfl⟩
      obtain ⟨y4, hy4⟩ : ∃ y, y = Sha.maj A B C := ⟨_, rfl⟩
      have k1 := fun W => rrot6 E W mE
      have k2 := fun W => rrot11 E W mE
      have k3 := fun W => rrot25 E W mE
      have k4 := fun W => rrot2 A W mA
      have k5 := fun W => rrot13 A W mA
      have k6 := fun W => rrot22 A W mA
      rw [← hp1] at k1
      rw [← hp2] at k2
      rw [← hp3] at k3
      rw [← hp4] at k4
      rw [← hp5] at k5
      rw [← hp6] at k6
      have K1 := Lib.hid k1
      have K2 := Lib.hid k2
      have K3 := Lib.hid k3
      have K4 := Lib.hid k4
      have K5 := Lib.hid k5
      have K6 := Lib.hid k6
      have R1 := Lib.hid (show bits .xor .u32 (bits .xor .u32 (p1 : Int) (p2 : Int)) (p3 : Int) = (y1 : Int) by
        rw [hp1, hp2, hp3, hy1, xor_n (Sha.rr_lt _ mE) (Sha.rr_lt _ mE), xor_n (Sha.xor_lt (Sha.rr_lt _ mE) (Sha.rr_lt _ mE)) (Sha.rr_lt _ mE)]; rfl)
      have R3 := Lib.hid (show bits .xor .u32 (bits .xor .u32 (p4 : Int) (p5 : Int)) (p6 : Int) = (y3 : Int) by
        rw [hp4, hp5, hp6, hy3, xor_n (Sha.rr_lt _ mA) (Sha.rr_lt _ mA), xor_n (Sha.xor_lt (Sha.rr_lt _ mA) (Sha.rr_lt _ mA)) (Sha.rr_lt _ mA)]; rfl)
      have c2 := chh_val mE mF mG
      have c4 := maj_val mA mB mC
      rw [← hy2] at c2
      rw [← hy4] at c4
      have R2 := Lib.hid c2
      have R4 := Lib.hid c4
      have HY := Lib.hid (show y1 = Sha.bs1 E ∧ y2 = Sha.chh E F G ∧ y3 = Sha.bs0 A ∧ y4 = Sha.maj A B C from ⟨hy1, hy2, hy3, hy4⟩)
      have ly1 : y1 < 4294967296 := by rw [hy1]; exact Sha.bs1_lt mE
      have ly2 : y2 < 4294967296 := by rw [hy2]; exact Sha.chh_lt mE
      have ly3 : y3 < 4294967296 := by rw [hy3]; exact Sha.bs0_lt mA
      have ly4 : y4 < 4294967296 := by rw [hy4]; exact Sha.maj_lt mA mB
      clear k1 k2 k3 k4 k5 k6 hy1 hy2 hy3 hy4 hp1 hp2 hp3 hp4 hp5 hp6 c2 c4
      have q0 : wr.cell? ⟨V, 0, none⟩ = some (.int .u32 A) := hbv.cell rfl
      have q1 : wr.cell? ⟨V, 1, none⟩ = some (.int .u32 B) := hbv.cell rfl
      have q2 : wr.cell? ⟨V, 2, none⟩ = some (.int .u32 C) := hbv.cell rfl
      have q3 : wr.cell? ⟨V, 3, none⟩ = some (.int .u32 D) := hbv.cell rfl
      have q4 : wr.cell? ⟨V, 4, none⟩ = some (.int .u32 E) := hbv.cell rfl
      have q5 : wr.cell? ⟨V, 5, none⟩ = some (.int .u32 F) := hbv.cell rfl
      have q6 : wr.cell? ⟨V, 6, none⟩ = some (.int .u32 G) := hbv.cell rfl
      have q7 : wr.cell? ⟨V, 7, none⟩ = some (.int .u32 H) := hbv.cell rfl
      go_wp2_with fail
      go_quiet (fail)
      obtain ⟨w5, hw5⟩ : ∃ w5, w5 = wr.drewN nq := ⟨_, rfl⟩
      have h5 : Below wr.heap.size wr w5 := by rw [hw5]; exact below_drewN (Below.refl _ _) nq
      rw [← hw5]
      have hbv5 := hbv.past h5 hbv.lt
      have hkr5 : Keep (fun q => q ≠ V) w4 w5 := hkr.trans ((Keep.of_below h5).mono (fun q hq => trivial))
      have ckt : w5.cell? ⟨2, t, none⟩ = some (.int .u32 kt) := cell_past ckt0 h5
      have cwt : w5.cell? ⟨T, t, none⟩ = some (.int .u32 wt) := cell_past cwt0 h5
      clear hw5 h5 hbv hkr ckt0 cwt0 q0 q1 q2 q3 q4 q5 q6 q7
      go_wp2_with fail
      refine (K1.out _).mono ?_
      rintro e w6 ⟨rfl, rfl⟩
      go_wp2_with fail
      refine (K2.out _).mono ?_
      rintro e w6 ⟨rfl, rfl⟩
      go_wp2_with fail
      refine (K3.out _).mono ?_
      rintro e w6 ⟨rfl, rfl⟩
      go_wp2_with fail
      all_goals try (exfalso; revert h; decide)
      clear h
      rw [R1.out, R2.out]
      go_quiet (fail)
      obtain ⟨t1, ht1⟩ : ∃ t1, t1 = Sha.ad (Sha.ad (Sha.ad (Sha.ad H y1) y2) kt) wt := ⟨_, rfl⟩
      obtain ⟨t2, ht2⟩ : ∃ t2, t2 = Sha.ad y3 y4 := ⟨_, rfl⟩
      have lt1 : t1 < 4294967296 := by rw [ht1]; exact Sha.ad_lt _ _
      have lt2 : t2 < 4294967296 := by rw [ht2]; exact Sha.ad_lt _ _
      have HT1 := Lib.hid (show (((H : Int) + y1 + y2 + kt) % 4294967296 + wt) % 4294967296 = (t1 : Int) by rw [ht1]; unfold Sha.ad; omega)
      have HT2 := Lib.hid (show ((y3 : Int) + y4) % 4294967296 = (t2 : Int) by rw [ht2]; unfold Sha.ad; omega)
      have HN2 := Lib.hid (show Sha.rnds S ⟨a0, b0, c0, d0, e0, f0, g0, h0⟩ (t + 1) = ⟨Sha.ad t1 t2, A, B, C, Sha.ad D t1, E, F, G⟩ by
        rw [HN.out, ht1, ht2, HY.out.1, HY.out.2.1, HY.out.2.2.1, HY.out.2.2.2]; rfl)
      rw [HT1.out]
      obtain ⟨w6, hw6⟩ : ∃ w6, w6 = w5.drewN nq := ⟨_, rfl⟩
      have h6 : Below w5.heap.size w5 w6 := by rw [hw6]; exact below_drewN (Below.refl _ _) nq
      rw [← hw6]
      have hbv6 := hbv5.past h6 hbv5.lt
      have hkr6 : Keep (fun q => q ≠ V) w4 w6 := hkr5.trans ((Keep.of_below h6).mono (fun q hq => trivial))
      clear hw6 h6 hbv5 hkr5 ckt cwt ht1 ht2 HN HT1
      go_wp2_with fail
      refine (K4.out _).mono ?_
      rintro e w7 ⟨rfl, rfl⟩
      go_wp2_with fail
      refine (K5.out _).mono ?_
      rintro e w7 ⟨rfl, rfl⟩
      go_wp2_with fail
      refine (K6.out _).mono ?_
      rintro e w7 ⟨rfl, rfl⟩
      go_upto_region 12 with (fail)
      rw [R3.out, R4.out]
      go_upto_region 13 with (fail)
      rw [HT2.out]
      go_wp2_with (refine wp_storeA 81 (.tmp 6) (.tmp 109) rfl rfl V rfl 81 (w32s (Sha.St.mk A B C D E F G H).list) _ rfl hbv6 (by rw [info_8]; rfl) rfl (by intro u hu; simp only [List.mem_cons, List.not_mem_nil, or_false] at hu; rcases hu with rfl | rfl | rfl | rfl | rfl | rfl | rfl | rfl <;> rfl) rfl ?_; intro w7 hbv7 hkr7)
      have hbv8 : Blk w7 V 81 (w32s (Sha.St.mk (Sha.ad t1 t2) A B C (Sha.ad D t1) E F G).list) := by
        have h := hbv7
        rw [ad_mod, ad_mod] at h
        exact h
      have hkr8 : Keep (fun q => q ≠ V) w4 w7 := hkr6.trans hkr7
      go_roundw
      case rel => exact ⟨t + 1, ⟨Sha.ad t1 t2, A, B, C, Sha.ad D t1, E, F, G⟩, by go_num, by omega, Lib.hid HN2.out.symm, ⟨Sha.ad_lt _ _, mA, mB, mC, Sha.ad_lt _ _, mE, mF, mG⟩, hbv8, hkr8⟩
      case measure => simp [intOf]; omega
    · have HP := Lib.hid (show Sha.cmp ⟨a0, b0, c0, d0, e0, f0, g0, h0⟩ l = Sha.plus ⟨a0, b0, c0, d0, e0, f0, g0, h0⟩ ⟨A, B, C, D, E, F, G, H⟩ by
        rw [HR.out, show t = 64 by omega, HS.out]; rfl)
      have hx5 := hx4.keep hkr (by omega)
      have hr5 := hr4.keep hkr (by omega)
      have hbl5 : Below w.heap.size w wr := hbl4.trans (hkr.below (n := w.heap.size) (fun q hq => by omega) hbl4.size)
      clear hx4 hr4 hbl4 hkk4 hbw4 hbv4 hkr
      obtain ⟨PL, hPL⟩ : ∃ PL, PL = Sha.plus ⟨a0, b0, c0, d0, e0, f0, g0, h0⟩ ⟨A, B, C, D, E, F, G, H⟩ := ⟨_, rfl⟩
      have HPL := Lib.hid hPL
      have hxV := hbv.lt
      obtain ⟨w6, hw6⟩ : ∃ w6, w6 = wr := ⟨_, rfl⟩
      rw [← hw6] at hx5 hr5 hbl5 hbv hxV ⊢
      clear hPL hw6
      go_wp2_with fail
      go_loopw [22] (fun i wq => ∃ k : Nat, i = .int .i64 k ∧ k ≤ 8 ∧ Blk wq w.heap.size 81 (w32s (PL.list.take k ++ (Sha.St.mk a0 b0 c0 d0 e0 f0 g0 h0).list.drop k)) ∧ Keep (fun q => q ≠ w.heap.size) w6 wq) (fun i _ => (8 - intOf i).toNat)
      case atStart => exact ⟨0, rfl, by omega, hx5, Keep.refl _ _⟩
      case round =>
        obtain ⟨k, rfl, hk8, hbq, hkq⟩ := hrel
        by_cases hlt8 : k < 8
        · have hkq2 := hkq
          have hput : ∀ W, Blk W w.heap.size 81 (w32s (PL.list.take k ++ (Sha.St.mk a0 b0 c0 d0 e0 f0 g0 h0).list.drop k)) → Keep (fun q => q ≠ w.heap.size) w6 W → ∀ z : Nat, PL.list[k]? = some z →
              Blk (W.setCell ⟨w.heap.size, k, none⟩ (.int .u32 z)) w.heap.size 81 (w32s (PL.list.take (k + 1) ++ (Sha.St.mk a0 b0 c0 d0 e0 f0 g0 h0).list.drop (k + 1))) ∧ Keep (fun q => q ≠ w.heap.size) w6 (W.setCell ⟨w.heap.size, k, none⟩ (.int .u32 z)) := by
            intro W hB hK z hz
            refine ⟨?_, hK.trans (Keep.setCell _ _ _ (fun h => h rfl))⟩
            have h := hB.set k (w32 z)
            rw [← w32s_set, mix_set PL _ hlt8 hz] at h
            exact h
          have HPUT := Lib.hid hput
          clear hput
          obtain ⟨x, hx⟩ : ∃ x, [A, B, C, D, E, F, G, H][k]? = some x := ⟨_, List.getElem?_eq_getElem (by simpa using hlt8)⟩
          obtain ⟨y, hy⟩ : ∃ y, (Sha.St.mk a0 b0 c0 d0 e0 f0 g0 h0).list[k]? = some y := ⟨_, List.getElem?_eq_getElem (by simpa [Sha.St.list] using hlt8)⟩
          have hpz : PL.list[k]? = some (Sha.ad y x) := by rw [HPL.out]; exact plus_get ⟨a0, b0, c0, d0, e0, f0, g0, h0⟩ ⟨A, B, C, D, E, F, G, H⟩ hy hx
          have hbvr := hbv.keep hkq (by omega)
          have cv : wr.cell? ⟨V, k, none⟩ = some (.int .u32 x) := by
            refine hbvr.cell ?_
            show ([A, B, C, D, E, F, G, H].map w32)[k]? = _
            rw [List.getElem?_map, hx]; rfl
          have cq : wr.cell? ⟨w.heap.size, k, none⟩ = some (.int .u32 y) := by
            refine hbq.cell ?_
            unfold w32s
            rw [List.getElem?_map, List.getElem?_append_right (by rw [List.length_take, PL.list_len]; omega)]
            rw [List.length_take, PL.list_len, show k - min k 8 = 0 by omega, List.getElem?_drop, Nat.add_zero, hy]
            rfl
          have HPZ := Lib.hid hpz
          clear hx hy hpz hbvr
          go_wp2_with fail
          go_still_tail 9, (by kernel_rfl)
          change wpList _ _ _ _ _ wr.drew
          rw [ad_n]
          have hbd := hbq.past (Below.refl wr.heap.size wr).drew hbq.lt
          have hkd : Keep (fun q => q ≠ w.heap.size) w6 wr.drew := hkq2.trans (Keep.of_below (Below.refl wr.heap.size wr).drew)
          have HE := Lib.hid (HPUT.out wr.drew hbd hkd (Sha.ad y x) HPZ.out)
          have fq := hbd.frozen k
          have cd : wr.drew.cell? ⟨w.heap.size, k, none⟩ = some (.int .u32 y) := cq
          obtain ⟨z, hz⟩ : ∃ z, z = Sha.ad y x := ⟨_, rfl⟩
          obtain ⟨wd, hwd⟩ : ∃ wd, wd = wr.drew := ⟨_, rfl⟩
          rw [← hz, ← hwd] at HE
          rw [← hwd] at fq cd ⊢
          rw [← hz]
          clear hz hwd hbd hkd hbq hkq hkq2 cq cv
          go_wp2
          go_roundw
          case rel => exact ⟨k + 1, by go_num, by omega, HE.out.1, HE.out.2⟩
          case measure => simp [intOf]; omega
        · have hbf : Blk wr w.heap.size 81 (w32s PL.list) := by
            have h := hbq
            rw [show k = 8 by omega] at h
            exact h
          have hrf := hr5.keep hkq (by omega)
          have hblf : Below w.heap.size w wr := hbl5.trans (hkq.below (n := w.heap.size) (fun q hq => by omega) hbl5.size)
          clear hbq hkq hr5 hbl5
          go_upto_region 18 with (fail)
          refine wp_region_lit ?_
          refine wp_loadA 81 (.tmp 2) rfl rfl w.heap.size rfl 81 _ 8 80 hbf Tryd.underlying81 (by rw [info_8, st_len]) ?_
          refine wp_storeA 81 (.tmp 4) (.tmp 123) rfl rfl (w.heap.size + 1) rfl 81 (w32s z8) (w32s PL.list) rfl hrf (by rw [info_8, st_len]) rfl (w32s_one _) rfl ?_
          intro w9 hr9 hk9
          have hbl9 := hblf.trans (hk9.below (n := w.heap.size) (fun q hq => by omega) hblf.size)
          clear hbf hrf hblf hk9
          go_wp2
          refine ret_arr Tryd.results87 rfl (w.heap.size + 1) 81 _ 8 80 rfl hr9 Tryd.underlying81 (by rw [info_8, st_len]) ?_
          rw [HP.out, ← HPL.out]
          exact ⟨rfl, hbl9⟩
end

section
open Go.RowKit
set_option linter.unusedVariables false
set_option linter.unusedSimpArgs false
section
variable {P : Program} {ops : Array Oper}

theorem still_run {w : World} {Q : Act → Prop} {a : Act} {o : Oper} {rest : List Oper} {v : Value} (hw : Region.wanted o (yielded ops a.tmps) = true) (h : (execOp a.eval o).run P w = .ok (.value v) w)
    (hn : wpStill P ops w Q rest (a.put o.dst v)) : wpStill P ops w Q (o :: rest) a := by
  unfold wpStill
  rw [if_pos hw]
  unfold Oper.still
  rw [h, Oper.stillUpon_value]
  exact hn

theorem exec_loadB {o : Oper} {a : Act} {w : World} (ty : TypeId) {x : Operand} (ho : o.op = .load ty x) (g : Nat) (hx : a.eval x = .pointer (some ⟨g, 0, none⟩)) (t : TypeId) (l : List Value) (n : Nat) (e : TypeId) (hg : Blk w g t l)
    (hu : P.underlying ty = some (.array n e)) (hi : (P.info? ty).map (·.size) = some l.length) : (execOp a.eval o).run P w = .ok (.value (.agg l.toArray)) w := by
  unfold execOp
  simp only [ho, hx, Instr.loadAt, Instr.sureAddr, Sem.run_bind, Sem.run_pure, Result.andThen_ok, run_loadVar_row w g t ty l.toArray (0, 0) _ hg hu rfl (by simpa using hi)]

/-- 'x[lo:hi]' -/
theorem still_cut {w : World} {Q : Act → Prop} {a : Act} {o : Oper} {rest : List Oper} {size : Nat} (t e : TypeId) (ht : P.underlying t = some (.slice e)) (hz : (P.info? e).map (·.size) = some size)
    (x : Operand) (lo hi : Option Operand) (ho : o.op = .slice t x lo hi none) (hw : Region.wanted o (yielded ops a.tmps) = true) {B n : Nat} {A : Option Addr} {cap : Nat} {xs : List Value} (hx : a.eval x = .slice A n cap) (hr : Row w B size n (.slice A n cap) xs)
    (i k : Nat) (hlo : (lo.map a.eval = none ∧ i = 0) ∨ ∃ q I, lo.map a.eval = some (.int q I) ∧ I = (i : Int)) (hhi : (hi.map a.eval = none ∧ i + k = n) ∨ ∃ q I, hi.map a.eval = some (.int q I) ∧ I = ((i + k : Nat) : Int))
    (hj : i + k ≤ n)
    (h : ∀ A' cap', Row w B size k (.slice A' k cap') ((xs.drop (i * size)).take (k * size)) → wpStill P ops w Q rest (a.put o.dst (.slice A' k cap'))) : wpStill P ops w Q (o :: rest) a := by
  obtain ⟨A', cap', hrun, hrow⟩ := run_cut (P := P) t e ht hz hr (lo.map a.eval) (hi.map a.eval) i k hlo hhi hj
  refine still_run hw (v := .slice A' k cap') ?_ (h A' cap' hrow)
  exact exec_slice ho (by rw [hx]; exact hrun)
end
end

section
open Go.RowKit
set_option linter.unusedVariables false
set_option linter.unusedSimpArgs false

theorem cut_part {w : World} {B : Nat} {v : Value} {b : List UInt8} {i k : Nat} (h : Row w B 1 k v (((u8s b).drop (i * 1)).take (k * 1))) (hk : i + k ≤ b.length) : Bs w B v ((b.drop i).take k) := by
  have e : ((b.drop i).take k).length = k := by simp; omega
  unfold Bs
  rw [e]
  have e2 : ((u8s b).drop (i * 1)).take (k * 1) = u8s ((b.drop i).take k) := by
    rw [Nat.mul_one, Nat.mul_one]
    simp [u8s, List.map_take, List.map_drop]
  rwa [e2] at h

set_option maxRecDepth 100000 in
set_option maxHeartbeats 2000000 in
theorem rblocks_any (s : Sha.St) (v : Value) (l : List UInt8) (m : Nat) (w : World) (hv : Bs w w.heap.size v l) (hl : l.length = 64 * m) (hm : m ≤ 100000) (hs : s.ok) (hk : KIs 2 w) :
    Calls Tryd.prog 75 #[.agg (w32s s.list).toArray, v] w fun e w' => e = .returned (.agg (w32s (Sha.blks m s l).list).toArray) ∧ Below w.heap.size w w' := by
  obtain ⟨A, cap, rfl⟩ := hv.form
  obtain ⟨bl, hbl⟩ : ∃ bl : Nat → Sha.St, ∀ k, bl k = Sha.blks k s l := ⟨fun k => Sha.blks k s l, fun _ => rfl⟩
  have hbl0 : bl 0 = s := hbl 0
  have HBLS := Lib.hid (show ∀ k, Sha.cmp (bl k) ((l.drop (64 * k)).take 64) = bl (k + 1) from fun k => by rw [hbl k, hbl (k + 1), Sha.blks_snoc])
  have HBLO := Lib.hid (show ∀ k, (bl k).ok from fun k => by rw [hbl k]; exact Sha.blks_ok k l hs)
  rw [← hbl m]
  clear hbl hs
  have hz := zero_8
  obtain ⟨W0, hW0⟩ : ∃ W0, W0 = (w.alloc (.cells (w32s s.list).toArray 81)).alloc (.cells (w32s z8).toArray 81) := ⟨_, rfl⟩
  have hb0 : Below w.heap.size w W0 := by rw [hW0]; exact ((Below.refl _ _).alloc (Nat.le_refl _) _).alloc (by simp) _
  have hx0 : Blk W0 w.heap.size 81 (w32s (bl 0).list) := by
    rw [hW0, hbl0]
    exact (Blk.new w _ _).past ((Below.refl _ _).alloc (Nat.le_refl _) _) (by simp)
  have hr0 : Blk W0 (w.heap.size + 1) 81 (w32s z8) := by
    have h := Blk.new (w.alloc (.cells (w32s s.list).toArray 81)) 81 (w32s z8)
    rw [World.size_alloc] at h
    rw [hW0]; exact h
  have HW0 := Lib.hid hW0
  have HL := Lib.hid hl
  have HV := Lib.hid hv
  obtain ⟨n, hn⟩ : ∃ n, n = l.length := ⟨_, rfl⟩
  have HNM : Hid (n = 64 * m) := Lib.hid (by omega)
  have hnb : n ≤ 6400000 := by omega
  have hv' : ∀ W, Below w.heap.size w W → Bs W W.heap.size (.slice A n cap) l := fun W hb => by rw [hn]; exact HV.out.past hb
  have HV2 := Lib.hid hv'
  have hcap : n ≤ cap := by rw [hn]; exact Row.cap (show Row w w.heap.size 1 l.length (.slice A l.length cap) (u8s l) from hv)
  rw [← hn]
  clear hW0 hl hv hn hv' HV
  go_enter Tryd.func75, Tryd.ntmps75
  go_wp2_with fail
  rw [← HW0.out]
  clear hz
  go_loopw [5] (fun i wr => ∃ (k j : Nat), i = .int .i64 j ∧ Hid (j = 64 * k) ∧ j ≤ n ∧ k ≤ m ∧ Blk wr w.heap.size 81 (w32s (bl k).list) ∧ Blk wr (w.heap.size + 1) 81 (w32s z8) ∧ Below w.heap.size w wr) (fun i _ => n - (intOf i).toNat)
  case atStart => exact ⟨0, 0, rfl, Lib.hid rfl, by omega, by omega, hx0, hr0, hb0⟩
  case round =>
    clear hx0 hr0 hb0
    obtain ⟨k, j, rfl, HJ, hj, hkm, hx, hr, hb⟩ := hrel
    by_cases hlt : (j : Int) + 64 ≤ (n : Int)
    · have hvr := HV2.out wr hb
      have hrow : Row wr wr.heap.size 1 n (.slice A n cap) (u8s l) := by
        have e : l.length = n := by have := HL.out; have := HNM.out; omega
        have h := hvr
        unfold Bs at h
        rwa [e] at h
      have hso : (bl k).ok := HBLO.out k
      have hnx : Sha.cmp (bl k) ((l.drop j).take 64) = bl (k + 1) := by rw [HJ.out]; exact HBLS.out k
      go_wp2_with fail
      refine wp_region_still_tail 6 (by kernel_rfl) (by kernel_rfl) ?_
      simp only [List.take_succ_cons, List.take_zero, List.drop_succ_cons, List.drop_zero]
      refine still_run rfl (exec_loadB 81 rfl w.heap.size rfl 81 _ 8 80 hx Tryd.underlying81 (by rw [info_8, st_len])) ?_
      still_step
      still_step
      still_step
      still_step
      refine still_cut (B := wr.heap.size) 22 5 Tryd.underlying22 size_u8 (.tmp 14) (some (.tmp 15)) (some (.tmp 17)) rfl rfl rfl (hrow.carry (Below.refl wr.heap.size wr).drew (Nat.le_refl _)) j 64 (.inr ⟨_, _, rfl, rfl⟩) (.inr ⟨_, _, rfl, by rw [IntKind.wrap_i64]; omega⟩) (by omega) ?_
      intro A1 c1 hrow1
      refine wpStill_nil ?_
      change wpList _ _ _ _ _ wr.drew
      have hvb := cut_part hrow1 (by have := HL.out; have := HNM.out; omega)
      have hbd : Below wr.heap.size wr wr.drew := (Below.refl _ _).drew
      have hxd := hx.past hbd hx.lt
      have hrd := hr.past hbd hr.lt
      have hbb : Below w.heap.size w wr.drew := hb.drew
      have hkd := hk.past hbb
      have hvb' : Bs wr.drew wr.drew.heap.size (.slice A1 64 c1) ((l.drop j).take 64) := hvb
      have hl64 : ((l.drop j).take 64).length = 64 := by have := HL.out; have := HNM.out; simp; omega
      obtain ⟨w5, hw5⟩ : ∃ w5, w5 = wr.drew := ⟨_, rfl⟩
      rw [← hw5] at hxd hrd hbb hkd hvb' ⊢
      clear hrow1 hvb hbd hx hr hb hvr hrow hw5
      have hc := rcompress_any (bl k) _ _ w5 hvb' hl64 hso hkd
      rw [hnx] at hc
      have HC := Lib.hid hc
      have HK1 : Hid (j + 64 = 64 * (k + 1)) := Lib.hid (by have := HJ.out; omega)
      clear hc hvb' hl64 hkd hnx hso
      go_wp2_with fail
      refine HC.out.mono ?_
      rintro e w6 ⟨rfl, b6⟩
      have hx6 := hxd.past b6 hxd.lt
      have hr6 := hrd.past b6 hrd.lt
      have hb6 := hbb.trans (b6.mono hbb.size)
      have hs6 : w.heap.size + 1 < w6.heap.size := hr6.lt
      clear hxd hrd hbb b6
      go_wp2_with (refine wp_storeA 81 (.tmp 2) (.tmp 19) rfl rfl w.heap.size rfl 81 (w32s (bl k).list) (w32s (bl (k + 1)).list) rfl hx6 (by rw [info_8, st_len]) rfl (w32s_one _) rfl ?_; intro w7 hx7 hk7)
      have hr7 := hr6.keep hk7 (by omega)
      have hb7 : Below w.heap.size w w7 := hb6.trans (hk7.below (n := w.heap.size) (fun q hq => by omega) hb6.size)
      go_roundw
      case rel => exact ⟨k + 1, j + 64, by go_num, HK1, by omega, by have := HK1.out; have := HNM.out; omega, hx7, hr7, hb7⟩
      case measure => simp [intOf]; omega
    · have hkk : k = m := by have := HJ.out; have := HNM.out; omega
      have HP := Lib.hid (show bl m = bl k by rw [hkk])
      have hsr : w.heap.size + 1 < wr.heap.size := hr.lt
      clear hkk
      go_upto_region 5 with (fail)
      refine wp_region_lit ?_
      refine wp_loadA 81 (.tmp 2) rfl rfl w.heap.size rfl 81 _ 8 80 hx Tryd.underlying81 (by rw [info_8, st_len]) ?_
      refine wp_storeA 81 (.tmp 4) (.tmp 20) rfl rfl (w.heap.size + 1) rfl 81 (w32s z8) (w32s (bl k).list) rfl hr (by rw [info_8, st_len]) rfl (w32s_one _) rfl ?_
      intro w9 hr9 hk9
      have hbl9 := hb.trans (hk9.below (n := w.heap.size) (fun q hq => by omega) hb.size)
      clear hx hr hb hk9
      go_wp2
      refine ret_arr Tryd.results75 rfl (w.heap.size + 1) 81 _ 8 80 rfl hr9 Tryd.underlying81 (by rw [info_8, st_len]) ?_
      rw [HP.out]
      exact ⟨rfl, hbl9⟩
end
end Go.Proofs.YtccepoeenkpifaaDoor
