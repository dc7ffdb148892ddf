/-
  Walks of package sha256: the compression function.
-/
import Derived.Test.YtnfhdjmehhapiaaDoorShD
namespace Go.Proofs.YtnfhdjmehhapiaaDoor
open Go.RowKit
set_option linter.unusedVariables false
set_option linter.unusedSimpArgs false

/-- The table of the round constants, as variable b. -/
def KIs (b : Nat) (w : World) : Prop := ∀ t : Nat, t < 64 → w.cell? ⟨b, t, none⟩ = some (.int .u32 (Sha.Kn t))
theorem KIs.keep {b : Nat} {w w' : World} {O : Nat → Prop} (h : KIs b w) (hk : Keep O w w') (hO : O b) : KIs b w' := fun t ht => hk.cell (p := ⟨b, t, none⟩) hO (h t ht)
theorem KIs.past {b : Nat} {w w' : World} (h : KIs b w) (hb : Below w.heap.size w w') : KIs b w' := fun t ht => cell_past (h t ht) hb

theorem kis_of {b : Nat} {w : World} (h : ∀ i u, (w32s Sha.Kl)[i]? = some u → w.cell? ⟨b, i, none⟩ = some u) : KIs b w := fun t ht => by
  refine h t _ ?_
  have hl : t < Sha.Kl.length := by show t < 64; exact ht
  unfold w32s Sha.Kn
  rw [List.getElem?_map, List.getElem?_eq_getElem hl, List.getD_eq_getElem?_getD, List.getElem?_eq_getElem hl]
  rfl

theorem sch_get (l : List UInt8) (t : Nat) (ht : t < 64) : (w32s (Sha.sch l))[t]? = some (.int .u32 ((Sha.sch l).getD t 0)) := by
  have h1 : t < (Sha.sch l).length := by rw [Sha.sch_len]; exact ht
  have h2 : (Sha.sch l).getD t 0 = (Sha.sch l)[t] := by simp [List.getD, List.getElem?_eq_getElem h1]
  rw [h2]
  simp [w32s, w32, List.getElem?_eq_getElem h1]

theorem ad_mod (a b : Nat) : ((a : Int) + (b : Int)) % 4294967296 = (Sha.ad a b : Int) := by unfold Sha.ad; omega
theorem mix_set (P S : Sha.St) {k z : Nat} (hk : k < 8) (hz : P.list[k]? = some z) : (P.list.take k ++ S.list.drop k).set k z = P.list.take (k + 1) ++ S.list.drop (k + 1) := by
  obtain ⟨a, b, c, d, e, f, g, h⟩ := P
  obtain ⟨a', b', c', d', e', f', g', h'⟩ := S
  have hcases : k = 0 ∨ k = 1 ∨ k = 2 ∨ k = 3 ∨ k = 4 ∨ k = 5 ∨ k = 6 ∨ k = 7 := by omega
  rcases hcases with rfl | rfl | rfl | rfl | rfl | rfl | rfl | rfl <;> (simp [Sha.St.list] at hz ⊢; exact hz.symm)
theorem Sha.St.list_len (S : Sha.St) : S.list.length = 8 := rfl
theorem plus_get (P S : Sha.St) {k x y : Nat} (hy : P.list[k]? = some y) (hx : [S.a, S.b, S.c, S.d, S.e, S.f, S.g, S.h][k]? = some x) : (Sha.plus P S).list[k]? = some (Sha.ad y x) := by
  have hk : k < 8 := by have := (List.getElem?_eq_some_iff.1 hy).1; rwa [P.list_len] at this
  have hcases : k = 0 ∨ k = 1 ∨ k = 2 ∨ k = 3 ∨ k = 4 ∨ k = 5 ∨ k = 6 ∨ k = 7 := by omega
  rcases hcases with rfl | rfl | rfl | rfl | rfl | rfl | rfl | rfl <;> (simp [Sha.St.list, Sha.plus] at hx hy ⊢; rw [hx, hy])
theorem size_u32 : (Tryd.prog.info? 62).map (·.size) = some 1 := by kernel_rfl
theorem info_st : (Tryd.prog.info? 64).map (·.size) = some 8 := by kernel_rfl

set_option maxRecDepth 100000 in
set_option maxHeartbeats 1000000 in
theorem compress_any (sb : Nat) (s : Sha.St) (v : Value) (l : List UInt8) (w : World) (hv : Bs w w.heap.size v l) (hl : l.length = 64) (hs : s.ok) (hb : Blk w sb 64 (w32s s.list)) (hk : KIs 0 w) :
    Calls Tryd.prog 47 #[.pointer (some ⟨sb, 0, none⟩), v] w fun e w' => (∃ v, e = .returned v) ∧ Blk w' sb 64 (w32s (Sha.cmp s l).list) ∧ Keep (fun q => q ≠ sb) w w' := by
  have hz := zero_64
  have hc := schedule_any v l w hv hl
  have HC := Lib.hid hc
  have HL := Lib.hid hl
  clear hl hc
  go_enter Tryd.func47, Tryd.ntmps47
  go_wp2_with fail
  refine HC.out.mono ?_
  rintro e w2 ⟨rfl, hb2⟩
  have hbs2 := hb.past hb2 hb.lt
  have hk2 := hk.past hb2
  have hsb : sb < w.heap.size := hb.lt
  obtain ⟨S, hS⟩ : ∃ S, S = Sha.sch l := ⟨_, rfl⟩
  have hSl : S.length = 64 := by rw [hS, Sha.sch_len]
  have hSw : Sha.Ws S := by rw [hS]; exact Sha.sch_ws l
  have hSg : ∀ t, t < 64 → (w32s S)[t]? = some (.int .u32 (S.getD t 0)) := by rw [hS]; exact sch_get l
  rw [← hS]
  have HS := Lib.hid hS
  have HSL := Lib.hid (show (w32s S).length = 64 by rw [w32s_length, hSl])
  have HSG := Lib.hid hSg
  have hs2 := hb2.size
  clear hS hSl hSg hb hk hv
  go_wp2_with (refine wp_storeA 75 (.tmp 4) (.tmp 20) rfl rfl w2.heap.size rfl 75 z64 _ rfl (Blk.new w2 _ _) (by rw [info_64, HSL.out]) (by rw [HSL.out]; rfl) (w32s_one _) rfl ?_; intro w3 hbw3 hk3)
  have hs3 := hk3.size
  rw [World.size_alloc] at hs3
  have ha2 : Keep (fun q => q < w2.heap.size) w2 (w2.alloc (.cells z64.toArray 75)) := Keep.of_below ((Below.refl _ _).alloc (Nat.le_refl _) _)
  have hka : Keep (fun q => q < w2.heap.size) w2 w3 := ha2.trans (hk3.mono (fun q hq => by omega))
  have hb3 : Below w.heap.size w w3 := hb2.trans (hka.below (fun q hq => by omega) hs2)
  have hbs3 := hbs2.keep hka (by omega)
  have hk3' : KIs 0 w3 := fun t ht => hka.cell (p := ⟨_, t, none⟩) (block_lt_of_cell (hk2 t ht)) (hk2 t ht)
  obtain ⟨T, hT⟩ : ∃ T, T = w2.heap.size := ⟨_, rfl⟩
  rw [← hT] at hbw3 hs2 hs3 ⊢
  clear hbs2 hk2 hb2 ha2 hka hk3 hz HC hT
  obtain ⟨a0, b0, c0, d0, e0, f0, g0, h0⟩ := s
  obtain ⟨la, lb, lc, ld, le, lf, lg, lh⟩ := hs
  simp only at la lb lc ld le lf lg lh
  have q0 : w3.cell? ⟨sb, 0, none⟩ = some (.int .u32 a0) := hbs3.cell rfl
  have q1 : w3.cell? ⟨sb, 1, none⟩ = some (.int .u32 b0) := hbs3.cell rfl
  have q2 : w3.cell? ⟨sb, 2, none⟩ = some (.int .u32 c0) := hbs3.cell rfl
  have q3 : w3.cell? ⟨sb, 3, none⟩ = some (.int .u32 d0) := hbs3.cell rfl
  have q4 : w3.cell? ⟨sb, 4, none⟩ = some (.int .u32 e0) := hbs3.cell rfl
  have q5 : w3.cell? ⟨sb, 5, none⟩ = some (.int .u32 f0) := hbs3.cell rfl
  have q6 : w3.cell? ⟨sb, 6, none⟩ = some (.int .u32 g0) := hbs3.cell rfl
  have q7 : w3.cell? ⟨sb, 7, none⟩ = some (.int .u32 h0) := hbs3.cell rfl
  go_quiet (fail)
  obtain ⟨w4, hw4⟩ : ∃ w4, w4 = w3.drewN nq := ⟨_, rfl⟩
  have h34 : Below w3.heap.size w3 w4 := by rw [hw4]; exact below_drewN (Below.refl _ _) nq
  rw [← hw4]
  have hbs4 := hbs3.past h34 hbs3.lt
  have hbw4 := hbw3.past h34 hbw3.lt
  have hk4 := hk3'.past h34
  have hb4 := hb3.trans (h34.mono (by omega))
  have hs4 : T + 1 ≤ w4.heap.size := by have := h34.size; omega
  clear hw4 h34 hbs3 hbw3 hk3' hb3 hs3 q0 q1 q2 q3 q4 q5 q6 q7
  go_wp2_with fail
  go_loopw [5, 6, 7, 8, 9, 10, 11, 12, 53] (fun va vb vc vd ve vf vg vh i wr => ∃ (t : Nat) (r : Sha.St), i = .int .i64 t ∧ t ≤ 64 ∧ Hid (r = Sha.rnds S ⟨a0, b0, c0, d0, e0, f0, g0, h0⟩ t) ∧ r.ok ∧
      va = .int .u32 r.a ∧ vb = .int .u32 r.b ∧ vc = .int .u32 r.c ∧ vd = .int .u32 r.d ∧ ve = .int .u32 r.e ∧ vf = .int .u32 r.f ∧ vg = .int .u32 r.g ∧ vh = .int .u32 r.h ∧ Below w4.heap.size w4 wr) (fun _ _ _ _ _ _ _ _ i _ => (64 - intOf i).toNat)
  case atStart => exact ⟨0, ⟨a0, b0, c0, d0, e0, f0, g0, h0⟩, rfl, by omega, rfl, ⟨la, lb, lc, ld, le, lf, lg, lh⟩, rfl, rfl, rfl, rfl, rfl, rfl, rfl, rfl, Below.refl _ _⟩
  case round =>
    obtain ⟨t, ⟨A, B, C, D, E, F, G, H⟩, rfl, ht, HR, ⟨mA, mB, mC, mD, mE, mF, mG, mH⟩, rfl, rfl, rfl, rfl, rfl, rfl, rfl, rfl, hbl⟩ := hrel
    simp only at mA mB mC mD mE mF mG mH
    by_cases hlt : t < 64
    · obtain ⟨kt, hkt⟩ : ∃ k, k = Sha.Kn t := ⟨_, rfl⟩
      obtain ⟨wt, hwt⟩ : ∃ k, k = S.getD t 0 := ⟨_, rfl⟩
      have ckt : wr.cell? ⟨0, t, none⟩ = some (.int .u32 kt) := by rw [hkt]; exact cell_past (hk4 t hlt) hbl
      have cwt : wr.cell? ⟨T, t, none⟩ = some (.int .u32 wt) := by rw [hwt]; exact cell_past (hbw4.cell (HSG.out t hlt)) hbl
      have lkt : kt < 4294967296 := by rw [hkt]; exact Sha.Kn_lt t
      have lwt : wt < 4294967296 := by rw [hwt]; exact hSw.getD t
      have HN := Lib.hid (show Sha.rnds S ⟨a0, b0, c0, d0, e0, f0, g0, h0⟩ (t + 1) = Sha.rnd kt wt ⟨A, B, C, D, E, F, G, H⟩ by
        rw [hkt, hwt, HR.out]; rfl)
      obtain ⟨y1, hy1⟩ : ∃ y, y = Sha.bs1 E := ⟨_, rfl⟩
      obtain ⟨y2, hy2⟩ : ∃ y, y = Sha.chh E F G := ⟨_, rfl⟩
      obtain ⟨y3, hy3⟩ : ∃ y, y = Sha.bs0 A := ⟨_, rfl⟩
      obtain ⟨y4, hy4⟩ : ∃ y, y = Sha.maj A B C := ⟨_, rfl⟩
      have k1 := fun W => flip_same (bigSigma1_any E W mE)
      have k2 := fun W => flip_same (choice_any E F G W mE mF mG)
      have k3 := fun W => bigSigma0_any A W mA
      have k4 := fun W => majority_any A B C W mA mB mC
      rw [← hy1] at k1
      rw [← hy2] at k2
      rw [← hy3] at k3
      rw [← hy4] at k4
      have K1 := Lib.hid k1
      have K2 := Lib.hid k2
      have K3 := Lib.hid k3
      have K4 := Lib.hid k4
      have HY := Lib.hid (show y1 = Sha.bs1 E ∧ y2 = Sha.chh E F G ∧ y3 = Sha.bs0 A ∧ y4 = Sha.maj A B C from ⟨hy1, hy2, hy3, hy4⟩)
      have ly3 : y3 < 4294967296 := by rw [hy3]; exact Sha.bs0_lt mA
      have ly4 : y4 < 4294967296 := by rw [hy4]; exact Sha.maj_lt mA mB
      clear k1 k2 k3 k4 hy1 hy2 hy3 hy4 hkt hwt
      go_wp2_with fail
      refine wp_region_still_lit (by kernel_rfl) (by kernel_rfl) ?_
      repeat still_step
      still_call (K1.out _)
      repeat still_step
      still_call (K2.out _)
      repeat still_step
      refine wpStill_nil ?_
      change Exit.then _ _ Exit.normal _ wr.drew
      rw [ad_n, ad_n, ad_n, ad_n]
      obtain ⟨t1, ht1⟩ : ∃ t1, t1 = Sha.ad (Sha.ad (Sha.ad (Sha.ad H y1) y2) kt) wt := ⟨_, rfl⟩
      obtain ⟨t2, ht2⟩ : ∃ t2, t2 = Sha.ad y3 y4 := ⟨_, rfl⟩
      have lt1 : t1 < 4294967296 := by rw [ht1]; exact Sha.ad_lt _ _
      have lt2 : t2 < 4294967296 := by rw [ht2]; exact Sha.ad_lt _ _
      have HN2 := Lib.hid (show Sha.rnds S ⟨a0, b0, c0, d0, e0, f0, g0, h0⟩ (t + 1) = ⟨Sha.ad t1 t2, A, B, C, Sha.ad D t1, E, F, G⟩ by
        rw [HN.out, ht1, ht2, HY.out.1, HY.out.2.1, HY.out.2.2.1, HY.out.2.2.2]; rfl)
      have AA := Lib.hid (show ((y3 : Int) + (y4 : Int)) % 4294967296 = (t2 : Int) by rw [ht2]; exact ad_mod y3 y4)
      rw [← ht1]
      have hbl5 : Below w4.heap.size w4 wr.drew := hbl.drew
      obtain ⟨w5, hw5⟩ : ∃ w5, w5 = wr.drew := ⟨_, rfl⟩
      rw [← hw5] at hbl5 ⊢
      clear hw5 ckt cwt ht1 ht2 hbl
      go_wp2_with fail
      refine (K3.out _).mono ?_
      rintro e w6 ⟨rfl, rfl⟩
      go_wp2_with fail
      refine (K4.out _).mono ?_
      rintro e w6 ⟨rfl, rfl⟩
      go_wp2_with fail
      go_roundw
      case rel => exact ⟨t + 1, ⟨Sha.ad t1 t2, A, B, C, Sha.ad D t1, E, F, G⟩, by go_num, by omega, Lib.hid HN2.out.symm, ⟨Sha.ad_lt _ _, mA, mB, mC, Sha.ad_lt _ _, mE, mF, mG⟩, by rw [AA.out, ad_mod], rfl, rfl, rfl, by rw [ad_mod], rfl, rfl, rfl, hbl5⟩
      case measure => simp [intOf]; omega
    · have HP := Lib.hid (show Sha.cmp ⟨a0, b0, c0, d0, e0, f0, g0, h0⟩ l = Sha.plus ⟨a0, b0, c0, d0, e0, f0, g0, h0⟩ ⟨A, B, C, D, E, F, G, H⟩ by
        rw [HR.out, show t = 64 by omega, HS.out]; rfl)
      have hbs5 := hbs4.past hbl (by omega)
      have hb5 := hb4.trans (hbl.mono (by omega))
      have hs5 : w.heap.size ≤ wr.heap.size := hb5.size
      clear hbs4 hb4 hbl hk4 hbw4
      obtain ⟨PL, hPL⟩ : ∃ PL, PL = Sha.plus ⟨a0, b0, c0, d0, e0, f0, g0, h0⟩ ⟨A, B, C, D, E, F, G, H⟩ := ⟨_, rfl⟩
      have HPL := Lib.hid hPL
      clear hPL
      go_upto_region 9 with (fail)
      refine wp_region_lit ?_
      go_wp2_with (first
        | (refine wp_storeA 64 (.tmp 16) (.tmp 101) rfl rfl wr.heap.size rfl 64 (w32s [0, 0, 0, 0, 0, 0, 0, 0]) [.int .u32 A, .int .u32 B, .int .u32 C, .int .u32 D, .int .u32 E, .int .u32 F, .int .u32 G, .int .u32 H] rfl (Blk.new wr _ _) (by rw [info_st]; rfl) rfl (w32s_one [A, B, C, D, E, F, G, H]) rfl ?_; intro w6 hbw6 hk6)
        | (refine wp_loadA 64 (.tmp 16) rfl rfl wr.heap.size rfl 64 _ 8 62 hbw6 Tryd.underlying64 (by rw [info_st]; rfl) ?_))
      have hs6 := hk6.size
      rw [World.size_alloc] at hs6
      have ha6 : Keep (fun q => q < wr.heap.size) wr (wr.alloc (.cells (w32s [0, 0, 0, 0, 0, 0, 0, 0]).toArray 64)) := Keep.of_below ((Below.refl _ _).alloc (Nat.le_refl _) _)
      have hka : Keep (fun q => q < wr.heap.size) wr w6 := ha6.trans (hk6.mono (fun q hq => by omega))
      have hbs6 := hbs5.keep hka (by omega)
      have hb6 : Below w.heap.size w w6 := hb5.trans (hka.below (fun q hq => by omega) hs5)
      clear hbs5 hb5 ha6 hka hk6
      go_loopw [103] (fun i wq => ∃ k : Nat, i = .int .i64 k ∧ k ≤ 8 ∧ Blk wq sb 64 (w32s (PL.list.take k ++ (Sha.St.mk a0 b0 c0 d0 e0 f0 g0 h0).list.drop k)) ∧ Keep (fun q => q ≠ sb) w6 wq) (fun i _ => (8 - intOf i).toNat)
      case atStart => exact ⟨0, rfl, by omega, hbs6, Keep.refl _ _⟩
      case round =>
        obtain ⟨k, rfl, hk8, hbq, hkq⟩ := hrel
        by_cases hlt8 : k < 8
        · have hkq2 := hkq
          have hput : ∀ W, Blk W sb 64 (w32s (PL.list.take k ++ (Sha.St.mk a0 b0 c0 d0 e0 f0 g0 h0).list.drop k)) → Keep (fun q => q ≠ sb) w6 W → ∀ z : Nat, PL.list[k]? = some z →
              Blk (W.setCell ⟨sb, k, none⟩ (.int .u32 z)) sb 64 (w32s (PL.list.take (k + 1) ++ (Sha.St.mk a0 b0 c0 d0 e0 f0 g0 h0).list.drop (k + 1))) ∧ Keep (fun q => q ≠ sb) w6 (W.setCell ⟨sb, k, none⟩ (.int .u32 z)) := by
            intro W hB hK z hz
            refine ⟨?_, hK.trans (Keep.setCell _ _ _ (fun h => h rfl))⟩
            have h := hB.set k (w32 z)
            rw [← w32s_set, mix_set PL _ hlt8 hz] at h
            exact h
          have HPUT := Lib.hid hput
          clear hput
          obtain ⟨x, hx⟩ : ∃ x, [A, B, C, D, E, F, G, H][k]? = some x := ⟨_, List.getElem?_eq_getElem (by simpa using hlt8)⟩
          obtain ⟨y, hy⟩ : ∃ y, (Sha.St.mk a0 b0 c0 d0 e0 f0 g0 h0).list[k]? = some y := ⟨_, List.getElem?_eq_getElem (by simpa [Sha.St.list] using hlt8)⟩
          have hpz : PL.list[k]? = some (Sha.ad y x) := by rw [HPL.out]; exact plus_get ⟨a0, b0, c0, d0, e0, f0, g0, h0⟩ ⟨A, B, C, D, E, F, G, H⟩ hy hx
          have hidx : ∀ W, (Instr.index 64 (.agg #[.int .u32 A, .int .u32 B, .int .u32 C, .int .u32 D, .int .u32 E, .int .u32 F, .int .u32 G, .int .u32 H]) (.int .i64 (k : Int))).run Tryd.prog W = .ok (.int .u32 x) W := fun W =>
            run_indexA 64 62 8 .u32 Tryd.underlying64 Tryd.underlying62 size_u32 _ .i64 k hlt8 _ (by
              have h : (w32s [A, B, C, D, E, F, G, H])[k]? = some (.int .u32 x) := by unfold w32s; rw [List.getElem?_map, hx]; rfl
              simpa [w32s, w32] using h) W
          have cq : wr.cell? ⟨sb, k, none⟩ = some (.int .u32 y) := by
            refine hbq.cell ?_
            unfold w32s
            rw [List.getElem?_map, List.getElem?_append_right (by rw [List.length_take, PL.list_len]; omega)]
            rw [List.length_take, PL.list_len, show k - min k 8 = 0 by omega, List.getElem?_drop, Nat.add_zero, hy]
            rfl
          have HPZ := Lib.hid hpz
          clear hx hy hpz
          go_wp2_with fail
          go_still_tail 9, (by kernel_rfl)
          change wpList _ _ _ _ _ wr.drew
          rw [ad_n]
          have hbd := hbq.past (Below.refl wr.heap.size wr).drew hbq.lt
          have hkd : Keep (fun q => q ≠ sb) w6 wr.drew := hkq2.trans (Keep.of_below (Below.refl wr.heap.size wr).drew)
          have HE := Lib.hid (HPUT.out wr.drew hbd hkd (Sha.ad y x) HPZ.out)
          have fq := hbd.frozen k
          have cd : wr.drew.cell? ⟨sb, k, none⟩ = some (.int .u32 y) := cq
          obtain ⟨z, hz⟩ : ∃ z, z = Sha.ad y x := ⟨_, rfl⟩
          obtain ⟨wd, hwd⟩ : ∃ wd, wd = wr.drew := ⟨_, rfl⟩
          rw [← hz, ← hwd] at HE
          rw [← hwd] at fq cd ⊢
          rw [← hz]
          clear hz hwd hbd hkd hbq hkq hkq2 cq hidx
          go_wp2
          go_roundw
          case rel => exact ⟨k + 1, by go_num, by omega, HE.out.1, HE.out.2⟩
          case measure => simp [intOf]; omega
        · have hbf : Blk wr sb 64 (w32s PL.list) := by
            have h := hbq
            rw [show k = 8 by omega] at h
            exact h
          clear hbq
          go_wp2
          go_end0
          refine ⟨⟨_, rfl⟩, by rw [HP.out, ← HPL.out]; exact hbf, (Keep.of_below hb6).trans hkq⟩
end Go.Proofs.YtnfhdjmehhapiaaDoor
