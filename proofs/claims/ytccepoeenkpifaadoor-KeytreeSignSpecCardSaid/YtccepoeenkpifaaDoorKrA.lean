/-
  The reference of layer 5: widths, Merkle roots.
  The reference of layer 5: Path.
-/
import Derived.Test.YtccepoeenkpifaaDoorKtm
import Derived.Test.YtccepoeenkpifaaDoorSrJ
import Derived.Test.YtccepoeenkpifaaDoorWtR
import Derived.Test.YtccepoeenkpifaaDoorWtJ
import Derived.Test.YtccepoeenkpifaaDoorKtC
namespace Go.Proofs.YtccepoeenkpifaaDoor
section
open Go.RowKit
set_option linter.unusedVariables false
set_option linter.unusedSimpArgs false

set_option maxRecDepth 100000 in
theorem power_any (n : Nat) (w : World) (hm : n ≤ 9223372036854775807) :
    Calls Tryd.prog 39 #[.int .i64 n] w fun e w' => e = .returned (.bool (Kt.isw n)) ∧ w = w' := by
  by_cases h1 : n = 1
  · subst h1
    go_enter Tryd.func39, Tryd.ntmps39
    go_wp2
    go_ret
    exact ⟨rfl, rfl⟩
  by_cases h2 : n = 2
  · subst h2
    go_enter Tryd.func39, Tryd.ntmps39
    go_wp2
    go_ret
    exact ⟨rfl, rfl⟩
  by_cases h4 : n = 4
  · subst h4
    go_enter Tryd.func39, Tryd.ntmps39
    go_wp2
    go_ret
    exact ⟨rfl, rfl⟩
  by_cases h8 : n = 8
  · subst h8
    go_enter Tryd.func39, Tryd.ntmps39
    go_wp2
    go_ret
    exact ⟨rfl, rfl⟩
  by_cases h16 : n = 16
  · subst h16
    go_enter Tryd.func39, Tryd.ntmps39
    go_wp2
    go_ret
    exact ⟨rfl, rfl⟩
  by_cases h32 : n = 32
  · subst h32
    go_enter Tryd.func39, Tryd.ntmps39
    go_wp2
    go_ret
    exact ⟨rfl, rfl⟩
  by_cases h64 : n = 64
  · subst h64
    go_enter Tryd.func39, Tryd.ntmps39
    go_wp2
    go_ret
    exact ⟨rfl, rfl⟩
  have HI := Lib.hid (show Kt.isw n = false by unfold Kt.isw; simp only [Bool.or_eq_false_iff, beq_eq_false_iff_ne]; omega)
  have e1 : ((n : Int) == 1) = false := beq_eq_false_iff_ne.2 (by omega)
  have f1 : ¬ ((n : Int) = 1) := by omega
  have e2 : ((n : Int) == 2) = false := beq_eq_false_iff_ne.2 (by omega)
  have f2 : ¬ ((n : Int) = 2) := by omega
  have e4 : ((n : Int) == 4) = false := beq_eq_false_iff_ne.2 (by omega)
  have f4 : ¬ ((n : Int) = 4) := by omega
  have e8 : ((n : Int) == 8) = false := beq_eq_false_iff_ne.2 (by omega)
  have f8 : ¬ ((n : Int) = 8) := by omega
  have e16 : ((n : Int) == 16) = false := beq_eq_false_iff_ne.2 (by omega)
  have f16 : ¬ ((n : Int) = 16) := by omega
  have e32 : ((n : Int) == 32) = false := beq_eq_false_iff_ne.2 (by omega)
  have f32 : ¬ ((n : Int) = 32) := by omega
  have e64 : ((n : Int) == 64) = false := beq_eq_false_iff_ne.2 (by omega)
  have f64 : ¬ ((n : Int) = 64) := by omega
  clear h1 h2 h4 h8 h16 h32 h64
  go_enter Tryd.func39, Tryd.ntmps39
  go_wp2
  go_ret
  rw [HI.out]
  exact ⟨rfl, rfl⟩

set_option maxRecDepth 100000 in
set_option maxHeartbeats 1000000 in
theorem merkle_any : ∀ (k : Nat) (v : Value) (F : List UInt8) (w : World), Row w w.heap.size 32 (2 ^ k) v (u8s F) → k ≤ 6 → KIs 2 w → InIs 0 w →
    Calls Tryd.prog 33 #[v] w fun e w' => e = .returned (.agg (u8s (Kt.mrk F k)).toArray) ∧ Below w.heap.size w w' := by
  intro k
  induction k with
  | zero =>
    intro v F w hv hk6 hk hin
    obtain ⟨A, cap, rfl⟩ := row_form hv
    have hz := zero_dig
    have hv1 : Row w w.heap.size 32 1 (.slice A 1 cap) (u8s F) := hv
    obtain ⟨ad, rfl, _, _⟩ := hv1.at_ (by omega)
    have r0 := Blk.new w 25 (u8s z32)
    have b0 : Below w.heap.size w (w.alloc (.cells (u8s z32).toArray 25)) := (Below.refl _ _).alloc (Nat.le_refl _) _
    obtain ⟨W0, hW0⟩ : ∃ W, W = w.alloc (.cells (u8s z32).toArray 25) := ⟨_, rfl⟩
    rw [← hW0] at r0 b0
    have HW := Lib.hid hW0
    have hlt0 : 0 < 1 := by omega
    obtain ⟨x, hx⟩ : ∃ x, x = Wt.el F 0 := ⟨_, rfl⟩
    have HXL := Lib.hid (show x.length = 32 by rw [hx]; exact Wt.el_len (n := 1) (by have := row_flen hv1; omega) hlt0)
    have HUX := Lib.hid (show (u8s x).length = 32 by rw [u8s_length, HXL.out])
    have hc := row_elem (hv1.past b0) hlt0
    rw [← hx] at hc
    have HC := Lib.hid hc
    have HR := Lib.hid (show Kt.mrk F 0 = x by rw [hx]; rfl)
    clear hW0 hv hv1 hx hc hk hin
    rw [HR.out]
    rw [show (2 : Nat) ^ 0 = 1 from rfl]
    go_enter Tryd.func33, Tryd.ntmps33
    go_upto_region 1 with (fail)
    rw [← HW.out]
    clear hz
    go_wp2_with (first
      | (refine wp_run rfl (exec_ixS 29 25 32 Tryd.underlying29 info_dig _ rfl rfl _ _ 0 rfl rfl hlt0 (q := ad.add (0 * 32)) rfl) ?_)
      | (refine wp_run rfl (exec_loadP 25 rfl (ad.add (0 * 32)) rfl (u8s x) 32 5 HC.out Tryd.underlying25 (by rw [info_dig, HUX.out])) ?_)
      | (refine wp_storeA 25 (.tmp 2) (.tmp 9) rfl rfl w.heap.size rfl 25 (u8s z32) (u8s x) rfl r0 (by rw [info_dig, HUX.out]) (by rw [HUX.out]; rfl) (u8s_one _) rfl ?_; intro w8 h8 k8))
    have b8 : Below w.heap.size w w8 := b0.trans (k8.below (fun q hq => by omega) b0.size)
    refine ret_arr Tryd.results33 rfl w.heap.size 25 _ 32 5 rfl h8 Tryd.underlying25 (by rw [info_dig, HUX.out]) ?_
    exact ⟨rfl, b8⟩
  | succ k ih =>
    intro v F w hv hk6 hk hin
    obtain ⟨A, cap, rfl⟩ := row_form hv
    have hz := zero_dig
    have r0 := Blk.new w 25 (u8s z32)
    have b0 : Below w.heap.size w (w.alloc (.cells (u8s z32).toArray 25)) := (Below.refl _ _).alloc (Nat.le_refl _) _
    obtain ⟨W0, hW0⟩ : ∃ W, W = w.alloc (.cells (u8s z32).toArray 25) := ⟨_, rfl⟩
    rw [← hW0] at r0 b0
    have HW := Lib.hid hW0
    have HFL := Lib.hid (show F.length = 32 * 2 ^ (k + 1) by rw [row_flen hv, Nat.mul_comm])
    obtain ⟨m, hm⟩ : ∃ m, m = 2 ^ k := ⟨_, rfl⟩
    obtain ⟨n, hn⟩ : ∃ n, n = 2 ^ (k + 1) := ⟨_, rfl⟩
    have hnm : n = 2 * m := by rw [hn, hm, Kt.pow_two]
    have hm0 : 0 < m := by rw [hm]; exact Nat.two_pow_pos _
    have hm64 : m ≤ 64 := by rw [hm]; exact Kt.pow_le (by omega)
    rw [← hn] at hv ⊢
    have hncap := Row.cap hv
    have hq : (n : Int) / 2 = (m : Int) := by omega
    have hne : ((n : Int) == 1) = false := beq_eq_false_iff_ne.2 (by omega)
    have hni : ¬ ((n : Int) = 1) := by omega
    obtain ⟨Ra, hRa⟩ : ∃ X, X = Kt.mrk (F.take (32 * 2 ^ k)) k := ⟨_, rfl⟩
    obtain ⟨Rb, hRb⟩ : ∃ X, X = Kt.mrk (F.drop (32 * 2 ^ k)) k := ⟨_, rfl⟩
    have hFT : (F.take (32 * 2 ^ k)).length = 32 * 2 ^ k := by rw [List.length_take, HFL.out, Kt.pow_two]; omega
    have hFD : (F.drop (32 * 2 ^ k)).length = 32 * 2 ^ k := by rw [List.length_drop, HFL.out, Kt.pow_two]; omega
    have HAL := Lib.hid (show Ra.length = 32 by rw [hRa, Kt.mrk_len hFT])
    have HBL := Lib.hid (show Rb.length = 32 by rw [hRb, Kt.mrk_len hFD])
    obtain ⟨R, hR⟩ : ∃ R, R = Kt.mrk F (k + 1) := ⟨_, rfl⟩
    have HR := Lib.hid hR
    have HUR := Lib.hid (show (u8s R).length = 32 by rw [u8s_length, hR, Kt.mrk_len HFL.out])
    have HRP := Lib.hid (show R = Sha.tag Sha.pairT (Ra ++ Rb) by rw [hR, Kt.mrk_succ HFL.out, hRa, hRb]; rfl)
    obtain ⟨A1, cap1, hcut1, hrow1⟩ := run_cut_all (P := Tryd.prog) (size := 32) (n := n) (k := m) (i := 0) (A := A) (cap := cap) 29 25 Tryd.underlying29 info_dig none (some (.int .i64 (m : Int))) (Or.inl ⟨rfl, rfl⟩) (Or.inr ⟨.i64, (m : Int), rfl, by simp⟩) (by omega) hncap
    obtain ⟨A2, cap2, hcut2, hrow2⟩ := run_cut_all (P := Tryd.prog) (size := 32) (n := n) (k := m) (i := m) (A := A) (cap := cap) 29 25 Tryd.underlying29 info_dig (some (.int .i64 (m : Int))) none (Or.inr ⟨.i64, (m : Int), rfl, rfl⟩) (Or.inl ⟨rfl, by omega⟩) (by omega) hncap
    have hul : (u8s F).length = n * 32 := by rw [u8s_length, row_flen hv]
    have hx1 : ((u8s F).drop (0 * 32)).take (m * 32) = u8s (F.take (32 * 2 ^ k)) := by
      rw [Nat.zero_mul, List.drop_zero, hm, Nat.mul_comm (2 ^ k) 32]; unfold u8s; rw [List.map_take]
    have hx2 : ((u8s F).drop (m * 32)).take (m * 32) = u8s (F.drop (32 * 2 ^ k)) := by
      rw [List.take_of_length_le (by rw [List.length_drop, hul]; omega), hm, Nat.mul_comm (2 ^ k) 32]; unfold u8s; rw [List.map_drop]
    have hk6' : k ≤ 6 := by omega
    have HC1 : Hid (∀ w1 : World, Below w.heap.size w w1 → Calls Tryd.prog 33 #[.slice A1 m cap1] w1 fun e w' => e = .returned (.agg (u8s Ra).toArray) ∧ Below w1.heap.size w1 w') := Lib.hid fun w1 hb => by
      have h := hrow1 w1 _ _ (hv.past hb)
      rw [hx1] at h
      rw [hRa]
      rw [hm] at h ⊢
      exact ih _ _ w1 h hk6' (hk.past hb) (hin.past hb)
    have HC2 : Hid (∀ w1 : World, Below w.heap.size w w1 → Calls Tryd.prog 33 #[.slice A2 m cap2] w1 fun e w' => e = .returned (.agg (u8s Rb).toArray) ∧ Below w1.heap.size w1 w') := Lib.hid fun w1 hb => by
      have h := hrow2 w1 _ _ (hv.past hb)
      rw [hx2] at h
      rw [hRb]
      rw [hm] at h ⊢
      exact ih _ _ w1 h hk6' (hk.past hb) (hin.past hb)
    have HCUT1 := Lib.hid hcut1
    have HCUT2 := Lib.hid hcut2
    have HK := Lib.hid hk
    have HIN := Lib.hid hin
    rw [← hR]
    clear hm hn hnm hRa hRb hFT hFD hcut1 hcut2 hrow1 hrow2 hul hx1 hx2 hW0 hv hk hin hR ih
    go_enter Tryd.func33, Tryd.ntmps33
    go_upto_region 1 with (fail)
    rw [← HW.out]
    clear hz
    go_upto_region 4 with (fail)
    have zz : w.heap.size ≤ W0.heap.size := b0.size
    refine wp_region_pt (w.heap.size) (.take 0 (.take 1 (.take 2 (.take 4 (.take 5 (.take 6 (.step 3 (.step 7 (.step 8 (.step 9 .done)))))))))) (by kernel_rfl) (by kernel_rfl) (by kernel_rfl) (fun _ _ h => h) ?_
    have bd1 : Below W0.heap.size W0 W0.drew := (Below.refl _ _).drew
    have f_bel1 := b0.trans (bd1.mono b0.size)
    have f_r1 := r0.past bd1 r0.lt
    have f_zz1 := Nat.le_trans zz bd1.size
    clear b0 r0 zz
    obtain ⟨u1, hu1⟩ : ∃ u, u = W0.drew := ⟨_, rfl⟩
    rw [← hu1] at f_bel1 f_r1 f_zz1  bd1 ⊢
    clear hu1 bd1
    first | refine pt_skip rfl rfl rfl rfl ?_ | (refine pt_take rfl rfl rfl rfl ?_; apply Exists.intro; refine ⟨fun w' hw' => ?_, ?_⟩; focus ((repeat (first | go_skip | go_guarded | go_step | go_upon | go_back)); exact ⟨rfl, rfl, rfl⟩))
    first | refine pt_skip rfl rfl rfl rfl ?_ | (refine pt_take rfl rfl rfl rfl ?_; apply Exists.intro; refine ⟨fun w' hw' => ?_, ?_⟩; focus ((repeat (first | go_skip | go_guarded | go_step | go_upon | go_back)); exact ⟨rfl, rfl, rfl⟩))
    refine pt_take rfl rfl rfl rfl ?_
    apply Exists.intro
    refine ⟨fun w' hw' => ?_, ?_⟩
    · refine wp_run rfl (exec_slice rfl (HCUT1.out w')) ?_
      exact ⟨rfl, rfl, rfl⟩
    first | refine pt_skip rfl rfl rfl rfl ?_ | (refine pt_take rfl rfl rfl rfl ?_; apply Exists.intro; refine ⟨fun w' hw' => ?_, ?_⟩; focus ((repeat (first | go_skip | go_guarded | go_step | go_upon | go_back)); exact ⟨rfl, rfl, rfl⟩))
    first | refine pt_skip rfl rfl rfl rfl ?_ | (refine pt_take rfl rfl rfl rfl ?_; apply Exists.intro; refine ⟨fun w' hw' => ?_, ?_⟩; focus ((repeat (first | go_skip | go_guarded | go_step | go_upon | go_back)); exact ⟨rfl, rfl, rfl⟩))
    refine pt_take rfl rfl rfl rfl ?_
    apply Exists.intro
    refine ⟨fun w' hw' => ?_, ?_⟩
    · refine wp_run rfl (exec_slice rfl (HCUT2.out w')) ?_
      exact ⟨rfl, rfl, rfl⟩
    refine pt_step rfl ?_
    go_wp2_with fail
    refine (HC1.out _ f_bel1).mono ?_
    rintro e t2 ⟨rfl, c2⟩
    go_wp2_with fail
    refine ⟨rfl, c2.mono f_zz1, ?_⟩
    have f_bel2 := f_bel1.trans (c2.mono f_bel1.size)
    have f_r2 := f_r1.past c2 f_r1.lt
    have f_zB2 := Nat.le_trans f_zz1 c2.size
    clear f_bel1 f_r1 f_zz1 c2
    refine pt_step rfl ?_
    go_wp2_with fail
    refine (HC2.out _ f_bel2).mono ?_
    rintro e t3 ⟨rfl, c3⟩
    go_wp2_with fail
    refine ⟨rfl, c3.mono f_zB2, ?_⟩
    have f_bel3 := f_bel2.trans (c3.mono f_bel2.size)
    have f_r3 := f_r2.past c3 f_r2.lt
    have f_zB3 := Nat.le_trans f_zB2 c3.size
    clear f_bel2 f_r2 f_zB2 c3
    refine pt_step rfl ?_
    go_wp2_with fail
    refine (rpair_any Ra Rb _ HAL.out HBL.out (HK.out.past f_bel3) (HIN.out.past f_bel3)).mono ?_
    rintro e t4 ⟨rfl, c4⟩
    rw [← HRP.out]
    go_wp2_with fail
    refine ⟨rfl, c4.mono f_zB3, ?_⟩
    have f_bel4 := f_bel3.trans (c4.mono f_bel3.size)
    have f_r4 := f_r3.past c4 f_r3.lt
    have f_zB4 := Nat.le_trans f_zB3 c4.size
    clear f_bel3 f_r3 f_zB3 c4
    refine pt_step rfl ?_
    go_wp2_with (refine wp_storeA 25 (.tmp 2) (.tmp 21) rfl rfl w.heap.size rfl 25 (u8s z32) (u8s R) rfl f_r4 (by rw [info_dig, HUR.out]) (by rw [HUR.out]; rfl) (u8s_one _) rfl ?_; intro w8 h8 k8)
    have bb8 : Below w.heap.size w w8 := Below.trans f_bel4 (k8.below (fun q hq => by omega) (Below.size f_bel4))
    refine ⟨rfl, k8.below (fun q hq => by omega) f_zB4, ?_⟩
    change Exit.then _ _ Exit.normal _ _
    go_wp2_with fail
    refine ret_arr Tryd.results33 rfl w.heap.size 25 _ 32 5 rfl h8 Tryd.underlying25 (by rw [info_dig, HUR.out]) ?_
    exact ⟨rfl, bb8⟩
end

section
open Go.RowKit
set_option linter.unusedVariables false
set_option linter.unusedSimpArgs false

theorem rpath_no (v : Value) (F : List UInt8) (n : Nat) (ix : Int) (w : World) (hv : Row w w.heap.size 32 n v (u8s F)) (hm : n ≤ 9223372036854775807) (h : ¬ (Kt.isw n = true ∧ 0 ≤ ix ∧ ix < (n : Int))) :
    Calls Tryd.prog 18 #[v, .int .i64 ix] w fun e w' => e = .returned (.tuple #[.slice none 0 0, .int .i64 1]) ∧ Below w.heap.size w w' := by
  obtain ⟨A, cap, rfl⟩ := row_form hv
  have HW := Lib.hid (power_any n w hm)
  clear hv
  cases hw : Kt.isw n
  · rw [hw] at HW
    go_enter Tryd.func18, Tryd.ntmps18
    go_wp2_with fail
    refine HW.out.mono ?_
    rintro e w2 ⟨rfl, rfl⟩
    go_wp2
    go_ret2
    exact ⟨rfl, Below.refl _ _⟩
  · rw [hw] at HW
    by_cases h0 : 0 ≤ ix
    · have h1 : ¬ ix < (n : Int) := fun h1 => h ⟨hw, h0, h1⟩
      clear h hw
      go_enter Tryd.func18, Tryd.ntmps18
      go_wp2_with fail
      refine HW.out.mono ?_
      rintro e w2 ⟨rfl, rfl⟩
      go_wp2
      go_ret2
      exact ⟨rfl, Below.refl _ _⟩
    · clear h hw
      go_enter Tryd.func18, Tryd.ntmps18
      go_wp2_with fail
      refine HW.out.mono ?_
      rintro e w2 ⟨rfl, rfl⟩
      go_wp2
      go_ret2
      exact ⟨rfl, Below.refl _ _⟩

theorem begin_of (ix p : Nat) (hp : 0 < p) : (ix < ix / (2 * p) * (2 * p) + p → Kt.sib (ix / p) * p = ix / (2 * p) * (2 * p) + p) ∧ (¬ ix < ix / (2 * p) * (2 * p) + p → Kt.sib (ix / p) * p = ix / (2 * p) * (2 * p)) := by
  have h1 : ix / (2 * p) = ix / p / 2 := by rw [Nat.mul_comm 2 p, ← Nat.div_div_eq_div_mul]
  have h2 := Nat.div_add_mod ix p
  have h3 := Nat.mod_lt ix hp
  rw [h1]
  obtain ⟨j, hj⟩ : ∃ j, j = ix / p := ⟨_, rfl⟩
  obtain ⟨r, hr⟩ : ∃ r, r = ix % p := ⟨_, rfl⟩
  rw [← hj, ← hr] at h2
  rw [← hr] at h3
  rw [← hj]
  obtain ⟨a, ha⟩ : ∃ a, a = j / 2 := ⟨_, rfl⟩
  rw [← ha]
  have hb : a * (2 * p) = 2 * (p * a) := by rw [Nat.mul_comm a, Nat.mul_assoc]
  rw [hb]
  by_cases he : j % 2 = 0
  · have hja : j = 2 * a := by omega
    have hpj : p * j = 2 * (p * a) := by rw [hja, Nat.mul_left_comm]
    have hs : Kt.sib j * p = 2 * (p * a) + p := by
      unfold Kt.sib; rw [if_pos he, Nat.succ_mul, Nat.mul_comm, hpj]
    rw [hpj] at h2
    exact ⟨fun _ => hs, fun h => by omega⟩
  · have hja : j = 2 * a + 1 := by omega
    have hpj : p * j = 2 * (p * a) + p := by rw [hja, Nat.mul_succ, Nat.mul_left_comm]
    have hs : Kt.sib j * p = 2 * (p * a) := by
      unfold Kt.sib; rw [if_neg he, hja, Nat.add_sub_cancel, Nat.mul_comm, Nat.mul_left_comm]
    rw [hpj] at h2
    exact ⟨fun h => by omega, fun _ => hs⟩

set_option maxRecDepth 100000 in
set_option maxHeartbeats 2000000 in
theorem rpath_at (v : Value) (F : List UInt8) (K ix : Nat) (w : World) (hv : Row w w.heap.size 32 (2 ^ K) v (u8s F)) (hK : K ≤ 6) (hix : ix < 2 ^ K) (hk : KIs 2 w) (hin : InIs 0 w) :
    Calls Tryd.prog 18 #[v, .int .i64 ix] w fun e w' => ∃ v', e = .returned (.tuple #[v', .int .i64 0]) ∧ Row w' w'.heap.size 32 K v' (u8s (Kt.pth F ix K)) ∧ AtT (fun b => w.heap.size ≤ b) v' ∧ Below w.heap.size w w' := by
  obtain ⟨A, cap, rfl⟩ := row_form hv
  have HFL := Lib.hid (show F.length = 32 * 2 ^ K by rw [row_flen hv, Nat.mul_comm])
  have hn64 := Kt.pow_le hK
  have HIX := Lib.hid hix
  obtain ⟨n, hn⟩ : ∃ n, n = 2 ^ K := ⟨_, rfl⟩
  have HP := Lib.hid (power_any n w (by omega))
  rw [show Kt.isw n = true by rw [hn]; exact Kt.isw_of_pow hK] at HP
  rw [← hn] at hv hix hn64 ⊢
  have HN := Lib.hid hn
  have HV := Lib.hid hv
  have HK := Lib.hid hk
  have HIN := Lib.hid hin
  have hncap := Row.cap hv
  have hx0 : ((ix : Int) < 0) = False := by simp
  have hxn : (n : Int) ≤ (ix : Int) ↔ False := by simp; omega
  clear hn hv hk hin
  go_enter Tryd.func18, Tryd.ntmps18
  go_wp2_with fail
  refine HP.out.mono ?_
  rintro e w1 ⟨rfl, rfl⟩
  clear HP
  go_wp2_with fail
  clear hx0 hxn
  go_loopw [7, 6] (fun nn q wr => ∃ (k p : Nat) (X : List UInt8), nn = .int .i64 p ∧ Hid (p = 2 ^ k) ∧ k ≤ K ∧ 1 ≤ p ∧ p ≤ 64 ∧ Hid (X = Kt.pth F ix k) ∧ OwnD wr w.heap.size q k X ∧ Below w.heap.size w wr) (fun nn _ _ => n - (intOf nn).toNat)
  case atStart => exact ⟨0, 1, [], rfl, Lib.hid rfl, by omega, by omega, by omega, Lib.hid rfl, OwnD.nil_ _ _, Below.refl _ _⟩
  case round =>
    obtain ⟨k, p, X, rfl, HPK, hkK, hp1, hp64, HX, ho, hb⟩ := hrel
    by_cases hlt : k < K
    · have hpn : p < n := by rw [HPK.out, HN.out]; exact Nat.pow_lt_pow_right (by omega) hlt
      have hbeg := begin_of ix p (by omega)
      obtain ⟨s, hs⟩ : ∃ s, s = Kt.sib (ix / p) := ⟨_, rfl⟩
      have hsl : s * p + p ≤ n := by
        have h1 : s < 2 ^ (K - k) := by
          rw [hs, HPK.out, Kt.lv_pow hlt]
          refine Kt.sib_lt ?_
          rw [← Kt.lv_pow hlt]; exact Kt.ix_lt HIX.out hkK
        have h2 : (s + 1) * 2 ^ k ≤ 2 ^ (K - k) * 2 ^ k := Nat.mul_le_mul_right _ h1
        rw [← Nat.pow_add, show K - k + k = K by omega, ← HPK.out, ← HN.out, Nat.succ_mul] at h2
        exact h2
      have hmk : ∀ c, s * p = c → Kt.mrk ((F.drop (32 * c)).take (32 * p)) k = Kt.pthE F ix k := fun c hc => by
        rw [← hc, HPK.out, Kt.mrk_cut, hs, HPK.out]; rfl
      have hpL : (Kt.pthE F ix k).length = 32 := Kt.pthE_len HFL.out HIX.out hlt
      obtain ⟨q, hq⟩ : ∃ q, q = 2 * p := ⟨_, rfl⟩
      obtain ⟨a, ha⟩ : ∃ a, a = ix / q := ⟨_, rfl⟩
      obtain ⟨b, hbb⟩ : ∃ b, b = a * q := ⟨_, rfl⟩
      rw [← hq, ← ha, ← hbb, ← hs] at hbeg
      have hble : b ≤ ix := by rw [hbb, ha]; exact Nat.div_mul_le_self _ _
      have hale : a ≤ ix := by rw [ha]; exact Nat.div_le_self _ _
      have e1 : 2 * (p : Int) = (q : Int) := by omega
      have hq0 : 0 < q := by omega
      have hq128 : q ≤ 128 := by omega
      have e2 : (ix : Int) / (q : Int) = (a : Int) := by rw [ha]; exact (Int.natCast_ediv _ _).symm
      have e3 : (a : Int) * (q : Int) = (b : Int) := by rw [hbb]; exact (Int.natCast_mul _ _).symm
      have hx64 : ix ≤ 64 := by omega
      have HS := Lib.hid hs
      have HQ := Lib.hid hq
      have HA := Lib.hid ha
      have HB := Lib.hid hbb
      have HMK := Lib.hid hmk
      have HSL := Lib.hid hsl
      have HBEG := Lib.hid hbeg
      obtain ⟨D, hD⟩ : ∃ D, D = Kt.pthE F ix k := ⟨_, rfl⟩
      rw [← hD] at hpL
      have HD := Lib.hid hD
      have HDL := Lib.hid hpL
      clear hs hq ha hbb hmk hsl hbeg hD hpL
      by_cases hc : ix < b + p
      · obtain ⟨c, hcc⟩ : ∃ c, c = b + p := ⟨_, rfl⟩
        obtain ⟨h, hh⟩ : ∃ h, h = c + p := ⟨_, rfl⟩
        have hsp : s * p = c := by rw [hcc]; exact HBEG.out.1 hc
        have HMC := Lib.hid (HMK.out c hsp)
        have hchn : c + p ≤ n := by rw [← hsp]; exact HSL.out
        have e4 : (b : Int) + (p : Int) = (c : Int) := by omega
        have e5 : (c : Int) + (p : Int) = (h : Int) := by omega
        have hixc : (ix : Int) < (c : Int) := by omega
        obtain ⟨A', cap', hcut, hrow⟩ := run_cut_all (P := Tryd.prog) (size := 32) (n := n) (k := p) (i := c) (A := A) (cap := cap) 29 25 Tryd.underlying29 info_dig (some (.int .i64 (c : Int))) (some (.int .i64 (h : Int))) (Or.inr ⟨.i64, (c : Int), rfl, rfl⟩) (Or.inr ⟨.i64, (h : Int), rfl, by omega⟩) hchn hncap
        have hrow2 := hrow wr _ _ (HV.out.past hb)
        have hxx : ((u8s F).drop (c * 32)).take (p * 32) = u8s ((F.drop (32 * c)).take (32 * p)) := by
          rw [Nat.mul_comm c, Nat.mul_comm p]; unfold u8s; rw [List.map_take, List.map_drop]
        rw [hxx] at hrow2
        have hm := merkle_any k (.slice A' p cap') ((F.drop (32 * c)).take (32 * p)) wr (by rw [← HPK.out]; exact hrow2) (by omega) (HK.out.past hb) (HIN.out.past hb)
        rw [HMC.out, ← HD.out] at hm
        have HM := Lib.hid hm
        have HCUT := Lib.hid hcut
        have hcb : c ≤ 64 := by omega
        have hhb : h ≤ 64 := by omega
        clear hcut hrow hrow2 hxx hm hsp hcc hh hc hchn HMC
        go_wp2_with (refine wp_run rfl (exec_slice rfl (HCUT.out _)) ?_)
        refine HM.out.mono ?_
        rintro e w2 ⟨rfl, b2⟩
        have o2 := ho.past b2
        have bb2 := hb.trans (b2.mono hb.size)
        have hbs := bb2.size
        clear HM ho hb b2
        go_wp2_with (first
          | (refine wp_buildD (.tmp 51) rfl rfl D HDL.out rfl ?_)
          | (refine wp_appD w.heap.size (.tmp 44) (.tmp 52) rfl rfl _ k X D HDL.out rfl rfl o2 hbs (by omega) ?_; intro v3 w3 o3 b3 _))
        have bb3 := bb2.trans b3
        clear o2 bb2 b3
        go_roundw
        case rel => exact ⟨k + 1, q, X ++ D, by go_num, Lib.hid (by rw [HQ.out, HPK.out, Kt.pow_two]), by omega, by omega, (by
          have h9 : 2 ^ (k + 1) ≤ 2 ^ 6 := Nat.pow_le_pow_right (by omega) (by omega)
          rw [HQ.out, HPK.out, ← Kt.pow_two]; exact h9), Lib.hid (by rw [HX.out, HD.out]; rfl), o3, bb3⟩
        case measure => simp [intOf]; have := HQ.out; omega
      · obtain ⟨h, hh⟩ : ∃ h, h = b + p := ⟨_, rfl⟩
        have hsp : s * p = b := HBEG.out.2 hc
        have HMC := Lib.hid (HMK.out b hsp)
        have hchn : b + p ≤ n := by rw [← hsp]; exact HSL.out
        have e5 : (b : Int) + (p : Int) = (h : Int) := by omega
        have hixc : ¬ (ix : Int) < (h : Int) := by omega
        obtain ⟨A', cap', hcut, hrow⟩ := run_cut_all (P := Tryd.prog) (size := 32) (n := n) (k := p) (i := b) (A := A) (cap := cap) 29 25 Tryd.underlying29 info_dig (some (.int .i64 (b : Int))) (some (.int .i64 (h : Int))) (Or.inr ⟨.i64, (b : Int), rfl, rfl⟩) (Or.inr ⟨.i64, (h : Int), rfl, by omega⟩) hchn hncap
        have hrow2 := hrow wr _ _ (HV.out.past hb)
        have hxx : ((u8s F).drop (b * 32)).take (p * 32) = u8s ((F.drop (32 * b)).take (32 * p)) := by
          rw [Nat.mul_comm b, Nat.mul_comm p]; unfold u8s; rw [List.map_take, List.map_drop]
        rw [hxx] at hrow2
        have hm := merkle_any k (.slice A' p cap') ((F.drop (32 * b)).take (32 * p)) wr (by rw [← HPK.out]; exact hrow2) (by omega) (HK.out.past hb) (HIN.out.past hb)
        rw [HMC.out, ← HD.out] at hm
        have HM := Lib.hid hm
        have HCUT := Lib.hid hcut
        have hhb : h ≤ 64 := by omega
        clear hcut hrow hrow2 hxx hm hsp hh hc hchn HMC
        go_wp2_with (refine wp_run rfl (exec_slice rfl (HCUT.out _)) ?_)
        refine HM.out.mono ?_
        rintro e w2 ⟨rfl, b2⟩
        have o2 := ho.past b2
        have bb2 := hb.trans (b2.mono hb.size)
        have hbs := bb2.size
        clear HM ho hb b2
        go_wp2_with (first
          | (refine wp_buildD (.tmp 51) rfl rfl D HDL.out rfl ?_)
          | (refine wp_appD w.heap.size (.tmp 44) (.tmp 52) rfl rfl _ k X D HDL.out rfl rfl o2 hbs (by omega) ?_; intro v3 w3 o3 b3 _))
        have bb3 := bb2.trans b3
        clear o2 bb2 b3
        go_roundw
        case rel => exact ⟨k + 1, q, X ++ D, by go_num, Lib.hid (by rw [HQ.out, HPK.out, Kt.pow_two]), by omega, by omega, (by
          have h9 : 2 ^ (k + 1) ≤ 2 ^ 6 := Nat.pow_le_pow_right (by omega) (by omega)
          rw [HQ.out, HPK.out, ← Kt.pow_two]; exact h9), Lib.hid (by rw [HX.out, HD.out]; rfl), o3, bb3⟩
        case measure => simp [intOf]; have := HQ.out; omega
    · have hkK2 : k = K := by omega
      have hpn : ¬ p < n := by rw [HPK.out, HN.out, hkK2]; omega
      subst hkK2
      have hr := ho.row
      rw [HX.out] at hr
      have HR := Lib.hid hr
      have HAT := Lib.hid ho.atT
      clear hr ho hlt
      go_wp2
      go_ret2
      exact ⟨_, rfl, HR.out, HAT.out, hb⟩
end
end Go.Proofs.YtccepoeenkpifaaDoor
