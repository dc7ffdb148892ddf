/-
  The walk of the law VarintCanonical.
-/
import Derived.Test.YtgllhelpfjinbaaVarL0
import Derived.Test.YtgllhelpfjinbaaPlan
namespace Go.Proofs.Ytgllhelpfjinbaa
open Go.RowKit
set_option linter.unusedVariables false
set_option linter.unusedSimpArgs false

theorem bS_form (l : List UInt8) (i m : Int) : ∃ (Pl : List UInt8) (K g : Int), bS l i m = (Pl, K, g) ∧ ((g ≠ 0 ∧ Pl = [] ∧ K = 0) ∨
    (g = 0 ∧ 0 ≤ m ∧ (uS l i).2.2 = 0 ∧ ((uS l i).1 : Int) ≤ m ∧ ((uS l i).1 : Int) ≤ (l.length : Int) - (uS l i).2.1 ∧ Pl = (l.drop (uS l i).2.1.toNat).take (uS l i).1 ∧ K = (uS l i).2.1 + (uS l i).1)) := by
  unfold bS
  by_cases h0 : m < 0
  · rw [if_pos h0]; exact ⟨_, _, _, rfl, Or.inl ⟨by decide, rfl, rfl⟩⟩
  · rw [if_neg h0]
    by_cases h1 : (uS l i).2.2 = 0
    · rw [if_neg (by simpa using h1)]
      by_cases h2 : m < ((uS l i).1 : Int)
      · rw [if_pos h2]; exact ⟨_, _, _, rfl, Or.inl ⟨by decide, rfl, rfl⟩⟩
      · rw [if_neg h2]
        by_cases h3 : (l.length : Int) - (uS l i).2.1 < ((uS l i).1 : Int)
        · rw [if_pos h3]; exact ⟨_, _, _, rfl, Or.inl ⟨by decide, rfl, rfl⟩⟩
        · rw [if_neg h3]; exact ⟨_, _, _, rfl, Or.inr ⟨rfl, by omega, h1, by omega, by omega, rfl, rfl⟩⟩
    · rw [if_pos h1]; exact ⟨_, _, _, rfl, Or.inl ⟨h1, rfl, rfl⟩⟩

set_option maxRecDepth 100000 in
set_option maxHeartbeats 3200000 in
/-- Nothing is decoded. -/
theorem canonical_none (v : Value) (l : List UInt8) (i m : Int) (w : World) (hv : Bs w w.heap.size v l) (hm : -9223372036854775808 ≤ m ∧ m ≤ 9223372036854775807) (hl : l.length ≤ 4000) (er g : Int)
    (Q1 : Hid (uS l i = (0, 0, er))) (Q2 : Hid (iS l i = tri3 0 0 er)) (Q3 : Hid (bS l i m = ([], 0, g))) (her : er ≠ 0) (hg : g ≠ 0) :
    Calls Try.prog 6 #[v, .int .i64 i, .int .i64 m] w fun e w' => e = .returned (.bool true) ∧ Below w.heap.size w w' := by
  have t1 : (er == 0) = false := beq_eq_false_iff_ne.2 her
  have t2 : (er != 0) = true := by simp [her]
  have t3 : (g != 0) = true := by simp [hg]
  obtain ⟨A, c, hvf⟩ := hv.form
  rw [hvf] at hv ⊢
  clear hvf her hg
  go_enter Try.func6, Try.ntmps6
  go_wp2_with fail
  refine (sane_any _).mono ?_
  rintro e w1 ⟨rfl, b1⟩
  have r1 := hv.past b1
  go_wp2_with fail
  refine (few_yes _ _ l [] _ _ r1 (Bs.nil_ _ _) hl (by simp)).mono ?_
  rintro e w' ⟨rfl, rfl⟩
  go_wp2_with fail
  refine (uint_any _ l i _ _ r1 (by omega)).mono ?_
  rintro e w' ⟨rfl, rfl⟩
  rw [Q1.out]
  unfold tri
  go_wp2_with fail
  refine (int_any _ l i _ _ r1 (by omega)).mono ?_
  rintro e w' ⟨rfl, rfl⟩
  rw [Q2.out]
  unfold tri3
  go_wp2_with fail
  refine (bytes_any _ l i m _ r1 (by omega) hm.2).mono ?_
  rintro e w2 ⟨v2, rfl, x2, b2⟩
  rw [Q3.out] at x2 ⊢
  have hb2 := b1.trans (b2.mono b1.size)
  have r2 := r1.past b2
  obtain ⟨A2, c2, hv2⟩ := Bs.form x2
  rw [hv2] at x2 ⊢
  clear hv2
  go_wp2_with fail
  refine wp_region_plan ((0, true) :: (1, true) :: (2, true) :: (3, true) :: (4, true) :: (5, true) :: (6, true) :: (7, true) :: (8, true) :: (9, true) :: (10, true) :: (11, true) :: (12, true) :: (13, true) :: (14, true) :: (15, true) :: (16, true) :: (17, true) :: (18, true) :: (19, true) :: (20, true) :: (21, true) :: (22, true) :: (25, true) :: (26, true) :: (27, true) :: (28, true) :: (29, true) :: (23, false) :: (24, true) :: (30, true) :: (31, true) :: (32, true) :: (33, true) :: (36, true) :: (37, true) :: (38, true) :: (39, true) :: (40, true) :: (34, false) :: (35, true) :: (41, true) :: (42, true) :: (43, true) :: []) (by kernel_rfl) (by kernel_rfl) (by kernel_rfl) rfl (fun _ _ h => h) ?_
  iterate 28 (first | refine plan_skip rfl rfl rfl rfl ?_ | (refine plan_take rfl rfl rfl rfl ?_; apply Exists.intro; refine ⟨fun w' hw' => ?_, ?_⟩; focus (go_wp2; exact ⟨rfl, rfl, rfl⟩)))
  refine plan_skip rfl rfl rfl rfl ?_
  iterate 10 (first | refine plan_skip rfl rfl rfl rfl ?_ | (refine plan_take rfl rfl rfl rfl ?_; apply Exists.intro; refine ⟨fun w' hw' => ?_, ?_⟩; focus (go_wp2; exact ⟨rfl, rfl, rfl⟩)))
  refine plan_skip rfl rfl rfl rfl ?_
  iterate 4 (first | refine plan_skip rfl rfl rfl rfl ?_ | (refine plan_take rfl rfl rfl rfl ?_; apply Exists.intro; refine ⟨fun w' hw' => ?_, ?_⟩; focus (go_wp2; exact ⟨rfl, rfl, rfl⟩)))
  show Exit.then _ _ _ _ _
  go_wp2_with fail
  refine wp_region_plan ((0, true) :: (1, true) :: (2, true) :: (3, true) :: (4, true) :: (5, true) :: (6, true) :: (7, true) :: (8, true) :: (9, true) :: (10, true) :: (11, true) :: (12, true) :: (13, true) :: (14, true) :: (15, true) :: (16, true) :: (17, true) :: (18, true) :: (19, true) :: (20, true) :: (21, true) :: (22, true) :: (23, true) :: (26, true) :: (27, true) :: (28, true) :: (29, true) :: (30, true) :: (24, false) :: (25, true) :: (31, true) :: (32, true) :: (33, true) :: (34, true) :: []) (by kernel_rfl) (by kernel_rfl) (by kernel_rfl) rfl (fun _ _ h => h) ?_
  iterate 29 (first | refine plan_skip rfl rfl rfl rfl ?_ | (refine plan_take rfl rfl rfl rfl ?_; apply Exists.intro; refine ⟨fun w' hw' => ?_, ?_⟩; focus (go_wp2; exact ⟨rfl, rfl, rfl⟩)))
  refine plan_skip rfl rfl rfl rfl ?_
  iterate 5 (first | refine plan_skip rfl rfl rfl rfl ?_ | (refine plan_take rfl rfl rfl rfl ?_; apply Exists.intro; refine ⟨fun w' hw' => ?_, ?_⟩; focus (go_wp2; exact ⟨rfl, rfl, rfl⟩)))
  show Exit.then _ _ _ _ _
  go_wp2_with fail
  go_ret
  exact ⟨rfl, hb2.drew.drew⟩

theorem unzz_bounds {u : Nat} (h : u < M64) : -9223372036854775808 ≤ unzz u ∧ unzz u ≤ 9223372036854775807 := by
  unfold M64 at h; unfold unzz; split <;> omega

set_option maxRecDepth 100000 in
set_option maxHeartbeats 6400000 in
/-- An integer is decoded, a byte string is not. -/
theorem canonical_int (v : Value) (l : List UInt8) (J I V : Nat) (m : Int) (w : World) (hv : Bs w w.heap.size v l) (hm : -9223372036854775808 ≤ m ∧ m ≤ 9223372036854775807) (hl : l.length ≤ 4000) (g : Int)
    (hV : V < M64) (hJ : J < I) (hI : I ≤ l.length) (Q0 : Hid ((l.drop J).take (I - J) = leb V)) (Q1 : Hid (uS l (J : Int) = (V, (I : Int), 0))) (Q2 : Hid (iS l (J : Int) = tri3 (unzz V) I 0)) (Q3 : Hid (bS l (J : Int) m = ([], 0, g))) (hg : g ≠ 0) :
    Calls Try.prog 6 #[v, .int .i64 (J : Int), .int .i64 m] w fun e w' => e = .returned (.bool true) ∧ Below w.heap.size w w' := by
  obtain ⟨i, hi⟩ : ∃ i : Int, i = (J : Int) := ⟨_, rfl⟩
  have t3 : (g != 0) = true := by simp [hg]
  have hd1 : decide (I ≤ J) = false := by simp; omega
  have hd2 : decide (l.length < I) = false := by simp; omega
  have HV := Lib.hid hV
  have HZ := Lib.hid (unzz_bounds hV)
  obtain ⟨A, c, hvf⟩ := hv.form
  rw [hvf] at hv ⊢
  obtain ⟨A6, c6, hrun6, hrow6⟩ := run_cut_all (P := Try.prog) (size := 1) (n := l.length) (k := I - J) (i := J) (A := A) (cap := c) 22 5 Try.underlying22 size_u8 (some (.int .i64 (J : Int))) (some (.int .i64 (I : Int))) (Or.inr ⟨.i64, _, rfl, rfl⟩) (Or.inr ⟨.i64, _, rfl, by omega⟩) (by omega) (Row.cap hv)
  have H6 := Lib.hid hrun6
  have R6 := Lib.hid hrow6
  clear hvf hg hrun6 hrow6 hV
  go_enter Try.func6, Try.ntmps6
  go_wp2_with fail
  refine (sane_any _).mono ?_
  rintro e w1 ⟨rfl, b1⟩
  have r1 := hv.past b1
  go_wp2_with fail
  refine (few_yes _ _ l [] _ _ r1 (Bs.nil_ _ _) hl (by simp)).mono ?_
  rintro e w' ⟨rfl, rfl⟩
  go_wp2_with fail
  refine (uint_any _ l _ _ _ r1 (by omega)).mono ?_
  rintro e w' ⟨rfl, rfl⟩
  rw [Q1.out]
  unfold tri
  go_wp2_with fail
  refine (int_any _ l _ _ _ r1 (by omega)).mono ?_
  rintro e w' ⟨rfl, rfl⟩
  rw [Q2.out]
  unfold tri3
  go_wp2_with fail
  refine (bytes_any _ l _ m _ r1 (by omega) hm.2).mono ?_
  rintro e w2 ⟨v2, rfl, x2, b2⟩
  rw [Q3.out] at x2 ⊢
  have hb2 := b1.trans (b2.mono b1.size)
  have r2 := r1.past b2
  obtain ⟨A2, c2, hv2⟩ := Bs.form x2
  rw [hv2] at x2 ⊢
  clear hv2
  go_wp2_with fail
  have r2d : Bs w2.drew w2.drew.heap.size _ l := r2
  have r6 := cut_bs (R6.out _ _ _ r2d) (by omega)
  rw [Q0.out] at r6
  refine wp_region_plan ((0, true) :: (1, true) :: (2, true) :: (3, true) :: (4, true) :: (5, true) :: (6, true) :: (7, true) :: (8, true) :: (9, true) :: (10, true) :: (11, true) :: (12, true) :: (13, true) :: (14, true) :: (15, true) :: (16, true) :: (17, true) :: (18, true) :: (19, true) :: (20, true) :: (21, true) :: (22, true) :: (25, true) :: (26, true) :: (27, true) :: (28, true) :: (29, true) :: (23, false) :: (24, true) :: (30, true) :: (31, true) :: (32, true) :: (33, true) :: (36, true) :: (37, true) :: (38, true) :: (39, true) :: (40, true) :: (34, false) :: (35, true) :: (41, true) :: (42, true) :: (43, true) :: []) (by kernel_rfl) (by kernel_rfl) (by kernel_rfl) rfl (fun _ _ h => h) ?_
  iterate 26 (first | refine plan_skip rfl rfl rfl rfl ?_ | (refine plan_take rfl rfl rfl rfl ?_; apply Exists.intro; refine ⟨fun w' hw' => ?_, ?_⟩; focus (go_wp2; exact ⟨rfl, rfl, rfl⟩)))
  refine plan_take rfl rfl rfl rfl ?_
  apply Exists.intro
  refine ⟨fun w' hw' => ?_, ?_⟩
  · refine wp_run rfl (exec_slice rfl (H6.out w')) ?_
    go_wp2
    exact ⟨rfl, rfl, rfl⟩
  refine plan_take rfl rfl rfl rfl ?_
  apply Exists.intro
  refine ⟨fun w' hw' => ?_, ?_⟩
  · have c := (r6.past hw').str
    unfold str at c
    go_wp2
    exact ⟨rfl, rfl, rfl⟩
  refine plan_step rfl ?_
  go_wp2_with fail
  refine (appendUint_any _ [] V _ (Bs.nil_ _ _) HV.out (by simp)).mono ?_
  rintro e w3 ⟨v3, rfl, o3, b3⟩
  go_wp2_with fail
  refine ⟨rfl, b3, ?_⟩
  rw [List.nil_append] at o3
  refine plan_take rfl rfl rfl rfl ?_
  apply Exists.intro
  refine ⟨fun w' hw' => ?_, ?_⟩
  · have c := (o3.bs.past hw').str
    unfold str at c
    go_wp2
    exact ⟨rfl, rfl, rfl⟩
  have r63 := r6.past b3
  iterate 7 (first | refine plan_skip rfl rfl rfl rfl ?_ | (refine plan_take rfl rfl rfl rfl ?_; apply Exists.intro; refine ⟨fun w' hw' => ?_, ?_⟩; focus (go_wp2; exact ⟨rfl, rfl, rfl⟩)))
  refine plan_take rfl rfl rfl rfl ?_
  apply Exists.intro
  refine ⟨fun w' hw' => ?_, ?_⟩
  · refine wp_run rfl (exec_slice rfl (H6.out w')) ?_
    go_wp2
    exact ⟨rfl, rfl, rfl⟩
  refine plan_take rfl rfl rfl rfl ?_
  apply Exists.intro
  refine ⟨fun w' hw' => ?_, ?_⟩
  · have c := (r63.past hw').str
    unfold str at c
    go_wp2
    exact ⟨rfl, rfl, rfl⟩
  refine plan_step rfl ?_
  go_wp2_with fail
  refine (appendInt_any _ [] _ _ (Bs.nil_ _ _) HZ.out.1 HZ.out.2 (by simp)).mono ?_
  rintro e w4 ⟨v4, rfl, o4, b4⟩
  go_wp2_with fail
  refine ⟨rfl, b4, ?_⟩
  rw [List.nil_append, zz_unzz] at o4
  refine plan_take rfl rfl rfl rfl ?_
  apply Exists.intro
  refine ⟨fun w' hw' => ?_, ?_⟩
  · have c := (o4.bs.past hw').str
    unfold str at c
    go_wp2
    exact ⟨rfl, rfl, rfl⟩
  iterate 3 (first | refine plan_skip rfl rfl rfl rfl ?_ | (refine plan_take rfl rfl rfl rfl ?_; apply Exists.intro; refine ⟨fun w' hw' => ?_, ?_⟩; focus (go_wp2; exact ⟨rfl, rfl, rfl⟩)))
  have b23 := undrew b3
  have hb3 := hb2.trans (b23.mono hb2.size)
  have hb4 := hb3.trans (b4.mono hb3.size)
  show Exit.then _ _ _ _ _
  go_wp2_with fail
  refine wp_region_plan ((0, true) :: (1, true) :: (2, true) :: (3, true) :: (4, true) :: (5, true) :: (6, true) :: (7, true) :: (8, true) :: (9, true) :: (10, true) :: (11, true) :: (12, true) :: (13, true) :: (14, true) :: (15, true) :: (16, true) :: (17, true) :: (18, true) :: (19, true) :: (20, true) :: (21, true) :: (22, true) :: (23, true) :: (26, true) :: (27, true) :: (28, true) :: (29, true) :: (30, true) :: (24, false) :: (25, true) :: (31, true) :: (32, true) :: (33, true) :: (34, true) :: []) (by kernel_rfl) (by kernel_rfl) (by kernel_rfl) rfl (fun _ _ h => h) ?_
  iterate 29 (first | refine plan_skip rfl rfl rfl rfl ?_ | (refine plan_take rfl rfl rfl rfl ?_; apply Exists.intro; refine ⟨fun w' hw' => ?_, ?_⟩; focus (go_wp2; exact ⟨rfl, rfl, rfl⟩)))
  refine plan_skip rfl rfl rfl rfl ?_
  iterate 5 (first | refine plan_skip rfl rfl rfl rfl ?_ | (refine plan_take rfl rfl rfl rfl ?_; apply Exists.intro; refine ⟨fun w' hw' => ?_, ?_⟩; focus (go_wp2; exact ⟨rfl, rfl, rfl⟩)))
  show Exit.then _ _ _ _ _
  go_wp2_with fail
  go_ret
  exact ⟨rfl, hb4.drew⟩

set_option maxRecDepth 100000 in
set_option maxHeartbeats 6400000 in
/-- Both are decoded. -/
theorem canonical_both (v : Value) (l : List UInt8) (J I V K : Nat) (Pl : List UInt8) (m : Int) (w : World) (hv : Bs w w.heap.size v l) (hm : -9223372036854775808 ≤ m ∧ m ≤ 9223372036854775807) (hl : l.length ≤ 4000)
    (hV : V < M64) (hJ : J < I) (hI : I ≤ K) (hK : K ≤ l.length) (hP : (Pl.length : Int) ≤ m) (hPl : Pl.length ≤ 4000) (Q0 : Hid ((l.drop J).take (I - J) = leb V)) (Q9 : Hid ((l.drop J).take (K - J) = leb Pl.length ++ Pl)) (Q1 : Hid (uS l (J : Int) = (V, (I : Int), 0)))
    (Q2 : Hid (iS l (J : Int) = tri3 (unzz V) I 0)) (Q3 : Hid (bS l (J : Int) m = (Pl, (K : Int), 0))) :
    Calls Try.prog 6 #[v, .int .i64 (J : Int), .int .i64 m] w fun e w' => e = .returned (.bool true) ∧ Below w.heap.size w w' := by
  have hd1 : decide (I ≤ J) = false := by simp; omega
  have hd2 : decide (l.length < I) = false := by simp; omega
  have hd3 : decide (J < K) = true := by simp; omega
  have hd4 : decide (K ≤ l.length) = true := by simp; omega
  have hd5 : decide ((Pl.length : Int) ≤ m) = true := by simp; omega
  have HV := Lib.hid hV
  have HZ := Lib.hid (unzz_bounds hV)
  obtain ⟨A, c, hvf⟩ := hv.form
  rw [hvf] at hv ⊢
  obtain ⟨A6, c6, hrun6, hrow6⟩ := run_cut_all (P := Try.prog) (size := 1) (n := l.length) (k := I - J) (i := J) (A := A) (cap := c) 22 5 Try.underlying22 size_u8 (some (.int .i64 (J : Int))) (some (.int .i64 (I : Int))) (Or.inr ⟨.i64, _, rfl, rfl⟩) (Or.inr ⟨.i64, _, rfl, by omega⟩) (by omega) (Row.cap hv)
  have H6 := Lib.hid hrun6
  have R6 := Lib.hid hrow6
  obtain ⟨A7, c7, hrun7, hrow7⟩ := run_cut_all (P := Try.prog) (size := 1) (n := l.length) (k := K - J) (i := J) (A := A) (cap := c) 22 5 Try.underlying22 size_u8 (some (.int .i64 (J : Int))) (some (.int .i64 (K : Int))) (Or.inr ⟨.i64, _, rfl, rfl⟩) (Or.inr ⟨.i64, _, rfl, by omega⟩) (by omega) (Row.cap hv)
  have H7 := Lib.hid hrun7
  have R7 := Lib.hid hrow7
  clear hvf hrun6 hrow6 hrun7 hrow7 hV
  go_enter Try.func6, Try.ntmps6
  go_wp2_with fail
  refine (sane_any _).mono ?_
  rintro e w1 ⟨rfl, b1⟩
  have r1 := hv.past b1
  go_wp2_with fail
  refine (few_yes _ _ l [] _ _ r1 (Bs.nil_ _ _) hl (by simp)).mono ?_
  rintro e w' ⟨rfl, rfl⟩
  go_wp2_with fail
  refine (uint_any _ l _ _ _ r1 (by omega)).mono ?_
  rintro e w' ⟨rfl, rfl⟩
  rw [Q1.out]
  unfold tri
  go_wp2_with fail
  refine (int_any _ l _ _ _ r1 (by omega)).mono ?_
  rintro e w' ⟨rfl, rfl⟩
  rw [Q2.out]
  unfold tri3
  go_wp2_with fail
  refine (bytes_any _ l _ m _ r1 (by omega) hm.2).mono ?_
  rintro e w2 ⟨v2, rfl, x2, b2⟩
  rw [Q3.out] at x2 ⊢
  have hb2 := b1.trans (b2.mono b1.size)
  have r2 := r1.past b2
  obtain ⟨A2, c2, hv2⟩ := Bs.form x2
  rw [hv2] at x2 ⊢
  clear hv2
  go_wp2_with fail
  have r2d : Bs w2.drew w2.drew.heap.size _ l := r2
  have r6 := cut_bs (R6.out _ _ _ r2d) (by omega)
  rw [Q0.out] at r6
  refine wp_region_plan ((0, true) :: (1, true) :: (2, true) :: (3, true) :: (4, true) :: (5, true) :: (6, true) :: (7, true) :: (8, true) :: (9, true) :: (10, true) :: (11, true) :: (12, true) :: (13, true) :: (14, true) :: (15, true) :: (16, true) :: (17, true) :: (18, true) :: (19, true) :: (20, true) :: (21, true) :: (22, true) :: (25, true) :: (26, true) :: (27, true) :: (28, true) :: (29, true) :: (23, false) :: (24, true) :: (30, true) :: (31, true) :: (32, true) :: (33, true) :: (36, true) :: (37, true) :: (38, true) :: (39, true) :: (40, true) :: (34, false) :: (35, true) :: (41, true) :: (42, true) :: (43, true) :: []) (by kernel_rfl) (by kernel_rfl) (by kernel_rfl) rfl (fun _ _ h => h) ?_
  iterate 26 (first | refine plan_skip rfl rfl rfl rfl ?_ | (refine plan_take rfl rfl rfl rfl ?_; apply Exists.intro; refine ⟨fun w' hw' => ?_, ?_⟩; focus (go_wp2; exact ⟨rfl, rfl, rfl⟩)))
  refine plan_take rfl rfl rfl rfl ?_
  apply Exists.intro
  refine ⟨fun w' hw' => ?_, ?_⟩
  · refine wp_run rfl (exec_slice rfl (H6.out w')) ?_
    go_wp2
    exact ⟨rfl, rfl, rfl⟩
  refine plan_take rfl rfl rfl rfl ?_
  apply Exists.intro
  refine ⟨fun w' hw' => ?_, ?_⟩
  · have c := (r6.past hw').str
    unfold str at c
    go_wp2
    exact ⟨rfl, rfl, rfl⟩
  refine plan_step rfl ?_
  go_wp2_with fail
  refine (appendUint_any _ [] V _ (Bs.nil_ _ _) HV.out (by simp)).mono ?_
  rintro e w3 ⟨v3, rfl, o3, b3⟩
  go_wp2_with fail
  refine ⟨rfl, b3, ?_⟩
  rw [List.nil_append] at o3
  refine plan_take rfl rfl rfl rfl ?_
  apply Exists.intro
  refine ⟨fun w' hw' => ?_, ?_⟩
  · have c := (o3.bs.past hw').str
    unfold str at c
    go_wp2
    exact ⟨rfl, rfl, rfl⟩
  have r63 := r6.past b3
  iterate 7 (first | refine plan_skip rfl rfl rfl rfl ?_ | (refine plan_take rfl rfl rfl rfl ?_; apply Exists.intro; refine ⟨fun w' hw' => ?_, ?_⟩; focus (go_wp2; exact ⟨rfl, rfl, rfl⟩)))
  refine plan_take rfl rfl rfl rfl ?_
  apply Exists.intro
  refine ⟨fun w' hw' => ?_, ?_⟩
  · refine wp_run rfl (exec_slice rfl (H6.out w')) ?_
    go_wp2
    exact ⟨rfl, rfl, rfl⟩
  refine plan_take rfl rfl rfl rfl ?_
  apply Exists.intro
  refine ⟨fun w' hw' => ?_, ?_⟩
  · have c := (r63.past hw').str
    unfold str at c
    go_wp2
    exact ⟨rfl, rfl, rfl⟩
  refine plan_step rfl ?_
  go_wp2_with fail
  refine (appendInt_any _ [] _ _ (Bs.nil_ _ _) HZ.out.1 HZ.out.2 (by simp)).mono ?_
  rintro e w4 ⟨v4, rfl, o4, b4⟩
  go_wp2_with fail
  refine ⟨rfl, b4, ?_⟩
  rw [List.nil_append, zz_unzz] at o4
  refine plan_take rfl rfl rfl rfl ?_
  apply Exists.intro
  refine ⟨fun w' hw' => ?_, ?_⟩
  · have c := (o4.bs.past hw').str
    unfold str at c
    go_wp2
    exact ⟨rfl, rfl, rfl⟩
  iterate 3 (first | refine plan_skip rfl rfl rfl rfl ?_ | (refine plan_take rfl rfl rfl rfl ?_; apply Exists.intro; refine ⟨fun w' hw' => ?_, ?_⟩; focus (go_wp2; exact ⟨rfl, rfl, rfl⟩)))
  have b23 := undrew b3
  have hb3 := hb2.trans (b23.mono hb2.size)
  have hb4 := hb3.trans (b4.mono hb3.size)
  show Exit.then _ _ _ _ _
  go_wp2_with fail
  have r4' := (r2d.past b3).past b4
  have x3 : Bs w2.drew w2.drew.heap.size _ Pl := x2
  have x4' := (x3.past b3).past b4
  have r4 : Bs w4.drew w4.drew.heap.size _ l := r4'
  have x4 : Bs w4.drew w4.drew.heap.size _ Pl := x4'
  have r7 := cut_bs (R7.out _ _ _ r4) (by omega)
  rw [Q9.out] at r7
  refine wp_region_plan ((0, true) :: (1, true) :: (2, true) :: (3, true) :: (4, true) :: (5, true) :: (6, true) :: (7, true) :: (8, true) :: (9, true) :: (10, true) :: (11, true) :: (12, true) :: (13, true) :: (14, true) :: (15, true) :: (16, true) :: (17, true) :: (18, true) :: (19, true) :: (20, true) :: (21, true) :: (22, true) :: (23, true) :: (26, true) :: (27, true) :: (28, true) :: (29, true) :: (30, true) :: (24, false) :: (25, true) :: (31, true) :: (32, true) :: (33, true) :: (34, true) :: []) (by kernel_rfl) (by kernel_rfl) (by kernel_rfl) rfl (fun _ _ h => h) ?_
  iterate 27 (first | refine plan_skip rfl rfl rfl rfl ?_ | (refine plan_take rfl rfl rfl rfl ?_; apply Exists.intro; refine ⟨fun w' hw' => ?_, ?_⟩; focus (go_wp2; exact ⟨rfl, rfl, rfl⟩)))
  refine plan_take rfl rfl rfl rfl ?_
  apply Exists.intro
  refine ⟨fun w' hw' => ?_, ?_⟩
  · refine wp_run rfl (exec_slice rfl (H7.out w')) ?_
    go_wp2
    exact ⟨rfl, rfl, rfl⟩
  refine plan_take rfl rfl rfl rfl ?_
  apply Exists.intro
  refine ⟨fun w' hw' => ?_, ?_⟩
  · have c := (r7.past hw').str
    unfold str at c
    go_wp2
    exact ⟨rfl, rfl, rfl⟩
  refine plan_step rfl ?_
  go_wp2_with fail
  refine (appendBytes_any _ _ [] Pl _ (Bs.nil_ _ _) x4 (by simp) (by omega)).mono ?_
  rintro e w5 ⟨v5, rfl, o5, b5⟩
  go_wp2_with fail
  refine ⟨rfl, b5, ?_⟩
  rw [List.nil_append] at o5
  refine plan_take rfl rfl rfl rfl ?_
  apply Exists.intro
  refine ⟨fun w' hw' => ?_, ?_⟩
  · have c := (o5.bs.past hw').str
    unfold str at c
    go_wp2
    exact ⟨rfl, rfl, rfl⟩
  iterate 4 (first | refine plan_skip rfl rfl rfl rfl ?_ | (refine plan_take rfl rfl rfl rfl ?_; apply Exists.intro; refine ⟨fun w' hw' => ?_, ?_⟩; focus (go_wp2; exact ⟨rfl, rfl, rfl⟩)))
  show Exit.then _ _ _ _ _
  go_wp2_with fail
  go_ret
  exact ⟨rfl, hb4.trans ((undrew b5).mono hb4.size)⟩

theorem varintCanonical_walk (v : Value) (l : List UInt8) (i m : Int) (w : World) (hv : Bs w w.heap.size v l) (hi : -9223372036854775808 ≤ i ∧ i ≤ 9223372036854775807) (hm : -9223372036854775808 ≤ m ∧ m ≤ 9223372036854775807) :
    Calls Try.prog 6 #[v, .int .i64 i, .int .i64 m] w fun e w' => e = .returned (.bool true) ∧ Below w.heap.size w w' := by
  by_cases hl : l.length ≤ 4000
  · obtain ⟨Pl, K, g, hb, hcase⟩ := bS_form l i m
    by_cases he : (uS l i).2.2 = 0
    · obtain ⟨J, V, n, rfl, hJ, hu, hV, hn, hjn, ht⟩ := uS_ok he
      have q1 : uS l (J : Int) = (V, ((J + n : Nat) : Int), 0) := by rw [hu]; simp
      have q2 : iS l (J : Int) = tri3 (unzz V) ((J + n : Nat) : Int) 0 := by unfold iS; rw [q1]
      have q0 : (l.drop J).take (J + n - J) = leb V := by rw [show J + n - J = n by omega]; exact ht
      rcases hcase with ⟨h1, rfl, rfl⟩ | ⟨rfl, h1, h2, h3, h4, h5, h6⟩
      · exact canonical_int v l J (J + n) V m w hv hm hl g hV (by omega) hjn q0 q1 q2 hb h1
      · rw [q1] at h3 h4 h5 h6
        simp only [Int.toNat_natCast] at h3 h4 h5 h6
        have hPl : Pl.length = V := by rw [h5, List.length_take, List.length_drop]; omega
        have hK : K = ((J + n + V : Nat) : Int) := by rw [h6]; simp
        rw [hK] at hb
        refine canonical_both v l J (J + n) V (J + n + V) Pl m w hv hm hl hV (by omega) (by omega) (by omega) (by omega) (by omega) q0 ?_ q1 q2 hb
        show (l.drop J).take (J + n + V - J) = leb Pl.length ++ Pl
        rw [hPl, h5, ← ht, show J + n + V - J = n + V by omega, List.take_add, List.drop_drop]
    · obtain ⟨x, y, er, hx, _, hz, _, _⟩ := uS_form l i
      have her : er ≠ 0 := by rw [hx] at he; exact he
      obtain ⟨rfl, rfl⟩ := hz.resolve_left her
      rcases hcase with ⟨h1, rfl, rfl⟩ | ⟨_, _, h2, _⟩
      · exact canonical_none v l i m w hv hm hl er g hx (Lib.hid (show iS l i = tri3 0 0 er by unfold iS; rw [hx]; simp [unzz])) hb her h1
      · exact absurd h2 he
  · go_enter Try.func6, Try.ntmps6
    go_wp2_with fail
    refine (sane_any _).mono ?_
    rintro e w1 ⟨rfl, b1⟩
    go_wp2_with fail
    refine (few_no _ _ l [] _ _ (hv.past b1) (Bs.nil_ _ _) (fun h => hl h.1)).mono ?_
    rintro e w' ⟨rfl, rfl⟩
    go_wp2_with fail
    go_ret
    exact ⟨rfl, b1⟩

end Go.Proofs.Ytgllhelpfjinbaa
