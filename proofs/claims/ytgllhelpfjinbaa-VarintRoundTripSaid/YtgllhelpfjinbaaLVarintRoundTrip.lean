/-
  The walk of the law VarintRoundTrip.
-/
import Derived.Test.YtgllhelpfjinbaaVarL0
import Derived.Test.YtgllhelpfjinbaaPlan
namespace Go.Proofs.Ytgllhelpfjinbaa
open Go.RowKit
set_option linter.unusedVariables false
set_option linter.unusedSimpArgs false

theorem uS_at (l r : List UInt8) (x i : Nat) (hx : x < M64) (hi : i = l.length) : uS (l ++ leb x ++ r) (i : Int) = (x, ((i + (leb x).length : Nat) : Int), 0) := by
  subst hi; exact uS_leb l r x hx

theorem bS_at (l r p : List UInt8) (i : Nat) (hp : p.length ≤ 1000000000) (hi : i = l.length) :
    bS (l ++ leb p.length ++ p ++ r) (i : Int) (p.length : Int) = (p, ((i + (leb p.length).length + p.length : Nat) : Int), 0) := by
  have q := uS_at l (p ++ r) p.length i (by unfold M64; omega) hi
  rw [← List.append_assoc] at q
  unfold bS
  rw [if_neg (by omega), q]
  simp only [ne_eq, not_true_eq_false, if_false]
  rw [if_neg (by omega), if_neg (by simp; omega)]
  subst hi
  have e : ((l ++ leb p.length ++ p ++ r).drop (((l.length + (leb p.length).length : Nat) : Int)).toNat).take p.length = p := by
    rw [Int.toNat_natCast, List.append_assoc (l ++ leb p.length), ← List.length_append, List.drop_left, List.take_left]
  rw [e]
  simp

set_option maxRecDepth 100000 in
set_option maxHeartbeats 3200000 in
theorem varintRoundTrip_walk (v : Value) (l : List UInt8) (u x : Int) (vp : Value) (p : List UInt8) (w : World) (hv : Bs w w.heap.size v l) (hu : 0 ≤ u ∧ u ≤ 18446744073709551615)
    (hx : -9223372036854775808 ≤ x ∧ x ≤ 9223372036854775807) (hq : Bs w w.heap.size vp p) :
    Calls Try.prog 5 #[v, .int .u64 u, .int .i64 x, vp] w fun e w' => e = .returned (.bool true) ∧ Below w.heap.size w w' := by
  obtain ⟨U, rfl⟩ := Int.eq_ofNat_of_zero_le hu.1
  have hU : U < M64 := by unfold M64; omega
  have HU := Lib.hid hU
  by_cases hl : l.length ≤ 4000 ∧ p.length ≤ 4000
  · obtain ⟨hl, hp⟩ := hl
    have n1 := leb_ten hU
    have n2 := leb_ten (zz_lt hx.1 hx.2)
    have n3 := leb_ten (x := p.length) (by unfold M64; omega)
    obtain ⟨B, hB⟩ : ∃ B, B = l ++ leb U ++ leb (zz x) ++ leb p.length ++ p ++ leb p.length ++ p := ⟨_, rfl⟩
    have q1 : uS B (l.length : Nat) = (U, ((l.length + (leb U).length : Nat) : Int), 0) := by
      have := uS_at l (leb (zz x) ++ leb p.length ++ p ++ leb p.length ++ p) U l.length hU rfl
      rw [hB]; simpa using this
    have q2 : uS B ((l.length + (leb U).length : Nat) : Int) = (zz x, ((l.length + (leb U).length + (leb (zz x)).length : Nat) : Int), 0) := by
      have := uS_at (l ++ leb U) (leb p.length ++ p ++ leb p.length ++ p) (zz x) (l.length + (leb U).length) (zz_lt hx.1 hx.2) (by simp)
      rw [hB]; simpa using this
    have q3 : bS B ((l.length + (leb U).length + (leb (zz x)).length : Nat) : Int) (p.length : Int) = (p, ((l.length + (leb U).length + (leb (zz x)).length + (leb p.length).length + p.length : Nat) : Int), 0) := by
      have := bS_at (l ++ leb U ++ leb (zz x)) (leb p.length ++ p) p (l.length + (leb U).length + (leb (zz x)).length) (by omega) (by simp; omega)
      rw [hB]; simpa using this
    have q4 : bS B ((l.length + (leb U).length + (leb (zz x)).length + (leb p.length).length + p.length : Nat) : Int) (p.length : Int) = (p, (B.length : Int), 0) := by
      have := bS_at (l ++ leb U ++ leb (zz x) ++ leb p.length ++ p) [] p (l.length + (leb U).length + (leb (zz x)).length + (leb p.length).length + p.length) (by omega) (by simp; omega)
      rw [hB]
      rw [List.append_nil] at this
      rw [this]
      simp; omega
    have q5 : B.take l.length = l := by rw [hB]; simp
    have q6 : iS B ((l.length + (leb U).length : Nat) : Int) = tri3 x ((l.length + (leb U).length + (leb (zz x)).length : Nat) : Int) 0 := by unfold iS; rw [q2, unzz_zz]
    have hBl : l.length ≤ B.length := by rw [hB]; simp
    have hdec : decide (B.length < l.length) = false := by simp; omega
    have hBs : B.length ≤ 20000 := by rw [hB]; simp; omega
    generalize (l.length + (leb U).length + (leb (zz x)).length + (leb p.length).length + p.length : Nat) = k3 at *
    generalize (l.length + (leb U).length + (leb (zz x)).length : Nat) = k2 at *
    generalize (l.length + (leb U).length : Nat) = k1 at *
    have Q1 := Lib.hid q1
    have Q3 := Lib.hid q3
    have Q4 := Lib.hid q4
    have Q5 := Lib.hid q5
    have Q6 := Lib.hid q6
    have HB := Lib.hid hB
    clear q1 q2 q3 q4 q5 q6 hB hU
    obtain ⟨A, c, hvf⟩ := hv.form
    rw [hvf] at hv ⊢
    clear hvf
    obtain ⟨A', c', hqf⟩ := hq.form
    rw [hqf] at hq ⊢
    clear hqf
    go_enter Try.func5, Try.ntmps5
    go_wp2_with fail
    refine (sane_any _).mono ?_
    rintro e w1 ⟨rfl, b1⟩
    have r1 := hv.past b1
    have s1 := hq.past b1
    go_wp2_with fail
    refine (few_yes _ _ l p _ _ r1 s1 hl hp).mono ?_
    rintro e w' ⟨rfl, rfl⟩
    go_wp2_with fail
    have r1d : Bs w1.drew w1.drew.heap.size _ l := r1
    have s1d : Bs w1.drew w1.drew.heap.size _ p := s1
    refine wp_region_plan [(0, true), (1, true), (3, true), (5, true), (7, true), (8, true), (2, false), (4, false), (6, false), (9, false), (10, true)] (by kernel_rfl) (by kernel_rfl) (by kernel_rfl) rfl (fun _ _ h => h) ?_
    iterate 5 (refine plan_take rfl rfl rfl rfl ?_; apply Exists.intro; refine ⟨fun w' hw' => ?_, ?_⟩; focus (go_wp2; exact ⟨rfl, rfl, rfl⟩))
    refine plan_take rfl rfl rfl rfl ?_
    apply Exists.intro
    refine ⟨fun w' hw' => ?_, ?_⟩
    · have c := (s1d.past hw').str
      unfold str at c
      go_wp2
      exact ⟨rfl, rfl, rfl⟩
    refine plan_step rfl ?_
    go_wp2_with fail
    refine (appendUint_any _ l U _ r1d HU.out (by omega)).mono ?_
    rintro e w2 ⟨v2, rfl, o2, b2⟩
    go_wp2_with fail
    refine ⟨rfl, b2, ?_⟩
    refine plan_step rfl ?_
    go_wp2_with fail
    refine (appendInt_any _ _ x _ o2.bs hx.1 hx.2 (by rw [List.length_append]; omega)).mono ?_
    rintro e w3 ⟨v3, rfl, o3, b3⟩
    go_wp2_with fail
    refine ⟨rfl, b3, ?_⟩
    have s3 := (s1d.past b2).past b3
    refine plan_step rfl ?_
    go_wp2_with fail
    refine (appendBytes_any _ _ _ p _ o3.bs s3 (by simp only [List.length_append]; omega) (by omega)).mono ?_
    rintro e w4 ⟨v4, rfl, o4, b4⟩
    go_wp2_with fail
    refine ⟨rfl, b4, ?_⟩
    refine plan_step rfl ?_
    go_wp2_with fail
    refine (appendString_any _ _ p _ o4.bs (by simp only [List.length_append]; omega) (by omega)).mono ?_
    rintro e w5 ⟨v5, rfl, o5, b5⟩
    go_wp2_with fail
    refine ⟨rfl, b5, ?_⟩
    iterate 1 (refine plan_take rfl rfl rfl rfl ?_; apply Exists.intro; refine ⟨fun w' hw' => ?_, ?_⟩; focus (go_wp2; exact ⟨rfl, rfl, rfl⟩))
    have b15 : Below w1.heap.size w1 w5 := by
      have h2 := undrew b2
      have h3 := h2.trans (b3.mono h2.size)
      have h4 := h3.trans (b4.mono h3.size)
      exact h4.trans (b5.mono h4.size)
    rw [← HB.out] at o5
    have R := o5.bs
    obtain ⟨A5, c5, hv5⟩ := o5.bs.form
    rw [hv5] at R
    show Exit.then _ _ _ _ _
    rw [hv5]
    clear hv5 o5 o4 o3 o2
    have r5 := r1.past b15
    have s5 := s1.past b15
    clear r1 s1 r1d s1d s3
    go_wp2_with fail
    obtain ⟨A6, c6, hrun6, hrow6⟩ := run_cut_all (P := Try.prog) (size := 1) (n := B.length) (k := l.length) (i := 0) (A := A5) (cap := c5) 22 5 Try.underlying22 size_u8 none (some (.int .i64 (l.length : Int))) (Or.inl ⟨rfl, rfl⟩) (Or.inr ⟨.i64, _, rfl, by simp⟩) (by omega) (Row.cap R)
    have r6 := cut_bs (hrow6 _ _ _ R) (by omega)
    rw [List.drop_zero, Q5.out] at r6
    have r6d : Bs w5.drew w5.drew.heap.size _ l := r6
    have r5d : Bs w5.drew w5.drew.heap.size _ l := r5
    have H6 := Lib.hid hrun6
    clear hrun6 hrow6
    refine wp_region_plan [(0, true), (1, true), (2, true), (3, true), (4, true), (5, true), (6, true), (7, true), (8, true), (9, true), (10, true), (11, true), (12, true), (13, true), (14, true)] (by kernel_rfl) (by kernel_rfl) (by kernel_rfl) rfl (fun _ _ h => h) ?_
    iterate 9 (refine plan_take rfl rfl rfl rfl ?_; apply Exists.intro; refine ⟨fun w' hw' => ?_, ?_⟩; focus (go_wp2; exact ⟨rfl, rfl, rfl⟩))
    refine plan_take rfl rfl rfl rfl ?_
    apply Exists.intro
    refine ⟨fun w' hw' => ?_, ?_⟩
    · refine wp_run rfl (exec_slice rfl (H6.out w')) ?_
      go_wp2
      exact ⟨rfl, rfl, rfl⟩
    refine plan_take rfl rfl rfl rfl ?_
    apply Exists.intro
    refine ⟨fun w' hw' => ?_, ?_⟩
    · have c := (r6d.past hw').str
      unfold str at c
      go_wp2
      exact ⟨rfl, rfl, rfl⟩
    iterate 1 (refine plan_take rfl rfl rfl rfl ?_; apply Exists.intro; refine ⟨fun w' hw' => ?_, ?_⟩; focus (go_wp2; exact ⟨rfl, rfl, rfl⟩))
    refine plan_take rfl rfl rfl rfl ?_
    apply Exists.intro
    refine ⟨fun w' hw' => ?_, ?_⟩
    · have c := (r5d.past hw').str
      unfold str at c
      go_wp2
      exact ⟨rfl, rfl, rfl⟩
    iterate 2 (refine plan_take rfl rfl rfl rfl ?_; apply Exists.intro; refine ⟨fun w' hw' => ?_, ?_⟩; focus (go_wp2; exact ⟨rfl, rfl, rfl⟩))
    show Exit.then _ _ _ _ _
    go_wp2_with fail
    have R5 : Bs w5.drew w5.drew.heap.size _ B := R
    have S5 : Bs w5.drew w5.drew.heap.size _ p := s5
    refine (uint_any _ B _ _ _ R5 (by omega)).mono ?_
    rintro e w' ⟨rfl, rfl⟩
    rw [Q1.out]
    unfold tri
    go_wp2_with fail
    refine (int_any _ B _ _ _ R5 (by omega)).mono ?_
    rintro e w' ⟨rfl, rfl⟩
    rw [Q6.out]
    unfold tri3
    go_wp2_with fail
    refine (bytes_any _ B _ _ _ R5 (by omega) (by omega)).mono ?_
    rintro e w7 ⟨v7, rfl, x7, b7⟩
    rw [Q3.out] at x7 ⊢
    have R7 := R5.past b7
    have cq := x7.str
    have cp := (S5.past b7).str
    unfold str at cq cp
    go_wp2_with fail
    refine (string_any _ B _ _ _ R7 (by omega) (by omega)).mono ?_
    rintro e w' ⟨rfl, rfl⟩
    rw [Q4.out]
    unfold SRes str
    go_wp2_with fail
    go_ret
    exact ⟨rfl, b1.trans ((b15.trans ((undrew b7).mono b15.size)).mono b1.size)⟩
  · go_enter Try.func5, Try.ntmps5
    go_wp2_with fail
    refine (sane_any _).mono ?_
    rintro e w1 ⟨rfl, b1⟩
    go_wp2_with fail
    refine (few_no _ _ l p _ _ (hv.past b1) (hq.past b1) hl).mono ?_
    rintro e w' ⟨rfl, rfl⟩
    go_wp2_with fail
    go_ret
    exact ⟨rfl, b1⟩

end Go.Proofs.Ytgllhelpfjinbaa
