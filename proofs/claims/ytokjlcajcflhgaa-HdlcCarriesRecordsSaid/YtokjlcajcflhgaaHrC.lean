/-
  Walks of the reference of layer 2: Decode, Scan, SameAll, Few.
-/
import Derived.Test.YtokjlcajcflhgaaHrB
import Derived.Test.YtokjlcajcflhgaaHdC
import Derived.Test.YtokjlcajcflhgaaLst
namespace Go.Proofs.Ytokjlcajcflhgaa
open Go.RowKit
set_option linter.unusedVariables false
set_option linter.unusedSimpArgs false

theorem cut_bytes {w : World} {B : Nat} {v : Value} {b : List UInt8} {i k : Nat} (h : Row w B 1 k v (((u8s b).drop (i * 1)).take (k * 1))) (hk : i + k ≤ b.length) : Bs w B v ((b.drop i).take k) := by
  have hl : ((b.drop i).take k).length = k := by simp; omega
  unfold Bs
  rw [hl]
  rw [Nat.mul_one, Nat.mul_one] at h
  unfold u8s at h ⊢
  rw [List.map_take, List.map_drop]
  exact h

theorem snoc2' {l : List UInt8} (h : 2 ≤ l.length) : ∃ p c d, l = p ++ [c, d] := by
  refine ⟨l.take (l.length - 2), l[l.length - 2], l[l.length - 1], ?_⟩
  conv => lhs; rw [← List.take_append_drop (l.length - 2) l]
  congr 1
  rw [List.drop_eq_getElem_cons (by omega), List.drop_eq_getElem_cons (by omega), List.drop_eq_nil_of_le (by omega)]
  congr 2
  simp only [show l.length - 2 + 1 = l.length - 1 by omega]

theorem dcd_bad {x : List UInt8} (h : un0 false [] x = none) : dcd x = none := by unfold dcd; rw [unst_eq]; unfold unst0; rw [h]; rfl
theorem dcd_len {x r : List UInt8} (h : un0 false [] x = some r) (hl : r.length < 2 ∨ 4098 < r.length) : dcd x = none := by
  unfold dcd; rw [unst_eq]; unfold unst0; rw [h]; simp only [Option.bind_some]; rw [if_pos hl]; rfl
theorem dcd_good {x r : List UInt8} (h : un0 false [] x = some r) (hl : ¬ (r.length < 2 ∨ 4098 < r.length)) : dcd x = pay r := by
  unfold dcd; rw [unst_eq]; unfold unst0; rw [h]; simp only [Option.bind_some]; rw [if_neg hl]; rfl

set_option maxRecDepth 100000 in
set_option maxHeartbeats 1600000 in
theorem refDecode_any (A : Option Addr) (cap : Nat) (b x : List UInt8) (at0 z : Nat) (w : World) (hv : Bs w w.heap.size (.slice A b.length cap) b) (hl : b.length ≤ 1000000)
    (h7e : b[at0]? = some 126) (hz : z = at0 + 1 + fi (b.drop (at0 + 1))) (hzl : z < b.length) (hx : x = (b.drop (at0 + 1)).take (z - (at0 + 1))) :
    Calls Try.prog 32 #[.slice A b.length cap, .int .i64 at0] w fun e w' => Below w.heap.size w w' ∧
      ((∃ p v, dcd x = some p ∧ e = .returned (.tuple #[v, .int .i64 ((z : Int) + 1), .int .i64 0]) ∧ Own w' w.heap.size v p) ∨ (dcd x = none ∧ ∃ E : Int, (E == 0) = false ∧ e = .returned (.tuple #[.slice none 0 0, .int .i64 0, .int .i64 E]))) := by
  have hal : at0 + 1 ≤ z := by omega
  have hflag := refFlag_any A cap b (at0 + 1) w w.heap.size hv (by omega) (by omega) z hz
  rw [show ((at0 + 1 : Nat) : Int) = (at0 : Int) + 1 by omega] at hflag
  have HFL := Lib.hid hflag
  have HX := Lib.hid hx
  have hae := hv.at_ at0 126 h7e
  have hge : decide ((at0 : Int) ≥ (b.length : Int)) = false := by simp; omega
  have hzb : ((z : Int) == (b.length : Int)) = false := beq_eq_false_iff_ne.2 (by omega)
  have hxl : x.length ≤ 1000000 := by rw [hx]; simp; omega
  clear hflag hx hz h7e
  go_enter Try.func32, Try.ntmps32
  go_wp2_with (refine wp_at 22 5 Try.underlying22 size_u8 (.tmp 19) (.tmp 20) rfl rfl rfl hv _ _ at0 _ rfl rfl hae ?_; intro p hp hcell)
  refine HFL.out.mono ?_
  rintro e w1 ⟨rfl, rfl⟩
  clear hcell
  go_wp2_with (refine wp_cut 22 5 Try.underlying22 size_u8 (.tmp 33) (some (.tmp 35)) (some (.tmp 36)) rfl rfl rfl hv (at0 + 1) (z - (at0 + 1)) (Or.inr ⟨_, _, rfl, ?_⟩) (Or.inr ⟨_, _, rfl, ?_⟩) ?_ ?_; exact (by push_cast; rfl); exact (by omega); exact (by omega); intro A1 cap1 hr1)
  have hb1 := cut_bytes hr1 (by omega)
  rw [← HX.out] at hb1
  have hzx : z - (at0 + 1) = x.length := by rw [HX.out]; simp; omega
  rw [hzx] at hb1 ⊢
  clear hr1 hzx
  refine (refUnstuff_any A1 cap1 x _ hb1 hxl).mono ?_
  rintro e w2 ⟨hbl, hor⟩
  have hs2 := hbl.size
  rcases hor with ⟨r, v8, hr, rfl, ho8⟩ | ⟨hr, A', n', c', rfl⟩
  · obtain ⟨A8, cap8, rfl⟩ := ho8.bs.form
    by_cases hlen : r.length < 2 ∨ 4098 < r.length
    · have HD := Lib.hid (dcd_len hr hlen)
      rcases hlen with h2 | h4
      · have t2 : decide ((r.length : Int) < 2) = true := by simp; omega
        clear hr
        go_wp2_with fail
        go_ret3
        exact ⟨hbl, Or.inr ⟨HD.out, 20, rfl, rfl⟩⟩
      · have t2 : decide ((r.length : Int) < 2) = false := by simp; omega
        have t4 : decide ((r.length : Int) > 4098) = true := by simp; omega
        clear hr
        go_wp2_with fail
        go_ret3
        exact ⟨hbl, Or.inr ⟨HD.out, 20, rfl, rfl⟩⟩
    · have hdg := dcd_good hr hlen
      have h2r : 2 ≤ r.length := by omega
      have h4r : r.length ≤ 4098 := by omega
      obtain ⟨p, c, d, hrp⟩ := snoc2' h2r
      have hpay : pay r = if c.toNat + 256 * d.toNat = fcsN p then some p else none := by rw [hrp]; exact pay_form p c d
      rw [hpay] at hdg
      have HDG := Lib.hid hdg
      have hbs8 := ho8.bs
      have hrow := hbs8
      rw [hrp] at hrow
      have hp8 := hrow.to
      have e1 := hrow.at_ p.length c (by simp)
      have e2 := hrow.at_ (p.length + 1) d (by simp [List.getElem?_append])
      obtain ⟨ad, rfl, hblk, hcells⟩ := Row.at_ (show Row w2 w2.heap.size 1 _ _ _ from hrow) (by simp)
      obtain ⟨q1, hq1⟩ : ∃ q, q = ad.add p.length := ⟨_, rfl⟩
      obtain ⟨q2, hq2⟩ : ∃ q, q = ad.add (p.length + 1) := ⟨_, rfl⟩
      have hc1 := hcells _ _ e1
      have hc2 := hcells _ _ e2
      rw [← hq1] at hc1
      rw [← hq2] at hc2
      have Q1 := Lib.hid hq1
      have Q2 := Lib.hid hq2
      have hcap8 := Row.cap (show Row w2 w2.heap.size 1 _ _ _ from hbs8)
      have hNp : r.length = p.length + 2 := by rw [hrp]; simp
      obtain ⟨N, hN⟩ : ∃ N, N = r.length := ⟨_, rfl⟩
      rw [← hN] at hNp hcap8 h2r h4r ⊢
      have HN := Lib.hid hNp
      have hpl : p.length ≤ 4096 := by omega
      obtain ⟨f, hf⟩ : ∃ f, f = fcsN p := ⟨_, rfl⟩
      have hcl := c.toNat_lt
      have hdl := d.toNat_lt
      have hfcs := refFCS_any (some ad) cap8 p w2.drew w2.heap.size hp8 (by omega)
      rw [← hf] at hfcs hpay
      have HFC := Lib.hid hfcs
      have HF := Lib.hid hf
      clear hq1 hq2
      have hq1 : w2.drew.cell? q1 = some (.int .u8 (c.toNat : Int)) := hc1
      have hq2 : w2.drew.cell? q2 = some (.int .u8 (d.toNat : Int)) := hc2
      have HP8 := Lib.hid hp8
      have hbl' : Below w.heap.size w w2.drew := hbl.drew
      clear hfcs hc1 hc2 hcells e1 e2 hrow hdg hrp hN hpay hr hbs8 ho8 hNp hf hlen
      by_cases ht : c.toNat + 256 * d.toNat = f
      · have t1 : (((c.toNat : Int) + 256 * (d.toNat : Int)) != (f : Int)) = false := by simp; omega
        have HD := Lib.hid (show dcd x = some p by rw [HDG.out, ← HF.out, if_pos ht])
        clear ht
        go_wp2_with (refine wp_to (.tmp 53) (.tmp 56) rfl rfl rfl p.length _ _ rfl ?_ ?_ hcap8 ?_; exact (by have := HN.out; omega); exact (by have := HN.out; omega))
        refine wp_region_plan ((0, true) :: (1, true) :: (2, true) :: (3, true) :: (4, true) :: (5, true) :: (6, true) :: (7, true) :: (8, true) :: (9, true) :: (10, true) :: (11, true) :: (12, true) :: (13, true) :: (14, true) :: (15, true) :: (16, true) :: (17, false) :: (18, true) :: []) (by kernel_rfl) (by kernel_rfl) (by kernel_rfl) rfl (fun _ _ h => h) ?_
        iterate 4 (first | refine plan_skip rfl rfl rfl rfl ?_ | (refine plan_take rfl rfl rfl rfl ?_; apply Exists.intro; refine ⟨fun w' hw' => ?_, ?_⟩; focus (go_wp2; exact ⟨rfl, rfl, rfl⟩)))
        refine plan_take rfl rfl rfl rfl ?_
        apply Exists.intro
        refine ⟨fun w' hw' => ?_, ?_⟩
        · refine wp_run rfl (exec_ix 22 5 Try.underlying22 size_u8 _ rfl rfl _ _ (p.length) rfl (by have := HN.out; omega) (by have := HN.out; omega) Q1.out) ?_
          exact ⟨rfl, rfl, rfl⟩
        refine plan_take rfl rfl rfl rfl ?_
        apply Exists.intro
        refine ⟨fun w' hw' => ?_, ?_⟩
        · have c := cell_past hq1 hw'
          go_wp2
          exact ⟨rfl, rfl, rfl⟩
        iterate 5 (first | refine plan_skip rfl rfl rfl rfl ?_ | (refine plan_take rfl rfl rfl rfl ?_; apply Exists.intro; refine ⟨fun w' hw' => ?_, ?_⟩; focus (go_wp2; exact ⟨rfl, rfl, rfl⟩)))
        refine plan_take rfl rfl rfl rfl ?_
        apply Exists.intro
        refine ⟨fun w' hw' => ?_, ?_⟩
        · refine wp_run rfl (exec_ix 22 5 Try.underlying22 size_u8 _ rfl rfl _ _ (p.length + 1) rfl (by have := HN.out; omega) (by have := HN.out; omega) Q2.out) ?_
          exact ⟨rfl, rfl, rfl⟩
        refine plan_take rfl rfl rfl rfl ?_
        apply Exists.intro
        refine ⟨fun w' hw' => ?_, ?_⟩
        · have c := cell_past hq2 hw'
          go_wp2
          exact ⟨rfl, rfl, rfl⟩
        iterate 4 (first | refine plan_skip rfl rfl rfl rfl ?_ | (refine plan_take rfl rfl rfl rfl ?_; apply Exists.intro; refine ⟨fun w' hw' => ?_, ?_⟩; focus (go_wp2; exact ⟨rfl, rfl, rfl⟩)))
        refine plan_step rfl ?_
        go_wp2_with fail
        refine (HFC.out).mono ?_
        rintro e w' ⟨rfl, rfl⟩
        go_wp2_with fail
        refine ⟨rfl, Below.refl _ _, ?_⟩
        iterate 1 (first | refine plan_skip rfl rfl rfl rfl ?_ | (refine plan_take rfl rfl rfl rfl ?_; apply Exists.intro; refine ⟨fun w' hw' => ?_, ?_⟩; focus (go_wp2; exact ⟨rfl, rfl, rfl⟩)))
        show Exit.then _ _ _ _ _
        go_wp2_with fail
        refine (refCopy_any (.slice (some ad) p.length cap8) p w2.drew HP8.out (by omega)).mono ?_
        rintro e w3 ⟨v3, rfl, ho3, hb3⟩
        go_wp2_with fail
        go_ret3
        exact ⟨hbl'.trans (hb3.mono hbl'.size), Or.inl ⟨p, v3, HD.out, rfl, ho3.up hbl'.size⟩⟩
      · have t1 : (((c.toNat : Int) + 256 * (d.toNat : Int)) != (f : Int)) = true := by simp; omega
        have HD := Lib.hid (show dcd x = none by rw [HDG.out, ← HF.out, if_neg ht])
        clear ht
        go_wp2_with (refine wp_to (.tmp 53) (.tmp 56) rfl rfl rfl p.length _ _ rfl ?_ ?_ hcap8 ?_; exact (by have := HN.out; omega); exact (by have := HN.out; omega))
        refine wp_region_plan ((0, true) :: (1, true) :: (2, true) :: (3, true) :: (4, true) :: (5, true) :: (6, true) :: (7, true) :: (8, true) :: (9, true) :: (10, true) :: (11, true) :: (12, true) :: (13, true) :: (14, true) :: (15, true) :: (16, true) :: (17, false) :: (18, true) :: []) (by kernel_rfl) (by kernel_rfl) (by kernel_rfl) rfl (fun _ _ h => h) ?_
        iterate 4 (first | refine plan_skip rfl rfl rfl rfl ?_ | (refine plan_take rfl rfl rfl rfl ?_; apply Exists.intro; refine ⟨fun w' hw' => ?_, ?_⟩; focus (go_wp2; exact ⟨rfl, rfl, rfl⟩)))
        refine plan_take rfl rfl rfl rfl ?_
        apply Exists.intro
        refine ⟨fun w' hw' => ?_, ?_⟩
        · refine wp_run rfl (exec_ix 22 5 Try.underlying22 size_u8 _ rfl rfl _ _ (p.length) rfl (by have := HN.out; omega) (by have := HN.out; omega) Q1.out) ?_
          exact ⟨rfl, rfl, rfl⟩
        refine plan_take rfl rfl rfl rfl ?_
        apply Exists.intro
        refine ⟨fun w' hw' => ?_, ?_⟩
        · have c := cell_past hq1 hw'
          go_wp2
          exact ⟨rfl, rfl, rfl⟩
        iterate 5 (first | refine plan_skip rfl rfl rfl rfl ?_ | (refine plan_take rfl rfl rfl rfl ?_; apply Exists.intro; refine ⟨fun w' hw' => ?_, ?_⟩; focus (go_wp2; exact ⟨rfl, rfl, rfl⟩)))
        refine plan_take rfl rfl rfl rfl ?_
        apply Exists.intro
        refine ⟨fun w' hw' => ?_, ?_⟩
        · refine wp_run rfl (exec_ix 22 5 Try.underlying22 size_u8 _ rfl rfl _ _ (p.length + 1) rfl (by have := HN.out; omega) (by have := HN.out; omega) Q2.out) ?_
          exact ⟨rfl, rfl, rfl⟩
        refine plan_take rfl rfl rfl rfl ?_
        apply Exists.intro
        refine ⟨fun w' hw' => ?_, ?_⟩
        · have c := cell_past hq2 hw'
          go_wp2
          exact ⟨rfl, rfl, rfl⟩
        iterate 4 (first | refine plan_skip rfl rfl rfl rfl ?_ | (refine plan_take rfl rfl rfl rfl ?_; apply Exists.intro; refine ⟨fun w' hw' => ?_, ?_⟩; focus (go_wp2; exact ⟨rfl, rfl, rfl⟩)))
        refine plan_step rfl ?_
        go_wp2_with fail
        refine (HFC.out).mono ?_
        rintro e w' ⟨rfl, rfl⟩
        go_wp2_with fail
        refine ⟨rfl, Below.refl _ _, ?_⟩
        iterate 1 (first | refine plan_skip rfl rfl rfl rfl ?_ | (refine plan_take rfl rfl rfl rfl ?_; apply Exists.intro; refine ⟨fun w' hw' => ?_, ?_⟩; focus (go_wp2; exact ⟨rfl, rfl, rfl⟩)))
        show Exit.then _ _ _ _ _
        go_wp2_with fail
        go_ret3
        exact ⟨hbl', Or.inr ⟨HD.out, 21, rfl, rfl⟩⟩
  · have HD := Lib.hid (dcd_bad hr)
    clear hr
    go_wp2_with fail
    go_ret3
    exact ⟨hbl, Or.inr ⟨HD.out, 20, rfl, rfl⟩⟩
end Go.Proofs.Ytokjlcajcflhgaa
