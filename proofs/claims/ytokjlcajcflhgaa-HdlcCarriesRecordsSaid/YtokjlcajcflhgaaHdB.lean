/-
  Walks of package hdlc: FCS, stuffing, Encode.
-/
import Derived.Test.YtokjlcajcflhgaaHdA
import Derived.Test.YtokjlcajcflhgaaGrw
namespace Go.Proofs.Ytokjlcajcflhgaa
open Go.RowKit
set_option linter.unusedVariables false
set_option linter.unusedSimpArgs false

theorem below_drewN {B : Nat} {w w' : World} (h : Below B w w') : ∀ n : Nat, Below B w (w'.drewN n)
  | 0 => h
  | n + 1 => (below_drewN h n).drew

theorem fcs_any (v : Value) (l : List UInt8) (w : World) (hv : Bs w w.heap.size v l) (hl : l.length ≤ 1000000000) :
    Calls Try.prog 18 #[v] w fun e w' => e = .returned (.int .u16 (fcsN l)) ∧ Below w.heap.size w w' := by
  go_enter Try.func18, Try.ntmps18
  go_wp2_with fail
  refine (newTable_any _).mono ?_
  rintro e w1 ⟨rfl, ht, hb⟩
  have hv1 := hv.past hb
  have hti := ht.is
  go_wp2_with fail
  refine (tabFcs_any _ v l _ _ hti hv1 hl).mono ?_
  rintro e w2 ⟨rfl, n, rfl⟩
  go_wp2_with fail
  go_ret
  exact ⟨rfl, below_drewN hb n⟩

theorem xor_32 (c : UInt8) : bits BinOp.xor IntKind.u8 (c.toNat : Int) 32 = ((c ^^^ 32).toNat : Int) := by
  have h := u8_xor_nat c.toNat 32 c.toNat_lt (by omega)
  rw [UInt8.toNat_xor]; exact h

set_option maxRecDepth 100000 in
set_option maxHeartbeats 400000 in
theorem appendStuffed_any (base : Nat) (v u : Value) (o l : List UInt8) (w : World) (ho : Own w base v o) (hbase : base ≤ w.heap.size) (hu : Bs w w.heap.size u l) (hap : Apart v u) (hlen : o.length ≤ 1000000) (hl : l.length ≤ 1000000) :
    Calls Try.prog 33 #[v, u] w fun e w' => ∃ v', e = .returned v' ∧ Own w' base v' (o ++ stuff l) ∧ Grew w w' v v' := by
  obtain ⟨A, cap, rfl⟩ := hu.form
  go_enter Try.func33, Try.ntmps33
  go_wp2
  go_loopw [0, 9] (fun b i wr => ∃ k : Nat, i = .int .i64 k ∧ k ≤ l.length ∧ Own wr base b (o ++ stuff (l.take k)) ∧ Grew w wr v b ∧ Apart b (.slice A l.length cap)) (fun _ i _ => (l.length - intOf i).toNat)
  case atStart => exact ⟨0, rfl, by omega, by simpa [stuff] using ho, Grew.refl _ _, hap⟩
  case round =>
    obtain ⟨k, rfl, hk, hown, hb, hape⟩ := hrel
    have hbw : base ≤ wr.heap.size := Nat.le_trans hbase hb.size
    by_cases hlt : k < l.length
    · obtain ⟨c, hc⟩ : ∃ c, l[k]? = some c := ⟨_, List.getElem?_eq_getElem hlt⟩
      have hur : Bs wr wr.heap.size (.slice A l.length cap) l := hu.kept hb hap
      have h0 : 0 < l.length := by omega
      have hsl := (stuff_length (l.take k)).2
      have htl : (l.take k).length = k := by simp; omega
      have HS := Lib.hid (stuff_take hc)
      obtain ⟨q, hq⟩ : ∃ q, q = o ++ stuff (l.take k) := ⟨_, rfl⟩
      have hql : q.length + 2 ≤ 140737488355328 := by rw [hq, List.length_append]; omega
      rw [← hq] at hown
      have HQ := Lib.hid hq
      clear hq hsl htl
      by_cases hs : spec c = true
      · have HO := Lib.hid (show one c = [125, c ^^^ 32] by unfold one; rw [if_pos hs])
        obtain ⟨d, hd⟩ : ∃ d, d = c ^^^ 32 := ⟨_, rfl⟩
        have hx := xor_32 c
        rw [← hd] at hx HO
        clear hd
        have HSP := Lib.hid hs
        clear hs
        go_wp2_with (refine wp_at 22 5 Try.underlying22 size_u8 (.tmp 7) (.tmp 9) rfl rfl rfl hur _ _ k _ rfl rfl (hur.at_ k c hc) ?_; intro p hp hcell)
        refine (special_any c _).mono ?_
        rw [HSP.out]
        rintro e w' ⟨rfl, rfl⟩
        clear hcell
        go_wp2_with (at_builtin; refine wp_appsg base (.tmp 15) (.tmp 18) rfl rfl _ _ q [125, d] rfl rfl (hown.alloc _) (by simp; omega) (own_lit_n wr [125, d] (by simp [maxLen])).bs hql ?_; intro v1 w1 hown1 hb1)
        have hb2 := Grew.after ((Below.refl _ wr).alloc (Nat.le_refl _) _) hb1
        go_roundw
        case rel => exact ⟨k + 1, by go_num, by omega, by rw [HS.out, HO.out, ← List.append_assoc, ← HQ.out]; exact hown1, hb.trans hb2, hape.step hb2 hur⟩
        case measure => simp [intOf]; omega
      · have HO := Lib.hid (show one c = [c] by unfold one; rw [if_neg hs])
        have HSP := Lib.hid (show spec c = false by simpa using hs)
        clear hs
        go_wp2_with (refine wp_at 22 5 Try.underlying22 size_u8 (.tmp 7) (.tmp 9) rfl rfl rfl hur _ _ k _ rfl rfl (hur.at_ k c hc) ?_; intro p hp hcell)
        refine (special_any c _).mono ?_
        rw [HSP.out]
        rintro e w' ⟨rfl, rfl⟩
        clear hcell
        go_wp2_with (at_builtin; refine wp_app1g base (.tmp 20) (.tmp 22) rfl rfl _ q _ c rfl rfl hown hbw (by omega) rfl ?_; intro v1 w1 hown1 hb1)
        go_roundw
        case rel => exact ⟨k + 1, by go_num, by omega, by rw [HS.out, HO.out, ← List.append_assoc, ← HQ.out]; exact hown1, hb.trans hb1, hape.step hb1 hur⟩
        case measure => simp [intOf]; omega
    · have hkl : l.take k = l := by rw [show k = l.length by omega, List.take_length]
      rw [hkl] at hown
      clear hkl
      go_wp2
      go_ret
      exact ⟨_, rfl, hown, hb⟩

set_option maxRecDepth 100000 in
set_option maxHeartbeats 800000 in
theorem encode_yes (v : Value) (l : List UInt8) (w : World) (hv : Bs w w.heap.size v l) (hl : l.length ≤ 4096) :
    Calls Try.prog 15 #[v] w fun e w' => ∃ v', e = .returned (.tuple #[v', .int .i64 0]) ∧ Own w' w.heap.size v' (frm l (fcsN l)) ∧ Below w.heap.size w w' := by
  have hn := fcsN_lt l
  have hfl := frm_length l (fcsN l)
  have hsl := stuff_length l
  obtain ⟨c1, hc1⟩ : ∃ c, c = b8 (fcsN l % 256) := ⟨_, rfl⟩
  obtain ⟨c2, hc2⟩ : ∃ c, c = b8 (fcsN l / 256) := ⟨_, rfl⟩
  have e1 : c1.toNat = fcsN l % 256 := by rw [hc1]; exact b8_toNat (by omega)
  have e2 : c2.toNat = fcsN l / 256 := by rw [hc2]; exact b8_toNat (by omega)
  have E1 := Lib.hid e1
  have E2 := Lib.hid e2
  have HF := Lib.hid (show frm l (fcsN l) = [126] ++ stuff l ++ stuff [c1, c2] ++ [126] by
    unfold frm tail2; rw [← hc1, ← hc2, stuff_append]; simp)
  have hss := (stuff_length [c1, c2]).2
  have HV := Lib.hid hv
  obtain ⟨A, cap, rfl⟩ := hv.form
  clear hc1 hc2 e1 e2 hv
  go_enter Try.func15, Try.ntmps15
  go_wp2_with (first
    | (at_make; refine wp_make0 w.heap.size _ _ rfl rfl _ (l.length + 4) rfl rfl ?_ ?_ (Nat.le_refl _) ?_; exact (by push_cast; omega); exact (by omega); intro v1 w1 ho1 hb1)
    | (at_builtin; refine wp_app1 w.heap.size (.tmp 12) (.tmp 13) rfl rfl _ [] _ 126 rfl rfl ho1 hb1.size (by simp) rfl ?_; intro v2 w2 ho2 hb2))
  have hb12 := hb1.trans hb2
  rw [List.nil_append] at ho2
  have hap : Apart v2 (.slice A l.length cap) := Apart.low (B := 0) ho2 HV.out (Nat.le_refl _)
  refine (appendStuffed_any w.heap.size v2 _ [126] l _ ho2 hb12.size (HV.out.carry hb12 hb12.size) hap (by simp) (by omega)).mono ?_
  rintro e w3 ⟨v3, rfl, ho3, hb3⟩
  have hb13 := hb12.trans (hb3.below ho2 hb12.size)
  have hv3 := HV.out.carry hb13 hb13.size
  clear ho1 ho2 hb1 hb2 hb3 hb12
  go_wp2_with fail
  refine (fcs_any _ l _ hv3 (by omega)).mono ?_
  rintro e w4 ⟨rfl, hb4⟩
  have hv4 := hv3.past hb4
  have ho4 := ho3.past hb4
  go_wp2_with fail
  refine (low_l _ c1.toNat _ hn E1.out).mono ?_
  rintro e w' ⟨rfl, rfl⟩
  go_wp2_with fail
  refine (fcs_any _ l _ hv4 (by omega)).mono ?_
  rintro e w5 ⟨rfl, hb5⟩
  have ho5 := ho4.past hb5
  go_wp2_with fail
  refine (high_l _ c2.toNat _ hn E2.out).mono ?_
  rintro e w' ⟨rfl, rfl⟩
  go_wp2_with fail
  have hb15 := (hb13.trans (hb4.mono hb13.size)).trans (hb5.mono (Nat.le_trans hb13.size hb4.size))
  have hb5s := hb15.size
  clear hv3 hv4 ho3 ho4 hb13 hb4 hb5
  have hlit := own_lit_n w5 [c1, c2] (by simp [maxLen])
  have hbl : Below w5.heap.size w5 (w5.alloc (.cells (u8s [c1, c2]).toArray 5)) := (Below.refl _ _).alloc (Nat.le_refl _) _
  have hap2 : Apart v3 (.slice (some ⟨w5.heap.size, 0, none⟩) 2 2) := by
    intro k hk a n c e _
    injection e with e1 _ _
    injection e1 with e1
    subst e1
    have := (own_block ho5 k hk).2
    simp; omega
  refine (appendStuffed_any w.heap.size v3 _ ([126] ++ stuff l) [c1, c2] _ (ho5.past hbl) (Nat.le_trans hb5s hbl.size) hlit.bs hap2 (by simp; omega) (by simp)).mono ?_
  rintro e w6 ⟨v6, rfl, ho6, hb6⟩
  have hb16 : Below w.heap.size w w6 := (hb15.trans (hbl.mono hb5s)).trans (hb6.below (ho5.past hbl) (Nat.le_trans hb5s hbl.size))
  clear hlit hbl hap2 ho5 hb6 hb15 hb5s
  have hlq : ([126] ++ stuff l ++ stuff [c1, c2]).length + 1 ≤ 140737488355328 := by simp at hss ⊢; omega
  go_wp2_with (at_builtin; refine wp_app1 w.heap.size (.tmp 27) (.tmp 28) rfl rfl _ _ _ 126 rfl rfl ho6 hb16.size hlq rfl ?_; intro v7 w7 ho7 hb7)
  go_ret2
  exact ⟨v7, rfl, by rw [HF.out]; exact ho7, hb16.trans hb7⟩

theorem encode_no (v : Value) (l : List UInt8) (w : World) (B : Nat) (hv : Bs w B v l) (hl : ¬ l.length ≤ 4096) :
    Calls Try.prog 15 #[v] w fun e w' => e = .returned (.tuple #[.slice none 0 0, .int .i64 2]) ∧ w = w' := by
  obtain ⟨A, cap, rfl⟩ := hv.form
  go_enter Try.func15, Try.ntmps15
  go_wp2
  go_ret2
  exact ⟨rfl, rfl⟩
end Go.Proofs.Ytokjlcajcflhgaa
