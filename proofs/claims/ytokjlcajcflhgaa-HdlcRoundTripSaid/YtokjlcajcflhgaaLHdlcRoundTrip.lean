/-
  The walk of the law HdlcRoundTrip.
-/
import Derived.Test.YtokjlcajcflhgaaHdL
namespace Go.Proofs.Ytokjlcajcflhgaa
open Go.RowKit
set_option linter.unusedVariables false
set_option linter.unusedSimpArgs false

set_option maxRecDepth 100000 in
set_option maxHeartbeats 1600000 in
theorem hdlcRoundTrip_walk (v : Value) (l : List UInt8) (w : World) (hv : Bs w w.heap.size v l) :
    Calls Try.prog 4 #[v] w fun e w' => e = .returned (.bool true) ∧ Below w.heap.size w w' := by
  obtain ⟨A, cap, rfl⟩ := hv.form
  by_cases hl6 : l.length ≤ 6000
  · by_cases hl : l.length ≤ 4096
    · have hn := fcsN_lt l
      obtain ⟨c, hc⟩ : ∃ c, c = stuff (l ++ tail2 (fcsN l)) := ⟨_, rfl⟩
      obtain ⟨F, hF⟩ : ∃ F, F = frm l (fcsN l) := ⟨_, rfl⟩
      have hFc : F = 126 :: (c ++ 126 :: []) := by rw [hF, hc]; rfl
      have hbare : Bare c := by rw [hc]; exact stuff_bare _
      have hd : dcd c = some l := by rw [hc, dcd_stuff l _ hl hn, if_pos rfl]
      have hfl := frm_length l (fcsN l)
      rw [← hF] at hfl
      have hM : F.length = c.length + 2 := by rw [hFc]; simp
      have hF0 : F[0]? = some 126 := by rw [hFc]; rfl
      have hFl : F[c.length + 1]? = some 126 := by rw [hFc]; simp
      have hFm : ∀ k d, 0 < k → k < c.length + 1 → F[k]? = some d → d ≠ 126 := by
        intro k d h0 h1 hk
        obtain ⟨j, rfl⟩ : ∃ j, k = j + 1 := ⟨k - 1, by omega⟩
        rw [hFc, List.getElem?_cons_succ, List.getElem?_append_left (by omega)] at hk
        exact hbare d (List.mem_of_getElem? hk)
      have HF := Lib.hid hF
      have HFC := Lib.hid hFc
      have HM := Lib.hid hM
      have HF0 := Lib.hid hF0
      have HFL := Lib.hid hFl
      have HFM := Lib.hid hFm
      have HD := Lib.hid hd
      have t1 : (((c.length + 2 : Nat) : Int) != (F.length : Int)) = false := by simp; omega
      have T1 := Lib.hid t1
      have hMl : 4 ≤ F.length := by omega
      have hMl2 : F.length ≤ 1000000 := by omega
      clear hc hF hFc hd hM hF0 hFl hFm t1 hfl
      go_enter Try.func4, Try.ntmps4
      go_wp2_with fail
      refine (sane_any _).mono ?_
      rintro e w1 ⟨rfl, b1⟩
      have s1 := hv.past b1
      go_wp2_with fail
      refine (encode_yes _ l _ s1 hl).mono ?_
      rintro e w2 ⟨v2, rfl, o2, b2⟩
      rw [← HF.out] at o2
      have s2 := s1.past b2
      have hb2 := b1.trans (b2.mono b1.size)
      have r2 := o2.bs
      obtain ⟨A2, c2, rfl⟩ := r2.form
      clear b1 s1 b2 o2
      go_wp2_with fail
      refine (decode_any A2 c2 F c [] _ HFC.out hbare r2 hMl2).mono ?_
      rintro e w3 ⟨b3, hor⟩
      have hor' : ∃ v, e = .returned (.tuple #[v, .int .i64 ((c.length + 2 : Nat) : Int), .int .i64 0]) ∧ Own w3 w2.heap.size v l := by
        rcases hor with ⟨p, v, hd, he, ho⟩ | ⟨hd, _⟩ | ⟨hd, _⟩
        · rw [HD.out] at hd; injection hd with hd; subst hd; exact ⟨v, he, ho⟩
        · rw [HD.out] at hd; cases hd
        · rw [HD.out] at hd; cases hd
      obtain ⟨v3, rfl, o3⟩ := hor'
      obtain ⟨z, hz⟩ : ∃ z : Int, z = ((c.length + 2 : Nat) : Int) := ⟨_, rfl⟩
      have t1 := T1.out
      rw [← hz] at t1 ⊢
      clear hor hz
      have s3 := s2.past b3
      have r3 := r2.past b3
      have hb3 := hb2.trans (b3.mono hb2.size)
      clear s2 r2 b3 hb2
      go_wp2_with fail
      refine (same_any v3 _ l l _ _ _ o3.bs s3).mono ?_
      rintro e w4 ⟨rfl, rfl⟩
      rw [show (l == l) = true by simp]
      clear o3 s3
      go_wp2_with fail
      go_loop [60] (fun i => ∃ k : Nat, i = .int .i64 k ∧ k ≤ F.length) (fun i => (F.length - intOf i).toNat)
      case atStart => exact ⟨0, rfl, by omega⟩
      case round =>
        obtain ⟨k, rfl, hk⟩ := hrel
        by_cases hlt : k < F.length
        · by_cases h0 : k = 0
          · have hx := HF0.out
            rw [← h0] at hx
            have hce := r3.at_ k 126 hx
            have t2 : ((k : Int) == 0) = true := by rw [h0]; rfl
            clear hx h0
            go_wp2_with (refine wp_at 22 5 Try.underlying22 size_u8 (.tmp 63) (.tmp 64) rfl rfl rfl r3 _ _ k _ rfl rfl hce ?_; intro p hp hcell)
            go_round
            case rel => exact ⟨k + 1, by go_num, by omega⟩
            case measure => simp [intOf]; omega
          · have t2 : ((k : Int) == 0) = false := beq_eq_false_iff_ne.2 (by omega)
            by_cases hlast : k = c.length + 1
            · have hx := HFL.out
              rw [← hlast] at hx
              have hce := r3.at_ k 126 hx
              have t3 : ((k : Int) == (F.length : Int) - 1) = true := by have := HM.out; simp; omega
              clear hx hlast h0
              go_wp2_with (refine wp_at 22 5 Try.underlying22 size_u8 (.tmp 63) (.tmp 64) rfl rfl rfl r3 _ _ k _ rfl rfl hce ?_; intro p hp hcell)
              go_round
              case rel => exact ⟨k + 1, by go_num, by omega⟩
              case measure => simp [intOf]; omega
            · obtain ⟨d, hd⟩ : ∃ d, F[k]? = some d := ⟨_, List.getElem?_eq_getElem hlt⟩
              have hne := HFM.out k d (by omega) (by have := HM.out; omega) hd
              have hce := r3.at_ k d hd
              have t3 : ((k : Int) == (F.length : Int) - 1) = false := by have := HM.out; simp; omega
              have t4 : ((d.toNat : Int) == 126) = false := toNat_ne (n := 126) (by omega) hne
              clear hd hlast h0 hne
              go_wp2_with (refine wp_at 22 5 Try.underlying22 size_u8 (.tmp 63) (.tmp 64) rfl rfl rfl r3 _ _ k _ rfl rfl hce ?_; intro p hp hcell)
              go_round
              case rel => exact ⟨k + 1, by go_num, by omega⟩
              case measure => simp [intOf]; omega
        · go_wp2
          go_ret
          exact ⟨rfl, hb3⟩
    · go_enter Try.func4, Try.ntmps4
      go_wp2_with fail
      refine (sane_any _).mono ?_
      rintro e w1 ⟨rfl, b1⟩
      have s1 := hv.past b1
      go_wp2_with fail
      refine (encode_no _ l _ _ s1 hl).mono ?_
      rintro e w2 ⟨rfl, rfl⟩
      go_wp2_with fail
      go_ret
      exact ⟨ret_bool (by simp <;> omega), b1⟩
  · go_enter Try.func4, Try.ntmps4
    go_wp2_with fail
    refine (sane_any _).mono ?_
    rintro e w1 ⟨rfl, b1⟩
    go_wp2_with fail
    go_ret
    exact ⟨rfl, b1⟩

end Go.Proofs.Ytokjlcajcflhgaa
