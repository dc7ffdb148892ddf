/-
  Walks of the reference of layer 2: Stuff, Sealed, unstuff.
-/
import Derived.Test.YtokjlcajcflhgaaHrA
namespace Go.Proofs.Ytokjlcajcflhgaa
open Go.RowKit
set_option linter.unusedVariables false
set_option linter.unusedSimpArgs false

set_option maxRecDepth 100000 in
set_option maxHeartbeats 800000 in
theorem refStuff_any (A : Option Addr) (cap : Nat) (l : List UInt8) (w : World) (hu : Bs w w.heap.size (.slice A l.length cap) l) (hl : l.length ≤ 1000000) :
    Calls Try.prog 38 #[.slice A l.length cap] w fun e w' => ∃ v', e = .returned v' ∧ Own w' w.heap.size v' (stuff l) ∧ Below w.heap.size w w' := by
  go_enter Try.func38, Try.ntmps38
  go_wp2
  go_loopw [3, 8] (fun b i wr => ∃ k : Nat, i = .int .i64 k ∧ k ≤ l.length ∧ Own wr w.heap.size b (stuff (l.take k)) ∧ Below w.heap.size w wr) (fun _ i _ => (l.length - intOf i).toNat)
  case atStart => exact ⟨0, rfl, by omega, Own.nil_ _ _, Below.refl _ _⟩
  case round =>
    obtain ⟨k, rfl, hk, hown, hb⟩ := hrel
    have hbw := hb.size
    by_cases hlt : k < l.length
    · obtain ⟨c, hc⟩ : ∃ c, l[k]? = some c := ⟨_, List.getElem?_eq_getElem hlt⟩
      have hur := hu.carry hb (Nat.le_refl _)
      have hsl := (stuff_length (l.take k)).2
      have htl : (l.take k).length = k := by simp; omega
      have HS := Lib.hid (stuff_take hc)
      obtain ⟨q, hq⟩ : ∃ q, q = stuff (l.take k) := ⟨_, rfl⟩
      have hql : q.length + 2 ≤ 140737488355328 := by rw [hq]; omega
      rw [← hq] at hown
      have HQ := Lib.hid hq
      have hx := xor_32 c
      have hce := hur.at_ k c hc
      clear hq hsl htl
      by_cases hs : spec c = true
      · have HO := Lib.hid (show one c = [125, c ^^^ 32] by unfold one; rw [if_pos hs])
        obtain ⟨d, hd⟩ : ∃ d, d = c ^^^ 32 := ⟨_, rfl⟩
        rw [← hd] at hx HO
        clear hd
        rcases spec_or hs with h6 | h5
        · have t6 : ((c.toNat : Int) == 126) = true := by rw [h6]; rfl
          clear hs h6
          go_wp2_with (first
            | (refine wp_at 22 5 Try.underlying22 size_u8 (.tmp 6) (.tmp 8) rfl rfl rfl hur _ _ k _ rfl rfl hce ?_; intro p hp hcell)
            | (at_builtin; clear hcell; refine wp_apps w.heap.size (.tmp 18) (.tmp 21) rfl rfl _ _ q [125, d] rfl rfl (hown.alloc _) (by simp; omega) (own_lit_n _ [125, d] (by simp [maxLen])).bs hql ?_; intro v1 w1 hown1 hb1))
          go_roundw
          case rel => exact ⟨k + 1, by go_num, by omega, by rw [HS.out, HO.out, ← HQ.out]; exact hown1, (hb.alloc hbw _).trans hb1⟩
          case measure => simp [intOf]; omega
        · have t6 : ((c.toNat : Int) == 126) = false := by rw [h5]; rfl
          have t5 : ((c.toNat : Int) == 125) = true := by rw [h5]; rfl
          clear hs h5
          go_wp2_with (first
            | (refine wp_at 22 5 Try.underlying22 size_u8 (.tmp 6) (.tmp 8) rfl rfl rfl hur _ _ k _ rfl rfl hce ?_; intro p hp hcell)
            | (at_builtin; clear hcell; refine wp_apps w.heap.size (.tmp 18) (.tmp 21) rfl rfl _ _ q [125, d] rfl rfl (hown.alloc _) (by simp; omega) (own_lit_n _ [125, d] (by simp [maxLen])).bs hql ?_; intro v1 w1 hown1 hb1))
          go_roundw
          case rel => exact ⟨k + 1, by go_num, by omega, by rw [HS.out, HO.out, ← HQ.out]; exact hown1, (hb.alloc hbw _).trans hb1⟩
          case measure => simp [intOf]; omega
      · have HO := Lib.hid (show one c = [c] by unfold one; rw [if_neg hs])
        have hn := spec_no (show spec c = false by simpa using hs)
        have t6 : ((c.toNat : Int) == 126) = false := toNat_ne (n := 126) (by omega) hn.1
        have t5 : ((c.toNat : Int) == 125) = false := toNat_ne (n := 125) (by omega) hn.2
        clear hs hn hx
        go_wp2_with (first
          | (refine wp_at 22 5 Try.underlying22 size_u8 (.tmp 6) (.tmp 8) rfl rfl rfl hur _ _ k _ rfl rfl hce ?_; intro p hp hcell)
          | (at_builtin; clear hcell; refine wp_app1 w.heap.size (.tmp 23) (.tmp 25) rfl rfl _ q _ c rfl rfl hown hbw (by omega) rfl ?_; intro v1 w1 hown1 hb1))
        go_roundw
        case rel => exact ⟨k + 1, by go_num, by omega, by rw [HS.out, HO.out, ← HQ.out]; exact hown1, hb.trans hb1⟩
        case measure => simp [intOf]; omega
    · have hkl : l.take k = l := by rw [show k = l.length by omega, List.take_length]
      rw [hkl] at hown
      clear hkl
      go_wp2
      go_ret
      exact ⟨_, rfl, hown, hb⟩

set_option maxRecDepth 100000 in
set_option maxHeartbeats 800000 in
theorem refSealed_any (v : Value) (l : List UInt8) (n : Nat) (hn : n < 65536) (w : World) (hv : Bs w w.heap.size v l) (hl : l.length ≤ 100000) :
    Calls Try.prog 20 #[v, .int .u16 n] w fun e w' => ∃ v', e = .returned v' ∧ Own w' w.heap.size v' (frm l n) ∧ Below w.heap.size w w' := by
  obtain ⟨c1, hc1⟩ : ∃ c, c = b8 (n % 256) := ⟨_, rfl⟩
  obtain ⟨c2, hc2⟩ : ∃ c, c = b8 (n / 256) := ⟨_, rfl⟩
  have e1 : c1.toNat = n % 256 := by rw [hc1]; exact b8_toNat (by omega)
  have e2 : c2.toNat = n / 256 := by rw [hc2]; exact b8_toNat (by omega)
  have h1 : (n : Int) % 256 = (c1.toNat : Int) := by omega
  have h2 : (n : Int) / 256 = (c2.toNat : Int) := by omega
  have HT := Lib.hid (show l ++ tail2 n = l ++ [c1, c2] by unfold tail2; rw [hc1, hc2])
  have hcl1 := c1.toNat_lt
  have hcl2 := c2.toNat_lt
  have hsl := (stuff_length (l ++ [c1, c2])).2
  rw [List.length_append] at hsl
  have hsl' : (stuff (l ++ [c1, c2])).length ≤ 1000000 := by simp at hsl; omega
  clear hc1 hc2 e1 e2 hsl
  go_enter Try.func20, Try.ntmps20
  go_wp2_with fail
  refine (refCopy_any v l _ hv (by omega)).mono ?_
  rintro e w1 ⟨v1, rfl, ho1, hb1⟩
  have hs1 := hb1.size
  go_wp2_with (first
    | (at_builtin; refine wp_apps w.heap.size (.tmp 9) (.tmp 16) rfl rfl _ _ l [c1, c2] rfl rfl (ho1.alloc _) (by simp; omega) (own_lit_n w1 [c1, c2] (by simp [maxLen])).bs (by simp; omega) ?_; intro v2 w2 ho2 hb2))
  obtain ⟨q, hq⟩ : ∃ q, q = l ++ [c1, c2] := ⟨_, rfl⟩
  have hql : q.length ≤ 1000000 := by rw [hq]; simp; omega
  rw [← hq] at ho2 hsl'
  have HQ := Lib.hid hq
  clear hq
  have hb12 : Below w.heap.size w w2 := (hb1.alloc hs1 _).trans hb2
  have hs2 := hb12.size
  obtain ⟨A2, cap2, rfl⟩ := ho2.bs.form
  obtain ⟨w3, hw3⟩ : ∃ w3, w3 = w2.alloc (.cells #[.int .u8 126] 5) := ⟨_, rfl⟩
  have hb23 : Below w2.heap.size w2 w3 := by rw [hw3]; exact (Below.refl _ _).alloc (Nat.le_refl _) _
  have hlit : Own w3 w2.heap.size (.slice (some ⟨w2.heap.size, 0, none⟩) 1 1) [126] := by rw [hw3]; exact own_lit_n w2 [126] (by simp [maxLen])
  have ho3 := ho2.past hb23
  have hs3 := hb23.size
  rw [← hw3]
  clear hw3 ho1 ho2 hb1 hb2
  refine (refStuff_any A2 cap2 q _ ho3.bs hql).mono ?_
  rintro e w4 ⟨v4, rfl, ho4, hb4⟩
  have hlit4 := hlit.past hb4
  have hs4 := hb4.size
  clear ho3 hlit
  go_wp2_with (first
    | (at_builtin; refine wp_apps w2.heap.size (.tmp 19) (.tmp 21) rfl rfl _ _ [126] (stuff q) rfl rfl hlit4 (by omega) ho4.bs (by simp; omega) ?_; intro v5 w5 ho5 hb5)
    | (at_builtin; refine wp_app1 w2.heap.size (.tmp 23) (.tmp 24) rfl rfl _ ([126] ++ stuff q) _ 126 rfl rfl ho5 (Nat.le_trans (Nat.le_trans hs3 hs4) hb5.size) (by simp; omega) rfl ?_; intro v6 w6 ho6 hb6))
  go_ret
  refine ⟨v6, rfl, ?_, ?_⟩
  · have h := ho6.up hs2
    unfold frm
    rw [HT.out, ← HQ.out]
    simpa using h
  · have h24 : Below w.heap.size w w4 := (hb12.trans (hb23.mono hs2)).trans (hb4.mono (by omega))
    exact (h24.trans (hb5.mono hs2)).trans (hb6.mono hs2)

/-! ### unstuff -/
theorem spec_xor (c : UInt8) : spec (c ^^^ 32) = true ↔ (c = 94 ∨ c = 93) := by
  constructor
  · intro h
    have hx := xor32_back c
    rcases spec_or h with h | h
    · left; rw [← hx, h]; rfl
    · right; rw [← hx, h]; rfl
  · rintro (rfl | rfl) <;> rfl
theorem un0_cons (e : Bool) (acc : List UInt8) (c : UInt8) (l : List UInt8) : un0 e acc (c :: l) = if e = true then (if spec (c ^^^ 32) = true then un0 false (acc ++ [c ^^^ 32]) l else none) else if c = 125 then un0 true acc l else un0 false (acc ++ [c]) l := rfl

set_option maxRecDepth 100000 in
set_option maxHeartbeats 1600000 in
theorem refUnstuff_any (A : Option Addr) (cap : Nat) (l : List UInt8) (w : World) (hu : Bs w w.heap.size (.slice A l.length cap) l) (hl : l.length ≤ 1000000) :
    Calls Try.prog 48 #[.slice A l.length cap] w fun e w' => Below w.heap.size w w' ∧
      ((∃ r v, un0 false [] l = some r ∧ e = .returned (.tuple #[v, .bool true]) ∧ Own w' w.heap.size v r) ∨ (un0 false [] l = none ∧ ∃ A' n c, e = .returned (.tuple #[.slice A' n c, .bool false]))) := by
  go_enter Try.func48, Try.ntmps48
  go_wp2
  go_loopw [4, 5, 10] (fun b e i wr => ∃ (k : Nat) (acc : List UInt8) (eb : Bool), i = .int .i64 k ∧ e = .bool eb ∧ k ≤ l.length ∧ Own wr w.heap.size b acc ∧ acc.length ≤ k ∧ Below w.heap.size w wr ∧ un0 eb acc (l.drop k) = un0 false [] l) (fun _ _ i _ => (l.length - intOf i).toNat)
  case atStart => exact ⟨0, [], false, rfl, rfl, by omega, Own.nil_ _ _, Nat.le_refl _, Below.refl _ _, rfl⟩
  case round =>
    obtain ⟨k, acc, eb, rfl, rfl, hk, hown, hal, hb, hun⟩ := hrel
    have HUN := Lib.hid hun
    have hbw := hb.size
    clear hun
    by_cases hlt : k < l.length
    · obtain ⟨c, hc⟩ : ∃ c, l[k]? = some c := ⟨_, List.getElem?_eq_getElem hlt⟩
      have HD := Lib.hid (show l.drop k = c :: l.drop (k + 1) by
        rw [List.drop_eq_getElem_cons hlt]; congr 1; exact (List.getElem?_eq_some_iff.1 hc).2)
      have hur := hu.carry hb (Nat.le_refl _)
      have hce := hur.at_ k c hc
      have hx := xor_32 c
      have HSTEP := Lib.hid (show un0 false [] l = if eb = true then (if spec (c ^^^ 32) = true then un0 false (acc ++ [c ^^^ 32]) (l.drop (k + 1)) else none) else if c = 125 then un0 true acc (l.drop (k + 1)) else un0 false (acc ++ [c]) (l.drop (k + 1)) by
        rw [← HUN.out, HD.out, un0_cons])
      obtain ⟨d, hd⟩ : ∃ d, d = c ^^^ 32 := ⟨_, rfl⟩
      rw [← hd] at hx HSTEP
      have hsp := spec_xor c
      rw [← hd] at hsp
      clear hd hc
      cases eb with
      | true =>
        by_cases hs : spec d = true
        · have HR := Lib.hid (show un0 false (acc ++ [d]) (l.drop (k + 1)) = un0 false [] l by rw [HSTEP.out]; simp [hs])
          have hcd := hsp.1 hs
          clear hs hsp
          rcases hcd with h94 | h93
          · have t1 : ((c.toNat : Int) != 94) = false := by rw [h94]; rfl
            clear h94
            go_wp2_with (first
              | (refine wp_at 22 5 Try.underlying22 size_u8 (.tmp 8) (.tmp 10) rfl rfl rfl hur _ _ k _ rfl rfl hce ?_; intro p hp hcell)
              | (at_builtin; clear hcell; refine wp_app1 w.heap.size (.tmp 24) (.tmp 27) rfl rfl _ acc _ d rfl rfl hown hbw (by omega) rfl ?_; intro v1 w1 hown1 hb1))
            go_roundw
            case rel => exact ⟨k + 1, acc ++ [d], false, by go_num, rfl, by omega, hown1, by simp; omega, hb.trans hb1, HR.out⟩
            case measure => simp [intOf]; omega
          · have t1 : ((c.toNat : Int) != 94) = true := by rw [h93]; rfl
            have t2 : ((c.toNat : Int) != 93) = false := by rw [h93]; rfl
            clear h93
            go_wp2_with (first
              | (refine wp_at 22 5 Try.underlying22 size_u8 (.tmp 8) (.tmp 10) rfl rfl rfl hur _ _ k _ rfl rfl hce ?_; intro p hp hcell)
              | (at_builtin; clear hcell; refine wp_app1 w.heap.size (.tmp 24) (.tmp 27) rfl rfl _ acc _ d rfl rfl hown hbw (by omega) rfl ?_; intro v1 w1 hown1 hb1))
            go_roundw
            case rel => exact ⟨k + 1, acc ++ [d], false, by go_num, rfl, by omega, hown1, by simp; omega, hb.trans hb1, HR.out⟩
            case measure => simp [intOf]; omega
        · have HR := Lib.hid (show un0 false [] l = none by rw [HSTEP.out]; simp [hs])
          have t1 : ((c.toNat : Int) != 94) = true := by
            have h := toNat_ne (c := c) (n := 94) (by omega) (fun h => hs (hsp.2 (Or.inl h)))
            simp at h ⊢; omega
          have t2 : ((c.toNat : Int) != 93) = true := by
            have h := toNat_ne (c := c) (n := 93) (by omega) (fun h => hs (hsp.2 (Or.inr h)))
            simp at h ⊢; omega
          clear hs hsp
          go_wp2_with (refine wp_at 22 5 Try.underlying22 size_u8 (.tmp 8) (.tmp 10) rfl rfl rfl hur _ _ k _ rfl rfl hce ?_; intro p hp hcell)
          go_ret2
          exact ⟨hb, Or.inr ⟨HR.out, none, 0, 0, rfl⟩⟩
      | false =>
        clear hsp
        by_cases h7d : c = 125
        · have HR := Lib.hid (show un0 true acc (l.drop (k + 1)) = un0 false [] l by rw [HSTEP.out]; simp [h7d])
          have t7 : ((c.toNat : Int) == 125) = true := by rw [h7d]; rfl
          clear h7d
          go_wp2_with (refine wp_at 22 5 Try.underlying22 size_u8 (.tmp 8) (.tmp 10) rfl rfl rfl hur _ _ k _ rfl rfl hce ?_; intro p hp hcell)
          go_roundw
          case rel => exact ⟨k + 1, acc, true, by go_num, rfl, by omega, hown, by omega, hb, HR.out⟩
          case measure => simp [intOf]; omega
        · have HR := Lib.hid (show un0 false (acc ++ [c]) (l.drop (k + 1)) = un0 false [] l by rw [HSTEP.out]; simp [h7d])
          have t7 : ((c.toNat : Int) == 125) = false := toNat_ne (n := 125) (by omega) h7d
          clear h7d
          go_wp2_with (first
            | (refine wp_at 22 5 Try.underlying22 size_u8 (.tmp 8) (.tmp 10) rfl rfl rfl hur _ _ k _ rfl rfl hce ?_; intro p hp hcell)
            | (at_builtin; clear hcell; refine wp_app1 w.heap.size (.tmp 31) (.tmp 33) rfl rfl _ acc _ c rfl rfl hown hbw (by omega) rfl ?_; intro v1 w1 hown1 hb1))
          go_roundw
          case rel => exact ⟨k + 1, acc ++ [c], false, by go_num, rfl, by omega, hown1, by simp; omega, hb.trans hb1, HR.out⟩
          case measure => simp [intOf]; omega
    · have HQ := Lib.hid (show l.drop k = [] from List.drop_eq_nil_of_le (by omega))
      obtain ⟨A6, cap6, rfl⟩ := hown.bs.form
      cases eb with
      | true =>
        have HR := Lib.hid (show un0 false [] l = none by rw [← HUN.out, HQ.out]; rfl)
        go_wp2
        go_ret2
        exact ⟨hb, Or.inr ⟨HR.out, _, _, _, rfl⟩⟩
      | false =>
        have HR := Lib.hid (show un0 false [] l = some acc by rw [← HUN.out, HQ.out]; rfl)
        go_wp2
        go_ret2
        exact ⟨hb, Or.inl ⟨acc, _, HR.out, rfl, hown⟩⟩
end Go.Proofs.Ytokjlcajcflhgaa
