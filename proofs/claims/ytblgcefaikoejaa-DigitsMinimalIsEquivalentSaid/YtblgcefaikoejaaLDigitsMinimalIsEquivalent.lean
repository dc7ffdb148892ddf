/-
  The walk of the law DigitsMinimalIsEquivalent.
-/
import Derived.Test.YtblgcefaikoejaaDrS
import Derived.Test.YtblgcefaikoejaaSts
namespace Go.Proofs.Ytblgcefaikoejaa
open Go.RowKit Dg
set_option linter.unusedVariables false
set_option linter.unusedSimpArgs false

set_option maxRecDepth 100000 in
set_option maxHeartbeats 1000000 in
theorem fifteen_any (s : Str) (w : World) (hs : s.length ≤ 200) :
    Calls Try.prog 28 #[str s] w fun e w' => ∃ r, e = .returned (str r) ∧ r.length = 15 ∧ digits r ∧ Below w.heap.size w w' := by
  unfold str
  go_enter Try.func28, Try.ntmps28
  go_wp2_with fail
  go_loopw [3, 4] (fun vo vi wr => ∃ (i : Nat) (r : Str), vi = .int .i64 (i : Int) ∧ vo = .string ⟨r.toArray⟩ ∧ r.length = i ∧ i ≤ 15 ∧ digits r ∧ Below w.heap.size w wr)
    (fun vo vi wr => ixn 15 vi)
  case atStart => exact ⟨0, [], rfl, rfl, rfl, Nat.zero_le _, fun b hb => by simp at hb, Below.refl _ _⟩
  case round =>
    obtain ⟨i, r, rfl, rfl, hrl, hi, hd, hB⟩ := hrel
    have HRL := Lib.hid hrl
    have HD := Lib.hid hd
    have hr15 : r.length ≤ 15 := by omega
    have step : ∀ c : UInt8, isD c = true → (⟨r.toArray⟩ : ByteArray) ++ ⟨#[c]⟩ = ⟨(r ++ [c]).toArray⟩ ∧ digits (r ++ [c]) := fun c hc => ⟨str_add r [c], fun b hb => by
      rcases List.mem_append.1 hb with hb | hb
      · exact hd b hb
      · simp at hb; subst hb; exact hc⟩
    clear hrl hd
    by_cases h15 : i < 15
    · have hcv : ∀ c : UInt8, (convert 53 9 (.slice (some ⟨wr.heap.size, 0, none⟩) 1 1)).run Try.prog (wr.alloc (.cells #[.int .u8 (c.toNat : Int)] 5)) = .ok (.string ⟨#[c]⟩) (wr.alloc (.cells #[.int .u8 (c.toNat : Int)] 5)) := fun c => by
        have hbs : Bs (wr.alloc (.cells #[.int .u8 (c.toNat : Int)] 5)) (wr.alloc (.cells #[.int .u8 (c.toNat : Int)] 5)).heap.size (.slice (some ⟨wr.heap.size, 0, none⟩) 1 1) [c] :=
          ⟨some ⟨wr.heap.size, 0, none⟩, 1, rfl, Nat.le_refl _, by simp [maxLen], (fun h => by cases h), rfl, fun a ha _ => by
            obtain rfl : (⟨wr.heap.size, 0, none⟩ : Addr) = a := by injection ha
            refine ⟨by simp, fun k u hu => ?_⟩
            rw [add_zero_addr]
            exact (Blk.new wr 5 [.int .u8 (c.toNat : Int)]).cell hu⟩
        exact hbs.conv 53 9 5 Try.underlying53 Try.underlying5 Try.underlying9
      by_cases hlt : i < s.length
      · obtain ⟨x, hx⟩ : ∃ x, s[i]? = some x := ⟨s[i], List.getElem?_eq_getElem hlt⟩
        have hga : (⟨s.toArray⟩ : ByteArray)[i]'(by rw [str_size]; exact hlt) = x := by
          obtain ⟨h, rfl⟩ := List.getElem?_eq_some_iff.1 hx
          simp [ByteArray.getElem_eq_getElem_data]
        clear hx
        obtain ⟨c, hc⟩ : ∃ c : UInt8, c = UInt8.ofNat (48 + x.toNat % 10) := ⟨_, rfl⟩
        have hcn : c.toNat = 48 + x.toNat % 10 := by rw [hc]; simp; omega
        have ec : ((c.toNat : Nat) : Int) = 48 + (x.toNat : Int) % 10 := by omega
        have hcd : isD c = true := by unfold isD; rw [hcn, decide_eq_true (by omega), decide_eq_true (by omega)]; rfl
        have h48 := hcv c
        obtain ⟨s1, s2⟩ := step c hcd
        rw [ec] at h48
        clear hcv step hc hcn ec hcd
        go_wp2_with fail
        go_roundw
        case measure => show 15 - ((i : Int) + 1).toNat < 15 - ((i : Int)).toNat; omega
        case rel => exact ⟨i + 1, r ++ [c], by simp, rfl, by simp [HRL.out], by omega, s2, hB.alloc (by have := hB.size; omega) _⟩
      · have h48 := hcv 48
        obtain ⟨s1, s2⟩ := step 48 rfl
        have e48 : ((48 : UInt8).toNat : Int) = 48 := rfl
        rw [e48] at h48
        clear hcv step
        go_wp2_with fail
        go_roundw
        case measure => show 15 - ((i : Int) + 1).toNat < 15 - ((i : Int)).toNat; omega
        case rel => exact ⟨i + 1, r ++ [48], by simp, rfl, by simp [HRL.out], by omega, s2, hB.alloc (by have := hB.size; omega) _⟩
    · go_wp2_with fail
      go_ret
      exact ⟨r, rfl, by have := HRL.out; omega, HD.out, hB⟩

theorem Sl.narrow {w : World} {B m m' : Nat} {v : Value} {l : List Str} (h : Sl w B m v l) (hm : ∀ x ∈ l, x.length ≤ m') : Sl w B m' v l := ⟨h.1, hm⟩

theorem mat_take {l m : List Str} {x r : Str} (hr : Red l m) (hs : Short l) (hx : x ∈ l) (h15 : r.length = 15) (hd : digits r) : mat m ((x ++ r).take 15) = true := by
  have hxs := hs x hx
  have hdg : digits ((x ++ r).take 15) := fun b hb => by
    rcases List.mem_append.1 (List.mem_of_mem_take hb) with h | h
    · exact hxs.1 b h
    · exact hd b h
  have hlen : 14 ≤ ((x ++ r).take 15).length := by simp only [List.length_take, List.length_append]; omega
  rw [← mat_eqv hs hr.short hr.eqv hdg hlen]
  refine mat_iff.2 ⟨x, hx, ?_⟩
  rw [List.prefix_iff_eq_take, List.take_take, Nat.min_eq_left (by omega), List.take_append_of_le_length (Nat.le_refl _), List.take_of_length_le (Nat.le_refl _)]

set_option maxRecDepth 100000 in
set_option maxHeartbeats 2000000 in
theorem digitsMinimalIsEquivalent_walk (v : Value) (l : List (List UInt8)) (s : List UInt8) (w : World) (hv : Sl w w.heap.size maxLen v l) (hs : s.length ≤ maxLen) :
    Calls Try.prog 8 #[v, str s] w fun e w' => e = .returned (.bool true) ∧ Below w.heap.size w w' := by
  cases hf : few l
  · unfold str
    go_enter Try.func8, Try.ntmps8
    go_wp2_with fail
    refine (sane_any _).mono ?_
    rintro e w1 ⟨rfl, b1⟩
    have v1 := hv.past b1
    have F := few_any _ l w1 v1
    rw [hf] at F
    go_wp2_with fail
    refine F.mono ?_
    rintro e w' ⟨rfl, rfl⟩
    clear F
    go_wp2_with fail
    go_ret
    exact ⟨rfl, b1⟩
  · obtain ⟨hl60, hx40⟩ := few_iff.1 hf
    by_cases hsh : s.length ≤ 200
    · have S1 := fun w => short_yes s [] [] w ⟨hsh, by simp, by simp⟩
      have M := fun w v (h : Sl w w.heap.size maxLen v l) => minimal_any v l w (h.narrow (fun x hx => by have := hx40 x hx; omega)) (by omega)
      have FT := fun w => fifteen_any s w hsh
      have MT := fun w v (h : Sl w w.heap.size maxLen v l) (r : Str) (h15 : r.length = 15) => matches_any r v l w (by omega) (h.narrow (fun x hx => by have := hx40 x hx; omega)) (by omega)
      have HX := Lib.hid hx40
      clear hx40 hs
      unfold str at S1 FT MT ⊢
      go_enter Try.func8, Try.ntmps8
      go_wp2_with fail
      refine (sane_any _).mono ?_
      rintro e w1 ⟨rfl, b1⟩
      have v1 := hv.past b1
      have F := few_any _ l w1 v1
      rw [hf] at F
      go_wp2_with fail
      refine F.mono ?_
      rintro e w' ⟨rfl, rfl⟩
      clear F
      go_wp2_with fail
      refine (S1 _).mono ?_
      rintro e w' ⟨rfl, rfl⟩
      clear S1
      go_wp2_with fail
      refine (M _ _ v1).mono ?_
      clear M
      rintro e w2 ⟨b2, ⟨hb, rfl⟩ | ⟨hb, u, m, rfl, hr, hu⟩⟩
      · go_wp2_with fail
        go_ret
        exact ⟨rfl, b1.trans (b2.mono b1.size)⟩
      · have HB := Lib.hid hb
        have HR := Lib.hid hr
        have v2 := v1.past b2
        have b12 := b1.trans (b2.mono b1.size)
        clear hb b2 b1 v1 hv
        go_wp2_with fail
        refine (FT _).mono ?_
        clear FT
        rintro e w3 ⟨r, rfl, h15, hdr, b3⟩
        have v3 := v2.past b3
        have u3 := hu.past b3
        have b13 := b12.trans (b3.mono b12.size)
        have hmat : mat m r = mat l r := (mat_eqv (short_of HB.out) HR.out.short HR.out.eqv hdr (by omega)).symm
        have HDR := Lib.hid hdr
        clear b3 b12 hu v2 hdr
        have MX := fun w v (h : Sl w w.heap.size 14 v m) (r : Str) (hr : r.length ≤ 100) => matches_any r v m w (by omega) (h.wide (by omega)) (by have := HR.out.len; omega)
        have M1 := MX _ _ u3 r (by omega)
        rw [hmat] at M1
        clear hmat
        unfold str at M1
        go_wp2_with fail
        refine M1.mono ?_
        rintro e w4 ⟨rfl, b4⟩
        clear M1
        have v4 := v3.past b4
        have u4 := u3.past b4
        have b14 := b13.trans (b4.mono b13.size)
        clear v3 u3 b13 b4
        go_wp2_with fail
        refine (MT _ _ v4 r h15).mono ?_
        rintro e w5 ⟨rfl, b5⟩
        clear MT
        have v5 := v4.past b5
        have u5 := u4.past b5
        have b15 := b14.trans (b5.mono b14.size)
        clear v4 u4 b14 b5
        obtain ⟨A, cap, rfl⟩ := v5.form
        obtain ⟨A2, cap2, rfl⟩ := u5.form
        have hml : m.length ≤ l.length := HR.out.len
        have hloop : True := trivial
        go_wp2_with fail
        go_loopw [9] (fun vi wr => ∃ i : Nat, vi = .int .i64 (i : Int) ∧ i ≤ l.length ∧ Sl wr wr.heap.size maxLen (.slice A l.length cap) l ∧ Sl wr wr.heap.size 14 (.slice A2 m.length cap2) m ∧ Below w.heap.size w wr)
          (fun vi wr => ixn l.length vi)
        case atStart => exact ⟨0, rfl, Nat.zero_le _, v5, u5, b15⟩
        case round =>
          obtain ⟨i, rfl, hi, vr, ur, hB⟩ := hrel
          clear v5 u5
          by_cases hlt : i < l.length
          · obtain ⟨x, hx, hxs, _⟩ := vr.at_ hlt
            have hxm := List.mem_of_getElem? hx
            have hx4 := HX.out x hxm
            have hadd := str_add x r
            have hcut := str_cut (x ++ r) 0 15
            rw [List.drop_zero] at hcut
            have hlen : (x ++ r).length = x.length + 15 := by rw [List.length_append, h15]
            have hmt := mat_take HR.out (short_of HB.out) hxm h15 HDR.out
            have hl15 : ((x ++ r).take 15).length = 15 := by rw [List.length_take, hlen]; omega
            have M2 := MX _ _ ur ((x ++ r).take 15) (by omega)
            rw [hmt] at M2
            unfold str at M2
            obtain ⟨y, hy⟩ : ∃ y, x ++ r = y := ⟨_, rfl⟩
            rw [hy] at hadd hcut hlen M2
            obtain ⟨z, hz⟩ : ∃ z, y.take 15 = z := ⟨_, rfl⟩
            rw [hz] at hcut M2
            clear hx hxm hmt hl15 hy hz
            have hyl : 15 ≤ y.length ∧ y.length ≤ 100 := by omega
            obtain ⟨hy1, hy2⟩ := hyl
            clear hlen
            go_wp2_with (refine wp_atg 28 9 Try.underlying28 size_strM (.tmp 47) (.tmp 48) rfl rfl rfl vr.1 .i64 _ i (str x) rfl rfl hxs ?_; intro ad had hcad; unfold str at hcad; go_frame)
            refine M2.mono ?_
            rintro e w6 ⟨rfl, b6⟩
            have v6 := vr.past b6
            have u6 := ur.past b6
            clear M2 vr ur hcad
            go_wp2_with fail
            go_roundw
            case measure => show l.length - ((i : Int) + 1).toNat < l.length - ((i : Int)).toNat; omega
            case rel => exact ⟨i + 1, by simp, by omega, v6, u6, hB.trans (b6.mono hB.size)⟩
          · go_wp2_with fail
            go_ret
            exact ⟨ret_bool (by first | (simp; done) | (simp; omega)), hB⟩
    · have S1 := fun w => short_no s [] [] w hs (by simp) (by simp) (fun h => hsh h.1)
      unfold str at S1 ⊢
      go_enter Try.func8, Try.ntmps8
      go_wp2_with fail
      refine (sane_any _).mono ?_
      rintro e w1 ⟨rfl, b1⟩
      have v1 := hv.past b1
      have F := few_any _ l w1 v1
      rw [hf] at F
      go_wp2_with fail
      refine F.mono ?_
      rintro e w' ⟨rfl, rfl⟩
      clear F
      go_wp2_with fail
      refine (S1 _).mono ?_
      rintro e w' ⟨rfl, rfl⟩
      go_wp2_with fail
      go_ret
      exact ⟨rfl, b1⟩

end Go.Proofs.Ytblgcefaikoejaa
