/-
  The walk of the law HdlcCarriesRecords.
-/
import Derived.Test.YtokjlcajcflhgaaHdM
import Derived.Test.YtokjlcajcflhgaaOpL
import Derived.Test.YtokjlcajcflhgaaVarH
namespace Go.Proofs.Ytokjlcajcflhgaa
open Go.RowKit
set_option linter.unusedVariables false
set_option linter.unusedSimpArgs false

def recd (u : Nat) (x : List UInt8) : List UInt8 := leb u ++ leb x.length ++ x
theorem recd_length {u : Nat} {x : List UInt8} (hu : u < M64) (hx : x.length ≤ 300) : (recd u x).length ≤ 320 := by
  have h1 := leb_ten hu
  have h2 : (leb x.length).length ≤ 10 := leb_ten (by unfold M64; omega)
  unfold recd
  rw [List.length_append, List.length_append]; omega
theorem uS_recd (u : Nat) (x : List UInt8) (hu : u < M64) : uS (recd u x) 0 = (u, ((leb u).length : Int), 0) := by
  have h := uS_leb [] (leb x.length ++ x) u hu
  rw [List.nil_append, List.length_nil] at h
  unfold recd
  rw [List.append_assoc]
  simpa using h
theorem bS_recd (u : Nat) (x : List UInt8) (hx : x.length ≤ 300) : bS (recd u x) ((leb u).length : Int) 300 = (x, ((recd u x).length : Int), 0) := by
  have h := uS_leb (leb u) x x.length (by unfold M64; omega)
  unfold bS
  have e : uS (recd u x) ((leb u).length : Int) = (x.length, (((leb u).length + (leb x.length).length : Nat) : Int), 0) := h
  rw [e]
  have hl : (recd u x).length = (leb u).length + (leb x.length).length + x.length := by unfold recd; simp; omega
  have e2 : (recd u x).drop ((leb u).length + (leb x.length).length) = x := by
    unfold recd
    rw [← List.length_append, List.drop_left]
  rw [if_neg (by omega), if_neg (by simp), if_neg (by simp; omega), if_neg (by simp only [hl]; omega)]
  show ((((recd u x).drop (((leb u).length + (leb x.length).length : Nat) : Int).toNat).take x.length), _, _) = _
  rw [Int.toNat_natCast, e2, List.take_length, hl]
  simp

theorem scan_v5 (v : Value) (b : List UInt8) (w : World) (hv : Bs w w.heap.size v b) (hl : b.length ≤ 1000000) :
    Calls Try.prog 12 #[v] w fun e w' => ∃ v', e = .returned (.tuple #[v', .int .i64 (lastF b)]) ∧ Lst w' w.heap.size v' (scanP b) ∧ Below w.heap.size w w' := by
  obtain ⟨A, cap, rfl⟩ := hv.form
  exact scan_any A cap b w hv hl

theorem uint_recd (v : Value) (R : List UInt8) (u : Nat) (x : List UInt8) (w : World) (B : Nat) (hR : R = recd u x) (hu : u < M64) (hx : x.length ≤ 300) (hv : Bs w B v R) :
    Calls Try.prog 25 #[v, .int .i64 0] w fun e w' => e = .returned (.tuple #[.int .u64 u, .int .i64 (leb u).length, .int .i64 0]) ∧ w = w' := by
  have hl := recd_length hu hx
  subst hR
  refine (uint_any v _ 0 w B hv (by omega)).mono ?_
  rintro e w' ⟨rfl, rfl⟩
  rw [uS_recd u x hu]
  exact ⟨rfl, rfl⟩
theorem bytes_recd (v : Value) (R : List UInt8) (u : Nat) (x : List UInt8) (w : World) (hR : R = recd u x) (hu : u < M64) (hx : x.length ≤ 300) (hv : Bs w w.heap.size v R) :
    Calls Try.prog 26 #[v, .int .i64 (leb u).length, .int .i64 300] w fun e w' => ∃ v', e = .returned (.tuple #[v', .int .i64 R.length, .int .i64 0]) ∧ Bs w' w'.heap.size v' x ∧ Below w.heap.size w w' := by
  have hl := recd_length hu hx
  subst hR
  refine (bytes_any v _ _ 300 w hv (by omega) (by omega)).mono ?_
  rintro e w' ⟨v', rfl, h1, h2⟩
  rw [bS_recd u x hx] at h1 ⊢
  exact ⟨v', rfl, h1, h2⟩

set_option maxRecDepth 100000 in
set_option maxHeartbeats 3200000 in
theorem hdlcCarriesRecords_walk (v : Value) (ls : List (List UInt8)) (n : Int) (w : World) (hv : Ls w w.heap.size v ls) (hn : 0 ≤ n ∧ n ≤ 18446744073709551615) :
    Calls Try.prog 10 #[v, .int .u64 n] w fun e w' => e = .returned (.bool true) ∧ Below w.heap.size w w' := by
  have hll := hv.le
  have HV := Lib.hid hv
  obtain ⟨A, cap, rfl⟩ := hv.form
  obtain ⟨u, rfl⟩ := Int.eq_ofNat_of_zero_le hn.1
  have hu : u ≤ 18446744073709551615 := by omega
  clear hv hn
  cases hf : fewB ls 8 with
  | false =>
    have HF := Lib.hid hf
    clear hf
    go_enter Try.func10, Try.ntmps10
    go_wp2_with fail
    refine (sane_any _).mono ?_
    rintro e w1 ⟨rfl, b1⟩
    have s1 := HV.out.past b1
    go_wp2_with fail
    refine (few_wide _ ls 8 _ _ s1 hll (by omega)).mono ?_
    rintro e w2 ⟨rfl, rfl⟩
    rw [HF.out]
    go_wp2_with fail
    go_ret
    exact ⟨rfl, b1⟩
  | true =>
    obtain ⟨hn, hx⟩ := few_true hf
    have hu' : u < M64 := by unfold M64; omega
    obtain ⟨rs, hrs⟩ : ∃ rs, rs = ls.map (recd u) := ⟨_, rfl⟩
    have hrl : rs.length = ls.length := by rw [hrs]; simp
    have hrx : ∀ r ∈ rs, r.length ≤ 4096 := by
      intro r hr
      rw [hrs, List.mem_map] at hr
      obtain ⟨x, hm, rfl⟩ := hr
      have := recd_length hu' (hx x hm)
      omega
    have hrk : ∀ (k : Nat) (x : List UInt8), ls[k]? = some x → rs[k]? = some (recd u x) := by
      intro k x h
      rw [hrs, List.getElem?_map, h]; rfl
    obtain ⟨hr1, _⟩ := reads_strm false rs hrx
    have HF := Lib.hid hf
    have HX := Lib.hid hx
    have HR1 := Lib.hid hr1
    have HRK := Lib.hid hrk
    have HU := Lib.hid hu'
    have HRL := Lib.hid hrl
    clear hf hx hr1 hrk hrs hrx hu' hrl
    go_enter Try.func10, Try.ntmps10
    go_wp2_with fail
    refine (sane_any _).mono ?_
    rintro e w1 ⟨rfl, b1⟩
    have s1 := HV.out.past b1
    go_wp2_with fail
    refine (few_wide _ ls 8 _ _ s1 hll (by omega)).mono ?_
    rintro e w2 ⟨rfl, rfl⟩
    rw [HF.out]
    have HS1 := Lib.hid s1
    have HB1 := Lib.hid b1
    clear s1 b1
    go_wp2_with fail
    go_loopw [5, 27] (fun b i wr => ∃ k : Nat, i = .int .i64 k ∧ k ≤ ls.length ∧ (strm false (rs.take k)).length ≤ 700 * k ∧ Own wr w1.heap.size b (strm false (rs.take k)) ∧ Below w1.heap.size w1 wr) (fun _ i _ => (ls.length - intOf i).toNat)
    case atStart => exact ⟨0, rfl, by omega, by simp [strm], Own.nil_ _ _, Below.refl _ _⟩
    case round =>
      obtain ⟨k, rfl, hk, hle, hown, hbel⟩ := hrel
      by_cases hlt : k < ls.length
      · obtain ⟨x, hx⟩ : ∃ x, ls[k]? = some x := ⟨_, List.getElem?_eq_getElem hlt⟩
        have hxl := HX.out x (List.mem_of_getElem? hx)
        have HV1 := HS1.out.carry hbel (Nat.le_refl _)
        obtain ⟨vs, Ax, cx, hrv, hvk, hbx⟩ := HV1.at_ hx
        have hst := strm_take (sh := false) (HRK.out k x hx)
        obtain ⟨S, hS⟩ : ∃ S, S = strm false (rs.take k) := ⟨_, rfl⟩
        rw [← hS] at hst hle hown
        obtain ⟨R, hR⟩ : ∃ R, R = recd u x := ⟨_, rfl⟩
        have hRl := recd_length HU.out hxl
        rw [← hR] at hst hRl
        have hl1 := strm1_length false S R
        obtain ⟨F, hF⟩ : ∃ F, F = frm R (fcsN R) := ⟨_, rfl⟩
        have hFl := frm_length R (fcsN R)
        unfold strm1 at hst hl1
        rw [← hF] at hst hl1 hFl
        rw [if_neg (by simp)] at hst hl1
        have HST := Lib.hid hst
        have HFF := Lib.hid hF
        have HR := Lib.hid hR
        have hws := hbel.size
        have hbx2 := hbx.carry (Below.refl _ _) hws
        clear hst hF hS hbx HV1 hx hR
        go_wp2_with (refine wp_at 24 22 Try.underlying24 size_bs (.tmp 25) (.tmp 27) rfl rfl rfl hrv _ _ k _ rfl rfl hvk ?_; intro p hp hcell)
        refine (appendUint_any _ [] u _ (Bs.nil_ _ _) HU.out (by simp)).mono ?_
        rintro e w2 ⟨v2, rfl, o2, b2⟩
        rw [List.nil_append] at o2
        have x2 := hbx2.past b2
        have ho2 := hown.past b2
        have hb2 := hbel.trans (b2.mono hws)
        have h10 := leb_ten HU.out
        clear b2 hcell hown hrv hvk hbx2
        go_wp2_with fail
        refine (appendBytes_any _ _ (leb u) x _ o2.bs x2 (by omega) (by omega)).mono ?_
        rintro e w3 ⟨v3, rfl, o3, b3⟩
        rw [show leb u ++ leb x.length ++ x = R from HR.out.symm] at o3
        have ho3 := ho2.past b3
        have hb3 := hb2.trans (b3.mono hb2.size)
        clear b3 o2 x2 ho2 hb2
        go_wp2_with fail
        refine (encode_yes _ R _ o3.bs (by omega)).mono ?_
        rintro e w4 ⟨v4, rfl, o4, b4⟩
        rw [← HFF.out] at o4
        have ho4 := ho3.past b4
        have hb4 := hb3.trans (b4.mono hb3.size)
        clear b4 o3 ho3 hb3
        go_wp2_with (refine wp_apps w1.heap.size (.tmp 41) (.tmp 42) rfl rfl _ _ S F rfl rfl ho4 hb4.size o4.bs (by omega) ?_; intro v5 w5 o5 b5)
        go_roundw
        case rel => exact ⟨k + 1, by go_num, by omega, by rw [HST.out]; omega, by rw [HST.out]; exact o5, hb4.trans b5⟩
        case measure => simp [intOf]; omega
      · obtain rfl : k = ls.length := by omega
        rw [List.take_of_length_le (by rw [HRL.out]; exact Nat.le_refl _)] at hown hle
        obtain ⟨T, hT⟩ : ∃ T, T = strm false rs := ⟨_, rfl⟩
        rw [← hT] at hown hle
        have HT := Lib.hid hT
        have s2 := HS1.out.past hbel
        have hb2 := HB1.out.trans (hbel.mono HB1.out.size)
        clear hT hbel
        go_wp2_with fail
        refine (scan_v5 _ T _ hown.bs (by omega)).mono ?_
        rintro e w3 ⟨v3, rfl, o3, b3⟩
        rw [HT.out, HR1.out] at o3
        have s3 := s2.past b3
        have hb3 := hb2.trans (b3.mono hb2.size)
        have l3 := o3.ls
        obtain ⟨A3, c3, rfl⟩ := l3.form
        clear s2 b3 hb2 hown o3
        rw [HRL.out] at l3 ⊢
        have HS3 := Lib.hid s3
        have HL3 := Lib.hid l3
        clear s3 l3
        obtain ⟨z, hz⟩ : ∃ z : Int, z = (lastF T : Int) := ⟨_, rfl⟩
        try rw [← hz]
        clear hz
        go_wp2_with fail
        go_loopw [57] (fun i wr => ∃ k : Nat, i = .int .i64 k ∧ k ≤ ls.length ∧ Below w3.heap.size w3 wr) (fun i _ => (ls.length - intOf i).toNat)
        case atStart => exact ⟨0, rfl, by omega, Below.refl _ _⟩
        case round =>
          obtain ⟨k, rfl, hk, hbel⟩ := hrel
          by_cases hlt : k < ls.length
          · obtain ⟨x, hx⟩ : ∃ x, ls[k]? = some x := ⟨_, List.getElem?_eq_getElem hlt⟩
            have hxl := HX.out x (List.mem_of_getElem? hx)
            have S4 := HS3.out.past hbel
            have L4 := HL3.out.past hbel
            obtain ⟨R, hR⟩ : ∃ R, R = recd u x := ⟨_, rfl⟩
            have hRx := HRK.out k x hx
            rw [← hR] at hRx
            obtain ⟨us, Ar, cr, hrr, hrk, hbr⟩ := L4.at_ hRx
            have HX2 := Lib.hid hx
            have HR := Lib.hid hR
            clear hx hRx L4 hR
            go_wp2_with (refine wp_at 24 22 Try.underlying24 size_bs (.tmp 55) (.tmp 57) rfl rfl rfl hrr _ _ k _ rfl rfl hrk ?_; intro p hp hcell)
            refine (uint_recd _ R u x _ _ HR.out HU.out hxl hbr).mono ?_
            rintro e w4 ⟨rfl, rfl⟩
            clear hcell hrr hrk
            go_wp2_with fail
            refine (bytes_recd _ R u x _ HR.out HU.out hxl hbr).mono ?_
            rintro e w5 ⟨v5, rfl, r5, b5⟩
            have S5 := S4.past b5
            have hb5 := hbel.trans (b5.mono hbel.size)
            obtain ⟨vs, Ax, cx, hrv, hvk, hbx⟩ := S5.at_ HX2.out
            clear b5 hbr S4 S5
            go_wp2_with (refine wp_atg 24 22 Try.underlying24 size_bs (.tmp 94) (.tmp 95) rfl rfl rfl hrv _ _ k _ rfl rfl hvk ?_; intro p2 hp2 hcell2)
            refine (same_any _ _ x x _ _ _ r5 hbx).mono ?_
            rintro e w6 ⟨rfl, rfl⟩
            rw [show (x == x) = true by simp]
            clear hrv hvk hbx hcell2
            go_wp2_with fail
            go_roundw
            case rel => exact ⟨k + 1, by go_num, by omega, hb5⟩
            case measure => simp [intOf]; omega
          · go_wp2_with fail
            go_ret
            exact ⟨rfl, hb3.trans (hbel.mono hb3.size)⟩
end Go.Proofs.Ytokjlcajcflhgaa
