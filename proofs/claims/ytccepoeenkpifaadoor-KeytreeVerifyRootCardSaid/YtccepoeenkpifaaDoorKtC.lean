/-
  Package keytree: the levels of a tree, as an iterator.
-/
import Derived.Test.YtccepoeenkpifaaDoorKtB
import Derived.Test.YtccepoeenkpifaaDoorKtr
namespace Go.Proofs.YtccepoeenkpifaaDoor
open Go.RowKit Go.Shelf
attribute [local go_sem] Oper.semAt_some
set_option linter.unusedVariables false
set_option linter.unusedSimpArgs false

def slen : Value → Nat
  | .slice _ n _ => n
  | _ => 0

/-- The levels, from the leaves to the root. -/
def lvls (F : List UInt8) (K : Nat) : List (Nat × List UInt8) := (List.range (K + 1)).map fun k => (2 ^ (K - k), Kt.lv F K k)
theorem lvls_len (F : List UInt8) (K : Nat) : (lvls F K).length = K + 1 := by simp [lvls]
theorem lvls_get (F : List UInt8) {K k : Nat} (h : k ≤ K) : (lvls F K)[k]? = some (2 ^ (K - k), Kt.lv F K k) := by simp [lvls, show k < K + 1 by omega]

def ItemD (M : Nat → Prop) (w : World) (v : Value) (x : Nat × List UInt8) : Prop := Row w w.heap.size 32 x.1 v (u8s x.2) ∧ AtT (fun b => ¬ M b) v
theorem AtT.of_row {w : World} {B s n : Nat} {v : Value} {xs : List Value} (h : Row w B s n v xs) : AtT (fun b => b < B) v := by
  obtain ⟨A, cap, hv, _, _, _, h4, h5⟩ := h
  intro a n c e hn
  rw [hv] at e
  injection e with e1 e2 e3
  subst e1
  exact (h5 a rfl (by omega)).1
theorem Row.keepT {O T : Nat → Prop} {w w' : World} {B B' s n : Nat} {v : Value} {xs : List Value} (h : Row w B s n v xs) (hT : AtT T v) (hk : Keep O w w') (hO : ∀ b, T b → O b) (hB : B ≤ B') : Row w' B' s n v xs := by
  obtain ⟨A, cap, rfl, h1, h2, h3, h4, h5⟩ := h
  refine ⟨A, cap, rfl, h1, h2, h3, h4, fun a ha h0 => ?_⟩
  obtain ⟨hl, hc⟩ := h5 a ha h0
  refine ⟨by omega, fun i u hu => hk.cell ?_ (hc i u hu)⟩
  rw [add_block]
  subst ha
  exact hO _ (hT a _ _ rfl h0)

set_option maxRecDepth 100000 in
set_option maxHeartbeats 1000000 in
theorem levels_gives (T : Nat → Prop) (bb : Nat) (v0 : Value) (F : List UInt8) (K : Nat) (W : World) (hbb : W.cell? ⟨bb, 0, none⟩ = some v0) (hTg : T 1)
    (hv : Row W W.heap.size 32 (2 ^ K) v0 (u8s F)) (hvT : AtT T v0) (hK : K ≤ 6) (hk : KIs 1 W) :
    GivesM Tryd.prog 53 #[.pointer (some ⟨bb, 0, none⟩)] ItemD (lvls F K) T W := by
  intro l J h1 h2 h3 M0 hJ0 hTM
  refine callsIn_of_wp Tryd.func53 rfl trivial ?_ rfl
  simp only [Tryd.ntmps53, List.size_toArray, List.length_cons, List.length_nil, Nat.reduceAdd, Nat.reduceSub, Array.replicate_succ, Array.replicate_zero, List.push_toArray, List.append_toArray, List.nil_append, List.cons_append]
  obtain ⟨A, cap, rfl⟩ := row_form hv
  have HFL := Lib.hid (show F.length = 32 * 2 ^ K by rw [row_flen hv, Nat.mul_comm])
  have hv0 : Row W W.heap.size 32 (2 ^ (K - 0)) (.slice A (2 ^ K) cap) (u8s F) := hv
  have hT0 : AtT (fun b => ¬ M0 b) (.slice A (2 ^ K) cap) := hvT.mono hTM
  have hg0 : ¬ M0 1 := hTM _ hTg
  have H0 := Lib.hid (show F = Kt.lv F K 0 from (Kt.lv_zero HFL.out).symm)
  have HV0 := Lib.hid hv0
  have HT0 := Lib.hid hT0
  have HLN := Lib.hid (lvls_len F K)
  clear hv hvT hv0 hT0
  gi_wp2_with fail
  gi_loopw [3] (fun v wr => ∃ (k : Nat) (M : Nat → Prop) (G : List UInt8) (n : Nat), k ≤ K ∧ Hid (G = Kt.lv F K k) ∧ Hid (n = 2 ^ (K - k)) ∧ J M k wr ∧ Row wr wr.heap.size 32 n v (u8s G) ∧ AtT (fun b => ¬ M b) v ∧ KIs 1 wr ∧ ¬ M 1) (fun v _ => slen v)
  case atStart => exact ⟨0, M0, F, 2 ^ (K - 0), by omega, H0, Lib.hid rfl, hJ0, HV0.out, HT0.out, hk, hg0⟩
  case round =>
    obtain ⟨k, M, G, n, hkK, HG, HN, hJr, hr, hrT, hkr, hgr⟩ := hrel
    obtain ⟨A2, cap2, rfl⟩ := row_form hr
    have hn1 : 1 ≤ n := by rw [HN.out]; exact Nat.two_pow_pos _
    have hn64 : n ≤ 64 := by rw [HN.out]; exact Nat.le_trans (Nat.pow_le_pow_right (by omega) (show K - k ≤ 6 by omega)) (by decide)
    have hit : (lvls F K)[k]? = some (n, G) := by rw [HN.out, HG.out]; exact lvls_get F hkK
    obtain ⟨fn, tmps, assign, body, hy, hR⟩ := h3 M k _ wr _ hJr hit ⟨hr, hrT⟩
    have HIT := Lib.hid hit
    clear hit
    gi_wp2_with fail
    refine ⟨rfl, hR.mono ?_⟩
    rintro e w3 ⟨rfl, M3, hJ3, hM3, hk3⟩
    have hs3 := hk3.size
    have hr3 := Row.keepT hr hrT hk3 (fun b hb => hb) hs3
    have hkk3 := hkr.keep hk3 hgr
    have hglt : 1 < wr.heap.size := block_lt_of_cell (hkr 0 (by decide))
    have hg3 : ¬ M3 1 := fun h => (hM3 _ h).elim hgr (fun h => by omega)
    clear hy hR hk3 hJr hr hrT hkr hgr hM3 hs3 hglt
    by_cases hlt : k < K
    · have hp := Kt.lv_pow hlt
      obtain ⟨m, hm⟩ : ∃ m, m = 2 ^ (K - (k + 1)) := ⟨_, rfl⟩
      have HM := Lib.hid hm
      have hnm : n = 2 * m := by rw [HN.out, hp, hm]
      have hm1 : 1 ≤ m := by rw [hm]; exact Nat.two_pow_pos _
      have hgt : 1 < n := by omega
      have hm64 : m ≤ 64 := by omega
      have hPAR := parents_any _ G n m w3 hr3 hnm (by omega) hkk3
      have HPL := Lib.hid (show Kt.par G m = Kt.lv F K (k + 1) by rw [HG.out, hm]; exact Kt.par_lv HFL.out hlt)
      rw [HPL.out] at hPAR
      have HGL := Lib.hid (show (Kt.lv F K (k + 1)).length = m * 32 by rw [Kt.lv_len HFL.out, ← hm, Nat.mul_comm])
      obtain ⟨G2, hG2⟩ : ∃ G, G = Kt.lv F K (k + 1) := ⟨_, rfl⟩
      rw [← hG2] at hPAR HGL
      have HG2 := Lib.hid hG2
      have HPAR := Lib.hid hPAR
      have HNM := Lib.hid hnm
      clear hp hm hPAR hG2 HPL hnm
      gi_wp2_with fail
      refine ⟨trivial, rfl, (callsIn_wide.2 HPAR.out).mono ?_⟩
      rintro e w4 ⟨rfl, hb4, b4⟩
      have hJ4 := h2 M3 (k + 1) w3 w4 hJ3 b4
      have hkk4 := hkk3.past b4
      have hnM : ¬ M3 w3.heap.size := fun h => by have := h1 M3 (k + 1) w3 hJ3 _ h; omega
      have hr4 := row_of_blkS (s := 32) (n := m) hb4 hb4.lt (by rw [u8s_length, HGL.out]) (by simp only [maxLen]; omega)
      have hT4 : AtT (fun b => ¬ M3 b) (.slice (some ⟨w3.heap.size, 0, none⟩) m m) := fun a n c e h0 => by
        injection e with e1 _ _
        injection e1 with e1
        rw [← e1]; exact hnM
      have HR4 := Lib.hid hr4
      have HT4 := Lib.hid hT4
      clear hb4 b4 hJ3 hr3 hkk3 HPAR hr4 hT4
      gi_wp2_with fail
      go_roundw
      case rel => exact ⟨k + 1, M3, G2, m, by omega, HG2, HM, hJ4, HR4.out, HT4.out, hkk4, hg3⟩
      case measure => simp only [slen]; have := HNM.out; omega
    · have hkK2 : k = K := by omega
      have hn1' : n = 1 := by rw [HN.out, hkK2, Nat.sub_self]
      have HKK := Lib.hid hkK2
      subst hn1'
      clear hkK2 hlt
      gi_wp2_with fail
      go_end0
      exact ⟨⟨_, rfl⟩, M3, by rw [HLN.out, ← HKK.out]; exact hJ3⟩

theorem levels_any (A : Option Addr) (n c : Nat) (w : World) : Calls Tryd.prog 31 #[.slice A n c] w fun e w' => e = .returned (.func (.func 53) #[] #[.pointer (some ⟨w.heap.size, 0, none⟩)]) ∧ w' = w.alloc (.cells #[.slice A n c] 29) := by
  go_enter Tryd.func31, Tryd.ntmps31
  go_wp2
  go_ret
  exact ⟨rfl, rfl⟩
end Go.Proofs.YtccepoeenkpifaaDoor
