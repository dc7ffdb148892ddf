/-
  Package keytree: the levels of a tree, as an iterator.
  Package keytree: Path.
-/
import Derived.Test.YtccepoeenkpifaaDoorKtA
import Derived.Test.YtccepoeenkpifaaDoorKtr
import Derived.Test.YtccepoeenkpifaaDoorPlk
namespace Go.Proofs.YtccepoeenkpifaaDoor
section
open Go.RowKit Go.Shelf
attribute [local go_sem] Oper.semAt_some
set_option linter.unusedVariables false
set_option linter.unusedSimpArgs false

def slen : Value → Nat
  | .slice _ n _ => n
  | _ => 0

/-- The levels, from the leaves to the root. -/
def lvls (F : List UInt8) (K : Nat) : List (Nat × List UInt8) := (List.range (K + 1)).map fun k => (2 ^ (K - k), Kt.lv F K k)
theorem lvls_len (F : List UInt8) (K : Nat) : (lvls F K).length = K + 1 := by simp [lvls]
theorem lvls_get (F : List UInt8) {K k : Nat} (h : k ≤ K) : (lvls F K)[k]? = some (2 ^ (K - k), Kt.lv F K k) := by simp [lvls, show k < K + 1 by omega]

def ItemD (M : Nat → Prop) (w : World) (v : Value) (x : Nat × List UInt8) : Prop := Row w w.heap.size 32 x.1 v (u8s x.2) ∧ AtT (fun b => ¬ M b) v
theorem AtT.of_row {w : World} {B s n : Nat} {v : Value} {xs : List Value} (h : Row w B s n v xs) : AtT (fun b => b < B) v := by
  obtain ⟨A, cap, hv, _, _, _, h4, h5⟩ := h
  intro a n c e hn
  rw [hv] at e
  injection e with e1 e2 e3
  subst e1
  exact (h5 a rfl (by omega)).1
theorem Row.keepT {O T : Nat → Prop} {w w' : World} {B B' s n : Nat} {v : Value} {xs : List Value} (h : Row w B s n v xs) (hT : AtT T v) (hk : Keep O w w') (hO : ∀ b, T b → O b) (hB : B ≤ B') : Row w' B' s n v xs := by
  obtain ⟨A, cap, rfl, h1, h2, h3, h4, h5⟩ := h
  refine ⟨A, cap, rfl, h1, h2, h3, h4, fun a ha h0 => ?_⟩
  obtain ⟨hl, hc⟩ := h5 a ha h0
  refine ⟨by omega, fun i u hu => hk.cell ?_ (hc i u hu)⟩
  rw [add_block]
  subst ha
  exact hO _ (hT a _ _ rfl h0)

set_option maxRecDepth 100000 in
set_option maxHeartbeats 1000000 in
theorem levels_gives (T : Nat → Prop) (bb : Nat) (v0 : Value) (F : List UInt8) (K : Nat) (W : World) (hbb : W.cell? ⟨bb, 0, none⟩ = some v0) (hTg : T 1)
    (hv : Row W W.heap.size 32 (2 ^ K) v0 (u8s F)) (hvT : AtT T v0) (hK : K ≤ 6) (hk : KIs 1 W) :
    GivesM Tryd.prog 53 #[.pointer (some ⟨bb, 0, none⟩)] ItemD (lvls F K) T W := by
  intro l J h1 h2 h3 M0 hJ0 hTM
  refine callsIn_of_wp Tryd.func53 rfl trivial ?_ rfl
  simp only [Tryd.ntmps53, List.size_toArray, List.length_cons, List.length_nil, Nat.reduceAdd, Nat.reduceSub, Array.replicate_succ, Array.replicate_zero, List.push_toArray, List.append_toArray, List.nil_append, List.cons_append]
  obtain ⟨A, cap, rfl⟩ := row_form hv
  have HFL := Lib.hid (show F.length = 32 * 2 ^ K by rw [row_flen hv, Nat.mul_comm])
  have hv0 : Row W W.heap.size 32 (2 ^ (K - 0)) (.slice A (2 ^ K) cap) (u8s F) := hv
  have hT0 : AtT (fun b => ¬ M0 b) (.slice A (2 ^ K) cap) := hvT.mono hTM
  have hg0 : ¬ M0 1 := hTM _ hTg
  have H0 := Lib.hid (show F = Kt.lv F K 0 from (Kt.lv_zero HFL.out).symm)
  have HV0 := Lib.hid hv0
  have HT0 := Lib.hid hT0
  have HLN := Lib.hid (lvls_len F K)
  clear hv hvT hv0 hT0
  gi_wp2_with fail
  gi_loopw [3] (fun v wr => ∃ (k : Nat) (M : Nat → Prop) (G : List UInt8) (n : Nat), k ≤ K ∧ Hid (G = Kt.lv F K k) ∧ Hid (n = 2 ^ (K - k)) ∧ J M k wr ∧ Row wr wr.heap.size 32 n v (u8s G) ∧ AtT (fun b => ¬ M b) v ∧ KIs 1 wr ∧ ¬ M 1) (fun v _ => slen v)
  case atStart => exact ⟨0, M0, F, 2 ^ (K - 0), by omega, H0, Lib.hid rfl, hJ0, HV0.out, HT0.out, hk, hg0⟩
  case round =>
    obtain ⟨k, M, G, n, hkK, HG, HN, hJr, hr, hrT, hkr, hgr⟩ := hrel
    obtain ⟨A2, cap2, rfl⟩ := row_form hr
    have hn1 : 1 ≤ n := by rw [HN.out]; exact Nat.two_pow_pos _
    have hn64 : n ≤ 64 := by rw [HN.out]; exact Nat.le_trans (Nat.pow_le_pow_right (by omega) (show K - k ≤ 6 by omega)) (by decide)
    have hit : (lvls F K)[k]? = some (n, G) := by rw [HN.out, HG.out]; exact lvls_get F hkK
    obtain ⟨fn, tmps, assign, body, hy, hR⟩ := h3 M k _ wr _ hJr hit ⟨hr, hrT⟩
    have HIT := Lib.hid hit
    clear hit
    gi_wp2_with fail
    refine ⟨rfl, hR.mono ?_⟩
    rintro e w3 ⟨rfl, M3, hJ3, hM3, hk3⟩
    have hs3 := hk3.size
    have hr3 := Row.keepT hr hrT hk3 (fun b hb => hb) hs3
    have hkk3 := hkr.keep hk3 hgr
    have hglt : 1 < wr.heap.size := block_lt_of_cell (hkr 0 (by decide))
    have hg3 : ¬ M3 1 := fun h => (hM3 _ h).elim hgr (fun h => by omega)
    clear hy hR hk3 hJr hr hrT hkr hgr hM3 hs3 hglt
    by_cases hlt : k < K
    · have hp := Kt.lv_pow hlt
      obtain ⟨m, hm⟩ : ∃ m, m = 2 ^ (K - (k + 1)) := ⟨_, rfl⟩
      have HM := Lib.hid hm
      have hnm : n = 2 * m := by rw [HN.out, hp, hm]
      have hm1 : 1 ≤ m := by rw [hm]; exact Nat.two_pow_pos _
      have hgt : 1 < n := by omega
      have hm64 : m ≤ 64 := by omega
      have hPAR := parents_any _ G n m w3 hr3 hnm (by omega) hkk3
      have HPL := Lib.hid (show Kt.par G m = Kt.lv F K (k + 1) by rw [HG.out, hm]; exact Kt.par_lv HFL.out hlt)
      rw [HPL.out] at hPAR
      have HGL := Lib.hid (show (Kt.lv F K (k + 1)).length = m * 32 by rw [Kt.lv_len HFL.out, ← hm, Nat.mul_comm])
      obtain ⟨G2, hG2⟩ : ∃ G, G = Kt.lv F K (k + 1) := ⟨_, rfl⟩
      rw [← hG2] at hPAR HGL
      have HG2 := Lib.hid hG2
      have HPAR := Lib.hid hPAR
      have HNM := Lib.hid hnm
      clear hp hm hPAR hG2 HPL hnm
      gi_wp2_with fail
      refine ⟨trivial, rfl, (callsIn_wide.2 HPAR.out).mono ?_⟩
      rintro e w4 ⟨rfl, hb4, b4⟩
      have hJ4 := h2 M3 (k + 1) w3 w4 hJ3 b4
      have hkk4 := hkk3.past b4
      have hnM : ¬ M3 w3.heap.size := fun h => by have := h1 M3 (k + 1) w3 hJ3 _ h; omega
      have hr4 := row_of_blkS (s := 32) (n := m) hb4 hb4.lt (by rw [u8s_length, HGL.out]) (by simp only [maxLen]; omega)
      have hT4 : AtT (fun b => ¬ M3 b) (.slice (some ⟨w3.heap.size, 0, none⟩) m m) := fun a n c e h0 => by
        injection e with e1 _ _
        injection e1 with e1
        rw [← e1]; exact hnM
      have HR4 := Lib.hid hr4
      have HT4 := Lib.hid hT4
      clear hb4 b4 hJ3 hr3 hkk3 HPAR hr4 hT4
      gi_wp2_with fail
      go_roundw
      case rel => exact ⟨k + 1, M3, G2, m, by omega, HG2, HM, hJ4, HR4.out, HT4.out, hkk4, hg3⟩
      case measure => simp only [slen]; have := HNM.out; omega
    · have hkK2 : k = K := by omega
      have hn1' : n = 1 := by rw [HN.out, hkK2, Nat.sub_self]
      have HKK := Lib.hid hkK2
      subst hn1'
      clear hkK2 hlt
      gi_wp2_with fail
      go_end0
      exact ⟨⟨_, rfl⟩, M3, by rw [HLN.out, ← HKK.out]; exact hJ3⟩

theorem levels_any (A : Option Addr) (n c : Nat) (w : World) : Calls Tryd.prog 31 #[.slice A n c] w fun e w' => e = .returned (.func (.func 53) #[] #[.pointer (some ⟨w.heap.size, 0, none⟩)]) ∧ w' = w.alloc (.cells #[.slice A n c] 29) := by
  go_enter Tryd.func31, Tryd.ntmps31
  go_wp2
  go_ret
  exact ⟨rfl, rfl⟩
end

section
open Go.RowKit Go.Shelf
attribute [local go_sem] Oper.semAt_some
set_option linter.unusedVariables false
set_option linter.unusedSimpArgs false

/-- 'append(s, x)', x one digest: only the row itself turns. -/
theorem wp_appDg {ops : Array Oper} {rest : List Oper} {o : Oper} {a : Act} {Q : Exit → Act → World → Prop} {w0 : World} (base : Nat) (s x : Operand)
    (ho : o.op = .call { callee := .builtin .append, args := #[s, x], argTypes := #[29, 29] }) (hgd : o.guard = none)
    (v : Value) (n : Nat) (F D : List UInt8) (hD : D.length = 32) (hs : a.eval s = v) (hx : a.eval x = .slice (some ⟨w0.heap.size, 0, none⟩) 1 1)
    (hown : OwnD w0 base v n F) (hbase : base ≤ w0.heap.size) (hl : n + 1 ≤ 1000000)
    (h : ∀ v' w', OwnD w' base v' (n + 1) (F ++ D) → Grew (w0.alloc (.cells (u8s D).toArray 25)) w' v v' → wpList Tryd.prog ops Q rest (a.put o.dst v') w') :
    wpList Tryd.prog ops Q (o :: rest) a (w0.alloc (.cells (u8s D).toArray 25)) := by
  obtain ⟨i0, hi, hz0, hz1, hz2⟩ := info_parts info_dg
  refine wpList_append_own_at _ hgd s x 29 ho base 25 i0 (.agg (u8s z32).toArray) 32 32 Tryd.underlying29 hi hz0 hz1 hz2 (by simp [Value.cells, u8s, z32]) (by decide) v n (u8s F) hs (World.ownsRow.alloc hown _)
    ⟨w0.heap.size, 0, none⟩ 1 1 (u8s D) hx (by rw [u8s_length, hD]) ?_ (u8s_one D) (by simp only [maxLen]; omega) (by omega) (by simp; omega) ?_
  · intro j u hu
    rw [add_zero_addr]
    exact (Blk.new w0 25 (u8s D)).cell hu
  · intro v' w' h1 h2 _ h4
    refine h v' w' (by unfold OwnD; rw [u8s_append]; exact h1) ⟨h2, ?_⟩
    rcases h4 with h4 | h4
    · exact Or.inl h4
    · refine Or.inr fun k hk => ?_
      rw [h4] at hk; injection hk with hk; omega

theorem path_no (v : Value) (F : List UInt8) (n : Nat) (ix : Int) (w : World) (hv : Row w w.heap.size 32 n v (u8s F)) (hm : n ≤ 9223372036854775807) (h : ¬ (Kt.isw n = true ∧ 0 ≤ ix ∧ ix < (n : Int))) :
    Calls Tryd.prog 17 #[v, .int .i64 ix] w fun e w' => e = .returned (.tuple #[.slice none 0 0, .int .i64 1]) ∧ Below w.heap.size w w' := by
  obtain ⟨A, cap, rfl⟩ := row_form hv
  have HW := Lib.hid (isWidth_any n (w.alloc (.cells #[.int .i64 ix] 3)) hm)
  have b0 : Below w.heap.size w (w.alloc (.cells #[.int .i64 ix] 3)) := (Below.refl _ _).alloc (Nat.le_refl _) _
  clear hv
  cases hw : Kt.isw n
  · rw [hw] at HW
    go_enter Tryd.func17, Tryd.ntmps17
    go_wp2_with fail
    refine HW.out.mono ?_
    rintro e w2 ⟨rfl, rfl⟩
    go_wp2
    go_ret2
    exact ⟨rfl, b0⟩
  · rw [hw] at HW
    by_cases h0 : 0 ≤ ix
    · have h1 : ¬ ix < (n : Int) := fun h1 => h ⟨hw, h0, h1⟩
      clear h hw
      go_enter Tryd.func17, Tryd.ntmps17
      go_wp2_with fail
      refine HW.out.mono ?_
      rintro e w2 ⟨rfl, rfl⟩
      go_wp2
      go_ret2
      exact ⟨rfl, b0⟩
    · clear h hw
      go_enter Tryd.func17, Tryd.ntmps17
      go_wp2_with fail
      refine HW.out.mono ?_
      rintro e w2 ⟨rfl, rfl⟩
      go_wp2
      go_ret2
      exact ⟨rfl, b0⟩

theorem xor_1' : ∀ y : Fin 64, bits BinOp.xor IntKind.i64 (y.val : Int) 1 = ((Kt.sib y.val : Nat) : Int) := by decide +kernel
theorem xor_1 (y : Nat) (h : y < 64) : bits BinOp.xor IntKind.i64 (y : Int) 1 = ((Kt.sib y : Nat) : Int) := xor_1' ⟨y, h⟩
theorem info_ds : (Tryd.prog.info? 29).map (·.size) = some 1 := by kernel_rfl

/-- What the rounds of Path's loop keep. -/
def PathI (S B : Nat) (w : World) (F : List UInt8) (ix K : Nat) (M : Nat → Prop) (k : Nat) (W : World) : Prop :=
  ∃ (pv : Value) (m j : Nat) (X : List UInt8), (∀ b, M b ↔ (b = S ∨ b = S + 1 ∨ pv.ownBlock = some b)) ∧ Hid (m = min k K) ∧ Hid (j = ix / 2 ^ k) ∧ Hid (X = Kt.pth F ix m) ∧
    Blk W S 3 [.int .i64 (j : Int)] ∧ Blk W (S + 1) 29 [pv] ∧ OwnD W (B + 2) pv m X ∧ Below S w W

theorem OwnD.atT {w : World} {base n : Nat} {v : Value} {F : List UInt8} (h : OwnD w base v n F) : AtT (fun b => base ≤ b) v := by
  obtain ⟨_, h2⟩ := h
  rcases h2 with ⟨rfl, _⟩ | ⟨g, cap, cur, rfl, hg, _⟩
  · intro a n c e; cases e
  · intro a n c e _
    injection e with e1 _ _
    injection e1 with e1
    rw [← e1]; exact hg

set_option maxRecDepth 100000 in
set_option maxHeartbeats 2000000 in
theorem path_at (v : Value) (F : List UInt8) (K ix : Nat) (w : World) (hv : Row w w.heap.size 32 (2 ^ K) v (u8s F)) (hK : K ≤ 6) (hix : ix < 2 ^ K) (hk : KIs 1 w) :
    Calls Tryd.prog 17 #[v, .int .i64 ix] w fun e w' => ∃ v', e = .returned (.tuple #[v', .int .i64 0]) ∧ Row w' w'.heap.size 32 K v' (u8s (Kt.pth F ix K)) ∧ AtT (fun b => w.heap.size ≤ b) v' ∧ Below w.heap.size w w' := by
  obtain ⟨A, cap, rfl⟩ := row_form hv
  have hTv := AtT.of_row hv
  have HFL := Lib.hid (show F.length = 32 * 2 ^ K by rw [row_flen hv, Nat.mul_comm])
  have hn64 := Kt.pow_le hK
  have HIX := Lib.hid hix
  have hglt : 1 < w.heap.size := block_lt_of_cell (hk 0 (by decide))
  obtain ⟨n, hn⟩ : ∃ n, n = 2 ^ K := ⟨_, rfl⟩
  have HW := Lib.hid (isWidth_any n (w.alloc (.cells #[.int .i64 (ix : Int)] 3)) (by omega))
  rw [show Kt.isw n = true by rw [hn]; exact Kt.isw_of_pow hK] at HW
  rw [← hn] at hv hix hn64 hTv ⊢
  have HN := Lib.hid hn
  have HV := Lib.hid hv
  have hb0 : Below w.heap.size w (w.alloc (.cells #[.int .i64 (ix : Int)] 3)) := (Below.refl _ _).alloc (Nat.le_refl _) _
  have hx0 : ((ix : Int) < 0) = False := by simp
  clear hn hv
  refine (callsIn_wide (n := 0)).1 ?_
  refine callsIn_of_wp_marks Tryd.func17 rfl trivial ?_ rfl
  simp only [Tryd.ntmps17, List.size_toArray, List.length_cons, List.length_nil, Nat.reduceAdd, Nat.reduceSub, Array.replicate_succ, Array.replicate_zero, List.push_toArray, List.append_toArray, List.nil_append, List.cons_append]
  gi_wp2_with fail
  refine ⟨trivial, rfl, (callsIn_wide.2 HW.out).mono ?_⟩
  rintro e w1 ⟨rfl, rfl⟩
  gi_wp2_with fail
  refine ⟨trivial, rfl, (callsIn_wide.2 (levels_any A n cap _)).mono ?_⟩
  rintro e w3 ⟨rfl, rfl⟩
  obtain ⟨W3, hW3⟩ : ∃ W3, W3 = ((w.alloc (.cells #[.int .i64 (ix : Int)] 3)).alloc (.cells #[.slice none 0 0] 29)).alloc (.cells #[.slice A n cap] 29) := ⟨_, rfl⟩
  have hb3 : Below w.heap.size w W3 := by rw [hW3]; exact (hb0.alloc (by simp) _).alloc (by simp only [World.size_alloc]; omega) _
  have hs3 : W3.heap.size = w.heap.size + 3 := by rw [hW3]; simp
  have c0 : Blk W3 w.heap.size 3 [.int .i64 (ix : Int)] := by
    rw [hW3]
    exact ((Blk.new w 3 [.int .i64 (ix : Int)]).past ((Below.refl _ _).alloc (Nat.le_refl _) _) (by simp)).past ((Below.refl _ _).alloc (Nat.le_refl _) _) (by simp only [World.size_alloc]; omega)
  have c1 : Blk W3 (w.heap.size + 1) 29 [.slice none 0 0] := by
    have h := Blk.new (w.alloc (.cells #[.int .i64 (ix : Int)] 3)) 29 [.slice none 0 0]
    rw [World.size_alloc] at h
    rw [hW3]
    exact h.past ((Below.refl _ _).alloc (Nat.le_refl _) _) (by simp)
  have c2 : W3.cell? ⟨w.heap.size + 1 + 1, 0, none⟩ = some (.slice A n cap) := by
    have h := Blk.new ((w.alloc (.cells #[.int .i64 (ix : Int)] 3)).alloc (.cells #[.slice none 0 0] 29)) 29 [.slice A n cap]
    rw [World.size_alloc, World.size_alloc] at h
    rw [hW3]
    exact h.cell (j := 0) rfl
  have HW3 := Lib.hid hW3
  have HC := Lib.hid (And.intro c0 (And.intro c1 c2))
  have hs3' : w.heap.size + 3 ≤ W3.heap.size := by omega
  clear hW3 c0 c1 c2 hs3 hb0 HW
  gi_wp2_with fail
  rw [← HW3.out]
  refine wp_rangeM (gf := 53) (lb := #[.pointer (some ⟨w.heap.size + 1 + 1, 0, none⟩)]) (T := fun b => b < w.heap.size) (Item := ItemD) (items := lvls F K) rfl (enters_of Tryd.func53 (by kernel_rfl) rfl) (fun b h => by omega)
    ?hItem ?hseq (PathI w.heap.size W3.heap.size w F ix K) (fun b => b = w.heap.size ∨ b = w.heap.size + 1) (fun b hb h => by omega) ?h0 ?hlt ?hI
    (fun v => { tmps := #[.slice A n cap, .int .i64 ix, undef, .pointer (some ⟨w.heap.size, 0, none⟩), .slice none 0 0, .int .i64 0, .pointer (some ⟨w.heap.size + 1, 0, none⟩), v, .slice A n cap, .int .i64 n, .bool true, .bool false, .bool false, .int .i64 ix, .bool false, .bool false, .bool false, .int .i64 ix, .slice A n cap, .int .i64 n, .bool false, .bool false, .slice A n cap, .func (.func 53) #[] #[.pointer (some ⟨w.heap.size + 1 + 1, 0, none⟩)], v, undef, undef, undef, undef, undef, undef, undef, undef, undef, undef, undef, undef, undef, undef], defers := [] }) ?hassign ?hbody ?hdone
  case hItem =>
    rintro M v x W4 W5 ⟨h1, h2⟩ hk
    exact ⟨Row.keepT h1 h2 hk (fun b hb => hb) hk.size, h2⟩
  case hseq =>
    intro W4 hb4
    have hb := hb3.trans (hb4.mono (by omega))
    have hv4 := HV.out.past hb
    rw [HN.out] at hv4
    have hTv4 := hTv
    rw [HN.out] at hTv4
    have c2 := HC.out.2.2
    rw [HN.out] at c2
    exact levels_gives (fun b => b < w.heap.size) (w.heap.size + 1 + 1) _ F K W4 (cell_past c2 hb4) hglt hv4 hTv4 hK (hk.past hb)
  case h0 =>
    intro W4 hb4 hs4
    refine ⟨.slice none 0 0, 0, ix, [], fun b => by simp [Value.ownBlock], Lib.hid (by omega), Lib.hid (by simp), Lib.hid rfl, HC.out.1.past hb4 (by omega), HC.out.2.1.past hb4 (by omega), OwnD.nil_ _ _, hb3.trans (hb4.mono (by omega))⟩
  case hlt =>
    rintro M k W4 ⟨pv, m, j, X, hM, _, _, _, h1, h2, h3, h4⟩ b hb
    rcases (hM b).1 hb with rfl | rfl | h
    · exact h1.lt
    · exact h2.lt
    · exact (own_block h3 b h).2
  case hI =>
    rintro M k W4 W5 ⟨pv, m, j, X, hM, HM, HJ, HX, h1, h2, h3, h4⟩ hk
    exact ⟨pv, m, j, X, hM, HM, HJ, HX, h1.keep hk (Or.inl (by omega)), h2.keep hk (Or.inl (by omega)), hk.own (fun q hq => Or.inr hq) h3, h4.trans (hk.below (fun q hq => Or.inl (by omega)) h4.size)⟩
  case hassign =>
    intro l' v W4 K hK
    gi_wp2
    exact hK
  case hdone =>
    rintro M W4 hs4 ⟨pv, m, j, X, hM, HM, HJ, HX, h1, h2, h3, h4⟩ hd
    have hm : m = K := by rw [HM.out, lvls_len]; omega
    subst hm
    have hp : ∀ O : Nat → Prop, ¬ O W3.heap.size → Keep O W4 (W4.putObj W3.heap.size (.deferred none)) := fun O hO => Keep.putObj _ _ _ hO
    have cp := h2.cell (j := 0) rfl
    have h9 := (hp (fun q => W3.heap.size + 2 ≤ q) (by omega)).own (fun q hq => hq) h3
    have hb9 : Below w.heap.size w (W4.putObj W3.heap.size (.deferred none)) := h4.trans ((hp (fun q => q < w.heap.size) (by omega)).below (fun q hq => hq) h4.size)
    have hr9 := OwnD.row h9
    rw [HX.out] at hr9
    have HR9 := Lib.hid hr9
    have HAT : Hid (AtT (fun b => w.heap.size ≤ b) pv) := Lib.hid (h3.atT.mono fun b hb => by omega)
    clear hp h9 hr9 h1 h2 h3 hM
    gi_wp2_with fail
    show LeavesInM _ _ _ _ _ _ _ _ _
    refine ⟨by simp, .inl ⟨_, _, rfl, run_takeDeferred hd, ?_⟩⟩
    exact ⟨_, results_tmp2 Tryd.results17 _ _ _, pv, rfl, HR9.out, HAT.out, hb9⟩
  case hbody =>
    rintro l' M k ⟨nk, G⟩ v W4 hs4 ⟨pv, m, j, X, hM0, HM, HJ, HX, h1, h2, h3, h4⟩ hx ⟨hr, hrT⟩
    have hM := Lib.hid hM0
    clear hM0
    have hkK : k ≤ K := by
      have h := (List.getElem?_eq_some_iff.1 hx).1
      rw [lvls_len] at h; omega
    rw [lvls_get F hkK] at hx
    injection hx with hx
    injection hx with hx1 hx2
    obtain ⟨A4, cap4, rfl⟩ := row_form hr
    have ci := h1.cell (j := 0) rfl
    have fi := h1.frozen 0
    have hown := own_block h3
    by_cases hlt : k < K
    · have hj : j < nk := by rw [HJ.out, ← hx1]; exact Kt.ix_lt HIX.out hkK
      have hnk : nk ≤ 64 := by rw [← hx1]; exact Nat.le_trans (Nat.pow_le_pow_right (by omega) (show K - k ≤ 6 by omega)) (by decide)
      have hp2 := Kt.lv_pow hlt
      have hsl : Kt.sib j < nk := by rw [← hx1, hp2]; exact Kt.sib_lt (by rw [← hp2, hx1]; exact hj)
      have hgt : 1 < nk := by have := Nat.two_pow_pos (K - (k + 1)); omega
      have hxor := xor_1 j (by omega)
      have hDe : Wt.el G (Kt.sib j) = Kt.pthE F ix k := by
        rw [← hx2, Kt.el_lv HFL.out (by rw [hx1]; exact hsl), HJ.out]; rfl
      have hmk : m = k := by rw [HM.out]; omega
      subst hmk
      obtain ⟨s, hs⟩ : ∃ s, s = Kt.sib j := ⟨_, rfl⟩
      rw [← hs] at hsl hxor hDe
      obtain ⟨D, hD⟩ : ∃ D, D = Kt.pthE F ix m := ⟨_, rfl⟩
      rw [← hD] at hDe
      have HD := Lib.hid hD
      have HDL := Lib.hid (show D.length = 32 by rw [hD]; exact Kt.pthE_len HFL.out HIX.out hlt)
      have HUD := Lib.hid (show (u8s D).length = 32 by rw [u8s_length, HDL.out])
      obtain ⟨ad, rfl, _, _⟩ := hr.at_ (by omega)
      have HCX : Hid (∀ W, Keep (fun b => b ≠ w.heap.size + 1 ∧ pv.ownBlock ≠ some b) W4 W → ∀ i u, (u8s D)[i]? = some u → W.cell? ((ad.add (s * 32)).add i) = some u) := Lib.hid fun W hW => by
        rw [← hDe]
        refine row_elem (Row.keepT hr hrT hW ?_ hW.size) hsl
        exact fun b hb => ⟨fun h => hb (Or.inl ((hM.out b).2 (Or.inr (Or.inl h)))), fun h => hb (Or.inl ((hM.out b).2 (Or.inr (Or.inr h))))⟩
      have HCI : Hid (∀ W, Keep (fun b => b ≠ w.heap.size + 1 ∧ pv.ownBlock ≠ some b) W4 W → W.cell? ⟨w.heap.size, 0, none⟩ = some (.int .i64 (j : Int))) := Lib.hid fun W hW => hW.cell (p := ⟨w.heap.size, 0, none⟩) ⟨by dsimp only; omega, fun h => absurd (hown _ h).1 (by dsimp only; omega)⟩ ci
      clear hx1 hx2 hs hD hDe hp2 hr hrT ci fi
      gi_wp2_with fail
      refine wpi_region_ptk (fun b => b ≠ w.heap.size + 1 ∧ pv.ownBlock ≠ some b) (.take 1 (.take 2 (.take 3 (.take 4 (.take 5 (.two 0 (.step 6 (.step 7 (.step 8 .done))) 6 (.step 0 (.step 7 (.step 8 .done))))))))) (by kernel_rfl) (by kernel_rfl) (by kernel_rfl) (by kernel_rfl) (fun _ _ h => h) ?_
      have hk45 : Keep (fun _ => True) W4 W4.drew := (Keep.of_below ((Below.refl W4.heap.size W4).drew)).mono (fun _ _ => trivial)
      have h15 := h1.drew
      have h25 := h2.drew
      have h35 := hk45.own (fun _ _ => trivial) h3
      have h45 : Below w.heap.size w W4.drew := h4.drew
      obtain ⟨W5, hW5⟩ : ∃ W5, W5 = W4.drew := ⟨_, rfl⟩
      rw [← hW5] at hk45 h15 h25 h35 h45 ⊢
      have hsz5 : W3.heap.size + 2 ≤ W5.heap.size := by have := hk45.size; omega
      have cp5 := h25.cell (j := 0) rfl
      clear hW5 h1 h2 h3 h4
      first | refine ptk_skip rfl rfl rfl rfl ?_ | (refine ptk_take rfl rfl rfl rfl ?_; apply Exists.intro; refine ⟨fun w' hw' => ?_, ?_⟩; focus ((repeat (first | go_skip | go_guarded | go_step | go_upon | go_back)); exact ⟨rfl, rfl, rfl⟩))
      refine ptk_take rfl rfl rfl rfl ?_
      apply Exists.intro
      refine ⟨fun w' hw' => ?_, ?_⟩
      · have hcell := HCI.out w' ((hk45.mono (fun _ _ => trivial)).trans hw')
        focus ((repeat (first | go_skip | go_guarded | go_step | go_upon | go_back)); exact ⟨rfl, rfl, rfl⟩)
      first | refine ptk_skip rfl rfl rfl rfl ?_ | (refine ptk_take rfl rfl rfl rfl ?_; apply Exists.intro; refine ⟨fun w' hw' => ?_, ?_⟩; focus ((repeat (first | go_skip | go_guarded | go_step | go_upon | go_back)); exact ⟨rfl, rfl, rfl⟩))
      refine ptk_take rfl rfl rfl rfl ?_
      apply Exists.intro
      refine ⟨fun w' hw' => ?_, ?_⟩
      · refine wp_run rfl (exec_ixS 29 25 32 Tryd.underlying29 info_dig w' rfl rfl _ _ s rfl rfl hsl (q := ad.add (s * 32)) rfl) ?_
        exact ⟨rfl, rfl, rfl⟩
      refine ptk_take rfl rfl rfl rfl ?_
      apply Exists.intro
      refine ⟨fun w' hw' => ?_, ?_⟩
      · refine wp_run rfl (exec_loadP 25 rfl (ad.add (s * 32)) rfl (u8s D) 32 5 (HCX.out w' ((hk45.mono (fun _ _ => trivial)).trans hw')) Tryd.underlying25 (by rw [info_dig, HUD.out])) ?_
        exact ⟨rfl, rfl, rfl⟩
      have hal : Below W5.heap.size W5 (W5.alloc (.cells (u8s D).toArray 25)) := (Below.refl _ _).alloc (Nat.le_refl _) _
      refine ptk_two rfl rfl ?_ ?_
      · go_wp2_with fail
        refine ⟨rfl, Keep.refl _ _, ?_⟩
        refine ptk_step rfl ?_
        go_wp2_with (refine wp_buildD (.tmp 33) rfl rfl D HDL.out rfl ?_)
        refine ⟨rfl, Keep.of_below hal, ?_⟩
        refine ptk_step rfl ?_
        go_wp2_with (refine wp_appDg (W3.heap.size + 2) (.tmp 28) (.tmp 34) rfl rfl _ m X D HDL.out rfl rfl h35 hsz5 (by omega) ?_; intro v7 w7 o7 g7)
        refine ⟨rfl, Keep.of_grew g7 (fun q hq h => h.2 hq), ?_⟩
        obtain ⟨A7, c7, rfl⟩ := row_form o7.row
        have hk7 : Keep (fun b => b ≠ w.heap.size + 1 ∧ pv.ownBlock ≠ some b) W5 w7 := (Keep.of_below hal).trans (Keep.of_grew g7 (fun q hq h => h.2 hq))
        have hkp7 : Keep (fun b => b = w.heap.size + 1) W5 w7 := (Keep.of_below hal).trans (Keep.of_grew g7 (fun q hq h => by have := (hown q hq).1; omega))
        have h27 := h25.keep hkp7 rfl
        have hv7 := g7.2
        have hv7' := own_block o7
        refine ptk_step rfl ?_
        refine wp_storeC 29 (.tmp 6) (.tmp 35) rfl rfl (w.heap.size + 1) 0 rfl 29 [pv] (.slice A7 (m + 1) c7) rfl rfl rfl h27 (by simp) info_ds rfl ?_
        intro w8 h28 hk8
        go_wp2_with fail
        refine ⟨rfl, hk8.mono (fun q hq => hq.1), ?_⟩
        change Exit.then _ _ Exit.normal _ _
        have hk58 : Keep (fun b => b ≠ w.heap.size + 1 ∧ pv.ownBlock ≠ some b) W5 w8 := hk7.trans (hk8.mono fun q hq => hq.1)
        have h18 : Blk w8 w.heap.size 3 [.int .i64 (j : Int)] := h15.keep hk58 ⟨by omega, fun h => by have := (hown _ h).1; omega⟩
        have o8 : OwnD w8 (W3.heap.size + 2) (.slice A7 (m + 1) c7) (m + 1) (X ++ D) := hk8.own (fun q hq => by omega) o7
        have b8 : Below w.heap.size w w8 := h45.trans (hk58.below (fun q hq => ⟨by omega, fun h => by have := (hown q h).1; omega⟩) h45.size)
        have ci8 := h18.cell (j := 0) rfl
        have fi8 := h18.frozen 0
        have hsz8 := hk8.size
        have hsz7 := hk7.size
        clear hk7 hkp7 h27 g7 o7 HCX h15 h25 h35 h45 hal cp5
        gi_wp2_with fail
        refine ⟨rfl, fun b => b = w.heap.size ∨ b = w.heap.size + 1 ∨ (Value.slice A7 (m + 1) c7).ownBlock = some b, ⟨_, m + 1, j / 2, X ++ D, fun b => Iff.rfl, Lib.hid (by omega), Lib.hid (by rw [HJ.out, Kt.half_pow]), Lib.hid (by rw [HX.out, HD.out]; rfl), ?_, h28.keep (Keep.setCell (O := fun b => b ≠ w.heap.size) _ _ _ (fun h => h rfl)) (by omega), (Keep.setCell (O := fun b => b ≠ w.heap.size) _ _ _ (fun h => h rfl)).own (fun q hq => by omega) o8, b8.trans ((Keep.setCell (O := fun b => b < w.heap.size) _ _ _ (by simp)).below (fun q hq => hq) b8.size)⟩, ?_, ?_⟩
        · have h := h18.set 0 (.int .i64 ((j : Int) / 2))
          rw [show ((j / 2 : Nat) : Int) = (j : Int) / 2 by omega]
          exact h
        · rintro b (h | h | h)
          · exact Or.inl ((hM.out b).2 (Or.inl h))
          · exact Or.inl ((hM.out b).2 (Or.inr (Or.inl h)))
          · rcases hv7 with h7 | h7
            · rw [h7] at h
              exact Or.inl ((hM.out b).2 (Or.inr (Or.inr h)))
            · have h8 := h7 b h
              rw [World.size_alloc] at h8
              have := hk45.size
              exact Or.inr (by omega)
        · refine (hk45.mono (fun _ _ => trivial)).trans ((hk58.mono ?_).trans (Keep.setCell _ _ _ ?_))
          · rintro b (hb | hb | hb)
            · exact ⟨fun h => hb ((hM.out b).2 (Or.inr (Or.inl h))), fun h => hb ((hM.out b).2 (Or.inr (Or.inr h)))⟩
            · exact ⟨by omega, fun h => by have := (hown b h).1; omega⟩
            · exact ⟨by omega, fun h => by have := (hown b h).1; omega⟩
          · rintro (hb | hb | hb)
            · exact hb ((hM.out _).2 (Or.inl rfl))
            · dsimp only at hb; omega
            · dsimp only at hb; omega
      · go_wp2_with (refine wp_buildD (.tmp 33) rfl rfl D HDL.out rfl ?_)
        refine ⟨rfl, Keep.of_below hal, ?_⟩
        have cp6 := cell_past cp5 hal
        refine ptk_step rfl ?_
        go_wp2_with fail
        refine ⟨rfl, Keep.refl _ _, ?_⟩
        refine ptk_step rfl ?_
        go_wp2_with (refine wp_appDg (W3.heap.size + 2) (.tmp 28) (.tmp 34) rfl rfl _ m X D HDL.out rfl rfl h35 hsz5 (by omega) ?_; intro v7 w7 o7 g7)
        refine ⟨rfl, Keep.of_grew g7 (fun q hq h => h.2 hq), ?_⟩
        obtain ⟨A7, c7, rfl⟩ := row_form o7.row
        have hk7 : Keep (fun b => b ≠ w.heap.size + 1 ∧ pv.ownBlock ≠ some b) W5 w7 := (Keep.of_below hal).trans (Keep.of_grew g7 (fun q hq h => h.2 hq))
        have hkp7 : Keep (fun b => b = w.heap.size + 1) W5 w7 := (Keep.of_below hal).trans (Keep.of_grew g7 (fun q hq h => by have := (hown q hq).1; omega))
        have h27 := h25.keep hkp7 rfl
        have hv7 := g7.2
        have hv7' := own_block o7
        refine ptk_step rfl ?_
        refine wp_storeC 29 (.tmp 6) (.tmp 35) rfl rfl (w.heap.size + 1) 0 rfl 29 [pv] (.slice A7 (m + 1) c7) rfl rfl rfl h27 (by simp) info_ds rfl ?_
        intro w8 h28 hk8
        go_wp2_with fail
        refine ⟨rfl, hk8.mono (fun q hq => hq.1), ?_⟩
        change Exit.then _ _ Exit.normal _ _
        have hk58 : Keep (fun b => b ≠ w.heap.size + 1 ∧ pv.ownBlock ≠ some b) W5 w8 := hk7.trans (hk8.mono fun q hq => hq.1)
        have h18 : Blk w8 w.heap.size 3 [.int .i64 (j : Int)] := h15.keep hk58 ⟨by omega, fun h => by have := (hown _ h).1; omega⟩
        have o8 : OwnD w8 (W3.heap.size + 2) (.slice A7 (m + 1) c7) (m + 1) (X ++ D) := hk8.own (fun q hq => by omega) o7
        have b8 : Below w.heap.size w w8 := h45.trans (hk58.below (fun q hq => ⟨by omega, fun h => by have := (hown q h).1; omega⟩) h45.size)
        have ci8 := h18.cell (j := 0) rfl
        have fi8 := h18.frozen 0
        have hsz8 := hk8.size
        have hsz7 := hk7.size
        clear hk7 hkp7 h27 g7 o7 HCX h15 h25 h35 h45 hal cp5
        gi_wp2_with fail
        refine ⟨rfl, fun b => b = w.heap.size ∨ b = w.heap.size + 1 ∨ (Value.slice A7 (m + 1) c7).ownBlock = some b, ⟨_, m + 1, j / 2, X ++ D, fun b => Iff.rfl, Lib.hid (by omega), Lib.hid (by rw [HJ.out, Kt.half_pow]), Lib.hid (by rw [HX.out, HD.out]; rfl), ?_, h28.keep (Keep.setCell (O := fun b => b ≠ w.heap.size) _ _ _ (fun h => h rfl)) (by omega), (Keep.setCell (O := fun b => b ≠ w.heap.size) _ _ _ (fun h => h rfl)).own (fun q hq => by omega) o8, b8.trans ((Keep.setCell (O := fun b => b < w.heap.size) _ _ _ (by simp)).below (fun q hq => hq) b8.size)⟩, ?_, ?_⟩
        · have h := h18.set 0 (.int .i64 ((j : Int) / 2))
          rw [show ((j / 2 : Nat) : Int) = (j : Int) / 2 by omega]
          exact h
        · rintro b (h | h | h)
          · exact Or.inl ((hM.out b).2 (Or.inl h))
          · exact Or.inl ((hM.out b).2 (Or.inr (Or.inl h)))
          · rcases hv7 with h7 | h7
            · rw [h7] at h
              exact Or.inl ((hM.out b).2 (Or.inr (Or.inr h)))
            · have h8 := h7 b h
              rw [World.size_alloc] at h8
              have := hk45.size
              exact Or.inr (by omega)
        · refine (hk45.mono (fun _ _ => trivial)).trans ((hk58.mono ?_).trans (Keep.setCell _ _ _ ?_))
          · rintro b (hb | hb | hb)
            · exact ⟨fun h => hb ((hM.out b).2 (Or.inr (Or.inl h))), fun h => hb ((hM.out b).2 (Or.inr (Or.inr h)))⟩
            · exact ⟨by omega, fun h => by have := (hown b h).1; omega⟩
            · exact ⟨by omega, fun h => by have := (hown b h).1; omega⟩
          · rintro (hb | hb | hb)
            · exact hb ((hM.out _).2 (Or.inl rfl))
            · dsimp only at hb; omega
            · dsimp only at hb; omega
    · have hkK2 : k = K := by omega
      have hnk1 : nk = 1 := by rw [← hx1, hkK2, Nat.sub_self]
      have HKK := Lib.hid hkK2
      subst hnk1
      have hmk : m = K := by rw [HM.out]; omega
      subst hmk
      have hjle : j ≤ ix := by rw [HJ.out]; exact Nat.div_le_self _ _
      have hjb : j ≤ 64 := by omega
      clear hx1 hx2 hkK2 hlt hjle
      gi_wp2_with fail
      refine ⟨rfl, fun b => b = w.heap.size ∨ b = w.heap.size + 1 ∨ pv.ownBlock = some b, ⟨pv, m, j / 2, X, fun b => Iff.rfl, Lib.hid (by have := HKK.out; omega), Lib.hid (by rw [HJ.out, Kt.half_pow]), HX, ?_, h2.keep (Keep.setCell (O := fun b => b ≠ w.heap.size) _ _ _ (fun h => h rfl)) (by omega), (Keep.setCell (O := fun b => b ≠ w.heap.size) _ _ _ (fun h => h rfl)).own (fun q hq => by omega) h3, h4.trans ((Keep.setCell (O := fun b => b < w.heap.size) _ _ _ (by simp)).below (fun q hq => hq) h4.size)⟩, ?_, ?_⟩
      · have h := h1.set 0 (.int .i64 ((j : Int) / 2))
        rw [show ((j / 2 : Nat) : Int) = (j : Int) / 2 by omega]
        exact h
      · rintro b h
        exact Or.inl ((hM.out b).2 h)
      · refine Keep.setCell _ _ _ ?_
        rintro (hb | hb | hb)
        · exact hb ((hM.out _).2 (Or.inl rfl))
        · dsimp only at hb; omega
        · dsimp only at hb; omega

theorem path_yes (v : Value) (F : List UInt8) (K ix : Nat) (w : World) (hv : Row w w.heap.size 32 (2 ^ K) v (u8s F)) (hK : K ≤ 6) (hix : ix < 2 ^ K) (hk : KIs 1 w) :
    Calls Tryd.prog 17 #[v, .int .i64 ix] w fun e w' => ∃ v', e = .returned (.tuple #[v', .int .i64 0]) ∧ Row w' w'.heap.size 32 K v' (u8s (Kt.pth F ix K)) ∧ Below w.heap.size w w' :=
  (path_at v F K ix w hv hK hix hk).mono fun e w' ⟨v', h1, h2, _, h4⟩ => ⟨v', h1, h2, h4⟩
end
end Go.Proofs.YtccepoeenkpifaaDoor
