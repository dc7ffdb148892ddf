/-
  Walks of package sha256: the first state, the digest, the last blocks.
-/
import Derived.Test.YtnfhdjmehhapiaaDoorShE
import Derived.Laws.CopyOwn
import Derived.Laws.MakeOwn
namespace Go.Proofs.YtnfhdjmehhapiaaDoor
open Go.RowKit
set_option linter.unusedVariables false
set_option linter.unusedSimpArgs false

theorem newState_any (w : World) : Calls Tryd.prog 45 #[] w fun e w' => e = .returned (.agg (w32s Sha.init.list).toArray) ∧ Below w.heap.size w w' := by
  go_enter Tryd.func45, Tryd.ntmps45
  go_wp2_with (refine wp_storeA 64 (.tmp 0) (.tmp 1) rfl rfl w.heap.size rfl 64 (w32s [0, 0, 0, 0, 0, 0, 0, 0]) (w32s Sha.init.list) rfl (Blk.new w _ _) (by rw [info_st]; rfl) rfl (w32s_one _) rfl ?_; intro w2 hb2 hk2)
  have ha : Keep (fun q => q < w.heap.size) w (w.alloc (.cells (w32s [0, 0, 0, 0, 0, 0, 0, 0]).toArray 64)) := Keep.of_below ((Below.refl _ _).alloc (Nat.le_refl _) _)
  have hbl : Below w.heap.size w w2 := (ha.trans (hk2.mono (fun q hq => by omega))).below (fun q hq => hq) (Nat.le_refl _)
  refine ret_arr Tryd.results45 rfl w.heap.size 64 (w32s Sha.init.list) 8 62 rfl hb2 Tryd.underlying64 (by rw [info_st]; rfl) ?_
  exact ⟨rfl, hbl⟩

def z32 : List UInt8 := List.replicate 32 0
theorem zero_dig (w : World) : (zeroValue 23).run Tryd.prog w = .ok (.agg (u8s z32).toArray) w := by kernel_rfl
theorem info_dig : (Tryd.prog.info? 23).map (·.size) = some 32 := by kernel_rfl

/-- The digest's bytes of the first k words; zeros behind. -/
def dg (s : Sha.St) (k : Nat) : List UInt8 := (s.list.take k).flatMap Sha.be4 ++ List.replicate (32 - 4 * k) 0
theorem flat_len : ∀ l : List Nat, (l.flatMap Sha.be4).length = 4 * l.length
  | [] => rfl
  | x :: l => by rw [List.flatMap_cons, List.length_append, flat_len l]; simp [Sha.be4]; omega
theorem dg_len (s : Sha.St) {k : Nat} (h : k ≤ 8) : (dg s k).length = 32 := by
  unfold dg
  rw [List.length_append, flat_len, List.length_take, s.list_len, List.length_replicate]; omega
theorem dg_put (s : Sha.St) {k x : Nat} (hk : k < 8) (hx : s.list[k]? = some x) : put4 (dg s k) (4 * k) x = dg s (k + 1) := by
  have hr : List.replicate (32 - 4 * k) (0 : UInt8) = 0 :: 0 :: 0 :: 0 :: List.replicate (32 - 4 * (k + 1)) 0 := by
    obtain ⟨m, hm⟩ : ∃ m, 32 - 4 * k = m + 4 := ⟨32 - 4 * k - 4, by omega⟩
    rw [hm, show 32 - 4 * (k + 1) = m by omega]
    rfl
  have hl : ((s.list.take k).flatMap Sha.be4).length = 4 * k := by rw [flat_len, List.length_take, s.list_len]; omega
  unfold dg
  rw [hr]
  have h := put4_mid ((s.list.take k).flatMap Sha.be4) (List.replicate (32 - 4 * (k + 1)) 0) 0 0 0 0 x
  rw [hl] at h
  rw [h, List.take_add_one, hx, List.flatMap_append]
  simp
theorem dg_all (s : Sha.St) : dg s 8 = Sha.dgs s := by
  unfold dg Sha.dgs
  obtain ⟨a, b, c, d, e, f, g, h⟩ := s
  simp [Sha.St.list]

set_option maxRecDepth 100000 in
set_option maxHeartbeats 1000000 in
theorem digest_any (sb : Nat) (s : Sha.St) (w : World) (hs : s.ok) (hb : Blk w sb 64 (w32s s.list)) :
    Calls Tryd.prog 49 #[.pointer (some ⟨sb, 0, none⟩)] w fun e w' => e = .returned (.agg (u8s (Sha.dgs s)).toArray) ∧ Below w.heap.size w w' := by
  have hz := zero_dig
  have hsb := hb.lt
  have hws : Sha.Ws s.list := by
    obtain ⟨h1, h2, h3, h4, h5, h6, h7, h8⟩ := hs
    intro x hx
    simp only [Sha.St.list, List.mem_cons, List.not_mem_nil, or_false] at hx
    rcases hx with rfl | rfl | rfl | rfl | rfl | rfl | rfl | rfl <;> assumption
  go_enter Tryd.func49, Tryd.ntmps49
  go_wp2
  obtain ⟨W, hW⟩ : ∃ W, W = (w.alloc (.cells (u8s z32).toArray 23)).alloc (.cells (u8s z32).toArray 23) := ⟨_, rfl⟩
  rw [← hW]
  have hb0 : Below w.heap.size w W := by rw [hW]; exact ((Below.refl _ _).alloc (Nat.le_refl _) _).alloc (by simp) _
  have hr0 : Blk W w.heap.size 23 (u8s z32) := by rw [hW]; exact (Blk.new w _ _).past ((Below.refl _ _).alloc (Nat.le_refl _) _) (by simp)
  have hd0 : Blk W (w.heap.size + 1) 23 (u8s (dg s 0)) := by
    have h := Blk.new (w.alloc (.cells (u8s z32).toArray 23)) 23 (u8s z32)
    rw [World.size_alloc] at h
    rw [hW]; exact h
  clear hW hz
  go_loopw [7] (fun i wr => ∃ k : Nat, i = .int .i64 k ∧ k ≤ 8 ∧ Blk wr (w.heap.size + 1) 23 (u8s (dg s k)) ∧ Blk wr w.heap.size 23 (u8s z32) ∧ Below w.heap.size w wr) (fun i _ => (8 - intOf i).toNat)
  case atStart => exact ⟨0, rfl, by omega, hd0, hr0, hb0⟩
  case round =>
    obtain ⟨k, rfl, hk, hd, hr, hbl⟩ := hrel
    by_cases hlt : k < 8
    · obtain ⟨x, hx⟩ : ∃ x, s.list[k]? = some x := ⟨_, List.getElem?_eq_getElem (by rw [s.list_len]; exact hlt)⟩
      have hxl : x < 4294967296 := hws x (List.mem_of_getElem? hx)
      have cx : wr.cell? ⟨sb, k, none⟩ = some (.int .u32 x) := (hb.past hbl hsb).cell (by unfold w32s; rw [List.getElem?_map, hx]; rfl)
      have HX := Lib.hid hx
      clear hx
      go_wp2
      go_quiet (fail)
      obtain ⟨w2, hw2⟩ : ∃ w2, w2 = wr.drewN nq := ⟨_, rfl⟩
      have hb2 : Below wr.heap.size wr w2 := by rw [hw2]; exact below_drewN (Below.refl _ _) nq
      rw [← hw2]
      have hd2 := hd.past hb2 hd.lt
      have hr2 := hr.past hb2 hr.lt
      have hbl2 := hbl.trans (hb2.mono hbl.size)
      have hs1 : w.heap.size + 1 < w2.heap.size := hd2.lt
      clear hw2 cx hd hr hbl hb2
      go_wp2_with (refine wp_sliceA 23 5 32 (.tmp 3) (.tmp 14) rfl rfl Tryd.underlying23 size_u8 (w.heap.size + 1) (4 * k) .i64 _ rfl rfl (by push_cast; rfl) (by omega) ?_)
      refine (putWord_any (w.heap.size + 1) (4 * k) (32 - 4 * k) (32 - 4 * k) x x 23 (dg s k) w2 hd2 (by rw [dg_len s hk]; omega) (by omega) hxl rfl).mono ?_
      rintro e w3 ⟨⟨ve, rfl⟩, hd3, hk3⟩
      rw [dg_put s hlt HX.out] at hd3
      have hr3 := hr2.keep hk3 (by omega)
      have hbl3 := hbl2.trans (hk3.below (n := w.heap.size) (fun q hq => by omega) hbl2.size)
      clear hd2 hr2 hbl2 hk3
      go_wp2
      go_roundw
      case rel => exact ⟨k + 1, by go_num, by omega, hd3, hr3, hbl3⟩
      case measure => simp [intOf]; omega
    · have hdf : Blk wr (w.heap.size + 1) 23 (u8s (Sha.dgs s)) := by
        have h := hd
        rw [show k = 8 by omega, dg_all] at h
        exact h
      obtain ⟨D, hD⟩ : ∃ D, D = Sha.dgs s := ⟨_, rfl⟩
      have HDL := Lib.hid (show (u8s D).length = 32 by rw [hD]; rfl)
      rw [← hD] at hdf
      have HD := Lib.hid hD
      have hs1 : w.heap.size + 1 < wr.heap.size := hd.lt
      clear hd hD
      go_upto_region 7 with (fail)
      refine wp_region_lit ?_
      refine wp_loadA 23 (.tmp 3) rfl rfl (w.heap.size + 1) rfl 23 _ 32 5 hdf Tryd.underlying23 (by rw [info_dig, HDL.out]) ?_
      refine wp_storeA 23 (.tmp 2) (.tmp 19) rfl rfl w.heap.size rfl 23 (u8s z32) _ rfl hr (by rw [info_dig, HDL.out]) (by rw [HDL.out]; rfl) (u8s_one _) rfl ?_
      intro w2 hr2 hk2
      have hbl2 := hbl.trans (hk2.below (n := w.heap.size) (fun q hq => by omega) hbl.size)
      clear hdf hr hbl hk2
      go_wp2
      refine ret_arr Tryd.results49 rfl w.heap.size 23 _ 32 5 rfl hr2 Tryd.underlying23 (by rw [info_dig, HDL.out]) ?_
      rw [HD.out]
      exact ⟨rfl, hbl2⟩

/-- 'make([]byte, n)' -/
theorem wp_makeB {ops : Array Oper} {rest : List Oper} {o : Oper} {a : Act} {Q : Exit → Act → World → Prop} {w : World} (c d : Operand)
    (ho : o.op = Op.makeSlice 29 c d) (hgd : o.guard = none) (I J : Int) (n : Nat) (hc : a.eval c = .int .i64 I) (hd : a.eval d = .int .i64 J) (hI : I = (n : Int)) (hJ : J = (n : Int)) (hn : n ≤ 281474976710656)
    (h : ∀ w', Blk w' w.heap.size 5 (u8s (List.replicate n 0)) → Below w.heap.size w w' → wpList Tryd.prog ops Q rest (a.put o.dst (.slice (some ⟨w.heap.size, 0, none⟩) n n)) w') :
    wpList Tryd.prog ops Q (o :: rest) a w := by
  subst hI hJ
  obtain ⟨i0, hi, hz0, hz1, hz2⟩ := info_parts info_u8
  refine wpList_plain hgd fun K hK => ?_
  have hr := run_make (P := Tryd.prog) w 29 5 i0 (.int .u8 0) Tryd.underlying29 hi hz0 .i64 .i64 n n (by omega) (Int.le_refl _) (by rw [hz2]; omega) (by omega)
  unfold Oper.wp execOp
  simp only [ho, hc, hd, Sem.run_bind, Sem.run_pure, Result.andThen_ok, hr, Int.toNat_natCast, hz1, Nat.mul_one]
  have hcell : madeCells (Value.int IntKind.u8 0).cells n = (u8s (List.replicate n 0)).toArray := by
    apply Array.ext
    · simp [madeCells, u8s]
    · intro i h1 h2
      simp [madeCells, u8s, Value.cells, u8, Nat.mod_one]
  rw [hcell]
  exact hK _ _ (h _ (Blk.new w _ _) ((Below.refl _ _).alloc (Nat.le_refl _) _))

/-- 'copy(dst, src)' into a block of the call's own, from its head. -/
theorem wp_copyB {ops : Array Oper} {rest : List Oper} {o : Oper} {a : Act} {Q : Exit → Act → World → Prop} {w : World} (d s : Operand)
    (ho : o.op = .call { callee := .builtin .copy, args := #[d, s], argTypes := #[29, 29] }) (hgd : o.guard = none) (g n c : Nat) (t : TypeId) (l m : List UInt8) (v : Value) {B : Nat}
    (hd : a.eval d = .slice (some ⟨g, 0, none⟩) n c) (hs : a.eval s = v) (hg : Blk w g t (u8s l)) (hv : Bs w B v m) (hm : m.length ≤ n) (hml : m.length ≤ l.length)
    (h : ∀ w', Blk w' g t (u8s (m ++ l.drop m.length)) → Keep (fun q => q ≠ g) w w' → wpList Tryd.prog ops Q rest (a.put o.dst (goInt m.length)) w') :
    wpList Tryd.prog ops Q (o :: rest) a w := by
  have hv' := hv
  obtain ⟨A, cap, rfl, h1, h2, h3, h4, h5⟩ := hv
  by_cases h0 : m.length = 0
  · obtain rfl : m = [] := List.eq_nil_of_length_eq_zero h0
    refine wpList_copy_nothing hgd d s _ _ ho 5 Tryd.underlying29 size_u8 _ _ _ _ _ _ hd hs (by simp) ?_
    exact h w (by simpa using hg) (Keep.refl _ _)
  · obtain ⟨ad, rfl, hb, hc⟩ := Row.at_ hv' (by omega)
    have e : (u8s m).length = m.length := u8s_length m
    refine wpList_copy_own hgd d s _ _ ho 5 Tryd.underlying29 size_u8 g 0 n c ad m.length cap hd hs (u8s l).toArray t hg (u8s m) (by rw [e]; exact (Nat.min_eq_left hm).symm) hc (by simp [u8s_length]; omega) (u8s_one m) ?_
    have hrow : ((u8s l).toArray.toList.take 0 ++ (u8s m ++ (u8s l).toArray.toList.drop (0 + (u8s m).length))) = u8s (m ++ l.drop m.length) := by
      simp [u8s]
    rw [hrow, e]
    exact h _ (hg.setRow _) (keep_setRow w g _ _ (fun h => h rfl))

theorem pad_zs {k n N : Nat} (hk : k = n % 64) (hN : N = if k + 9 > 64 then 128 else 64) : Sha.zs n = N - k - 9 := by
  unfold Sha.zs
  by_cases h : k + 9 > 64
  · rw [if_pos h] at hN; omega
  · rw [if_neg h] at hN; omega

/-- The blocks' bytes as they are laid: the rest, the mark, zeros, the length. -/
theorem laid_pad (r : List UInt8) (n N : Nat) (hk : r.length = n % 64) (hn : n < 1099511627776) (hN : N = if r.length + 9 > 64 then 128 else 64) :
    put4 (put4 ((r ++ (List.replicate N (0 : UInt8)).drop r.length).set r.length 128) (N - 8) (n * 8 / 4294967296)) (N - 4) (n * 8 % 4294967296) = r ++ Sha.pad n := by
  have hz := pad_zs hk hN
  have hNk : r.length + 9 ≤ N := by
    by_cases h : r.length + 9 > 64
    · rw [if_pos h] at hN; omega
    · rw [if_neg h] at hN; omega
  obtain ⟨m, hm⟩ : ∃ m, N = r.length + 1 + m + 8 := ⟨N - r.length - 9, by omega⟩
  have hzm : Sha.zs n = m := by omega
  have e1 : (List.replicate N (0 : UInt8)).drop r.length = 0 :: (List.replicate m 0 ++ [0, 0, 0, 0, 0, 0, 0, 0]) := by
    rw [List.drop_replicate, show N - r.length = (m + 8) + 1 by omega, List.replicate_succ, ← List.replicate_append_replicate]; rfl
  rw [e1, List.set_append_right (h := Nat.le_refl _), Nat.sub_self, List.set_cons_zero]
  have e2 : r ++ 128 :: (List.replicate m 0 ++ [0, 0, 0, 0, 0, 0, 0, 0]) = (r ++ 128 :: List.replicate m (0 : UInt8)) ++ 0 :: 0 :: 0 :: 0 :: [0, 0, 0, 0] := by simp
  have hl2 : (r ++ 128 :: List.replicate m (0 : UInt8)).length = N - 8 := by simp; omega
  rw [e2, ← hl2, put4_mid]
  have e3 : (r ++ 128 :: List.replicate m 0) ++ Sha.be4 (n * 8 / 4294967296) ++ [0, 0, 0, 0] = ((r ++ 128 :: List.replicate m (0 : UInt8)) ++ Sha.be4 (n * 8 / 4294967296)) ++ 0 :: 0 :: 0 :: 0 :: [] := rfl
  have hl3 : ((r ++ 128 :: List.replicate m (0 : UInt8)) ++ Sha.be4 (n * 8 / 4294967296)).length = N - 4 := by rw [List.length_append, hl2]; simp [Sha.be4]; omega
  rw [e3, ← hl3, put4_mid]
  unfold Sha.pad Sha.be8
  rw [hzm]
  simp

theorem put4_len (l : List UInt8) (o x : Nat) : (put4 l o x).length = l.length := by simp [put4]


set_option maxRecDepth 100000 in
set_option maxHeartbeats 1000000 in
theorem padded_long (v : Value) (r : List UInt8) (n : Nat) (w : World) (hv : Bs w w.heap.size v r) (hr : r.length < 64) (hk : r.length = n % 64) (hn : n < 1099511627776) (hbig : r.length + 9 > 64) :
    Calls Tryd.prog 48 #[v, .int .i64 n] w fun e w' => ∃ v', e = .returned v' ∧ Bs w' w'.heap.size v' (r ++ Sha.pad n) ∧ AtT (fun b => w.heap.size ≤ b) v' ∧ Below w.heap.size w w' := by
  obtain ⟨A, cap, rfl⟩ := hv.form
  have HP := Lib.hid (laid_pad r n 128 hk hn (by rw [if_pos hbig]))
  obtain ⟨k, hk'⟩ : ∃ k, k = r.length := ⟨_, rfl⟩
  have HK := Lib.hid hk'
  have hk64 : k < 64 := by omega
  have ht : (64 : Int) < (k : Int) + 1 + 8 := by omega
  have hb' : (64 : Nat) < k + 1 + 8 := by omega
  have h0 : (0 : Int) ≤ (k : Int) := by omega
  have hbk : (k : Int) < 128 := by omega
  rw [← hk'] at hv ⊢
  clear hk hr hk' hbig
  go_enter Tryd.func48, Tryd.ntmps48
  go_wp2_with (first
    | (refine wp_makeB (.tmp 15) (.tmp 15) rfl rfl _ _ 128 rfl rfl rfl rfl (by omega) ?_; intro w2 hb2 hbl2)
    | (refine wp_copyB (.tmp 17) (.tmp 18) rfl rfl w.heap.size 128 128 5 _ r _ rfl rfl hb2 (hv.carry hbl2 hbl2.size) (by have := HK.out; omega) (by have := HK.out; rw [List.length_replicate]; omega) ?_; intro w3 hb3 hk3
       have hs3 : w.heap.size < w3.heap.size := hb3.lt
       obtain ⟨L0, hL0⟩ : ∃ L0, L0 = r ++ (List.replicate 128 (0 : UInt8)).drop r.length := ⟨_, rfl⟩
       rw [← hL0] at hb3
       have HL0 := Lib.hid hL0
       have hlen : L0.length = 128 := by rw [hL0, List.length_append, List.length_drop, List.length_replicate]; have := HK.out; omega
       have HLEN := Lib.hid hlen
       obtain ⟨u, hu⟩ : ∃ u, (u8s L0)[k]? = some u := ⟨_, List.getElem?_eq_getElem (by rw [u8s_length, hlen]; omega)⟩
       have hc3 := hb3.cell hu
       have hf3 := hb3.frozen k
       have hbl3 : Below w.heap.size w w3 := hbl2.trans (hk3.below (n := w.heap.size) (fun q hq => by omega) hbl2.size)
       have hset := hb3.set k (u8 128)
       rw [← u8s_set] at hset
       have HSET := Lib.hid hset
       have HBL := Lib.hid (show Keep (fun q => q ≠ w.heap.size) w3 (w3.setCell ⟨w.heap.size, k, none⟩ (u8 128)) from Keep.setCell _ _ _ (fun h => h rfl))
       clear hL0 hlen hu hset hb3 hk3 hb2 hbl2))
  refine (putWord_any w.heap.size 120 8 8 (n * 8 / 4294967296) _ 5 (L0.set k 128) (w3.setCell ⟨w.heap.size, k, none⟩ (u8 128)) HSET.out (by rw [List.length_set, HLEN.out]; omega) (by omega) (by omega) (by omega)).mono ?_
  rintro e w4 ⟨⟨ve, rfl⟩, hb4, hk4⟩
  have hk34 := HBL.out.trans hk4
  clear hk4
  go_wp2_with fail
  refine (putWord_any w.heap.size 124 4 4 (n * 8 % 4294967296) _ 5 _ w4 hb4 (by rw [put4_len, List.length_set, HLEN.out]; omega) (by omega) (by omega) (by omega)).mono ?_
  rintro e w5 ⟨⟨ve2, rfl⟩, hb5, hk5⟩
  have hk35 := hk34.trans hk5
  have hbl5 : Below w.heap.size w w5 := hbl3.trans (hk35.below (n := w.heap.size) (fun q hq => by omega) hbl3.size)
  have hfin : Blk w5 w.heap.size 5 (u8s (r ++ Sha.pad n)) := by
    have h := hb5
    rw [HL0.out, HK.out] at h
    rw [← HP.out]
    exact h
  have hlen : (r ++ Sha.pad n).length = 128 := by
    rw [← HP.out, put4_len, put4_len, ← HK.out, List.length_set, HK.out, ← HL0.out, HLEN.out]
  have hbs := hfin.bs0 hfin.lt (by rw [hlen]; simp only [maxLen]; omega)
  have HBS := Lib.hid hbs
  have HLN := Lib.hid hlen
  clear hb4 hb5 hk34 hk5 hk35 hfin hlen hbs hc3 hf3
  go_wp2_with fail
  go_ret
  have h := HBS.out
  rw [HLN.out] at h
  exact ⟨_, rfl, h, (fun a n c e _ => by injection e with e1 _ _; injection e1 with e1; rw [← e1]; exact Nat.le_refl _), hbl5⟩

set_option maxRecDepth 100000 in
set_option maxHeartbeats 1000000 in
theorem padded_short (v : Value) (r : List UInt8) (n : Nat) (w : World) (hv : Bs w w.heap.size v r) (hr : r.length < 64) (hk : r.length = n % 64) (hn : n < 1099511627776) (hbig : ¬ r.length + 9 > 64) :
    Calls Tryd.prog 48 #[v, .int .i64 n] w fun e w' => ∃ v', e = .returned v' ∧ Bs w' w'.heap.size v' (r ++ Sha.pad n) ∧ AtT (fun b => w.heap.size ≤ b) v' ∧ Below w.heap.size w w' := by
  obtain ⟨A, cap, rfl⟩ := hv.form
  have HP := Lib.hid (laid_pad r n 64 hk hn (by rw [if_neg hbig]))
  obtain ⟨k, hk'⟩ : ∃ k, k = r.length := ⟨_, rfl⟩
  have HK := Lib.hid hk'
  have hk64 : k < 64 := by omega
  have ht : ¬ (64 : Int) < (k : Int) + 1 + 8 := by omega
  have hb' : ¬ (64 : Nat) < k + 1 + 8 := by omega
  have h0 : (0 : Int) ≤ (k : Int) := by omega
  have hbk : (k : Int) < 64 := by omega
  rw [← hk'] at hv ⊢
  clear hk hr hk' hbig
  go_enter Tryd.func48, Tryd.ntmps48
  go_wp2_with (first
    | (refine wp_makeB (.tmp 15) (.tmp 15) rfl rfl _ _ 64 rfl rfl rfl rfl (by omega) ?_; intro w2 hb2 hbl2)
    | (refine wp_copyB (.tmp 17) (.tmp 18) rfl rfl w.heap.size 64 64 5 _ r _ rfl rfl hb2 (hv.carry hbl2 hbl2.size) (by have := HK.out; omega) (by have := HK.out; rw [List.length_replicate]; omega) ?_; intro w3 hb3 hk3
       have hs3 : w.heap.size < w3.heap.size := hb3.lt
       obtain ⟨L0, hL0⟩ : ∃ L0, L0 = r ++ (List.replicate 64 (0 : UInt8)).drop r.length := ⟨_, rfl⟩
       rw [← hL0] at hb3
       have HL0 := Lib.hid hL0
       have hlen : L0.length = 64 := by rw [hL0, List.length_append, List.length_drop, List.length_replicate]; have := HK.out; omega
       have HLEN := Lib.hid hlen
       obtain ⟨u, hu⟩ : ∃ u, (u8s L0)[k]? = some u := ⟨_, List.getElem?_eq_getElem (by rw [u8s_length, hlen]; omega)⟩
       have hc3 := hb3.cell hu
       have hf3 := hb3.frozen k
       have hbl3 : Below w.heap.size w w3 := hbl2.trans (hk3.below (n := w.heap.size) (fun q hq => by omega) hbl2.size)
       have hset := hb3.set k (u8 128)
       rw [← u8s_set] at hset
       have HSET := Lib.hid hset
       have HBL := Lib.hid (show Keep (fun q => q ≠ w.heap.size) w3 (w3.setCell ⟨w.heap.size, k, none⟩ (u8 128)) from Keep.setCell _ _ _ (fun h => h rfl))
       clear hL0 hlen hu hset hb3 hk3 hb2 hbl2))
  refine (putWord_any w.heap.size 56 8 8 (n * 8 / 4294967296) _ 5 (L0.set k 128) (w3.setCell ⟨w.heap.size, k, none⟩ (u8 128)) HSET.out (by rw [List.length_set, HLEN.out]; omega) (by omega) (by omega) (by omega)).mono ?_
  rintro e w4 ⟨⟨ve, rfl⟩, hb4, hk4⟩
  have hk34 := HBL.out.trans hk4
  clear hk4
  go_wp2_with fail
  refine (putWord_any w.heap.size 60 4 4 (n * 8 % 4294967296) _ 5 _ w4 hb4 (by rw [put4_len, List.length_set, HLEN.out]; omega) (by omega) (by omega) (by omega)).mono ?_
  rintro e w5 ⟨⟨ve2, rfl⟩, hb5, hk5⟩
  have hk35 := hk34.trans hk5
  have hbl5 : Below w.heap.size w w5 := hbl3.trans (hk35.below (n := w.heap.size) (fun q hq => by omega) hbl3.size)
  have hfin : Blk w5 w.heap.size 5 (u8s (r ++ Sha.pad n)) := by
    have h := hb5
    rw [HL0.out, HK.out] at h
    rw [← HP.out]
    exact h
  have hlen : (r ++ Sha.pad n).length = 64 := by
    rw [← HP.out, put4_len, put4_len, ← HK.out, List.length_set, HK.out, ← HL0.out, HLEN.out]
  have hbs := hfin.bs0 hfin.lt (by rw [hlen]; simp only [maxLen]; omega)
  have HBS := Lib.hid hbs
  have HLN := Lib.hid hlen
  clear hb4 hb5 hk34 hk5 hk35 hfin hlen hbs hc3 hf3
  go_wp2_with fail
  go_ret
  have h := HBS.out
  rw [HLN.out] at h
  exact ⟨_, rfl, h, (fun a n c e _ => by injection e with e1 _ _; injection e1 with e1; rw [← e1]; exact Nat.le_refl _), hbl5⟩

theorem padded_any (v : Value) (r : List UInt8) (n : Nat) (w : World) (hv : Bs w w.heap.size v r) (hr : r.length < 64) (hk : r.length = n % 64) (hn : n < 1099511627776) :
    Calls Tryd.prog 48 #[v, .int .i64 n] w fun e w' => ∃ v', e = .returned v' ∧ Bs w' w'.heap.size v' (r ++ Sha.pad n) ∧ AtT (fun b => w.heap.size ≤ b) v' ∧ Below w.heap.size w w' := by
  by_cases hbig : r.length + 9 > 64
  · exact padded_long v r n w hv hr hk hn hbig
  · exact padded_short v r n w hv hr hk hn hbig
end Go.Proofs.YtnfhdjmehhapiaaDoor
