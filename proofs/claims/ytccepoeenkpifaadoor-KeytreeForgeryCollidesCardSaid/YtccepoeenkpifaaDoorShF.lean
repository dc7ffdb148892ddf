/-
  Walks of package sha256: the first state, the digest, the last blocks.
  A range over a function whose iterator lays memory of its own between its rounds, and whose rounds may write to what was there before (all but the blocks in T). As in the text on such ranges with a bound T; T stands in its place.
  Walks of package sha256: the iterator over the blocks; each block.
  Walks of package sha256: each block.
-/
import Derived.Test.YtccepoeenkpifaaDoorShA
import Derived.Laws.CopyOwn
import Derived.Laws.MakeOwn
import Derived.RangeFuncNested
import Derived.RangeFuncBound
import Derived.RangeFuncCalls
import Derived.RangeFuncLeaves
import Derived.WalkKit
import Derived.OwnWalkIn
import Derived.TacticsInMore
import Derived.LoopNIn
import Derived.LoopIn
import Derived.Maps.OwnIn
import Derived.Test.YtccepoeenkpifaaDoorKep
import Derived.RegionIn
import Derived.BigRegionIn
import Derived.Scope
import Derived.Shelf.Abstract
namespace Go.Proofs.YtccepoeenkpifaaDoor
section
open Go.RowKit
set_option linter.unusedVariables false
set_option linter.unusedSimpArgs false

theorem newState_any (w : World) : Calls Tryd.prog 65 #[] w fun e w' => e = .returned (.agg (w32s Sha.init.list).toArray) ∧ Below w.heap.size w w' := by
  go_enter Tryd.func65, Tryd.ntmps65
  go_wp2_with (refine wp_storeA 82 (.tmp 0) (.tmp 1) rfl rfl w.heap.size rfl 82 (w32s [0, 0, 0, 0, 0, 0, 0, 0]) (w32s Sha.init.list) rfl (Blk.new w _ _) (by rw [info_st]; rfl) rfl (w32s_one _) rfl ?_; intro w2 hb2 hk2)
  have ha : Keep (fun q => q < w.heap.size) w (w.alloc (.cells (w32s [0, 0, 0, 0, 0, 0, 0, 0]).toArray 82)) := Keep.of_below ((Below.refl _ _).alloc (Nat.le_refl _) _)
  have hbl : Below w.heap.size w w2 := (ha.trans (hk2.mono (fun q hq => by omega))).below (fun q hq => hq) (Nat.le_refl _)
  refine ret_arr Tryd.results65 rfl w.heap.size 82 (w32s Sha.init.list) 8 80 rfl hb2 Tryd.underlying82 (by rw [info_st]; rfl) ?_
  exact ⟨rfl, hbl⟩

def z32 : List UInt8 := List.replicate 32 0
theorem zero_dig (w : World) : (zeroValue 25).run Tryd.prog w = .ok (.agg (u8s z32).toArray) w := by kernel_rfl
theorem info_dig : (Tryd.prog.info? 25).map (·.size) = some 32 := by kernel_rfl

/-- The digest's bytes of the first k words; zeros behind. -/
def dg (s : Sha.St) (k : Nat) : List UInt8 := (s.list.take k).flatMap Sha.be4 ++ List.replicate (32 - 4 * k) 0
theorem flat_len : ∀ l : List Nat, (l.flatMap Sha.be4).length = 4 * l.length
  | [] => rfl
  | x :: l => by rw [List.flatMap_cons, List.length_append, flat_len l]; simp [Sha.be4]; omega
theorem dg_len (s : Sha.St) {k : Nat} (h : k ≤ 8) : (dg s k).length = 32 := by
  unfold dg
  rw [List.length_append, flat_len, List.length_take, s.list_len, List.length_replicate]; omega
theorem dg_put (s : Sha.St) {k x : Nat} (hk : k < 8) (hx : s.list[k]? = some x) : put4 (dg s k) (4 * k) x = dg s (k + 1) := by
  have hr : List.replicate (32 - 4 * k) (0 : UInt8) = 0 :: 0 :: 0 :: 0 :: List.replicate (32 - 4 * (k + 1)) 0 := by
    obtain ⟨m, hm⟩ : ∃ m, 32 - 4 * k = m + 4 := ⟨32 - 4 * k - 4, by omega⟩
    rw [hm, show 32 - 4 * (k + 1) = m by omega]
    rfl
  have hl : ((s.list.take k).flatMap Sha.be4).length = 4 * k := by rw [flat_len, List.length_take, s.list_len]; omega
  unfold dg
  rw [hr]
  have h := put4_mid ((s.list.take k).flatMap Sha.be4) (List.replicate (32 - 4 * (k + 1)) 0) 0 0 0 0 x
  rw [hl] at h
  rw [h, List.take_add_one, hx, List.flatMap_append]
  simp
theorem dg_all (s : Sha.St) : dg s 8 = Sha.dgs s := by
  unfold dg Sha.dgs
  obtain ⟨a, b, c, d, e, f, g, h⟩ := s
  simp [Sha.St.list]

set_option maxRecDepth 100000 in
set_option maxHeartbeats 1000000 in
theorem digest_any (sb : Nat) (s : Sha.St) (w : World) (hs : s.ok) (hb : Blk w sb 82 (w32s s.list)) :
    Calls Tryd.prog 69 #[.pointer (some ⟨sb, 0, none⟩)] w fun e w' => e = .returned (.agg (u8s (Sha.dgs s)).toArray) ∧ Below w.heap.size w w' := by
  have hz := zero_dig
  have hsb := hb.lt
  have hws : Sha.Ws s.list := by
    obtain ⟨h1, h2, h3, h4, h5, h6, h7, h8⟩ := hs
    intro x hx
    simp only [Sha.St.list, List.mem_cons, List.not_mem_nil, or_false] at hx
    rcases hx with rfl | rfl | rfl | rfl | rfl | rfl | rfl | rfl <;> assumption
  go_enter Tryd.func69, Tryd.ntmps69
  go_wp2
  obtain ⟨W, hW⟩ : ∃ W, W = (w.alloc (.cells (u8s z32).toArray 25)).alloc (.cells (u8s z32).toArray 25) := ⟨_, rfl⟩
  rw [← hW]
  have hb0 : Below w.heap.size w W := by rw [hW]; exact ((Below.refl _ _).alloc (Nat.le_refl _) _).alloc (by simp) _
  have hr0 : Blk W w.heap.size 25 (u8s z32) := by rw [hW]; exact (Blk.new w _ _).past ((Below.refl _ _).alloc (Nat.le_refl _) _) (by simp)
  have hd0 : Blk W (w.heap.size + 1) 25 (u8s (dg s 0)) := by
    have h := Blk.new (w.alloc (.cells (u8s z32).toArray 25)) 25 (u8s z32)
    rw [World.size_alloc] at h
    rw [hW]; exact h
  clear hW hz
  go_loopw [7] (fun i wr => ∃ k : Nat, i = .int .i64 k ∧ k ≤ 8 ∧ Blk wr (w.heap.size + 1) 25 (u8s (dg s k)) ∧ Blk wr w.heap.size 25 (u8s z32) ∧ Below w.heap.size w wr) (fun i _ => (8 - intOf i).toNat)
  case atStart => exact ⟨0, rfl, by omega, hd0, hr0, hb0⟩
  case round =>
    obtain ⟨k, rfl, hk, hd, hr, hbl⟩ := hrel
    by_cases hlt : k < 8
    · obtain ⟨x, hx⟩ : ∃ x, s.list[k]? = some x := ⟨_, List.getElem?_eq_getElem (by rw [s.list_len]; exact hlt)⟩
      have hxl : x < 4294967296 := hws x (List.mem_of_getElem? hx)
      have cx : wr.cell? ⟨sb, k, none⟩ = some (.int .u32 x) := (hb.past hbl hsb).cell (by unfold w32s; rw [List.getElem?_map, hx]; rfl)
      have HX := Lib.hid hx
      clear hx
      go_wp2
      go_quiet (fail)
      obtain ⟨w2, hw2⟩ : ∃ w2, w2 = wr.drewN nq := ⟨_, rfl⟩
      have hb2 : Below wr.heap.size wr w2 := by rw [hw2]; exact below_drewN (Below.refl _ _) nq
      rw [← hw2]
      have hd2 := hd.past hb2 hd.lt
      have hr2 := hr.past hb2 hr.lt
      have hbl2 := hbl.trans (hb2.mono hbl.size)
      have hs1 : w.heap.size + 1 < w2.heap.size := hd2.lt
      clear hw2 cx hd hr hbl hb2
      go_wp2_with (refine wp_sliceA 25 5 32 (.tmp 3) (.tmp 14) rfl rfl Tryd.underlying25 size_u8 (w.heap.size + 1) (4 * k) .i64 _ rfl rfl (by push_cast; rfl) (by omega) ?_)
      refine (putWord_any (w.heap.size + 1) (4 * k) (32 - 4 * k) (32 - 4 * k) x x 25 (dg s k) w2 hd2 (by rw [dg_len s hk]; omega) (by omega) hxl rfl).mono ?_
      rintro e w3 ⟨⟨ve, rfl⟩, hd3, hk3⟩
      rw [dg_put s hlt HX.out] at hd3
      have hr3 := hr2.keep hk3 (by omega)
      have hbl3 := hbl2.trans (hk3.below (n := w.heap.size) (fun q hq => by omega) hbl2.size)
      clear hd2 hr2 hbl2 hk3
      go_wp2
      go_roundw
      case rel => exact ⟨k + 1, by go_num, by omega, hd3, hr3, hbl3⟩
      case measure => simp [intOf]; omega
    · have hdf : Blk wr (w.heap.size + 1) 25 (u8s (Sha.dgs s)) := by
        have h := hd
        rw [show k = 8 by omega, dg_all] at h
        exact h
      obtain ⟨D, hD⟩ : ∃ D, D = Sha.dgs s := ⟨_, rfl⟩
      have HDL := Lib.hid (show (u8s D).length = 32 by rw [hD]; rfl)
      rw [← hD] at hdf
      have HD := Lib.hid hD
      have hs1 : w.heap.size + 1 < wr.heap.size := hd.lt
      clear hd hD
      go_upto_region 7 with (fail)
      refine wp_region_lit ?_
      refine wp_loadA 25 (.tmp 3) rfl rfl (w.heap.size + 1) rfl 25 _ 32 5 hdf Tryd.underlying25 (by rw [info_dig, HDL.out]) ?_
      refine wp_storeA 25 (.tmp 2) (.tmp 19) rfl rfl w.heap.size rfl 25 (u8s z32) _ rfl hr (by rw [info_dig, HDL.out]) (by rw [HDL.out]; rfl) (u8s_one _) rfl ?_
      intro w2 hr2 hk2
      have hbl2 := hbl.trans (hk2.below (n := w.heap.size) (fun q hq => by omega) hbl.size)
      clear hdf hr hbl hk2
      go_wp2
      refine ret_arr Tryd.results69 rfl w.heap.size 25 _ 32 5 rfl hr2 Tryd.underlying25 (by rw [info_dig, HDL.out]) ?_
      rw [HD.out]
      exact ⟨rfl, hbl2⟩

/-- 'make([]byte, n)' -/
theorem wp_makeB {ops : Array Oper} {rest : List Oper} {o : Oper} {a : Act} {Q : Exit → Act → World → Prop} {w : World} (c d : Operand)
    (ho : o.op = Op.makeSlice 22 c d) (hgd : o.guard = none) (I J : Int) (n : Nat) (hc : a.eval c = .int .i64 I) (hd : a.eval d = .int .i64 J) (hI : I = (n : Int)) (hJ : J = (n : Int)) (hn : n ≤ 281474976710656)
    (h : ∀ w', Blk w' w.heap.size 5 (u8s (List.replicate n 0)) → Below w.heap.size w w' → wpList Tryd.prog ops Q rest (a.put o.dst (.slice (some ⟨w.heap.size, 0, none⟩) n n)) w') :
    wpList Tryd.prog ops Q (o :: rest) a w := by
  subst hI hJ
  obtain ⟨i0, hi, hz0, hz1, hz2⟩ := info_parts info_u8
  refine wpList_plain hgd fun K hK => ?_
  have hr := run_make (P := Tryd.prog) w 22 5 i0 (.int .u8 0) Tryd.underlying22 hi hz0 .i64 .i64 n n (by omega) (Int.le_refl _) (by rw [hz2]; omega) (by omega)
  unfold Oper.wp execOp
  simp only [ho, hc, hd, Sem.run_bind, Sem.run_pure, Result.andThen_ok, hr, Int.toNat_natCast, hz1, Nat.mul_one]
  have hcell : madeCells (Value.int IntKind.u8 0).cells n = (u8s (List.replicate n 0)).toArray := by
    apply Array.ext
    · simp [madeCells, u8s]
    · intro i h1 h2
      simp [madeCells, u8s, Value.cells, u8, Nat.mod_one]
  rw [hcell]
  exact hK _ _ (h _ (Blk.new w _ _) ((Below.refl _ _).alloc (Nat.le_refl _) _))

/-- 'copy(dst, src)' into a block of the call's own, from its head. -/
theorem wp_copyB {ops : Array Oper} {rest : List Oper} {o : Oper} {a : Act} {Q : Exit → Act → World → Prop} {w : World} (d s : Operand)
    (ho : o.op = .call { callee := .builtin .copy, args := #[d, s], argTypes := #[22, 22] }) (hgd : o.guard = none) (g n c : Nat) (t : TypeId) (l m : List UInt8) (v : Value) {B : Nat}
    (hd : a.eval d = .slice (some ⟨g, 0, none⟩) n c) (hs : a.eval s = v) (hg : Blk w g t (u8s l)) (hv : Bs w B v m) (hm : m.length ≤ n) (hml : m.length ≤ l.length)
    (h : ∀ w', Blk w' g t (u8s (m ++ l.drop m.length)) → Keep (fun q => q ≠ g) w w' → wpList Tryd.prog ops Q rest (a.put o.dst (goInt m.length)) w') :
    wpList Tryd.prog ops Q (o :: rest) a w := by
  have hv' := hv
  obtain ⟨A, cap, rfl, h1, h2, h3, h4, h5⟩ := hv
  by_cases h0 : m.length = 0
  · obtain rfl : m = [] := List.eq_nil_of_length_eq_zero h0
    refine wpList_copy_nothing hgd d s _ _ ho 5 Tryd.underlying22 size_u8 _ _ _ _ _ _ hd hs (by simp) ?_
    exact h w (by simpa using hg) (Keep.refl _ _)
  · obtain ⟨ad, rfl, hb, hc⟩ := Row.at_ hv' (by omega)
    have e : (u8s m).length = m.length := u8s_length m
    refine wpList_copy_own hgd d s _ _ ho 5 Tryd.underlying22 size_u8 g 0 n c ad m.length cap hd hs (u8s l).toArray t hg (u8s m) (by rw [e]; exact (Nat.min_eq_left hm).symm) hc (by simp [u8s_length]; omega) (u8s_one m) ?_
    have hrow : ((u8s l).toArray.toList.take 0 ++ (u8s m ++ (u8s l).toArray.toList.drop (0 + (u8s m).length))) = u8s (m ++ l.drop m.length) := by
      simp [u8s]
    rw [hrow, e]
    exact h _ (hg.setRow _) (keep_setRow w g _ _ (fun h => h rfl))

theorem pad_zs {k n N : Nat} (hk : k = n % 64) (hN : N = if k + 9 > 64 then 128 else 64) : Sha.zs n = N - k - 9 := by
  unfold Sha.zs
  by_cases h : k + 9 > 64
  · rw [if_pos h] at hN; omega
  · rw [if_neg h] at hN; omega

/-- The blocks' bytes as they are laid: the rest, the mark, zeros, the length. -/
theorem laid_pad (r : List UInt8) (n N : Nat) (hk : r.length = n % 64) (hn : n < 1099511627776) (hN : N = if r.length + 9 > 64 then 128 else 64) :
    put4 (put4 ((r ++ (List.replicate N (0 : UInt8)).drop r.length).set r.length 128) (N - 8) (n * 8 / 4294967296)) (N - 4) (n * 8 % 4294967296) = r ++ Sha.pad n := by
  have hz := pad_zs hk hN
  have hNk : r.length + 9 ≤ N := by
    by_cases h : r.length + 9 > 64
    · rw [if_pos h] at hN; omega
    · rw [if_neg h] at hN; omega
  obtain ⟨m, hm⟩ : ∃ m, N = r.length + 1 + m + 8 := ⟨N - r.length - 9, by omega⟩
  have hzm : Sha.zs n = m := by omega
  have e1 : (List.replicate N (0 : UInt8)).drop r.length = 0 :: (List.replicate m 0 ++ [0, 0, 0, 0, 0, 0, 0, 0]) := by
    rw [List.drop_replicate, show N - r.length = (m + 8) + 1 by omega, List.replicate_succ, ← List.replicate_append_replicate]; rfl
  rw [e1, List.set_append_right (h := Nat.le_refl _), Nat.sub_self, List.set_cons_zero]
  have e2 : r ++ 128 :: (List.replicate m 0 ++ [0, 0, 0, 0, 0, 0, 0, 0]) = (r ++ 128 :: List.replicate m (0 : UInt8)) ++ 0 :: 0 :: 0 :: 0 :: [0, 0, 0, 0] := by simp
  have hl2 : (r ++ 128 :: List.replicate m (0 : UInt8)).length = N - 8 := by simp; omega
  rw [e2, ← hl2, put4_mid]
  have e3 : (r ++ 128 :: List.replicate m 0) ++ Sha.be4 (n * 8 / 4294967296) ++ [0, 0, 0, 0] = ((r ++ 128 :: List.replicate m (0 : UInt8)) ++ Sha.be4 (n * 8 / 4294967296)) ++ 0 :: 0 :: 0 :: 0 :: [] := rfl
  have hl3 : ((r ++ 128 :: List.replicate m (0 : UInt8)) ++ Sha.be4 (n * 8 / 4294967296)).length = N - 4 := by rw [List.length_append, hl2]; simp [Sha.be4]; omega
  rw [e3, ← hl3, put4_mid]
  unfold Sha.pad Sha.be8
  rw [hzm]
  simp

theorem put4_len (l : List UInt8) (o x : Nat) : (put4 l o x).length = l.length := by simp [put4]


set_option maxRecDepth 100000 in
set_option maxHeartbeats 1000000 in
theorem padded_long (v : Value) (r : List UInt8) (n : Nat) (w : World) (hv : Bs w w.heap.size v r) (hr : r.length < 64) (hk : r.length = n % 64) (hn : n < 1099511627776) (hbig : r.length + 9 > 64) :
    Calls Tryd.prog 68 #[v, .int .i64 n] w fun e w' => ∃ v', e = .returned v' ∧ Bs w' w'.heap.size v' (r ++ Sha.pad n) ∧ AtT (fun b => w.heap.size ≤ b) v' ∧ Below w.heap.size w w' := by
  obtain ⟨A, cap, rfl⟩ := hv.form
  have HP := Lib.hid (laid_pad r n 128 hk hn (by rw [if_pos hbig]))
  obtain ⟨k, hk'⟩ : ∃ k, k = r.length := ⟨_, rfl⟩
  have HK := Lib.hid hk'
  have hk64 : k < 64 := by omega
  have ht : (64 : Int) < (k : Int) + 1 + 8 := by omega
  have hb' : (64 : Nat) < k + 1 + 8 := by omega
  have h0 : (0 : Int) ≤ (k : Int) := by omega
  have hbk : (k : Int) < 128 := by omega
  rw [← hk'] at hv ⊢
  clear hk hr hk' hbig
  go_enter Tryd.func68, Tryd.ntmps68
  go_wp2_with (first
    | (refine wp_makeB (.tmp 15) (.tmp 15) rfl rfl _ _ 128 rfl rfl rfl rfl (by omega) ?_; intro w2 hb2 hbl2)
    | (refine wp_copyB (.tmp 17) (.tmp 18) rfl rfl w.heap.size 128 128 5 _ r _ rfl rfl hb2 (hv.carry hbl2 hbl2.size) (by have := HK.out; omega) (by have := HK.out; rw [List.length_replicate]; omega) ?_; intro w3 hb3 hk3
       have hs3 : w.heap.size < w3.heap.size := hb3.lt
       obtain ⟨L0, hL0⟩ : ∃ L0, L0 = r ++ (List.replicate 128 (0 : UInt8)).drop r.length := ⟨_, rfl⟩
       rw [← hL0] at hb3
       have HL0 := Lib.hid hL0
       have hlen : L0.length = 128 := by rw [hL0, List.length_append, List.length_drop, List.length_replicate]; have := HK.out; omega
       have HLEN := Lib.hid hlen
       obtain ⟨u, hu⟩ : ∃ u, (u8s L0)[k]? = some u := ⟨_, List.getElem?_eq_getElem (by rw [u8s_length, hlen]; omega)⟩
       have hc3 := hb3.cell hu
       have hf3 := hb3.frozen k
       have hbl3 : Below w.heap.size w w3 := hbl2.trans (hk3.below (n := w.heap.size) (fun q hq => by omega) hbl2.size)
       have hset := hb3.set k (u8 128)
       rw [← u8s_set] at hset
       have HSET := Lib.hid hset
       have HBL := Lib.hid (show Keep (fun q => q ≠ w.heap.size) w3 (w3.setCell ⟨w.heap.size, k, none⟩ (u8 128)) from Keep.setCell _ _ _ (fun h => h rfl))
       clear hL0 hlen hu hset hb3 hk3 hb2 hbl2))
  refine (putWord_any w.heap.size 120 8 8 (n * 8 / 4294967296) _ 5 (L0.set k 128) (w3.setCell ⟨w.heap.size, k, none⟩ (u8 128)) HSET.out (by rw [List.length_set, HLEN.out]; omega) (by omega) (by omega) (by omega)).mono ?_
  rintro e w4 ⟨⟨ve, rfl⟩, hb4, hk4⟩
  have hk34 := HBL.out.trans hk4
  clear hk4
  go_wp2_with fail
  refine (putWord_any w.heap.size 124 4 4 (n * 8 % 4294967296) _ 5 _ w4 hb4 (by rw [put4_len, List.length_set, HLEN.out]; omega) (by omega) (by omega) (by omega)).mono ?_
  rintro e w5 ⟨⟨ve2, rfl⟩, hb5, hk5⟩
  have hk35 := hk34.trans hk5
  have hbl5 : Below w.heap.size w w5 := hbl3.trans (hk35.below (n := w.heap.size) (fun q hq => by omega) hbl3.size)
  have hfin : Blk w5 w.heap.size 5 (u8s (r ++ Sha.pad n)) := by
    have h := hb5
    rw [HL0.out, HK.out] at h
    rw [← HP.out]
    exact h
  have hlen : (r ++ Sha.pad n).length = 128 := by
    rw [← HP.out, put4_len, put4_len, ← HK.out, List.length_set, HK.out, ← HL0.out, HLEN.out]
  have hbs := hfin.bs0 hfin.lt (by rw [hlen]; simp only [maxLen]; omega)
  have HBS := Lib.hid hbs
  have HLN := Lib.hid hlen
  clear hb4 hb5 hk34 hk5 hk35 hfin hlen hbs hc3 hf3
  go_wp2_with fail
  go_ret
  have h := HBS.out
  rw [HLN.out] at h
  exact ⟨_, rfl, h, (fun a n c e _ => by injection e with e1 _ _; injection e1 with e1; rw [← e1]; exact Nat.le_refl _), hbl5⟩

set_option maxRecDepth 100000 in
set_option maxHeartbeats 1000000 in
theorem padded_short (v : Value) (r : List UInt8) (n : Nat) (w : World) (hv : Bs w w.heap.size v r) (hr : r.length < 64) (hk : r.length = n % 64) (hn : n < 1099511627776) (hbig : ¬ r.length + 9 > 64) :
    Calls Tryd.prog 68 #[v, .int .i64 n] w fun e w' => ∃ v', e = .returned v' ∧ Bs w' w'.heap.size v' (r ++ Sha.pad n) ∧ AtT (fun b => w.heap.size ≤ b) v' ∧ Below w.heap.size w w' := by
  obtain ⟨A, cap, rfl⟩ := hv.form
  have HP := Lib.hid (laid_pad r n 64 hk hn (by rw [if_neg hbig]))
  obtain ⟨k, hk'⟩ : ∃ k, k = r.length := ⟨_, rfl⟩
  have HK := Lib.hid hk'
  have hk64 : k < 64 := by omega
  have ht : ¬ (64 : Int) < (k : Int) + 1 + 8 := by omega
  have hb' : ¬ (64 : Nat) < k + 1 + 8 := by omega
  have h0 : (0 : Int) ≤ (k : Int) := by omega
  have hbk : (k : Int) < 64 := by omega
  rw [← hk'] at hv ⊢
  clear hk hr hk' hbig
  go_enter Tryd.func68, Tryd.ntmps68
  go_wp2_with (first
    | (refine wp_makeB (.tmp 15) (.tmp 15) rfl rfl _ _ 64 rfl rfl rfl rfl (by omega) ?_; intro w2 hb2 hbl2)
    | (refine wp_copyB (.tmp 17) (.tmp 18) rfl rfl w.heap.size 64 64 5 _ r _ rfl rfl hb2 (hv.carry hbl2 hbl2.size) (by have := HK.out; omega) (by have := HK.out; rw [List.length_replicate]; omega) ?_; intro w3 hb3 hk3
       have hs3 : w.heap.size < w3.heap.size := hb3.lt
       obtain ⟨L0, hL0⟩ : ∃ L0, L0 = r ++ (List.replicate 64 (0 : UInt8)).drop r.length := ⟨_, rfl⟩
       rw [← hL0] at hb3
       have HL0 := Lib.hid hL0
       have hlen : L0.length = 64 := by rw [hL0, List.length_append, List.length_drop, List.length_replicate]; have := HK.out; omega
       have HLEN := Lib.hid hlen
       obtain ⟨u, hu⟩ : ∃ u, (u8s L0)[k]? = some u := ⟨_, List.getElem?_eq_getElem (by rw [u8s_length, hlen]; omega)⟩
       have hc3 := hb3.cell hu
       have hf3 := hb3.frozen k
       have hbl3 : Below w.heap.size w w3 := hbl2.trans (hk3.below (n := w.heap.size) (fun q hq => by omega) hbl2.size)
       have hset := hb3.set k (u8 128)
       rw [← u8s_set] at hset
       have HSET := Lib.hid hset
       have HBL := Lib.hid (show Keep (fun q => q ≠ w.heap.size) w3 (w3.setCell ⟨w.heap.size, k, none⟩ (u8 128)) from Keep.setCell _ _ _ (fun h => h rfl))
       clear hL0 hlen hu hset hb3 hk3 hb2 hbl2))
  refine (putWord_any w.heap.size 56 8 8 (n * 8 / 4294967296) _ 5 (L0.set k 128) (w3.setCell ⟨w.heap.size, k, none⟩ (u8 128)) HSET.out (by rw [List.length_set, HLEN.out]; omega) (by omega) (by omega) (by omega)).mono ?_
  rintro e w4 ⟨⟨ve, rfl⟩, hb4, hk4⟩
  have hk34 := HBL.out.trans hk4
  clear hk4
  go_wp2_with fail
  refine (putWord_any w.heap.size 60 4 4 (n * 8 % 4294967296) _ 5 _ w4 hb4 (by rw [put4_len, List.length_set, HLEN.out]; omega) (by omega) (by omega) (by omega)).mono ?_
  rintro e w5 ⟨⟨ve2, rfl⟩, hb5, hk5⟩
  have hk35 := hk34.trans hk5
  have hbl5 : Below w.heap.size w w5 := hbl3.trans (hk35.below (n := w.heap.size) (fun q hq => by omega) hbl3.size)
  have hfin : Blk w5 w.heap.size 5 (u8s (r ++ Sha.pad n)) := by
    have h := hb5
    rw [HL0.out, HK.out] at h
    rw [← HP.out]
    exact h
  have hlen : (r ++ Sha.pad n).length = 64 := by
    rw [← HP.out, put4_len, put4_len, ← HK.out, List.length_set, HK.out, ← HL0.out, HLEN.out]
  have hbs := hfin.bs0 hfin.lt (by rw [hlen]; simp only [maxLen]; omega)
  have HBS := Lib.hid hbs
  have HLN := Lib.hid hlen
  clear hb4 hb5 hk34 hk5 hk35 hfin hlen hbs hc3 hf3
  go_wp2_with fail
  go_ret
  have h := HBS.out
  rw [HLN.out] at h
  exact ⟨_, rfl, h, (fun a n c e _ => by injection e with e1 _ _; injection e1 with e1; rw [← e1]; exact Nat.le_refl _), hbl5⟩

theorem padded_any (v : Value) (r : List UInt8) (n : Nat) (w : World) (hv : Bs w w.heap.size v r) (hr : r.length < 64) (hk : r.length = n % 64) (hn : n < 1099511627776) :
    Calls Tryd.prog 68 #[v, .int .i64 n] w fun e w' => ∃ v', e = .returned v' ∧ Bs w' w'.heap.size v' (r ++ Sha.pad n) ∧ AtT (fun b => w.heap.size ≤ b) v' ∧ Below w.heap.size w w' := by
  by_cases hbig : r.length + 9 > 64
  · exact padded_long v r n w hv hr hk hn hbig
  · exact padded_short v r n w hv hr hk hn hbig
end

section
open Go.RowKit
set_option linter.unusedVariables false
set_option linter.unusedSimpArgs false

/-- What a round leaves alone. -/
def TheirsK (T : Nat → Prop) (S B : Nat) (b : Nat) : Prop := T b ∨ (S ≤ b ∧ b < B)

section
variable {P : Program} {α : Type}

/-- THE ITERATOR's PROMISE, entered in world W: it hands on, in this order, values that read as the items; then it returns. -/
def GivesK (P : Program) (g : Nat) (lb : Array Value) (Item : Nat → World → Value → α → Prop) (items : List α) (T : Nat → Prop) (W : World) : Prop :=
  ∀ (l : Nat) (J : Nat → Nat → World → Prop),
    (∀ W1, Below W.heap.size W W1 → J W1.heap.size 0 W1) →
    (∀ B k W1 W2, W.heap.size ≤ B → J B k W1 → Keep (Mine W.heap.size B) W1 W2 → J B k W2) →
    (∀ B k x W1 v, W.heap.size ≤ B → B ≤ W1.heap.size → J B k W1 → items[k]? = some x → Item B W1 v x →
      YieldAt Fence.wide 0 P l #[v] W1 fun e W' => e = .returned (.bool true) ∧ J B (k + 1) W' ∧ Keep (TheirsK T W.heap.size B) W1 W') →
    CallsIn Fence.wide 0 P g (#[.func (.yield l) #[] #[]] ++ lb) W fun e W' => (∃ v, e = .returned v) ∧ ∃ B, W.heap.size ≤ B ∧ B ≤ W'.heap.size ∧ J B items.length W'

/-- THE STATEMENT's LAW. -/
theorem wp_rangeK {g : Operand} {p : Tmp} {assign body : Code} {Q : Exit → Act → World → Prop} {a : Act} {w : World} {gf : Nat} {lb : Array Value}
    (hg : a.eval g = .func (.func gf) #[] lb) (eg : ∀ args w, (callFunc gf args).run P w = .ok (.enter gf args) w)
    {Item : Nat → World → Value → α → Prop} {items : List α} {T : Nat → Prop} (hT : ∀ b, T b → b < w.heap.size)
    (hItem : ∀ B v x W1 W2, w.heap.size ≤ W1.heap.size → Item B W1 v x → Keep (fun b => T b ∨ B ≤ b) W1 W2 → Item B W2 v x)
    (hseq : ∀ W, Below w.heap.size w W → GivesK P gf lb Item items T W)
    (I : Nat → Nat → World → Prop)
    (h0 : ∀ W, Below w.heap.size w W → I W.heap.size 0 W)
    (hI : ∀ B k W1 W2, w.heap.size ≤ B → I B k W1 → Keep (Mine w.heap.size B) W1 W2 → I B k W2)
    (a₁ : Value → Act)
    (hassign : ∀ (l : Nat) (v : Value) (W : World) (K : Act → World → Prop), K (a₁ v) W →
      assign.wpIn (Fence.wide.inRound l) 0 P (Exit.then K (fun _ _ _ => False)) { tmps := a.tmps.setIfInBounds p v, defers := [] } W)
    (hbody : ∀ (l B k : Nat) (x : α) (v : Value) (W : World), w.heap.size + 2 ≤ B → B ≤ W.heap.size → I B k W → items[k]? = some x → Item B W v x →
      body.wpIn (Fence.wide.inRound l) 0 P (goesOn fun W' => I B (k + 1) W' ∧ Keep (TheirsK T w.heap.size B) W W') (a₁ v) W)
    (hdone : ∀ (D B : Nat) (W : World), w.heap.size ≤ D → D < B → B ≤ W.heap.size → I B items.length W → W.heap[D]? = some (.deferred (some [])) →
      Q .normal { a with defers := { target := .collected D, args := #[] } :: a.defers } W) :
    (Code.rangeFunc g #[p] assign body).wpIn Fence.wide 0 P Q a w := by
  refine wpIn_rangeFunc fun fn hfn => ?_
  show ∃ l mark w₁ d w₁' f args w₂, (Instr.enterLoop fn a.tmps #[p] assign body none).run P w = .ok (l, mark) w₁ ∧ _
  obtain ⟨rec, hrec⟩ : ∃ rec : LoopState → Loop, rec = fun st => { state := st, pending := none, fn, tmps := a.tmps, params := #[p], assign, body, defers := w.heap.size } := ⟨_, rfl⟩
  obtain ⟨W1, hW1⟩ : ∃ W1, (w.alloc (.deferred (some []))).alloc (.loop (rec .ready)) = W1 := ⟨_, rfl⟩
  have hL1 : W1.heap[w.heap.size + 1]? = some (.loop (rec .ready)) := by
    rw [← hW1]; have := World.alloc_heap_new (w.alloc (.deferred (some []))) (.loop (rec .ready)); rwa [World.size_alloc] at this
  have hD1 : W1.heap[w.heap.size]? = some (.deferred (some [])) := by
    rw [← hW1]; exact (Below.heap_alloc _ _ _ (by simp)).trans (World.alloc_heap_new w _)
  have hs1 : W1.heap.size = w.heap.size + 2 := by rw [← hW1]; simp
  have hb1 : Below w.heap.size w W1 := by
    rw [← hW1]; exact ((Below.refl _ w).alloc (Nat.le_refl _) _).alloc (by simp) _
  refine ⟨w.heap.size + 1, [{ target := .collected w.heap.size, args := #[] }], W1, { target := .fn (.func gf) lb, args := #[.func (.yield (w.heap.size + 1)) #[] #[]] }, W1, gf,
    #[.func (.yield (w.heap.size + 1)) #[] #[]] ++ lb, W1, ?_, ?_, fun _ _ => trivial, ?_, fun h => by simp [Fence.wide] at h, ?_⟩
  · rw [← hW1, hrec]; exact run_enterLoop_outer _ _ _ _ _
  · simp only [resolve, hg]
    simp [go_sem]
  · simp [invoke, go_sem, eg]
  refine (hseq W1 hb1 (w.heap.size + 1)
    (fun B k W => I B k W ∧ W.heap[w.heap.size + 1]? = some (.loop (rec .ready)) ∧ W.heap[w.heap.size]? = some (.deferred (some [])))
    (fun W2 hb => ⟨h0 W2 (hb1.trans (hb.mono hb1.size)), (hb.block _ (by omega)).trans hL1, (hb.block _ (by omega)).trans hD1⟩)
    (fun B k W2 W3 hB h hk => ⟨hI B k W2 W3 (by omega) h.1 (hk.mono fun b hb => Or.elim hb (fun h => Or.inl (by omega)) Or.inr), hk.heap (Or.inl (by omega)) h.2.1, hk.heap (Or.inl (by omega)) h.2.2⟩)
    ?_).mono ?_
  · -- one round
    intro B k x W v hB hBW h hx hv
    obtain ⟨hi, hl, hd⟩ := h
    have hlt : w.heap.size + 1 < W.heap.size := (Array.getElem?_eq_some_iff.1 hl).1
    have hy := run_yield (P := P) (args := #[v]) hl (by rw [hrec]; rfl)
    rw [hrec] at hy
    obtain ⟨W2, hW2⟩ : ∃ W2, W.putObj (w.heap.size + 1) (.loop (rec .busy)) = W2 := ⟨_, rfl⟩
    have hk2 : ∀ O : Nat → Prop, ¬ O (w.heap.size + 1) → Keep O W W2 := fun O hO => by rw [← hW2]; exact Keep.putObj _ _ _ hO
    have hs2 : W2.heap.size = W.heap.size := by rw [← hW2]; simp
    have hl2 : W2.heap[w.heap.size + 1]? = some (.loop (rec .busy)) := by rw [← hW2]; exact World.putObj_heap_same hlt
    have hbeg : (Instr.beginRound (w.heap.size + 1)).run P W = .ok () W2 := by
      have h := run_beginRound (P := P) hl (by rw [hrec])
      rw [hrec] at h hW2; rw [← hW2]; exact h
    refine ⟨fn, _, assign, body, hy, roundIn_of_wpIn trivial ?_⟩
    have hz : (#[p].zip #[v]).foldl (fun (t : Array Value) (q : Tmp × Value) => t.setIfInBounds q.1 q.2) a.tmps = a.tmps.setIfInBounds p v := by simp
    rw [hz]
    refine hassign _ v W _ ⟨W2, hbeg, ?_⟩
    have hI2 := hI B k W W2 (by omega) hi (hk2 _ (by unfold Mine; omega))
    have hTn : ¬ T (w.heap.size + 1) := fun h => by have := hT _ h; omega
    have hItem2 := hItem B v x W W2 (by omega) hv (hk2 _ (fun h => Or.elim h hTn (fun h => by omega)))
    refine wpIn_mono (hbody _ B k x v W2 (by omega) (by omega) hI2 hx hItem2) ?_
    rintro e a3 W3 ⟨rfl, hi3, hk3⟩
    have hl3 := hk3.heap (Or.inr ⟨by omega, by omega⟩) hl2
    have hd3 : W3.heap[w.heap.size]? = some (.deferred (some [])) := hk3.heap (Or.inr ⟨by omega, by omega⟩) ((hk2 (fun b => b = w.heap.size) (by omega)).heap rfl hd)
    have hend := run_endRound (P := P) none hl3
    obtain ⟨W4, hW4⟩ : ∃ W4, W3.putObj (w.heap.size + 1) (.loop (rec .ready)) = W4 := ⟨_, rfl⟩
    have hk4 : ∀ O : Nat → Prop, ¬ O (w.heap.size + 1) → Keep O W3 W4 := fun O hO => by rw [← hW4]; exact Keep.putObj _ _ _ hO
    refine ⟨.bool true, W4, ?_, rfl, ⟨hI B (k + 1) W3 W4 (by omega) hi3 (hk4 _ (by unfold Mine; omega)), ?_, (hk4 (fun b => b = w.heap.size) (by omega)).heap rfl hd3⟩, ?_⟩
    · rw [hend]
      rw [hrec] at hW4 ⊢
      rw [← hW4]
      rfl
    · rw [← hW4]; exact World.putObj_heap_same (Array.getElem?_eq_some_iff.1 hl3).1
    · have hm : Keep (TheirsK T W1.heap.size B) W2 W3 := hk3.mono fun b hb => Or.elim hb Or.inl (fun h => Or.inr ⟨by omega, h.2⟩)
      exact ((hk2 _ (fun h => Or.elim h hTn (fun h => by omega))).trans hm).trans (hk4 _ (fun h => Or.elim h hTn (fun h => by omega)))
  · -- behind the iterator
    rintro e W2 ⟨⟨v, rfl⟩, B, hB, hBW, hi, hl, hd⟩
    have hend := run_endLoop (P := P) hl (by rw [hrec]; simp)
    obtain ⟨W3, hW3⟩ : ∃ W3, W2.putObj (w.heap.size + 1) (.loop (rec .exhausted)) = W3 := ⟨_, rfl⟩
    have hk3 : ∀ O : Nat → Prop, ¬ O (w.heap.size + 1) → Keep O W2 W3 := fun O hO => by rw [← hW3]; exact Keep.putObj _ _ _ hO
    refine ⟨none, W3, ?_, ?_⟩
    · rw [hend]
      rw [hrec] at hW3 ⊢
      rw [← hW3]
    · exact hdone w.heap.size B W3 (Nat.le_refl _) (by omega) (by have := (hk3 (fun _ => False) id).size; omega) (hI B _ W2 W3 (by omega) hi (hk3 _ (by unfold Mine; omega))) ((hk3 (fun b => b = w.heap.size) (by omega)).heap rfl hd)

end
end

section
open Go.RowKit
attribute [local go_sem] Oper.semAt_some
set_option linter.unusedVariables false
set_option linter.unusedSimpArgs false

/-- The blocks of a text. -/
def chunks (d : List UInt8) : List (List UInt8) := (List.range (d.length / 64)).map fun j => (d.drop (64 * j)).take 64
theorem chunks_len (d : List UInt8) : (chunks d).length = d.length / 64 := by simp [chunks]
theorem chunks_get (d : List UInt8) {j : Nat} (h : j < d.length / 64) : (chunks d)[j]? = some ((d.drop (64 * j)).take 64) := by simp [chunks, h]

def ItemT (T : Nat → Prop) (B : Nat) (w : World) (v : Value) (x : List UInt8) : Prop := Bs w w.heap.size v x ∧ AtT T v

theorem run_from (db o L cap p : Nat) (hp : p < L) (hc : L ≤ cap) (w : World) :
    (Instr.sliceAt 22 (.slice (some ⟨db, o, none⟩) L cap) (some (.int .i64 (p : Int))) none none).run Tryd.prog w = .ok (.slice (some ⟨db, o + p, none⟩) (L - p) (cap - p)) w := by
  have ht := Tryd.underlying22
  have hel : Tryd.prog.elem 22 = 5 := by simp [Program.elem, ht]
  have ht' : Tryd.prog.underlying 22 = some (.slice (Tryd.prog.elem 22)) := by rw [hel]; exact ht
  obtain ⟨info, hin, hsz⟩ := Option.map_eq_some_iff.1 size_u8
  rw [run_sliceAt_slice (h := ht'), run_slice_l (ht := ht') (h0 := by omega) (h1 := by omega)]
  have hne : ¬ cap = p := by omega
  simp [hel, sizeOf, typeInfo, hin, hsz, Result.andThen, sliced, hne, add_addr]
theorem run_part (db o L cap p q : Nat) (hp : p < q) (hq : q ≤ L) (hc : L ≤ cap) (w : World) :
    (Instr.sliceAt 22 (.slice (some ⟨db, o, none⟩) L cap) (some (.int .i64 (p : Int))) (some (.int .i64 (q : Int))) (some (.int .i64 (q : Int)))).run Tryd.prog w = .ok (.slice (some ⟨db, o + p, none⟩) (q - p) (q - p)) w := by
  have ht := Tryd.underlying22
  have hel : Tryd.prog.elem 22 = 5 := by simp [Program.elem, ht]
  have ht' : Tryd.prog.underlying 22 = some (.slice (Tryd.prog.elem 22)) := by rw [hel]; exact ht
  obtain ⟨info, hin, hsz⟩ := Option.map_eq_some_iff.1 size_u8
  rw [run_sliceAt_slice (h := ht'), run_slice_lhm (ht := ht') (h0 := by omega) (h1 := by omega) (h2 := by omega) (h3 := by omega)]
  have hne : ¬ q = p := by omega
  simp [hel, sizeOf, typeInfo, hin, hsz, Result.andThen, sliced, hne, add_addr]

set_option maxRecDepth 100000 in
set_option maxHeartbeats 1000000 in
theorem chunk_gives (T : Nat → Prop) (bb nb : Nat) (v0 : Value) (d : List UInt8) (m : Nat) (W : World) (hbb : W.cell? ⟨bb, 0, none⟩ = some v0) (hnb : W.cell? ⟨nb, 0, none⟩ = some (.int .i64 64)) (hTb : T bb) (hTn : T nb)
    (hv : Bs W W.heap.size v0 d) (hvT : AtT T v0) (hm : d.length = 64 * m) (hl : d.length ≤ 1000000000) :
    GivesK Tryd.prog 88 #[.pointer (some ⟨bb, 0, none⟩), .pointer (some ⟨nb, 0, none⟩)] (ItemT T) (chunks d) T W := by
  intro l J h1 h2 h3
  refine callsIn_of_wp Tryd.func88 rfl trivial ?_ rfl
  simp only [Tryd.ntmps88, List.size_toArray, List.length_cons, List.length_nil, Nat.reduceAdd, Nat.reduceSub, Array.replicate_succ, Array.replicate_zero, List.push_toArray, List.append_toArray, List.nil_append, List.cons_append]
  have hJ := h1 W (Below.refl _ _)
  obtain ⟨A, cap, rfl⟩ := hv.form
  have hcap0 : d.length ≤ cap := Row.cap (show Row W W.heap.size 1 d.length (.slice A d.length cap) (u8s d) from hv)
  obtain ⟨L, hL⟩ : ∃ L, L = d.length := ⟨_, rfl⟩
  have HL := Lib.hid hL
  have HM := Lib.hid hm
  rw [← hL] at hv hvT hbb hl
  have hcap : L ≤ cap := by omega
  clear hL hm hcap0
  gi_wp2_with fail
  gi_loopw [4] (fun i wr => ∃ (p j : Nat), i = .int .i64 p ∧ Hid (p = 64 * j) ∧ p ≤ L ∧ J W.heap.size j wr ∧ W.heap.size ≤ wr.heap.size ∧ wr.cell? ⟨bb, 0, none⟩ = some (.slice A L cap) ∧ wr.cell? ⟨nb, 0, none⟩ = some (.int .i64 64) ∧ Bs wr wr.heap.size (.slice A L cap) d) (fun i _ => (L - intOf i).toNat)
  case atStart => exact ⟨0, 0, rfl, Lib.hid rfl, by omega, hJ, Nat.le_refl _, hbb, hnb, hv⟩
  case round =>
    obtain ⟨p, j, rfl, HPJ, hpL, hJr, hsr, hbr, hnr, hvr⟩ := hrel
    by_cases hlt : p < L
    · obtain ⟨db, o, cap', hve, hdb, _, hcells⟩ := hvr.addr (by have := HL.out; omega)
      injection hve with e1 e2 e3
      subst e1 e3
      clear e2
      have hTd : T db := hvT _ _ _ rfl (by omega)
      have hp64 : p + 64 ≤ L := by have := HPJ.out; have := HM.out; have := HL.out; omega
      have hs1 := run_from db o L cap p hlt hcap
      have hs2 := run_part db o L cap p (p + 64) (by omega) hp64 hcap
      gi_wp2_with fail
      gi_region
      have hbd : Below wr.heap.size wr wr.drew := (Below.refl _ _).drew
      have hJ2 := h2 W.heap.size j wr wr.drew (Nat.le_refl _) hJr (Keep.of_below hbd)
      have hv2 := hvr.past hbd
      have hb2 := cell_past hbr hbd
      have hn2 := cell_past hnr hbd
      obtain ⟨w2, hw2⟩ : ∃ w2, w2 = wr.drew := ⟨_, rfl⟩
      rw [← hw2] at hJ2 hv2 hb2 hn2 ⊢
      have hs2' : W.heap.size ≤ w2.heap.size := by rw [hw2]; exact hsr
      have hitem : ItemT T W.heap.size w2 (.slice (some ⟨db, o + p, none⟩) 64 64) ((d.drop (64 * j)).take 64) := by
        have hlen : ((d.drop (64 * j)).take 64).length = 64 := by rw [List.length_take, List.length_drop, ← HL.out, ← HPJ.out]; omega
        refine ⟨?_, fun a n c e _ => ?_⟩
        · refine ⟨some ⟨db, o + p, none⟩, 64, by rw [hlen], by omega, by simp [maxLen], (fun h => by cases h), by rw [u8s_length, hlen], fun a ha _ => ?_⟩
          obtain rfl : (⟨db, o + p, none⟩ : Addr) = a := by injection ha
          obtain ⟨ad, had, hb, hc⟩ := Row.at_ (show Row w2 _ 1 L (.slice (some ⟨db, o, none⟩) L cap) (u8s d) from by have h := hv2; unfold Bs at h; rwa [← HL.out] at h) (by omega)
          obtain rfl : (⟨db, o, none⟩ : Addr) = ad := by injection had
          refine ⟨hb, fun i u hu => ?_⟩
          have h := hc (p + i) u (by
            rw [← hu]
            have hi : i < 64 := by have := (List.getElem?_eq_some_iff.1 hu).1; rwa [u8s_length, hlen] at this
            simp [u8s, List.getElem?_take, hi, HPJ.out])
          rw [add_addr] at h ⊢
          rwa [show o + p + i = o + (p + i) by omega]
        · injection e with e1 _ _
          injection e1 with e1
          rw [← e1]; exact hTd
      have hj : j < d.length / 64 := by have := HPJ.out; have := HL.out; omega
      obtain ⟨fn, tmps, assign, body, hy, hR⟩ := h3 W.heap.size j _ w2 _ (Nat.le_refl _) hs2' hJ2 (chunks_get d hj) hitem
      clear hw2 hJr hvr hbr hnr hcells hbd hs1 hsr hitem
      gi_wp2_with fail
      refine ⟨rfl, hR.mono ?_⟩
      rintro e w3 ⟨rfl, hJ3, hk3⟩
      have hs3 := hk3.size
      have hb3 := hk3.cell (p := ⟨bb, 0, none⟩) (Or.inl hTb) hb2
      have hn3 := hk3.cell (p := ⟨nb, 0, none⟩) (Or.inl hTn) hn2
      have hv3 := hv2.keepT hvT hk3 (fun b hb => Or.inl hb) hs3
      clear hy hR hk3 hJ2 hb2 hn2 hv2 hs2
      gi_wp2_with fail
      go_roundw
      case rel => exact ⟨p + 64, j + 1, by go_num, Lib.hid (by have := HPJ.out; omega), hp64, hJ3, by omega, hb3, hn3, hv3⟩
      case measure => simp [intOf]; omega
    · have hjm : j = (chunks d).length := by rw [chunks_len]; have := HPJ.out; have := HL.out; have := HM.out; omega
      have HJ := Lib.hid hjm
      clear hjm
      gi_wp2_with fail
      go_end0
      exact ⟨⟨_, rfl⟩, W.heap.size, Nat.le_refl _, hsr, by rw [← HJ.out]; exact hJr⟩

theorem chunk_any (A : Option Addr) (n c : Nat) (w : World) : Calls Tryd.prog 78 #[.slice A n c, .int .i64 64] w fun e w' => e = .returned (.func (.func 88) #[] #[.pointer (some ⟨w.heap.size, 0, none⟩), .pointer (some ⟨w.heap.size + 1, 0, none⟩)]) ∧ w' = (w.alloc (.cells #[.slice A n c] 22)).alloc (.cells #[.int .i64 64] 3) := by
  go_enter Tryd.func78, Tryd.ntmps78
  go_wp2
  go_ret
  exact ⟨rfl, rfl⟩
end

section
open Go.RowKit Go.Shelf
attribute [local go_sem] Oper.semAt_some
set_option linter.unusedVariables false
set_option linter.unusedSimpArgs false

theorem Keep.wide {O : Nat → Prop} {w w' : World} (h : Keep (fun q => O q ∧ q < w.heap.size) w w') : Keep O w w' := ⟨h.os, h.tape, h.output, h.size, fun k hk hl => h.block k ⟨hk, hl⟩ hl⟩

set_option maxRecDepth 100000 in
set_option maxHeartbeats 1000000 in
theorem each_any (sb : Nat) (s : Sha.St) (v : Value) (d : List UInt8) (m : Nat) (w : World) (hb : Blk w sb 82 (w32s s.list)) (hs : s.ok) (hk : KIs 1 w) (hkg : 1 ≠ sb)
    (hv : Bs w w.heap.size v d) (hvT : AtT (fun b => b ≠ sb) v) (hm : d.length = 64 * m) (hl : d.length ≤ 1000000000) :
    Calls Tryd.prog 66 #[v, .func (.func 67) #[.pointer (some ⟨sb, 0, none⟩)] #[]] w fun e w' => (∃ v, e = .returned v) ∧ Blk w' sb 82 (w32s (Sha.blks m s d).list) ∧ Keep (fun q => q ≠ sb) w w' := by
  obtain ⟨A, cap, rfl⟩ := hv.form
  refine (callsIn_wide (n := 0)).1 ?_
  refine callsIn_of_wp_marks Tryd.func66 rfl trivial ?_ rfl
  simp only [Tryd.ntmps66, List.size_toArray, List.length_cons, List.length_nil, Nat.reduceAdd, Nat.reduceSub, Array.replicate_succ, Array.replicate_zero, List.push_toArray, List.append_toArray, List.nil_append, List.cons_append]
  obtain ⟨L, hL⟩ : ∃ L, L = d.length := ⟨_, rfl⟩
  have HL := Lib.hid hL
  have HM := Lib.hid hm
  rw [← hL] at hv hvT hl ⊢
  clear hL hm
  gi_wp2_with fail
  refine ⟨trivial, rfl, (callsIn_wide.2 (chunk_any A L cap _)).mono ?_⟩
  rintro e w3 ⟨rfl, rfl⟩
  obtain ⟨W, hW⟩ : ∃ W, W = ((w.alloc (.cells #[.func (.func 67) #[.pointer (some ⟨sb, 0, none⟩)] #[]] 85)).alloc (.cells #[.slice A L cap] 22)).alloc (.cells #[.int .i64 64] 3) := ⟨_, rfl⟩
  have h01 : Below w.heap.size w (w.alloc (.cells #[.func (.func 67) #[.pointer (some ⟨sb, 0, none⟩)] #[]] 85)) := (Below.refl _ _).alloc (Nat.le_refl _) _
  have hbl : Below w.heap.size w W := by rw [hW]; exact (h01.alloc (by simp) _).alloc (by simp; omega) _
  have hsW : W.heap.size = w.heap.size + 3 := by rw [hW]; simp
  have cf : W.cell? ⟨w.heap.size, 0, none⟩ = some (.func (.func 67) #[.pointer (some ⟨sb, 0, none⟩)] #[]) := by
    rw [hW]
    refine cell_past (cell_past ?_ ((Below.refl _ _).alloc (Nat.le_refl _) _)) ((Below.refl _ _).alloc (Nat.le_refl _) _)
    rw [cell_of_row _ _ 0 _ _ _ (heap_alloc_new _ _)]; rfl
  have cb : W.cell? ⟨w.heap.size + 1, 0, none⟩ = some (.slice A L cap) := by
    rw [hW]
    refine cell_past ?_ ((Below.refl _ _).alloc (Nat.le_refl _) _)
    have h := cell_of_row _ _ 0 _ _ _ (heap_alloc_new (w.alloc (.cells #[.func (.func 67) #[.pointer (some ⟨sb, 0, none⟩)] #[]] 85)) (.cells #[.slice A L cap] 22))
    rw [World.size_alloc] at h
    rw [h]; rfl
  have cn : W.cell? ⟨w.heap.size + 2, 0, none⟩ = some (.int .i64 64) := by
    have h := cell_of_row _ _ 0 _ _ _ (heap_alloc_new ((w.alloc (.cells #[.func (.func 67) #[.pointer (some ⟨sb, 0, none⟩)] #[]] 85)).alloc (.cells #[.slice A L cap] 22)) (.cells #[.int .i64 64] 3))
    rw [World.size_alloc, World.size_alloc] at h
    rw [hW, h]; rfl
  have hsb := hb.lt
  have hbW := hb.past hbl hsb
  have hkW := hk.past hbl
  have hvW := hv.carry hbl hbl.size
  have hgl : ∀ t, t < 64 → 1 < w.heap.size := fun t ht => block_lt_of_cell (hk t ht)
  have hg1 := hgl 0 (by omega)
  gi_wp2_with fail
  change Code.wpIn _ _ _ _ _ _ (((w.alloc _).alloc _).alloc _)
  rw [← hW]
  have HSW := Lib.hid hsW
  have hsW' : w.heap.size + 3 ≤ W.heap.size := by omega
  clear hW h01 hsW hgl
  refine wp_rangeK (gf := 88) (lb := #[.pointer (some ⟨w.heap.size + 1, 0, none⟩), .pointer (some ⟨w.heap.size + 2, 0, none⟩)]) (T := fun b => b ≠ sb ∧ b < W.heap.size) (Item := ItemT fun b => b ≠ sb ∧ b < W.heap.size) (items := chunks d) rfl (enters_of Tryd.func88 (by kernel_rfl) rfl) (fun b h => h.2)
    ?hItem ?hseq
    (fun B k W1 => Blk W1 sb 82 (w32s (Sha.blks k s d).list) ∧ Keep (fun q => q ≠ sb ∧ q < W.heap.size) W W1) ?h0 ?hI
    (fun v => { tmps := #[.slice A L cap, .func (.func 67) #[.pointer (some ⟨sb, 0, none⟩)] #[], undef, .pointer (some ⟨w.heap.size, 0, none⟩), v, .slice A L cap, .func (.func 88) #[] #[.pointer (some ⟨w.heap.size + 1, 0, none⟩), .pointer (some ⟨w.heap.size + 2, 0, none⟩)], v, undef, undef, undef], defers := [] }) ?hassign ?hbody ?hdone
  case hItem =>
    rintro B v x W4 W5 hn ⟨hit, hT⟩ hk
    exact ⟨hit.keepT hT hk (fun b hb => Or.inl hb) hk.size, hT⟩
  case hseq =>
    intro W4 hb4
    have h4 := hb4.size
    exact chunk_gives (fun b => b ≠ sb ∧ b < W.heap.size) (w.heap.size + 1) (w.heap.size + 2) (.slice A L cap) d m W4 (cell_past cb hb4) (cell_past cn hb4) ⟨by omega, by omega⟩ ⟨by omega, by omega⟩ (hvW.past hb4)
      (fun a n c e h0 => ⟨hvT a n c e h0, AtT.of_bs hvW a n c e h0⟩) HM.out (by rw [← HL.out]; exact hl)
  case h0 =>
    intro W4 hb4
    exact ⟨hbW.past hb4 (by omega), Keep.of_below hb4⟩
  case hI =>
    rintro B k W4 W5 hB ⟨h1, h2⟩ hk
    refine ⟨h1.keep hk (Or.inl (by omega)), h2.trans (hk.mono fun q hq => Or.inl hq.2)⟩
  case hassign =>
    intro l' v W4 K hK
    gi_wp2
    exact hK
  case hdone =>
    rintro D B W4 hD hDB hBW ⟨h1, h2⟩ hd
    have hlen : (chunks d).length = m := by rw [chunks_len, HM.out]; omega
    rw [hlen] at h1
    have hp : ∀ O : Nat → Prop, ¬ O D → Keep O W4 (W4.putObj D (.deferred none)) := fun O hO => Keep.putObj _ _ _ hO
    have h9 := h1.keep (hp (fun q => q ≠ D) (fun h => h rfl)) (by omega)
    have hk9 : Keep (fun q => q ≠ sb) w (W4.putObj D (.deferred none)) := by
      refine Keep.wide ?_
      refine (Keep.of_below hbl).trans ?_
      refine ((h2.trans (hp _ (fun h => by omega))).mono fun q hq => ⟨hq.1, by omega⟩)
    have H9 := Lib.hid h9
    clear hlen h1 h2 hp h9
    gi_wp2_with fail
    show LeavesInM _ _ _ _ _ _ _ _ _
    refine ⟨by simp, .inl ⟨_, _, rfl, run_takeDeferred hd, ?_⟩⟩
    exact ⟨_, results_none rfl _ _ _, ⟨_, rfl⟩, H9.out, hk9⟩
  case hbody =>
    rintro l' B k x v W4 hB hBW ⟨h1, h2⟩ hx ⟨hit, hT⟩
    have cf4 := h2.cell (p := ⟨w.heap.size, 0, none⟩) ⟨show w.heap.size ≠ sb by omega, show w.heap.size < W.heap.size by omega⟩ cf
    have hkl : k < d.length / 64 := by rw [← chunks_len]; exact (List.getElem?_eq_some_iff.1 hx).1
    have hxe : x = (d.drop (64 * k)).take 64 := by
      have h := chunks_get d hkl
      rw [hx] at h
      exact Option.some.inj h
    have hxl : x.length = 64 := by rw [hxe, List.length_take, List.length_drop]; omega
    have hk4 : KIs 1 W4 := hkW.keep h2 ⟨hkg, by omega⟩
    have hcall := compress_any sb (Sha.blks k s d) v x W4 hit hxl (Sha.blks_ok k d hs) h1 hk4
    rw [hxe, ← Sha.blks_snoc] at hcall
    have HC := Lib.hid hcall
    clear hcall hxl hk4 hx
    gi_wp2_with fail
    refine ⟨trivial, rfl, (CallsIn.inRound l' (callsIn_wide.2 HC.out)).mono ?_⟩
    rintro e w7 ⟨⟨ve, rfl⟩, hb7, hk7⟩
    clear HC
    gi_wp2_with fail
    exact ⟨rfl, ⟨hb7, h2.trans (hk7.mono fun q hq => hq.1)⟩, hk7.mono fun q hq => Or.elim hq (fun h => h.1) (fun h => by omega)⟩
end
end Go.Proofs.YtccepoeenkpifaaDoor
