/-
  Walks of the reference's package for layer 3: the digest out of a state.
  Walks of the reference's package for layer 3: the padding.
  Walks of the reference's package for layer 3: the hash, its continuation.
  Walks of the reference's package for layer 3: tagged hashes, pairs, chains.
  Walks of the reference's package for layer 3: chains.
-/
import Derived.Test.YtccepoeenkpifaaDoorSrA
import Derived.Test.YtccepoeenkpifaaDoorShI
namespace Go.Proofs.YtccepoeenkpifaaDoor
section
open Go.RowKit
set_option linter.unusedVariables false
set_option linter.unusedSimpArgs false

theorem dgs_get (s : Sha.St) {q r x : Nat} (hq : q < 8) (hr : r < 4) (hx : s.list[q]? = some x) : (Sha.dgs s)[4 * q + r]? = some (Sha.b8 (x / 2 ^ (24 - 8 * r))) := by
  obtain ⟨a, b, c, d, e, f, g, h⟩ := s
  have h1 : q = 0 ∨ q = 1 ∨ q = 2 ∨ q = 3 ∨ q = 4 ∨ q = 5 ∨ q = 6 ∨ q = 7 := by omega
  have h2 : r = 0 ∨ r = 1 ∨ r = 2 ∨ r = 3 := by omega
  rcases h1 with rfl | rfl | rfl | rfl | rfl | rfl | rfl | rfl <;> (simp [Sha.St.list] at hx; subst hx; rcases h2 with rfl | rfl | rfl | rfl <;> simp [Sha.dgs, Sha.be4])

set_option maxRecDepth 100000 in
set_option maxHeartbeats 2000000 in
theorem rdigest_any (s : Sha.St) (w : World) (hs : s.ok) :
    Calls Tryd.prog 74 #[.agg (w32s s.list).toArray] w fun e w' => e = .returned (.agg (u8s (Sha.dgs s)).toArray) ∧ Below w.heap.size w w' := by
  have hz := zero_dig
  obtain ⟨W0, hW0⟩ : ∃ W0, W0 = ((w.alloc (.cells (w32s s.list).toArray 81)).alloc (.cells (u8s z32).toArray 25)).alloc (.cells (u8s z32).toArray 25) := ⟨_, rfl⟩
  have h1 : Below w.heap.size w (w.alloc (.cells (w32s s.list).toArray 81)) := (Below.refl _ _).alloc (Nat.le_refl _) _
  have hb0 : Below w.heap.size w W0 := by rw [hW0]; exact (h1.alloc (by simp) _).alloc (by simp; omega) _
  have hx0 : Blk W0 w.heap.size 81 (w32s s.list) := by
    rw [hW0]
    exact ((Blk.new w _ _).past ((Below.refl _ _).alloc (Nat.le_refl _) _) (by simp)).past ((Below.refl _ _).alloc (Nat.le_refl _) _) (by simp; omega)
  have hr0 : Blk W0 (w.heap.size + 1) 25 (u8s z32) := by
    have h := Blk.new (w.alloc (.cells (w32s s.list).toArray 81)) 25 (u8s z32)
    rw [World.size_alloc] at h
    rw [hW0]
    exact h.past ((Below.refl _ _).alloc (Nat.le_refl _) _) (by simp)
  obtain ⟨D, hD⟩ : ∃ D, D = Sha.dgs s := ⟨_, rfl⟩
  have hDl : D.length = 32 := by rw [hD, Sha.dgs_len]
  have HG := Lib.hid (show ∀ q r x, q < 8 → r < 4 → s.list[q]? = some x → D[4 * q + r]? = some (Sha.b8 (x / 2 ^ (24 - 8 * r))) from fun q r x h1 h2 h3 => by rw [hD]; exact dgs_get s h1 h2 h3)
  have hs0 : Blk W0 (w.heap.size + 2) 25 (u8s (D.take 0 ++ z32.drop 0)) := by
    have h := Blk.new ((w.alloc (.cells (w32s s.list).toArray 81)).alloc (.cells (u8s z32).toArray 25)) 25 (u8s z32)
    rw [World.size_alloc, World.size_alloc] at h
    rw [hW0]
    exact h
  have HW0 := Lib.hid hW0
  have HDL := Lib.hid hDl
  rw [← hD]
  have HXB := Lib.hid (show ∀ q x, s.list[q]? = some x → x < 4294967296 from fun q x hx => by
    obtain ⟨h1, h2, h3, h4, h5, h6, h7, h8⟩ := hs
    have hm := List.mem_of_getElem? hx
    simp only [Sha.St.list, List.mem_cons, List.not_mem_nil, or_false] at hm
    rcases hm with rfl | rfl | rfl | rfl | rfl | rfl | rfl | rfl <;> assumption)
  clear hW0 h1 hDl hD hs
  go_enter Tryd.func74, Tryd.ntmps74
  go_wp2_with fail
  rw [← HW0.out]
  clear hz
  go_loopw [4] (fun i wr => ∃ k : Nat, i = .int .i64 k ∧ k ≤ 32 ∧ Blk wr w.heap.size 81 (w32s s.list) ∧ Blk wr (w.heap.size + 1) 25 (u8s z32) ∧ Blk wr (w.heap.size + 2) 25 (u8s (D.take k ++ z32.drop k)) ∧ Below w.heap.size w wr) (fun i _ => (32 - intOf i).toNat)
  case atStart => exact ⟨0, rfl, by omega, hx0, hr0, hs0, hb0⟩
  case round =>
    clear hx0 hr0 hs0 hb0
    obtain ⟨k, rfl, hk8, hx, hr, hs, hb⟩ := hrel
    by_cases hlt : k < 32
    · obtain ⟨q, r, hq, hr4, hkq⟩ : ∃ q r, q < 8 ∧ r < 4 ∧ k = 4 * q + r := ⟨k / 4, k % 4, by omega, by omega, by omega⟩
      obtain ⟨x, hxq⟩ : ∃ x, s.list[q]? = some x := ⟨_, List.getElem?_eq_getElem (by rw [s.list_len]; exact hq)⟩
      have hxl := HXB.out q x hxq
      have hcx : wr.cell? ⟨w.heap.size, q, none⟩ = some (.int .u32 x) := by
        refine hx.cell ?_
        unfold w32s
        rw [List.getElem?_map, hxq]; rfl
      have hDk := HG.out q r x hq hr4 hxq
      rw [← hkq] at hDk
      obtain ⟨b, hb8⟩ : ∃ b, b = Sha.b8 (x / 2 ^ (24 - 8 * r)) := ⟨_, rfl⟩
      rw [← hb8] at hDk
      have hbv : ((b.toNat : Nat) : Int) = (((x / 2 ^ (24 - 8 * r)) % 256 : Nat) : Int) := by rw [hb8, Sha.b8_nat]
      have hsz : w.heap.size + 2 < wr.heap.size := hs.lt
      obtain ⟨u, hu⟩ : ∃ u, (u8s (D.take k ++ z32.drop k))[k]? = some u := ⟨_, List.getElem?_eq_getElem (by rw [u8s_length, List.length_append, List.length_take, List.length_drop, HDL.out]; show k < min k 32 + (32 - k); omega)⟩
      have hc := hs.cell hu
      have hf := hs.frozen k
      have hput := hs.set k (Go.Proofs.YtccepoeenkpifaaDoor.u8 b)
      have hset : (D.take k ++ z32.drop k).set k b = D.take (k + 1) ++ z32.drop (k + 1) := by
        have hlen : (D.take k).length = k := by rw [List.length_take, HDL.out]; omega
        rw [List.set_append_right (h := by omega), hlen, Nat.sub_self, List.take_add_one, hDk, List.append_assoc]
        rw [List.drop_eq_getElem_cons (show k < z32.length from hlt)]
        rfl
      rw [← u8s_set, hset] at hput
      have kp := Keep.setCell wr ⟨w.heap.size + 2, k, none⟩ (Go.Proofs.YtccepoeenkpifaaDoor.u8 b) (O := fun q => q ≠ w.heap.size + 2) (fun h => h rfl)
      have hx3 := hx.keep kp (by omega)
      have hr3 := hr.keep kp (by omega)
      have hb3 : Below w.heap.size w (wr.setCell ⟨w.heap.size + 2, k, none⟩ (Go.Proofs.YtccepoeenkpifaaDoor.u8 b)) := hb.setCell (by simp) _
      have HDK := Lib.hid hDk
      have HKQ := Lib.hid hkq
      clear hu hx hr hs hb kp hxq hDk hb8 hset
      have e1 : (k : Int).tdiv 4 = (q : Int) := by rw [Int.tdiv_eq_ediv_of_nonneg (by omega)]; omega
      have e2 : (k : Int).tmod 4 = (r : Int) := by rw [Int.tmod_eq_emod_of_nonneg (by omega)]; omega
      have e3 : (k : Int) / 4 = (q : Int) := by omega
      have e4 : (k : Int) % 4 = (r : Int) := by omega
      have hq' : (q : Int) < 8 := by omega
      clear hkq
      go_wp2
      have hval : Value.int .u8 ((x : Int) / 2 ^ (24 - 8 * r) % 256) = Go.Proofs.YtccepoeenkpifaaDoor.u8 b := by
        unfold Go.Proofs.YtccepoeenkpifaaDoor.u8
        rw [hbv]
        congr 1
      rw [hval]
      go_roundw
      case rel => exact ⟨k + 1, by go_num, by omega, hx3, hr3, hput, hb3⟩
      case measure => simp [intOf]; omega
    · have hsf : Blk wr (w.heap.size + 2) 25 (u8s D) := by
        have h := hs
        rw [show k = 32 by omega, List.take_of_length_le (by rw [HDL.out]; omega)] at h
        simpa [z32] using h
      have HUD : Hid ((u8s D).length = 32) := Lib.hid (by rw [u8s_length, HDL.out])
      have hsz : w.heap.size + 2 < wr.heap.size := hs.lt
      clear hs hx
      go_upto_region 6 with (fail)
      refine wp_region_lit ?_
      refine wp_loadA 25 (.tmp 3) rfl rfl (w.heap.size + 2) rfl 25 _ 32 5 hsf Tryd.underlying25 (by rw [info_dig, HUD.out]) ?_
      refine wp_storeA 25 (.tmp 2) (.tmp 22) rfl rfl (w.heap.size + 1) rfl 25 (u8s z32) (u8s D) rfl hr (by rw [info_dig, HUD.out]) (by rw [HUD.out]; rfl) (u8s_one _) rfl ?_
      intro w9 hr9 hk9
      have hbl9 := hb.trans (hk9.below (n := w.heap.size) (fun q hq => by omega) hb.size)
      clear hsf hr hb hk9
      go_wp2
      refine ret_arr Tryd.results74 rfl (w.heap.size + 1) 25 _ 32 5 rfl hr9 Tryd.underlying25 (by rw [info_dig, HUD.out]) ?_
      exact ⟨rfl, hbl9⟩
end

section
open Go.RowKit
set_option linter.unusedVariables false
set_option linter.unusedSimpArgs false

theorem be8_get (x : Nat) {k : Nat} (hk : k < 8) : (Sha.be8 x)[k]? = some (Sha.b8 (x / 2 ^ (8 * (7 - k)))) := by
  have h : k = 0 ∨ k = 1 ∨ k = 2 ∨ k = 3 ∨ k = 4 ∨ k = 5 ∨ k = 6 ∨ k = 7 := by omega
  have hb : ∀ a b : Nat, a % 256 = b % 256 → Sha.b8 a = Sha.b8 b := fun a b h => UInt8.toNat_inj.1 (by rw [Sha.b8_nat, Sha.b8_nat, h])
  rcases h with rfl | rfl | rfl | rfl | rfl | rfl | rfl | rfl <;> (simp only [Sha.be8, Sha.be4, List.cons_append, List.nil_append, List.getElem?_cons_succ, List.getElem?_cons_zero, Option.some.injEq]; try exact hb _ _ (by omega))

def lenSl : Value → Nat
  | .slice _ n _ => n
  | _ => 0

set_option maxRecDepth 100000 in
set_option maxHeartbeats 2000000 in
theorem rpadding_any (n : Nat) (w : World) (hn : n ≤ 1000000) :
    Calls Tryd.prog 73 #[.int .i64 n] w fun e w' => ∃ v, e = .returned v ∧ Own w' w.heap.size v (Sha.pad n) ∧ Below w.heap.size w w' := by
  have hzs : Sha.zs n < 64 := by unfold Sha.zs; omega
  have HZ := Lib.hid (show Sha.zs n = (119 - n % 64) % 64 from rfl)
  obtain ⟨Z, hZ⟩ : ∃ Z, Z = Sha.zs n := ⟨_, rfl⟩
  rw [← hZ] at hzs HZ
  have HPD := Lib.hid (show Sha.pad n = 128 :: List.replicate Z 0 ++ Sha.be8 (n * 8) by rw [hZ]; rfl)
  clear hZ
  have o0 : Own (w.alloc (.cells (u8s [128]).toArray 5)) w.heap.size (.slice (some ⟨w.heap.size, 0, none⟩) 1 1) [128] := own_lit_n w [128] (by decide)
  have b0 : Below w.heap.size w (w.alloc (.cells (u8s [128]).toArray 5)) := (Below.refl _ _).alloc (Nat.le_refl _) _
  go_enter Tryd.func73, Tryd.ntmps73
  go_wp2_with fail
  go_loopw [3] (fun s wr => ∃ k : Nat, k ≤ Z ∧ Own wr w.heap.size s (128 :: List.replicate k 0) ∧ Below w.heap.size w wr) (fun s _ => 66 - lenSl s)
  case atStart => exact ⟨0, by omega, o0, b0⟩
  case round =>
    obtain ⟨k, hkZ, ho, hb⟩ := hrel
    obtain ⟨A, cap, rfl⟩ := (Own.bs ho).form
    obtain ⟨F, hF⟩ : ∃ F : List UInt8, F = 128 :: List.replicate k 0 := ⟨_, rfl⟩
    have hFl : F.length = k + 1 := by rw [hF]; simp
    rw [← hF] at ho ⊢
    rw [hFl] at ho ⊢
    by_cases hlt : k < Z
    · have hne : (((n : Int) + ((k : Int) + 1)) % 64 != 56) = true := bne_iff_ne.2 (by have := HZ.out; omega)
      have o1 := ho.alloc (.cells #[.int .u8 0] 5)
      have b1 : Below wr.heap.size wr (wr.alloc (.cells #[.int .u8 0] 5)) := (Below.refl _ _).alloc (Nat.le_refl _) _
      have hz1 : Bs (wr.alloc (.cells #[.int .u8 0] 5)) (wr.alloc (.cells #[.int .u8 0] 5)).heap.size (.slice (some ⟨wr.heap.size, 0, none⟩) 1 1) [0] := Own.bs (own_lit_n wr [0] (by decide))
      have hbw : w.heap.size ≤ (wr.alloc (.cells #[.int .u8 0] 5)).heap.size := by have := hb.size; simp; omega
      have hln : F.length + [(0 : UInt8)].length ≤ 140737488355328 := by rw [hFl]; simp; omega
      have HF := Lib.hid hF
      have HFL := Lib.hid hFl
      clear hF hFl
      go_wp2_with (refine wp_apps w.heap.size (.tmp 13) (.tmp 14) rfl rfl _ _ F [0] rfl rfl o1 hbw hz1 hln ?_; intro v2 w2 ho2 b2)
      have e2 : F ++ [0] = 128 :: List.replicate (k + 1) 0 := by rw [HF.out, List.replicate_succ']; simp
      rw [e2] at ho2
      obtain ⟨A2, cap2, rfl⟩ := (Own.bs ho2).form
      go_roundw
      case rel => exact ⟨k + 1, by omega, ho2, (hb.trans (b1.mono hb.size)).trans b2⟩
      case measure => simp [lenSl]; omega
    · have hkk : k = Z := by omega
      have heq : (((n : Int) + ((k : Int) + 1)) % 64 != 56) = false := by
        rw [bne_eq_false_iff_eq]; have := HZ.out; omega
      have HFP := Lib.hid (show Sha.pad n = F ++ Sha.be8 (n * 8) by rw [HPD.out, hF, hkk])
      have HFL := Lib.hid hFl
      have hFb : F.length ≤ 64 := by rw [hFl]; omega
      obtain ⟨X, hX⟩ : ∃ X, X = n * 8 := ⟨_, rfl⟩
      have hXl : X ≤ 8000000 := by omega
      have HX : Hid ((n : Int) * 8 = (X : Int)) := Lib.hid (by omega)
      rw [← hX] at HFP
      clear hX hF
      have hv0 : Own wr w.heap.size (.slice A (k + 1) cap) (F ++ (Sha.be8 X).take 0) := by simpa using ho
      clear ho o0 b0 HPD HZ hFl hkk
      go_wp2_with fail
      clear heq
      rw [HX.out]
      go_loopw [3, 5] (fun s i wq => ∃ (m : Nat) (I : Int), i = .int .i64 I ∧ I = 7 - (m : Int) ∧ m ≤ 8 ∧ Own wq w.heap.size s (F ++ (Sha.be8 X).take m) ∧ Below w.heap.size w wq) (fun _ i _ => (intOf i + 1).toNat)
      case atStart => exact ⟨0, 7, rfl, by omega, by omega, hv0, hb⟩
      case round =>
        clear hv0 hb
        obtain ⟨m, I, rfl, hI, hm, ho, hb⟩ := hrel
        by_cases hlt2 : m < 8
        · obtain ⟨j, hj⟩ : ∃ j : Nat, j = 7 - m := ⟨_, rfl⟩
          obtain rfl : I = (j : Int) := by omega
          have hj7 : j ≤ 7 := by omega
          obtain ⟨G, hG⟩ : ∃ G, G = F ++ (Sha.be8 X).take m := ⟨_, rfl⟩
          have hGl : G.length ≤ 72 := by rw [hG, List.length_append, List.length_take]; omega
          rw [← hG] at ho
          obtain ⟨b, hb8⟩ : ∃ b, b = Sha.b8 (X / 2 ^ (8 * j)) := ⟨_, rfl⟩
          have hget : (Sha.be8 X)[m]? = some b := by rw [be8_get X hlt2, hb8, hj]
          have hnext : G ++ [b] = F ++ (Sha.be8 X).take (m + 1) := by rw [hG, List.take_add_one, hget]; simp
          have hval : Value.int .u8 ((X : Int) / 2 ^ (8 * j) % 256) = Go.Proofs.YtccepoeenkpifaaDoor.u8 b := by
            unfold Go.Proofs.YtccepoeenkpifaaDoor.u8
            rw [hb8, Sha.b8_nat]
            congr 1
          have o1 := ho.alloc (.cells #[.int .u8 ((X : Int) / 2 ^ (8 * j) % 256)] 5)
          have b1 : Below wr.heap.size wr (wr.alloc (.cells #[.int .u8 ((X : Int) / 2 ^ (8 * j) % 256)] 5)) := (Below.refl _ _).alloc (Nat.le_refl _) _
          have hz1 : Bs (wr.alloc (.cells #[.int .u8 ((X : Int) / 2 ^ (8 * j) % 256)] 5)) (wr.alloc (.cells #[.int .u8 ((X : Int) / 2 ^ (8 * j) % 256)] 5)).heap.size (.slice (some ⟨wr.heap.size, 0, none⟩) 1 1) [b] := by
            rw [hval]; exact Own.bs (own_lit_n wr [b] (by simp [maxLen]))
          have hbw : w.heap.size ≤ (wr.alloc (.cells #[.int .u8 ((X : Int) / 2 ^ (8 * j) % 256)] 5)).heap.size := by have := hb.size; simp; omega
          have hln : G.length + [b].length ≤ 140737488355328 := by simp; omega
          have HN := Lib.hid hnext
          have HJ := Lib.hid hj
          clear hG hget hnext hb8 hval hj hI
          go_wp2_with (refine wp_apps w.heap.size (.tmp 23) (.tmp 30) rfl rfl _ _ G [b] rfl rfl o1 hbw hz1 hln ?_; intro v2 w2 ho2 b2)
          rw [HN.out] at ho2
          go_roundw
          case rel => exact ⟨m + 1, (j : Int) - 1, by go_num, by have := HJ.out; omega, by omega, ho2, (hb.trans (b1.mono hb.size)).trans b2⟩
          case measure => simp [intOf]
        · obtain rfl : I = -1 := by omega
          rw [List.take_of_length_le (by rw [Sha.be8_len]; omega), ← HFP.out] at ho
          clear hI
          go_wp2_with fail
          go_ret
          exact ⟨_, rfl, ho, hb⟩
end

section
open Go.RowKit
set_option linter.unusedVariables false
set_option linter.unusedSimpArgs false

/-- The table of the first state, as variable b. -/
def InIs (b : Nat) (w : World) : Prop := ∀ i u, (w32s Sha.init.list)[i]? = some u → w.cell? ⟨b, i, none⟩ = some u
theorem ini_of {b : Nat} {w : World} (h : ∀ i u, (w32s Sha.init.list)[i]? = some u → w.cell? ⟨b, i, none⟩ = some u) : InIs b w := h
theorem InIs.past {b : Nat} {w w' : World} (h : InIs b w) (hb : Below w.heap.size w w') : InIs b w' := fun i u hu => cell_past (h i u hu) hb

theorem sum_of (l : List UInt8) : Sha.sum l = Sha.dgs (Sha.blks ((l.length + (Sha.pad l.length).length) / 64) Sha.init (l ++ Sha.pad l.length)) := rfl

set_option maxRecDepth 100000 in
set_option maxHeartbeats 2000000 in
theorem rsum_any (v : Value) (l : List UInt8) (w : World) (hv : Bs w w.heap.size v l) (hk : KIs 2 w) (hi : InIs 0 w) (hl : l.length ≤ 100000) :
    Calls Tryd.prog 61 #[v] w fun e w' => e = .returned (.agg (u8s (Sha.sum l)).toArray) ∧ Below w.heap.size w w' := by
  obtain ⟨A, cap, rfl⟩ := hv.form
  rw [sum_of]
  have hpm := Sha.pad_mod l.length
  have hpl := Sha.pad_len l.length
  have hzs : Sha.zs l.length < 64 := by unfold Sha.zs; omega
  obtain ⟨L, hL⟩ : ∃ L, L = l.length := ⟨_, rfl⟩
  have hvL : ∀ W, Below w.heap.size w W → Bs W W.heap.size (.slice A L cap) l := fun W hb => by rw [hL]; exact hv.past hb
  rw [← hL] at hl hpm hpl hzs ⊢
  obtain ⟨P, hP⟩ : ∃ P, P = Sha.pad L := ⟨_, rfl⟩
  rw [← hP] at hpm hpl ⊢
  have hlen : (l ++ P).length = 64 * ((L + P.length) / 64) := by rw [List.length_append, ← hL]; omega
  obtain ⟨m, hm⟩ : ∃ m, m = (L + P.length) / 64 := ⟨_, rfl⟩
  have hmb : m ≤ 100000 := by omega
  have hPb : P.length ≤ 100 := by omega
  rw [← hm] at hlen ⊢
  obtain ⟨IN, hIN⟩ : ∃ IN, IN = Sha.init := ⟨_, rfl⟩
  have hok : IN.ok := by rw [hIN]; exact Sha.init_ok
  unfold InIs at hi
  rw [← hIN] at hi ⊢
  have HI := Lib.hid hi
  have hpc := rpadding_any L
  rw [← hP] at hpc
  have HPC := Lib.hid hpc
  have HLEN := Lib.hid hlen
  have HVL := Lib.hid hvL
  have HLL : Hid (l.length ≤ 100000) := Lib.hid (by omega)
  have hz := zero_dig
  obtain ⟨W1, hW1⟩ : ∃ W1, W1 = w.alloc (.cells (u8s z32).toArray 25) := ⟨_, rfl⟩
  have hb1 : Below w.heap.size w W1 := by rw [hW1]; exact (Below.refl _ _).alloc (Nat.le_refl _) _
  have hr1 : Blk W1 w.heap.size 25 (u8s z32) := by rw [hW1]; exact Blk.new w _ _
  have HW1 := Lib.hid hW1
  have hs1 : w.heap.size < W1.heap.size := hr1.lt
  clear hW1 hL hP hm hIN hi hpc hlen hvL hpm hpl hzs hv
  have a2 : Below W1.heap.size W1 (W1.alloc (.cells #[] 5)) := (Below.refl _ _).alloc (Nat.le_refl _) _
  have o2 : Own (W1.alloc (.cells #[] 5)) W1.heap.size (.slice (some ⟨W1.heap.size, 0, none⟩) 0 0) [] := own_lit_n W1 [] (by simp [maxLen])
  have v2 := HVL.out (W1.alloc (.cells #[] 5)) (hb1.trans (a2.mono hb1.size))
  have e2 : ([] : List UInt8).length + l.length ≤ 140737488355328 := by have := HLL.out; simp; omega
  go_enter Tryd.func61, Tryd.ntmps61
  go_upto_region 1 with (fail)
  rw [← HW1.out]
  clear hz
  go_upto_region 2 with (refine wp_apps W1.heap.size (.tmp 4) (.tmp 5) rfl rfl _ _ [] l rfl rfl o2 a2.size v2 e2 ?_; intro va w2 ho2 b2)
  rw [List.nil_append] at ho2
  have b12 : Below W1.heap.size W1 w2 := a2.trans b2
  have hr2 := hr1.past b12 hr1.lt
  have hb2 := hb1.trans (b12.mono hb1.size)
  have hs2 : W1.heap.size ≤ w2.heap.size := b12.size
  clear a2 o2 v2 e2 b2 b12 hr1 hb1
  go_wp2_with fail
  refine (HPC.out w2 (by omega)).mono ?_
  rintro e w3 ⟨vp, rfl, hop, b3⟩
  have ho3 := ho2.past b3
  have hvp := Own.bs hop
  have hr3 := hr2.past b3 hr2.lt
  have hb3 := hb2.trans (b3.mono hb2.size)
  have hs3 : W1.heap.size ≤ w3.heap.size := Nat.le_trans hs2 b3.size
  have e3 : l.length + P.length ≤ 140737488355328 := by have := HLL.out; omega
  clear b3 hr2 hb2 ho2 hs2 hop
  go_upto_region 3 with (refine wp_apps W1.heap.size (.tmp 7) (.tmp 10) rfl rfl _ _ l P rfl rfl ho3 hs3 hvp e3 ?_; intro vb w4 ho4 b4)
  have hr4 := hr3.past b4 hs1
  have hb4 := hb3.trans (b4.mono (Nat.le_of_lt hs1))
  have hv4 := Own.bs ho4
  have hk4 := hk.past hb4
  have hc := rblocks_any IN _ (l ++ P) m w4 hv4 HLEN.out hmb hok hk4
  obtain ⟨FS, hFS⟩ : ∃ FS, FS = Sha.blks m IN (l ++ P) := ⟨_, rfl⟩
  have hfo : FS.ok := by rw [hFS]; exact Sha.blks_ok _ _ hok
  rw [← hFS] at hc
  have HFS := Lib.hid hFS.symm
  have HC := Lib.hid hc
  have HFO := Lib.hid hfo
  have hi4 : ∀ i u, (w32s IN.list)[i]? = some u → w4.cell? ⟨0, i, none⟩ = some u := fun i u hu => cell_past (HI.out i u hu) hb4
  obtain ⟨a0, b0, c0, d0, e0, f0, g0, h0⟩ := IN
  have q0 : w4.cell? ⟨0, 0, none⟩ = some (.int .u32 a0) := hi4 0 _ rfl
  have q1 : w4.cell? ⟨0, 1, none⟩ = some (.int .u32 b0) := hi4 1 _ rfl
  have q2 : w4.cell? ⟨0, 2, none⟩ = some (.int .u32 c0) := hi4 2 _ rfl
  have q3 : w4.cell? ⟨0, 3, none⟩ = some (.int .u32 d0) := hi4 3 _ rfl
  have q4 : w4.cell? ⟨0, 4, none⟩ = some (.int .u32 e0) := hi4 4 _ rfl
  have q5 : w4.cell? ⟨0, 5, none⟩ = some (.int .u32 f0) := hi4 5 _ rfl
  have q6 : w4.cell? ⟨0, 6, none⟩ = some (.int .u32 g0) := hi4 6 _ rfl
  have q7 : w4.cell? ⟨0, 7, none⟩ = some (.int .u32 h0) := hi4 7 _ rfl
  clear ho3 hvp e3 hr3 hb3 hs3 b4 ho4 hv4 hk4 hfo hc hi4 hFS
  go_wp2_with fail
  refine HC.out.mono ?_
  rintro e w5 ⟨rfl, b5⟩
  have hr5 := hr4.past b5 hr4.lt
  have hb5 := hb4.trans (b5.mono hb4.size)
  clear q0 q1 q2 q3 q4 q5 q6 q7 hr4 hb4 b5 HC
  go_wp2_with fail
  refine (rdigest_any FS w5 HFO.out).mono ?_
  rintro e w6 ⟨rfl, b6⟩
  have hr6 := hr5.past b6 hr5.lt
  have hb6 := hb5.trans (b6.mono hb5.size)
  obtain ⟨D, hD⟩ : ∃ D, D = Sha.dgs FS := ⟨_, rfl⟩
  have HDL : Hid ((u8s D).length = 32) := Lib.hid (by rw [u8s_length, hD, Sha.dgs_len])
  rw [← hD]
  have HDD := Lib.hid hD.symm
  clear hD hr5 hb5 b6
  go_wp2_with (refine wp_storeA 25 (.tmp 2) (.tmp 15) rfl rfl w.heap.size rfl 25 (u8s z32) (u8s D) rfl hr6 (by rw [info_dig, HDL.out]) (by rw [HDL.out]; rfl) (u8s_one _) rfl ?_; intro w8 hr8 hk8)
  have hb8 : Below w.heap.size w w8 := hb6.trans (hk8.below (fun q hq => by omega) hb6.size)
  refine ret_arr Tryd.results61 rfl w.heap.size 25 _ 32 5 rfl hr8 Tryd.underlying25 (by rw [info_dig, HDL.out]) ?_
  rw [HFS.out, HDD.out]
  exact ⟨rfl, hb8⟩
end

section
open Go.RowKit
set_option linter.unusedVariables false
set_option linter.unusedSimpArgs false

set_option maxRecDepth 100000 in
set_option maxHeartbeats 2000000 in
theorem rtagged_any (v : Value) (t l : List UInt8) (w : World) (hv : Bs w w.heap.size v l) (hk : KIs 2 w) (hi : InIs 0 w) (hl : l.length ≤ 90000) (ht : t.length ≤ 100000) :
    Calls Tryd.prog 37 #[str t, v] w fun e w' => e = .returned (.agg (u8s (Sha.tag t l)).toArray) ∧ Below w.heap.size w w' := by
  obtain ⟨A, cap, rfl⟩ := hv.form
  obtain ⟨T, hT⟩ : ∃ T, T = t.take 255 := ⟨_, rfl⟩
  obtain ⟨R, hR⟩ : ∃ R, R = Sha.tag t l := ⟨_, rfl⟩
  have HTG := Lib.hid (show R = Sha.sum (Sha.b8 T.length :: (T ++ l)) by rw [hR, hT]; rfl)
  have HDL : Hid ((u8s R).length = 32) := Lib.hid (by rw [u8s_length, hR, Sha.tag_len])
  rw [← hR]
  clear hR
  have hTl : T.length ≤ 255 := by rw [hT, List.length_take]; omega
  have hz := zero_dig
  unfold str
  have hor : (t.length ≤ 255 ∧ T = t) ∨ (255 < t.length ∧ (ByteArray.mk t.toArray).extract 0 255 = ⟨T.toArray⟩) := by
    by_cases h : t.length ≤ 255
    · exact Or.inl ⟨h, by rw [hT, List.take_of_length_le h]⟩
    · exact Or.inr ⟨by omega, by rw [extract_str, hT]⟩
  clear hT
  obtain ⟨W1, hW1⟩ : ∃ W1, W1 = w.alloc (.cells (u8s z32).toArray 25) := ⟨_, rfl⟩
  have hb1 : Below w.heap.size w W1 := by rw [hW1]; exact (Below.refl _ _).alloc (Nat.le_refl _) _
  have hr1 : Blk W1 w.heap.size 25 (u8s z32) := by rw [hW1]; exact Blk.new w _ _
  have hv1 := hv.past hb1
  have hk1 := hk.past hb1
  have hi1 := hi.past hb1
  have HW1 := Lib.hid hW1
  have hs1 : w.heap.size < W1.heap.size := hr1.lt
  clear hW1 hv hk hi
  have hlit : Own (W1.alloc (.cells #[.int .u8 (T.length : Int)] 5)) W1.heap.size (.slice (some ⟨W1.heap.size, 0, none⟩) 1 1) [Sha.b8 T.length] := by
    have h := own_lit_n W1 [Sha.b8 T.length] (by simp [maxLen])
    have e : (u8s [Sha.b8 T.length]).toArray = #[.int .u8 (T.length : Int)] := by
      simp only [u8s, List.map_cons, List.map_nil, u8, Sha.b8_nat]
      rw [Nat.mod_eq_of_lt (by omega)]
    rw [e] at h
    exact h
  have a1 : Below W1.heap.size W1 (W1.alloc (.cells #[.int .u8 (T.length : Int)] 5)) := (Below.refl _ _).alloc (Nat.le_refl _) _
  have e1 : [Sha.b8 T.length].length + T.length ≤ 140737488355328 := by simp; omega
  have e2 : ([Sha.b8 T.length] ++ T).length + l.length ≤ 140737488355328 := by simp; omega
  rcases hor with ⟨h255, hx⟩ | ⟨h255, hx⟩
  case' inl => subst hx
  all_goals
    go_enter Tryd.func37, Tryd.ntmps37
    go_upto_region 1 with (fail)
    rw [← HW1.out]
    go_upto_region 6 with (first
      | (refine wp_appstr W1.heap.size (.tmp 15) (.tmp 16) rfl rfl _ [Sha.b8 T.length] T rfl rfl hlit a1.size e1 ?_; intro v4 w4 ho4 hb4)
      | (refine wp_apps W1.heap.size (.tmp 18) (.tmp 19) rfl rfl v4 _ _ l rfl rfl ho4 (a1.trans hb4).size (hv1.carry (a1.trans hb4) (a1.trans hb4).size) e2 ?_; intro v5 w5 ho5 hb5))
    have hb15 : Below W1.heap.size W1 w5 := a1.trans (hb4.trans hb5)
    have hlist : [Sha.b8 T.length] ++ T ++ l = Sha.b8 T.length :: (T ++ l) := by simp
    rw [hlist] at ho5
    have hr5 := hr1.past hb15 hs1
    have hb05 : Below w.heap.size w w5 := hb1.trans (hb15.mono hb1.size)
    have hcall := rsum_any v5 (Sha.b8 T.length :: (T ++ l)) w5 ho5.bs (hk1.past hb15) (hi1.past hb15) (by simp; omega)
    rw [← HTG.out] at hcall
    have HCALL := Lib.hid hcall
    clear hcall ho4 ho5 hb4 hb5 hb15 hlist hz
    go_wp2_with fail
    refine HCALL.out.mono ?_
    rintro e w6 ⟨rfl, hb6⟩
    have hr6 := hr5.past hb6 hr5.lt
    have hb06 := hb05.trans (hb6.mono hb05.size)
    clear HCALL hr5 hb6
    go_wp2_with (refine wp_storeA 25 (.tmp 4) (.tmp 22) rfl rfl w.heap.size rfl 25 (u8s z32) _ rfl hr6 (by rw [info_dig, HDL.out]) (by rw [HDL.out]; rfl) (u8s_one _) rfl ?_; intro w8 hr8 hk8)
    have hb08 : Below w.heap.size w w8 := hb06.trans (hk8.below (fun q hq => by omega) hb06.size)
    refine ret_arr Tryd.results37 rfl w.heap.size 25 _ 32 5 rfl hr8 Tryd.underlying25 (by rw [info_dig, HDL.out]) ?_
    exact ⟨rfl, hb08⟩
end

section
open Go.RowKit
set_option linter.unusedVariables false
set_option linter.unusedSimpArgs false

set_option maxRecDepth 100000 in
set_option maxHeartbeats 1000000 in
theorem rchain_any (x : List UInt8) (n : Int) (w : World) (hx : x.length = 32) (hn : n ≤ 1000) (hn0 : -9223372036854775808 ≤ n) (hk : KIs 2 w) (hi : InIs 0 w) :
    Calls Tryd.prog 59 #[.agg (u8s x).toArray, .int .i64 n] w fun e w' => e = .returned (.agg (u8s (Sha.chain x n.toNat)).toArray) ∧ Below w.heap.size w w' := by
  have hz := zero_dig
  have HX := Lib.hid hx
  clear hx
  obtain ⟨W0, hW0⟩ : ∃ W0, W0 = (w.alloc (.cells (u8s x).toArray 25)).alloc (.cells (u8s z32).toArray 25) := ⟨_, rfl⟩
  have hb0 : Below w.heap.size w W0 := by rw [hW0]; exact ((Below.refl _ _).alloc (Nat.le_refl _) _).alloc (by simp) _
  have hx0 : Blk W0 w.heap.size 25 (u8s (Sha.chain x 0)) := by
    rw [hW0]
    exact (Blk.new w _ _).past ((Below.refl _ _).alloc (Nat.le_refl _) _) (by simp)
  have hr0 : Blk W0 (w.heap.size + 1) 25 (u8s z32) := by
    have h := Blk.new (w.alloc (.cells (u8s x).toArray 25)) 25 (u8s z32)
    rw [World.size_alloc] at h
    rw [hW0]; exact h
  have hs0 : w.heap.size + 1 < W0.heap.size := hr0.lt
  have HW0 := Lib.hid hW0
  clear hW0
  go_enter Tryd.func59, Tryd.ntmps59
  go_wp2_with fail
  rw [← HW0.out]
  clear hz
  go_loopw [5] (fun i wr => ∃ k : Nat, i = .int .i64 k ∧ k ≤ n.toNat ∧ Blk wr w.heap.size 25 (u8s (Sha.chain x k)) ∧ Blk wr (w.heap.size + 1) 25 (u8s z32) ∧ Below w.heap.size w wr) (fun i _ => n.toNat - (intOf i).toNat)
  case atStart => exact ⟨0, rfl, by omega, hx0, hr0, hb0⟩
  case round =>
    obtain ⟨k, rfl, hkn, hxk, hr, hb⟩ := hrel
    by_cases hlt : (k : Int) < n
    · have hcl := Sha.chain_len HX.out k
      have hc := rtagged_any (.slice (some ⟨w.heap.size, 0, none⟩) 32 32) Sha.stepT (Sha.chain x k) wr (dig_bs hxk hcl) (hk.past hb) (hi.past hb) (by rw [hcl]; omega) (by decide)
      have HC := Lib.hid (show _ from hc)
      have HCL := Lib.hid (show (u8s (Sha.chain x k)).length = 32 by rw [u8s_length, hcl])
      have HNL : Hid ((u8s (Sha.chain x (k + 1))).length = 32) := Lib.hid (by rw [u8s_length, Sha.chain_len HX.out])
      clear hc hcl
      go_wp2_with (refine wp_sliceA0 25 5 32 (.tmp 2) rfl rfl Tryd.underlying25 size_u8 w.heap.size rfl ?_)
      refine HC.out.mono ?_
      rintro e w2 ⟨rfl, hb2⟩
      have hx2 := hxk.past hb2 hxk.lt
      have hr2 := hr.past hb2 hr.lt
      have hb02 := hb.trans (hb2.mono hb.size)
      have hs2 : w.heap.size + 1 < w2.heap.size := hr2.lt
      obtain ⟨D, hD⟩ : ∃ D, D = Sha.chain x (k + 1) := ⟨_, rfl⟩
      rw [← hD] at HNL
      have hcd : Sha.tag Sha.stepT (Sha.chain x k) = D := by rw [hD]; rfl
      rw [hcd]
      have HD := Lib.hid hD
      clear hD hcd HC hxk hr hb hb2
      go_wp2_with (refine wp_storeA 25 (.tmp 2) (.tmp 12) rfl rfl w.heap.size rfl 25 (u8s (Sha.chain x k)) _ rfl hx2 (by rw [info_dig, HNL.out]) (by rw [HCL.out, HNL.out]) (u8s_one _) rfl ?_; intro w3 hx3 hk3)
      have hr3 := hr2.keep hk3 (by omega)
      have hb03 := hb02.trans (hk3.below (n := w.heap.size) (fun q hq => by omega) hb02.size)
      go_roundw
      case rel => exact ⟨k + 1, by go_num, by omega, by rw [← HD.out]; exact hx3, hr3, hb03⟩
      case measure => simp [intOf]; omega
    · obtain ⟨D, hD⟩ : ∃ D, D = Sha.chain x n.toNat := ⟨_, rfl⟩
      have hkk : k = n.toNat := by omega
      rw [hkk, ← hD] at hxk
      have HDL : Hid ((u8s D).length = 32) := Lib.hid (by rw [u8s_length, hD, Sha.chain_len HX.out])
      have HD := Lib.hid hD
      have hs1 : w.heap.size + 1 < wr.heap.size := hr.lt
      clear hD hkk
      go_upto_region 5 with (fail)
      refine wp_region_lit ?_
      refine wp_loadA 25 (.tmp 2) rfl rfl w.heap.size rfl 25 _ 32 5 hxk Tryd.underlying25 (by rw [info_dig, HDL.out]) ?_
      refine wp_storeA 25 (.tmp 4) (.tmp 13) rfl rfl (w.heap.size + 1) rfl 25 (u8s z32) _ rfl hr (by rw [info_dig, HDL.out]) (by rw [HDL.out]; rfl) (u8s_one _) rfl ?_
      intro w2 hr2 hk2
      have hbl2 := hb.trans (hk2.below (n := w.heap.size) (fun q hq => by omega) hb.size)
      clear hxk hr hb hk2
      go_wp2
      refine ret_arr Tryd.results59 rfl (w.heap.size + 1) 25 _ 32 5 rfl hr2 Tryd.underlying25 (by rw [info_dig, HDL.out]) ?_
      rw [HD.out]
      exact ⟨rfl, hbl2⟩
end
end Go.Proofs.YtccepoeenkpifaaDoor
