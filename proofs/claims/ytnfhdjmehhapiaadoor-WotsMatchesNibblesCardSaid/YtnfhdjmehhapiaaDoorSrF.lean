/-
  Walks of the reference's package for layer 3: the digest out of a state.
-/
import Derived.Test.YtnfhdjmehhapiaaDoorSrD
import Derived.Test.YtnfhdjmehhapiaaDoorShI
namespace Go.Proofs.YtnfhdjmehhapiaaDoor
open Go.RowKit
set_option linter.unusedVariables false
set_option linter.unusedSimpArgs false

theorem dgs_get (s : Sha.St) {q r x : Nat} (hq : q < 8) (hr : r < 4) (hx : s.list[q]? = some x) : (Sha.dgs s)[4 * q + r]? = some (Sha.b8 (x / 2 ^ (24 - 8 * r))) := by
  obtain ⟨a, b, c, d, e, f, g, h⟩ := s
  have h1 : q = 0 ∨ q = 1 ∨ q = 2 ∨ q = 3 ∨ q = 4 ∨ q = 5 ∨ q = 6 ∨ q = 7 := by omega
  have h2 : r = 0 ∨ r = 1 ∨ r = 2 ∨ r = 3 := by omega
  rcases h1 with rfl | rfl | rfl | rfl | rfl | rfl | rfl | rfl <;> (simp [Sha.St.list] at hx; subst hx; rcases h2 with rfl | rfl | rfl | rfl <;> simp [Sha.dgs, Sha.be4])

set_option maxRecDepth 100000 in
set_option maxHeartbeats 2000000 in
theorem rdigest_any (s : Sha.St) (w : World) (hs : s.ok) :
    Calls Tryd.prog 61 #[.agg (w32s s.list).toArray] w fun e w' => e = .returned (.agg (u8s (Sha.dgs s)).toArray) ∧ Below w.heap.size w w' := by
  have hz := zero_dig
  obtain ⟨W0, hW0⟩ : ∃ W0, W0 = ((w.alloc (.cells (w32s s.list).toArray 63)).alloc (.cells (u8s z32).toArray 23)).alloc (.cells (u8s z32).toArray 23) := ⟨_, rfl⟩
  have h1 : Below w.heap.size w (w.alloc (.cells (w32s s.list).toArray 63)) := (Below.refl _ _).alloc (Nat.le_refl _) _
  have hb0 : Below w.heap.size w W0 := by rw [hW0]; exact (h1.alloc (by simp) _).alloc (by simp; omega) _
  have hx0 : Blk W0 w.heap.size 63 (w32s s.list) := by
    rw [hW0]
    exact ((Blk.new w _ _).past ((Below.refl _ _).alloc (Nat.le_refl _) _) (by simp)).past ((Below.refl _ _).alloc (Nat.le_refl _) _) (by simp; omega)
  have hr0 : Blk W0 (w.heap.size + 1) 23 (u8s z32) := by
    have h := Blk.new (w.alloc (.cells (w32s s.list).toArray 63)) 23 (u8s z32)
    rw [World.size_alloc] at h
    rw [hW0]
    exact h.past ((Below.refl _ _).alloc (Nat.le_refl _) _) (by simp)
  obtain ⟨D, hD⟩ : ∃ D, D = Sha.dgs s := ⟨_, rfl⟩
  have hDl : D.length = 32 := by rw [hD, Sha.dgs_len]
  have HG := Lib.hid (show ∀ q r x, q < 8 → r < 4 → s.list[q]? = some x → D[4 * q + r]? = some (Sha.b8 (x / 2 ^ (24 - 8 * r))) from fun q r x h1 h2 h3 => by rw [hD]; exact dgs_get s h1 h2 h3)
  have hs0 : Blk W0 (w.heap.size + 2) 23 (u8s (D.take 0 ++ z32.drop 0)) := by
    have h := Blk.new ((w.alloc (.cells (w32s s.list).toArray 63)).alloc (.cells (u8s z32).toArray 23)) 23 (u8s z32)
    rw [World.size_alloc, World.size_alloc] at h
    rw [hW0]
    exact h
  have HW0 := Lib.hid hW0
  have HDL := Lib.hid hDl
  rw [← hD]
  have HXB := Lib.hid (show ∀ q x, s.list[q]? = some x → x < 4294967296 from fun q x hx => by
    obtain ⟨h1, h2, h3, h4, h5, h6, h7, h8⟩ := hs
    have hm := List.mem_of_getElem? hx
    simp only [Sha.St.list, List.mem_cons, List.not_mem_nil, or_false] at hm
    rcases hm with rfl | rfl | rfl | rfl | rfl | rfl | rfl | rfl <;> assumption)
  clear hW0 h1 hDl hD hs
  go_enter Tryd.func61, Tryd.ntmps61
  go_wp2_with fail
  rw [← HW0.out]
  clear hz
  go_loopw [4] (fun i wr => ∃ k : Nat, i = .int .i64 k ∧ k ≤ 32 ∧ Blk wr w.heap.size 63 (w32s s.list) ∧ Blk wr (w.heap.size + 1) 23 (u8s z32) ∧ Blk wr (w.heap.size + 2) 23 (u8s (D.take k ++ z32.drop k)) ∧ Below w.heap.size w wr) (fun i _ => (32 - intOf i).toNat)
  case atStart => exact ⟨0, rfl, by omega, hx0, hr0, hs0, hb0⟩
  case round =>
    clear hx0 hr0 hs0 hb0
    obtain ⟨k, rfl, hk8, hx, hr, hs, hb⟩ := hrel
    by_cases hlt : k < 32
    · obtain ⟨q, r, hq, hr4, hkq⟩ : ∃ q r, q < 8 ∧ r < 4 ∧ k = 4 * q + r := ⟨k / 4, k % 4, by omega, by omega, by omega⟩
      obtain ⟨x, hxq⟩ : ∃ x, s.list[q]? = some x := ⟨_, List.getElem?_eq_getElem (by rw [s.list_len]; exact hq)⟩
      have hxl := HXB.out q x hxq
      have hcx : wr.cell? ⟨w.heap.size, q, none⟩ = some (.int .u32 x) := by
        refine hx.cell ?_
        unfold w32s
        rw [List.getElem?_map, hxq]; rfl
      have hDk := HG.out q r x hq hr4 hxq
      rw [← hkq] at hDk
      obtain ⟨b, hb8⟩ : ∃ b, b = Sha.b8 (x / 2 ^ (24 - 8 * r)) := ⟨_, rfl⟩
      rw [← hb8] at hDk
      have hbv : ((b.toNat : Nat) : Int) = (((x / 2 ^ (24 - 8 * r)) % 256 : Nat) : Int) := by rw [hb8, Sha.b8_nat]
      have hsz : w.heap.size + 2 < wr.heap.size := hs.lt
      obtain ⟨u, hu⟩ : ∃ u, (u8s (D.take k ++ z32.drop k))[k]? = some u := ⟨_, List.getElem?_eq_getElem (by rw [u8s_length, List.length_append, List.length_take, List.length_drop, HDL.out]; show k < min k 32 + (32 - k); omega)⟩
      have hc := hs.cell hu
      have hf := hs.frozen k
      have hput := hs.set k (Go.Proofs.YtnfhdjmehhapiaaDoor.u8 b)
      have hset : (D.take k ++ z32.drop k).set k b = D.take (k + 1) ++ z32.drop (k + 1) := by
        have hlen : (D.take k).length = k := by rw [List.length_take, HDL.out]; omega
        rw [List.set_append_right (h := by omega), hlen, Nat.sub_self, List.take_add_one, hDk, List.append_assoc]
        rw [List.drop_eq_getElem_cons (show k < z32.length from hlt)]
        rfl
      rw [← u8s_set, hset] at hput
      have kp := Keep.setCell wr ⟨w.heap.size + 2, k, none⟩ (Go.Proofs.YtnfhdjmehhapiaaDoor.u8 b) (O := fun q => q ≠ w.heap.size + 2) (fun h => h rfl)
      have hx3 := hx.keep kp (by omega)
      have hr3 := hr.keep kp (by omega)
      have hb3 : Below w.heap.size w (wr.setCell ⟨w.heap.size + 2, k, none⟩ (Go.Proofs.YtnfhdjmehhapiaaDoor.u8 b)) := hb.setCell (by simp) _
      have HDK := Lib.hid hDk
      have HKQ := Lib.hid hkq
      clear hu hx hr hs hb kp hxq hDk hb8 hset
      have e1 : (k : Int).tdiv 4 = (q : Int) := by rw [Int.tdiv_eq_ediv_of_nonneg (by omega)]; omega
      have e2 : (k : Int).tmod 4 = (r : Int) := by rw [Int.tmod_eq_emod_of_nonneg (by omega)]; omega
      have e3 : (k : Int) / 4 = (q : Int) := by omega
      have e4 : (k : Int) % 4 = (r : Int) := by omega
      have hq' : (q : Int) < 8 := by omega
      clear hkq
      go_wp2
      have hval : Value.int .u8 ((x : Int) / 2 ^ (24 - 8 * r) % 256) = Go.Proofs.YtnfhdjmehhapiaaDoor.u8 b := by
        unfold Go.Proofs.YtnfhdjmehhapiaaDoor.u8
        rw [hbv]
        congr 1
      rw [hval]
      go_roundw
      case rel => exact ⟨k + 1, by go_num, by omega, hx3, hr3, hput, hb3⟩
      case measure => simp [intOf]; omega
    · have hsf : Blk wr (w.heap.size + 2) 23 (u8s D) := by
        have h := hs
        rw [show k = 32 by omega, List.take_of_length_le (by rw [HDL.out]; omega)] at h
        simpa [z32] using h
      have HUD : Hid ((u8s D).length = 32) := Lib.hid (by rw [u8s_length, HDL.out])
      have hsz : w.heap.size + 2 < wr.heap.size := hs.lt
      clear hs hx
      go_upto_region 6 with (fail)
      refine wp_region_lit ?_
      refine wp_loadA 23 (.tmp 3) rfl rfl (w.heap.size + 2) rfl 23 _ 32 5 hsf Tryd.underlying23 (by rw [info_dig, HUD.out]) ?_
      refine wp_storeA 23 (.tmp 2) (.tmp 22) rfl rfl (w.heap.size + 1) rfl 23 (u8s z32) (u8s D) rfl hr (by rw [info_dig, HUD.out]) (by rw [HUD.out]; rfl) (u8s_one _) rfl ?_
      intro w9 hr9 hk9
      have hbl9 := hb.trans (hk9.below (n := w.heap.size) (fun q hq => by omega) hb.size)
      clear hsf hr hb hk9
      go_wp2
      refine ret_arr Tryd.results61 rfl (w.heap.size + 1) 23 _ 32 5 rfl hr9 Tryd.underlying23 (by rw [info_dig, HUD.out]) ?_
      exact ⟨rfl, hbl9⟩
end Go.Proofs.YtnfhdjmehhapiaaDoor
