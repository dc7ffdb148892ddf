/-
  Walks of the reference's package for layer 3: the state out of a digest, the digest out of a state.
-/
import Derived.Test.YtglabhlgnbkeiaaDoorSrD
import Derived.Test.YtglabhlgnbkeiaaDoorShI
namespace Go.Proofs.YtglabhlgnbkeiaaDoor
open Go.RowKit
set_option linter.unusedVariables false
set_option linter.unusedSimpArgs false

def S0 : Sha.St := ⟨0, 0, 0, 0, 0, 0, 0, 0⟩
theorem stt_get (l : List UInt8) {k : Nat} (hk : k < 8) : (Sha.stt l).list[k]? = some (Sha.word l k) := by
  have h : k = 0 ∨ k = 1 ∨ k = 2 ∨ k = 3 ∨ k = 4 ∨ k = 5 ∨ k = 6 ∨ k = 7 := by omega
  rcases h with rfl | rfl | rfl | rfl | rfl | rfl | rfl | rfl <;> rfl
theorem stt_ok (l : List UInt8) : (Sha.stt l).ok := ⟨Sha.word_lt _ _, Sha.word_lt _ _, Sha.word_lt _ _, Sha.word_lt _ _, Sha.word_lt _ _, Sha.word_lt _ _, Sha.word_lt _ _, Sha.word_lt _ _⟩

set_option maxRecDepth 100000 in
set_option maxHeartbeats 2000000 in
theorem rstate_any (l : List UInt8) (w : World) (hl : l.length = 32) :
    Calls Tryd.prog 30 #[.agg (u8s l).toArray] w fun e w' => e = .returned (.agg (w32s (Sha.stt l).list).toArray) ∧ Below w.heap.size w w' := by
  have hz := zero_8
  obtain ⟨W0, hW0⟩ : ∃ W0, W0 = ((w.alloc (.cells (u8s l).toArray 25)).alloc (.cells (w32s z8).toArray 40)).alloc (.cells (w32s z8).toArray 40) := ⟨_, rfl⟩
  have h1 : Below w.heap.size w (w.alloc (.cells (u8s l).toArray 25)) := (Below.refl _ _).alloc (Nat.le_refl _) _
  have hb0 : Below w.heap.size w W0 := by rw [hW0]; exact (h1.alloc (by simp) _).alloc (by simp; omega) _
  have hx0 : Blk W0 w.heap.size 25 (u8s l) := by
    rw [hW0]
    exact ((Blk.new w _ _).past ((Below.refl _ _).alloc (Nat.le_refl _) _) (by simp)).past ((Below.refl _ _).alloc (Nat.le_refl _) _) (by simp; omega)
  have hr0 : Blk W0 (w.heap.size + 1) 40 (w32s z8) := by
    have h := Blk.new (w.alloc (.cells (u8s l).toArray 25)) 40 (w32s z8)
    rw [World.size_alloc] at h
    rw [hW0]
    exact h.past ((Below.refl _ _).alloc (Nat.le_refl _) _) (by simp)
  have hs0 : Blk W0 (w.heap.size + 2) 40 (w32s ((Sha.stt l).list.take 0 ++ S0.list.drop 0)) := by
    have h := Blk.new ((w.alloc (.cells (u8s l).toArray 25)).alloc (.cells (w32s z8).toArray 40)) 40 (w32s z8)
    rw [World.size_alloc, World.size_alloc] at h
    rw [hW0]
    exact h
  have HW0 := Lib.hid hW0
  have HL := Lib.hid hl
  clear hW0 h1 hl
  go_enter Tryd.func30, Tryd.ntmps30
  go_wp2_with fail
  rw [← HW0.out]
  clear hz
  obtain ⟨PL, hPL⟩ : ∃ PL, PL = Sha.stt l := ⟨_, rfl⟩
  have HG := Lib.hid (show ∀ k, k < 8 → PL.list[k]? = some (Sha.word l k) from fun k hk => by rw [hPL]; exact stt_get l hk)
  rw [← hPL] at hs0
  have HPL := Lib.hid hPL
  clear hPL
  go_loopw [4] (fun i wr => ∃ k : Nat, i = .int .i64 k ∧ k ≤ 8 ∧ Blk wr w.heap.size 25 (u8s l) ∧ Blk wr (w.heap.size + 1) 40 (w32s z8) ∧ Blk wr (w.heap.size + 2) 40 (w32s (PL.list.take k ++ S0.list.drop k)) ∧ Below w.heap.size w wr) (fun i _ => (8 - intOf i).toNat)
  case atStart => exact ⟨0, rfl, by omega, hx0, hr0, hs0, hb0⟩
  case round =>
    clear hx0 hr0 hs0 hb0
    obtain ⟨k, rfl, hk8, hx, hr, hs, hb⟩ := hrel
    by_cases hlt : k < 8
    · have hbs : Bs wr wr.heap.size (.slice (some ⟨w.heap.size, 4 * k, none⟩) (32 - 4 * k) (32 - 4 * k)) (l.drop (4 * k)) := by
        have h := hx.bs hx.lt (4 * k) (by rw [HL.out]; omega) (by rw [HL.out]; decide)
        rwa [HL.out] at h
      have hc := rword_b _ l k wr wr.heap.size hbs (by rw [HL.out]; omega)
      have HC := Lib.hid hc
      clear hc hbs
      go_wp2_with (refine wp_sliceA 25 5 32 (.tmp 1) (.tmp 11) rfl rfl Tryd.underlying25 size_u8 w.heap.size (4 * k) .i64 _ rfl rfl (by first | (push_cast; rfl) | (rw [IntKind.wrap_i64]; omega)) (by omega) ?_)
      refine HC.out.mono ?_
      rintro e w2 ⟨rfl, b2⟩
      have hx2 := hx.past b2 hx.lt
      have hr2 := hr.past b2 hr.lt
      have hs2 := hs.past b2 hs.lt
      have hb2 := hb.trans (b2.mono hb.size)
      have hsz : w.heap.size + 2 < w2.heap.size := hs2.lt
      clear HC hx hr hs hb b2
      obtain ⟨u, hu⟩ : ∃ u, (w32s (PL.list.take k ++ S0.list.drop k))[k]? = some u := ⟨_, List.getElem?_eq_getElem (by rw [w32s_length, List.length_append, List.length_take, List.length_drop, PL.list_len, S0.list_len]; omega)⟩
      have hc := hs2.cell hu
      have hf := hs2.frozen k
      obtain ⟨x, hxw⟩ : ∃ x, x = Sha.word l k := ⟨_, rfl⟩
      have hput := hs2.set k (w32 x)
      rw [← w32s_set, mix_set PL S0 hlt (by rw [HG.out k hlt, hxw])] at hput
      have kp := Keep.setCell w2 ⟨w.heap.size + 2, k, none⟩ (w32 x) (O := fun q => q ≠ w.heap.size + 2) (fun h => h rfl)
      have hx3 := hx2.keep kp (by omega)
      have hr3 := hr2.keep kp (by omega)
      have hb3 : Below w.heap.size w (w2.setCell ⟨w.heap.size + 2, k, none⟩ (w32 x)) := hb2.setCell (by simp) _
      rw [← hxw]
      clear hu hx2 hr2 hs2 hb2 kp hxw
      go_wp2
      go_roundw
      case rel => exact ⟨k + 1, by go_num, by omega, hx3, hr3, hput, hb3⟩
      case measure => simp [intOf]; omega
    · have hsf : Blk wr (w.heap.size + 2) 40 (w32s PL.list) := by
        have h := hs
        rw [show k = 8 by omega] at h
        exact h
      have hsz : w.heap.size + 2 < wr.heap.size := hs.lt
      clear hs hx
      go_upto_region 6 with (fail)
      refine wp_region_lit ?_
      refine wp_loadA 40 (.tmp 3) rfl rfl (w.heap.size + 2) rfl 40 _ 8 39 hsf Tryd.underlying40 (by rw [info_8, st_len]) ?_
      refine wp_storeA 40 (.tmp 2) (.tmp 15) rfl rfl (w.heap.size + 1) rfl 40 (w32s z8) (w32s PL.list) rfl hr (by rw [info_8, st_len]) rfl (w32s_one _) rfl ?_
      intro w9 hr9 hk9
      have hbl9 := hb.trans (hk9.below (n := w.heap.size) (fun q hq => by omega) hb.size)
      clear hsf hr hb hk9
      go_wp2
      refine ret_arr Tryd.results30 rfl (w.heap.size + 1) 40 _ 8 39 rfl hr9 Tryd.underlying40 (by rw [info_8, st_len]) ?_
      rw [HPL.out]
      exact ⟨rfl, hbl9⟩
end Go.Proofs.YtglabhlgnbkeiaaDoor
