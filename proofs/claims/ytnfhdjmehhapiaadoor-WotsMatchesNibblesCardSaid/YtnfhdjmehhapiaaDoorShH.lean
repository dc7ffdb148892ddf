/-
  Walks of package sha256: each block.
-/
import Derived.Test.YtnfhdjmehhapiaaDoorShG
import Derived.Scope
import Derived.Shelf.Abstract
namespace Go.Proofs.YtnfhdjmehhapiaaDoor
open Go.RowKit Go.Shelf
attribute [local go_sem] Oper.semAt_some
set_option linter.unusedVariables false
set_option linter.unusedSimpArgs false

theorem Keep.wide {O : Nat → Prop} {w w' : World} (h : Keep (fun q => O q ∧ q < w.heap.size) w w') : Keep O w w' := ⟨h.os, h.tape, h.output, h.size, fun k hk hl => h.block k ⟨hk, hl⟩ hl⟩

set_option maxRecDepth 100000 in
set_option maxHeartbeats 1000000 in
theorem each_any (sb : Nat) (s : Sha.St) (v : Value) (d : List UInt8) (m : Nat) (w : World) (hb : Blk w sb 64 (w32s s.list)) (hs : s.ok) (hk : KIs 0 w) (hkg : 0 ≠ sb)
    (hv : Bs w w.heap.size v d) (hvT : AtT (fun b => b ≠ sb) v) (hm : d.length = 64 * m) (hl : d.length ≤ 1000000000) :
    Calls Tryd.prog 46 #[v, .func (.func 47) #[.pointer (some ⟨sb, 0, none⟩)] #[]] w fun e w' => (∃ v, e = .returned v) ∧ Blk w' sb 64 (w32s (Sha.blks m s d).list) ∧ Keep (fun q => q ≠ sb) w w' := by
  obtain ⟨A, cap, rfl⟩ := hv.form
  refine (callsIn_wide (n := 0)).1 ?_
  refine callsIn_of_wp_marks Tryd.func46 rfl trivial ?_ rfl
  simp only [Tryd.ntmps46, List.size_toArray, List.length_cons, List.length_nil, Nat.reduceAdd, Nat.reduceSub, Array.replicate_succ, Array.replicate_zero, List.push_toArray, List.append_toArray, List.nil_append, List.cons_append]
  obtain ⟨L, hL⟩ : ∃ L, L = d.length := ⟨_, rfl⟩
  have HL := Lib.hid hL
  have HM := Lib.hid hm
  rw [← hL] at hv hvT hl ⊢
  clear hL hm
  gi_wp2_with fail
  refine ⟨trivial, rfl, (callsIn_wide.2 (chunk_any A L cap _)).mono ?_⟩
  rintro e w3 ⟨rfl, rfl⟩
  obtain ⟨W, hW⟩ : ∃ W, W = ((w.alloc (.cells #[.func (.func 47) #[.pointer (some ⟨sb, 0, none⟩)] #[]] 67)).alloc (.cells #[.slice A L cap] 29)).alloc (.cells #[.int .i64 64] 3) := ⟨_, rfl⟩
  have h01 : Below w.heap.size w (w.alloc (.cells #[.func (.func 47) #[.pointer (some ⟨sb, 0, none⟩)] #[]] 67)) := (Below.refl _ _).alloc (Nat.le_refl _) _
  have hbl : Below w.heap.size w W := by rw [hW]; exact (h01.alloc (by simp) _).alloc (by simp; omega) _
  have hsW : W.heap.size = w.heap.size + 3 := by rw [hW]; simp
  have cf : W.cell? ⟨w.heap.size, 0, none⟩ = some (.func (.func 47) #[.pointer (some ⟨sb, 0, none⟩)] #[]) := by
    rw [hW]
    refine cell_past (cell_past ?_ ((Below.refl _ _).alloc (Nat.le_refl _) _)) ((Below.refl _ _).alloc (Nat.le_refl _) _)
    rw [cell_of_row _ _ 0 _ _ _ (heap_alloc_new _ _)]; rfl
  have cb : W.cell? ⟨w.heap.size + 1, 0, none⟩ = some (.slice A L cap) := by
    rw [hW]
    refine cell_past ?_ ((Below.refl _ _).alloc (Nat.le_refl _) _)
    have h := cell_of_row _ _ 0 _ _ _ (heap_alloc_new (w.alloc (.cells #[.func (.func 47) #[.pointer (some ⟨sb, 0, none⟩)] #[]] 67)) (.cells #[.slice A L cap] 29))
    rw [World.size_alloc] at h
    rw [h]; rfl
  have cn : W.cell? ⟨w.heap.size + 2, 0, none⟩ = some (.int .i64 64) := by
    have h := cell_of_row _ _ 0 _ _ _ (heap_alloc_new ((w.alloc (.cells #[.func (.func 47) #[.pointer (some ⟨sb, 0, none⟩)] #[]] 67)).alloc (.cells #[.slice A L cap] 29)) (.cells #[.int .i64 64] 3))
    rw [World.size_alloc, World.size_alloc] at h
    rw [hW, h]; rfl
  have hsb := hb.lt
  have hbW := hb.past hbl hsb
  have hkW := hk.past hbl
  have hvW := hv.carry hbl hbl.size
  have hgl : ∀ t, t < 64 → 0 < w.heap.size := fun t ht => block_lt_of_cell (hk t ht)
  have hg1 := hgl 0 (by omega)
  gi_wp2_with fail
  change Code.wpIn _ _ _ _ _ _ (((w.alloc _).alloc _).alloc _)
  rw [← hW]
  have HSW := Lib.hid hsW
  have hsW' : w.heap.size + 3 ≤ W.heap.size := by omega
  clear hW h01 hsW hgl
  refine wp_rangeK (gf := 63) (lb := #[.pointer (some ⟨w.heap.size + 1, 0, none⟩), .pointer (some ⟨w.heap.size + 2, 0, none⟩)]) (T := fun b => b ≠ sb ∧ b < W.heap.size) (Item := ItemT fun b => b ≠ sb ∧ b < W.heap.size) (items := chunks d) rfl (enters_of Tryd.func63 (by kernel_rfl) rfl) (fun b h => h.2)
    ?hItem ?hseq
    (fun B k W1 => Blk W1 sb 64 (w32s (Sha.blks k s d).list) ∧ Keep (fun q => q ≠ sb ∧ q < W.heap.size) W W1) ?h0 ?hI
    (fun v => { tmps := #[.slice A L cap, .func (.func 47) #[.pointer (some ⟨sb, 0, none⟩)] #[], undef, .pointer (some ⟨w.heap.size, 0, none⟩), v, .slice A L cap, .func (.func 63) #[] #[.pointer (some ⟨w.heap.size + 1, 0, none⟩), .pointer (some ⟨w.heap.size + 2, 0, none⟩)], v, undef, undef, undef], defers := [] }) ?hassign ?hbody ?hdone
  case hItem =>
    rintro B v x W4 W5 hn ⟨hit, hT⟩ hk
    exact ⟨hit.keepT hT hk (fun b hb => Or.inl hb) hk.size, hT⟩
  case hseq =>
    intro W4 hb4
    have h4 := hb4.size
    exact chunk_gives (fun b => b ≠ sb ∧ b < W.heap.size) (w.heap.size + 1) (w.heap.size + 2) (.slice A L cap) d m W4 (cell_past cb hb4) (cell_past cn hb4) ⟨by omega, by omega⟩ ⟨by omega, by omega⟩ (hvW.past hb4)
      (fun a n c e h0 => ⟨hvT a n c e h0, AtT.of_bs hvW a n c e h0⟩) HM.out (by rw [← HL.out]; exact hl)
  case h0 =>
    intro W4 hb4
    exact ⟨hbW.past hb4 (by omega), Keep.of_below hb4⟩
  case hI =>
    rintro B k W4 W5 hB ⟨h1, h2⟩ hk
    refine ⟨h1.keep hk (Or.inl (by omega)), h2.trans (hk.mono fun q hq => Or.inl hq.2)⟩
  case hassign =>
    intro l' v W4 K hK
    gi_wp2
    exact hK
  case hdone =>
    rintro D B W4 hD hDB hBW ⟨h1, h2⟩ hd
    have hlen : (chunks d).length = m := by rw [chunks_len, HM.out]; omega
    rw [hlen] at h1
    have hp : ∀ O : Nat → Prop, ¬ O D → Keep O W4 (W4.putObj D (.deferred none)) := fun O hO => Keep.putObj _ _ _ hO
    have h9 := h1.keep (hp (fun q => q ≠ D) (fun h => h rfl)) (by omega)
    have hk9 : Keep (fun q => q ≠ sb) w (W4.putObj D (.deferred none)) := by
      refine Keep.wide ?_
      refine (Keep.of_below hbl).trans ?_
      refine ((h2.trans (hp _ (fun h => by omega))).mono fun q hq => ⟨hq.1, by omega⟩)
    have H9 := Lib.hid h9
    clear hlen h1 h2 hp h9
    gi_wp2_with fail
    show LeavesInM _ _ _ _ _ _ _ _ _
    refine ⟨by simp, .inl ⟨_, _, rfl, run_takeDeferred hd, ?_⟩⟩
    exact ⟨_, results_none rfl _ _ _, ⟨_, rfl⟩, H9.out, hk9⟩
  case hbody =>
    rintro l' B k x v W4 hB hBW ⟨h1, h2⟩ hx ⟨hit, hT⟩
    have cf4 := h2.cell (p := ⟨w.heap.size, 0, none⟩) ⟨show w.heap.size ≠ sb by omega, show w.heap.size < W.heap.size by omega⟩ cf
    have hkl : k < d.length / 64 := by rw [← chunks_len]; exact (List.getElem?_eq_some_iff.1 hx).1
    have hxe : x = (d.drop (64 * k)).take 64 := by
      have h := chunks_get d hkl
      rw [hx] at h
      exact Option.some.inj h
    have hxl : x.length = 64 := by rw [hxe, List.length_take, List.length_drop]; omega
    have hk4 : KIs 0 W4 := hkW.keep h2 ⟨hkg, by omega⟩
    have hcall := compress_any sb (Sha.blks k s d) v x W4 hit hxl (Sha.blks_ok k d hs) h1 hk4
    rw [hxe, ← Sha.blks_snoc] at hcall
    have HC := Lib.hid hcall
    clear hcall hxl hk4 hx
    gi_wp2_with fail
    refine ⟨trivial, rfl, (CallsIn.inRound l' (callsIn_wide.2 HC.out)).mono ?_⟩
    rintro e w7 ⟨⟨ve, rfl⟩, hb7, hk7⟩
    clear HC
    gi_wp2_with fail
    exact ⟨rfl, ⟨hb7, h2.trans (hk7.mono fun q hq => hq.1)⟩, hk7.mono fun q hq => Or.elim hq (fun h => h.1) (fun h => by omega)⟩
end Go.Proofs.YtnfhdjmehhapiaaDoor
