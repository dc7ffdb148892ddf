/-
  Walks of package sha256: the iterator over the blocks; each block.
-/
import Derived.Test.YtnfhdjmehhapiaaDoorShF
import Derived.Test.YtnfhdjmehhapiaaDoorRgk
import Derived.RegionIn
import Derived.BigRegionIn
namespace Go.Proofs.YtnfhdjmehhapiaaDoor
open Go.RowKit
attribute [local go_sem] Oper.semAt_some
set_option linter.unusedVariables false
set_option linter.unusedSimpArgs false

/-- The blocks of a text. -/
def chunks (d : List UInt8) : List (List UInt8) := (List.range (d.length / 64)).map fun j => (d.drop (64 * j)).take 64
theorem chunks_len (d : List UInt8) : (chunks d).length = d.length / 64 := by simp [chunks]
theorem chunks_get (d : List UInt8) {j : Nat} (h : j < d.length / 64) : (chunks d)[j]? = some ((d.drop (64 * j)).take 64) := by simp [chunks, h]

def ItemT (T : Nat → Prop) (B : Nat) (w : World) (v : Value) (x : List UInt8) : Prop := Bs w w.heap.size v x ∧ AtT T v

theorem run_from (db o L cap p : Nat) (hp : p < L) (hc : L ≤ cap) (w : World) :
    (Instr.sliceAt 29 (.slice (some ⟨db, o, none⟩) L cap) (some (.int .i64 (p : Int))) none none).run Tryd.prog w = .ok (.slice (some ⟨db, o + p, none⟩) (L - p) (cap - p)) w := by
  have ht := Tryd.underlying29
  have hel : Tryd.prog.elem 29 = 5 := by simp [Program.elem, ht]
  have ht' : Tryd.prog.underlying 29 = some (.slice (Tryd.prog.elem 29)) := by rw [hel]; exact ht
  obtain ⟨info, hin, hsz⟩ := Option.map_eq_some_iff.1 size_u8
  rw [run_sliceAt_slice (h := ht'), run_slice_l (ht := ht') (h0 := by omega) (h1 := by omega)]
  have hne : ¬ cap = p := by omega
  simp [hel, sizeOf, typeInfo, hin, hsz, Result.andThen, sliced, hne, add_addr]
theorem run_part (db o L cap p q : Nat) (hp : p < q) (hq : q ≤ L) (hc : L ≤ cap) (w : World) :
    (Instr.sliceAt 29 (.slice (some ⟨db, o, none⟩) L cap) (some (.int .i64 (p : Int))) (some (.int .i64 (q : Int))) (some (.int .i64 (q : Int)))).run Tryd.prog w = .ok (.slice (some ⟨db, o + p, none⟩) (q - p) (q - p)) w := by
  have ht := Tryd.underlying29
  have hel : Tryd.prog.elem 29 = 5 := by simp [Program.elem, ht]
  have ht' : Tryd.prog.underlying 29 = some (.slice (Tryd.prog.elem 29)) := by rw [hel]; exact ht
  obtain ⟨info, hin, hsz⟩ := Option.map_eq_some_iff.1 size_u8
  rw [run_sliceAt_slice (h := ht'), run_slice_lhm (ht := ht') (h0 := by omega) (h1 := by omega) (h2 := by omega) (h3 := by omega)]
  have hne : ¬ q = p := by omega
  simp [hel, sizeOf, typeInfo, hin, hsz, Result.andThen, sliced, hne, add_addr]

set_option maxRecDepth 100000 in
set_option maxHeartbeats 1000000 in
theorem chunk_gives (T : Nat → Prop) (bb nb : Nat) (v0 : Value) (d : List UInt8) (m : Nat) (W : World) (hbb : W.cell? ⟨bb, 0, none⟩ = some v0) (hnb : W.cell? ⟨nb, 0, none⟩ = some (.int .i64 64)) (hTb : T bb) (hTn : T nb)
    (hv : Bs W W.heap.size v0 d) (hvT : AtT T v0) (hm : d.length = 64 * m) (hl : d.length ≤ 1000000000) :
    GivesK Tryd.prog 63 #[.pointer (some ⟨bb, 0, none⟩), .pointer (some ⟨nb, 0, none⟩)] (ItemT T) (chunks d) T W := by
  intro l J h1 h2 h3
  refine callsIn_of_wp Tryd.func63 rfl trivial ?_ rfl
  simp only [Tryd.ntmps63, List.size_toArray, List.length_cons, List.length_nil, Nat.reduceAdd, Nat.reduceSub, Array.replicate_succ, Array.replicate_zero, List.push_toArray, List.append_toArray, List.nil_append, List.cons_append]
  have hJ := h1 W (Below.refl _ _)
  obtain ⟨A, cap, rfl⟩ := hv.form
  have hcap0 : d.length ≤ cap := Row.cap (show Row W W.heap.size 1 d.length (.slice A d.length cap) (u8s d) from hv)
  obtain ⟨L, hL⟩ : ∃ L, L = d.length := ⟨_, rfl⟩
  have HL := Lib.hid hL
  have HM := Lib.hid hm
  rw [← hL] at hv hvT hbb hl
  have hcap : L ≤ cap := by omega
  clear hL hm hcap0
  gi_wp2_with fail
  gi_loopw [4] (fun i wr => ∃ (p j : Nat), i = .int .i64 p ∧ Hid (p = 64 * j) ∧ p ≤ L ∧ J W.heap.size j wr ∧ W.heap.size ≤ wr.heap.size ∧ wr.cell? ⟨bb, 0, none⟩ = some (.slice A L cap) ∧ wr.cell? ⟨nb, 0, none⟩ = some (.int .i64 64) ∧ Bs wr wr.heap.size (.slice A L cap) d) (fun i _ => (L - intOf i).toNat)
  case atStart => exact ⟨0, 0, rfl, Lib.hid rfl, by omega, hJ, Nat.le_refl _, hbb, hnb, hv⟩
  case round =>
    obtain ⟨p, j, rfl, HPJ, hpL, hJr, hsr, hbr, hnr, hvr⟩ := hrel
    by_cases hlt : p < L
    · obtain ⟨db, o, cap', hve, hdb, _, hcells⟩ := hvr.addr (by have := HL.out; omega)
      injection hve with e1 e2 e3
      subst e1 e3
      clear e2
      have hTd : T db := hvT _ _ _ rfl (by omega)
      have hp64 : p + 64 ≤ L := by have := HPJ.out; have := HM.out; have := HL.out; omega
      have hs1 := run_from db o L cap p hlt hcap
      have hs2 := run_part db o L cap p (p + 64) (by omega) hp64 hcap
      gi_wp2_with fail
      gi_region
      have hbd : Below wr.heap.size wr wr.drew := (Below.refl _ _).drew
      have hJ2 := h2 W.heap.size j wr wr.drew (Nat.le_refl _) hJr (Keep.of_below hbd)
      have hv2 := hvr.past hbd
      have hb2 := cell_past hbr hbd
      have hn2 := cell_past hnr hbd
      obtain ⟨w2, hw2⟩ : ∃ w2, w2 = wr.drew := ⟨_, rfl⟩
      rw [← hw2] at hJ2 hv2 hb2 hn2 ⊢
      have hs2' : W.heap.size ≤ w2.heap.size := by rw [hw2]; exact hsr
      have hitem : ItemT T W.heap.size w2 (.slice (some ⟨db, o + p, none⟩) 64 64) ((d.drop (64 * j)).take 64) := by
        have hlen : ((d.drop (64 * j)).take 64).length = 64 := by rw [List.length_take, List.length_drop, ← HL.out, ← HPJ.out]; omega
        refine ⟨?_, fun a n c e _ => ?_⟩
        · refine ⟨some ⟨db, o + p, none⟩, 64, by rw [hlen], by omega, by simp [maxLen], (fun h => by cases h), by rw [u8s_length, hlen], fun a ha _ => ?_⟩
          obtain rfl : (⟨db, o + p, none⟩ : Addr) = a := by injection ha
          obtain ⟨ad, had, hb, hc⟩ := Row.at_ (show Row w2 _ 1 L (.slice (some ⟨db, o, none⟩) L cap) (u8s d) from by have h := hv2; unfold Bs at h; rwa [← HL.out] at h) (by omega)
          obtain rfl : (⟨db, o, none⟩ : Addr) = ad := by injection had
          refine ⟨hb, fun i u hu => ?_⟩
          have h := hc (p + i) u (by
            rw [← hu]
            have hi : i < 64 := by have := (List.getElem?_eq_some_iff.1 hu).1; rwa [u8s_length, hlen] at this
            simp [u8s, List.getElem?_take, hi, HPJ.out])
          rw [add_addr] at h ⊢
          rwa [show o + p + i = o + (p + i) by omega]
        · injection e with e1 _ _
          injection e1 with e1
          rw [← e1]; exact hTd
      have hj : j < d.length / 64 := by have := HPJ.out; have := HL.out; omega
      obtain ⟨fn, tmps, assign, body, hy, hR⟩ := h3 W.heap.size j _ w2 _ (Nat.le_refl _) hs2' hJ2 (chunks_get d hj) hitem
      clear hw2 hJr hvr hbr hnr hcells hbd hs1 hsr hitem
      gi_wp2_with fail
      refine ⟨rfl, hR.mono ?_⟩
      rintro e w3 ⟨rfl, hJ3, hk3⟩
      have hs3 := hk3.size
      have hb3 := hk3.cell (p := ⟨bb, 0, none⟩) (Or.inl hTb) hb2
      have hn3 := hk3.cell (p := ⟨nb, 0, none⟩) (Or.inl hTn) hn2
      have hv3 := hv2.keepT hvT hk3 (fun b hb => Or.inl hb) hs3
      clear hy hR hk3 hJ2 hb2 hn2 hv2 hs2
      gi_wp2_with fail
      go_roundw
      case rel => exact ⟨p + 64, j + 1, by go_num, Lib.hid (by have := HPJ.out; omega), hp64, hJ3, by omega, hb3, hn3, hv3⟩
      case measure => simp [intOf]; omega
    · have hjm : j = (chunks d).length := by rw [chunks_len]; have := HPJ.out; have := HL.out; have := HM.out; omega
      have HJ := Lib.hid hjm
      clear hjm
      gi_wp2_with fail
      go_end0
      exact ⟨⟨_, rfl⟩, W.heap.size, Nat.le_refl _, hsr, by rw [← HJ.out]; exact hJr⟩

theorem chunk_any (A : Option Addr) (n c : Nat) (w : World) : Calls Tryd.prog 53 #[.slice A n c, .int .i64 64] w fun e w' => e = .returned (.func (.func 63) #[] #[.pointer (some ⟨w.heap.size, 0, none⟩), .pointer (some ⟨w.heap.size + 1, 0, none⟩)]) ∧ w' = (w.alloc (.cells #[.slice A n c] 29)).alloc (.cells #[.int .i64 64] 3) := by
  go_enter Tryd.func53, Tryd.ntmps53
  go_wp2
  go_ret
  exact ⟨rfl, rfl⟩
end Go.Proofs.YtnfhdjmehhapiaaDoor
