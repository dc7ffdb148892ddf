/-
  Memory words for tries; the reference's node.
-/
import Derived.Test.YtippbkooaonajaaCel
import Derived.Test.YtippbkooaonajaaTtA
import Derived.RegionTactic
import Derived.Deep.Cut
import Derived.Deep.CutRange
import Derived.BigRegion
namespace Go.Proofs.Ytippbkooaonajaa
open Go.RowKit Dg Tr
set_option linter.unusedVariables false
set_option linter.unusedSimpArgs false

theorem info_node : (Try.prog.info? 59).map (·.size) = some 11 := by kernel_rfl
theorem info_kids : (Try.prog.info? 57).map (·.size) = some 10 := by kernel_rfl
theorem info_int : (Try.prog.info? 3).map (·.size) = some 1 := by kernel_rfl
theorem info_trie : (Try.prog.info? 24).map (·.size) = some 1 := by kernel_rfl

/-- A slice of nodes that reads F. -/
def Nds (w : World) (B n : Nat) (v : Value) (F : List Int) : Prop := Row w B 11 n v (ints F)
theorem Nds.len {w : World} {B n : Nat} {v : Value} {F : List Int} (h : Nds w B n v F) : F.length = 11 * n := by
  obtain ⟨_, _, _, _, _, _, h, _⟩ := h
  rw [ints_length] at h; omega
/-- Node i: its address, and what stands there. -/
theorem Nds.at_ {w : World} {B n : Nat} {A : Option Addr} {cap : Nat} {F : List Int} (h : Nds w B n (.slice A n cap) F) (hn : 0 < n) :
    ∃ ad, A = some ad ∧ ad.block < B ∧ ∀ i, i < n → ∀ j, j < 11 → w.cell? ((ad.add (i * 11)).add j) = some (.int .i64 (F.getD (11 * i + j) 0)) := by
  have hl := h.len
  obtain ⟨ad, rfl, hb, hc⟩ := Row.at_ h hn
  refine ⟨ad, rfl, hb, fun i hi j hj => ?_⟩
  rw [add_twice]
  refine hc _ _ ?_
  rw [show i * 11 + j = 11 * i + j by omega]
  exact ints_getD (by omega)

theorem nod_next {F : List Int} {s : Str} {i a : Nat} {x : UInt8} (hx : s[i]? = some x) (h : nod F 0 (s.take i) = some a) (hd : isD x = true) (hk : kI F a (dg x) ≠ 0) : nod F 0 (s.take (i + 1)) = some (kd F a (dg x)) := by
  rw [List.take_add_one, hx, nod_append, h]
  exact nod_one hd hk
theorem nod_stop {F : List Int} {s : Str} {i a : Nat} {x : UInt8} (hx : s[i]? = some x) (h : nod F 0 (s.take i) = some a) (hk : kI F a (dg x) = 0) : nod F 0 (s.take (i + 1)) = none := by
  rw [List.take_add_one, hx, nod_append, h]
  simp [nod, hk]
theorem nod_none {F : List Int} {s : Str} {i : Nat} (h : nod F 0 (s.take i) = none) : nod F 0 s = none := by
  rw [← List.take_append_drop i s, nod_append, h]; rfl
def ndI (F : List Int) (s : Str) : Int := match nod F 0 s with | some j => (j : Int) | none => -1

set_option maxRecDepth 100000 in
set_option maxHeartbeats 1000000 in
theorem rnode_any (A : Option Addr) (n cap : Nat) (F : List Int) (E : Nat → Nat) (s : Str) (w : World) (hv : Nds w w.heap.size n (.slice A n cap) F) (ht : Tree F n E) (hn : n ≤ 10000) (hs : ∀ b ∈ s, isD b = true) (hl : s.length ≤ 1000) :
    Calls Try.prog 39 #[.agg #[.slice A n cap], str s] w fun e w' => e = .returned (.int .i64 (ndI F s)) ∧ Below w.heap.size w w' := by
  obtain ⟨ad, rfl, hb, hc⟩ := hv.at_ ht.pos
  have HT := Lib.hid ht
  have HC := Lib.hid hc
  have HS := Lib.hid hs
  have hz := str_size s
  have HZ := Lib.hid hz
  clear hv ht hc hs
  unfold str
  go_enter Try.func39, Try.ntmps39
  go_wp2_with fail
  have k0 : Blk (w.alloc (.cells #[.slice (some ad) n cap] 24)) w.heap.size 24 [.slice (some ad) n cap] := Blk.new _ _ _
  have b0 : Below w.heap.size w (w.alloc (.cells #[.slice (some ad) n cap] 24)) := (Below.refl _ _).alloc (Nat.le_refl _) _
  obtain ⟨W0, hW0⟩ : ∃ W, W = w.alloc (.cells #[.slice (some ad) n cap] 24) := ⟨_, rfl⟩
  rw [← hW0] at k0 b0 ⊢
  clear hW0
  go_loopw [5, 6] (fun va vi wr => ∃ i a : Nat, va = .int .i64 (a : Int) ∧ vi = .int .i64 (i : Int) ∧ i ≤ s.length ∧ nod F 0 (s.take i) = some a ∧ Below W0.heap.size W0 wr)
    (fun va vi wr => ixn s.length vi)
  case atStart => exact ⟨0, 0, rfl, rfl, Nat.zero_le _, rfl, Below.refl _ _⟩
  case round =>
    obtain ⟨i, a, rfl, rfl, hi', ht, hbw⟩ := hrel
    have HT2 := Lib.hid ht
    have han : a < n := (nod_lt HT.out HT.out.pos ht).1
    clear ht
    by_cases hlt : i < s.length
    · obtain ⟨x, hx⟩ : ∃ x, s[i]? = some x := ⟨s[i], List.getElem?_eq_getElem hlt⟩
      have hga : (⟨s.toArray⟩ : ByteArray)[i]'(by rw [str_size]; exact hlt) = x := by
        obtain ⟨h, rfl⟩ := List.getElem?_eq_some_iff.1 hx
        simp [ByteArray.getElem_eq_getElem_data]
      have hdx : isD x = true := HS.out x (List.mem_of_getElem? hx)
      have HX := Lib.hid hx
      have HD := Lib.hid hdx
      clear hx hdx
      have hz2 := HZ.out
      have hq : ∀ j, j < 11 → W0.cell? ((ad.add (a * 11)).add j) = some (.int .i64 (F.getD (11 * a + j) 0)) := fun j hj => (b0.cell (by rw [add_block, add_block]; exact hb)).trans (HC.out a han j hj)
      obtain ⟨q, hqe⟩ : ∃ q, q = ad.add (a * 11) := ⟨_, rfl⟩
      rw [← hqe] at hq
      have hqb : q.block < W0.heap.size := by rw [hqe, add_block]; have := b0.size; omega
      have hdl := dg_lt HD.out
      have hdn := (isD_iff x).1 HD.out
      obtain ⟨z, hzk⟩ : ∃ z, kI F a (dg x) = z := ⟨_, rfl⟩
      have hqz : W0.cell? (q.add (dg x)) = some (.int .i64 z) := by rw [← hzk]; exact hq (dg x) (by omega)
      have HQE := Lib.hid hqe
      have HQ := Lib.hid hqz
      have HZK := Lib.hid hzk
      clear hqe hq hqz hzk
      have step : ∀ (R : Prop), (∀ hz0 : (z == 0) = true, R) → (∀ hz0 : (z == 0) = false, R) → R := fun R h1 h2 => by
        cases hc : (z == 0)
        · exact h2 hc
        · exact h1 hc
      refine step _ (fun hz0 => ?_) (fun hz0 => ?_)
      all_goals
        go_upto_region 5 with (fail)
        refine wp_region_pt W0.heap.size (.take 0 (.take 1 (.take 2 (.take 3 (.take 4 (.take 5 (.take 6 (.take 7 (.take 8 (.take 9 (.take 10 (.take 11 (.take 12 .done))))))))))))) (by kernel_rfl) (by kernel_rfl) (by kernel_rfl) (fun _ _ h => h) ?_
        have b1 : Below W0.heap.size W0 wr.drew := hbw.drew
        first | refine pt_skip rfl rfl rfl rfl ?_ | (refine pt_take rfl rfl rfl rfl ?_; apply Exists.intro; refine ⟨fun w' hw' => ?_, ?_⟩; focus ((repeat (first | go_skip | go_guarded | go_step | go_upon | go_back)); exact ⟨rfl, rfl, rfl⟩))
        refine pt_take rfl rfl rfl rfl ?_
        apply Exists.intro
        refine ⟨fun w' hw' => ?_, ?_⟩
        · have hcell := ((b1.trans hw').cell (p := ⟨w.heap.size, 0, none⟩) k0.lt).trans (k0.cell (j := 0) rfl)
          focus ((repeat (first | go_skip | go_guarded | go_step | go_upon | go_back)); exact ⟨rfl, rfl, rfl⟩)
        first | refine pt_skip rfl rfl rfl rfl ?_ | (refine pt_take rfl rfl rfl rfl ?_; apply Exists.intro; refine ⟨fun w' hw' => ?_, ?_⟩; focus ((repeat (first | go_skip | go_guarded | go_step | go_upon | go_back)); exact ⟨rfl, rfl, rfl⟩))
        first | refine pt_skip rfl rfl rfl rfl ?_ | (refine pt_take rfl rfl rfl rfl ?_; apply Exists.intro; refine ⟨fun w' hw' => ?_, ?_⟩; focus ((repeat (first | go_skip | go_guarded | go_step | go_upon | go_back)); exact ⟨rfl, rfl, rfl⟩))
        first | refine pt_skip rfl rfl rfl rfl ?_ | (refine pt_take rfl rfl rfl rfl ?_; apply Exists.intro; refine ⟨fun w' hw' => ?_, ?_⟩; focus ((repeat (first | go_skip | go_guarded | go_step | go_upon | go_back)); exact ⟨rfl, rfl, rfl⟩))
        first | refine pt_skip rfl rfl rfl rfl ?_ | (refine pt_take rfl rfl rfl rfl ?_; apply Exists.intro; refine ⟨fun w' hw' => ?_, ?_⟩; focus ((repeat (first | go_skip | go_guarded | go_step | go_upon | go_back)); exact ⟨rfl, rfl, rfl⟩))
        first | refine pt_skip rfl rfl rfl rfl ?_ | (refine pt_take rfl rfl rfl rfl ?_; apply Exists.intro; refine ⟨fun w' hw' => ?_, ?_⟩; focus ((repeat (first | go_skip | go_guarded | go_step | go_upon | go_back)); exact ⟨rfl, rfl, rfl⟩))
        first | refine pt_skip rfl rfl rfl rfl ?_ | (refine pt_take rfl rfl rfl rfl ?_; apply Exists.intro; refine ⟨fun w' hw' => ?_, ?_⟩; focus ((repeat (first | go_skip | go_guarded | go_step | go_upon | go_back)); exact ⟨rfl, rfl, rfl⟩))
        refine pt_take rfl rfl rfl rfl ?_
        apply Exists.intro
        refine ⟨fun w' hw' => ?_, ?_⟩
        · refine wp_run rfl (exec_ixS 22 59 11 Try.underlying22 info_node w' rfl rfl .i64 (a : Int) a rfl rfl han HQE.out) ?_
          exact ⟨rfl, rfl, rfl⟩
        first | refine pt_skip rfl rfl rfl rfl ?_ | (refine pt_take rfl rfl rfl rfl ?_; apply Exists.intro; refine ⟨fun w' hw' => ?_, ?_⟩; focus ((repeat (first | go_skip | go_guarded | go_step | go_upon | go_back)); exact ⟨rfl, rfl, rfl⟩))
        refine pt_take rfl rfl rfl rfl ?_
        apply Exists.intro
        refine ⟨fun w' hw' => ?_, ?_⟩
        · refine wp_run rfl (exec_ixP 57 3 10 1 Try.underlying57 info_int w' rfl q rfl .i64 ((x.toNat : Int) - 48) (dg x) rfl (by unfold dg; omega) hdl (show q.add (dg x) = q.add (dg x * 1) by rw [Nat.mul_one])) ?_
          exact ⟨rfl, rfl, rfl⟩
        refine pt_take rfl rfl rfl rfl ?_
        apply Exists.intro
        refine ⟨fun w' hw' => ?_, ?_⟩
        · have hcell := ((b1.trans hw').cell (p := q.add (dg x)) (by rw [add_block]; exact hqb)).trans HQ.out
          focus ((repeat (first | go_skip | go_guarded | go_step | go_upon | go_back)); exact ⟨rfl, rfl, rfl⟩)
        first | refine pt_skip rfl rfl rfl rfl ?_ | (refine pt_take rfl rfl rfl rfl ?_; apply Exists.intro; refine ⟨fun w' hw' => ?_, ?_⟩; focus ((repeat (first | go_skip | go_guarded | go_step | go_upon | go_back)); exact ⟨rfl, rfl, rfl⟩))
        change Exit.then _ _ Exit.normal _ _
        have b2 := b0.trans (b1.mono b0.size)
        clear step
        go_wp2_with fail
      · go_ret
        refine ⟨?_, b2⟩
        unfold ndI
        rw [nod_none (nod_stop HX.out HT2.out (by rw [HZK.out]; exact eq_of_beq hz0))]
        rfl
      · have hne : kI F a (dg x) ≠ 0 := by rw [HZK.out]; exact ne_of_beq_false hz0
        go_roundw
        case measure => show s.length - ((i : Int) + 1).toNat < s.length - ((i : Int)).toNat; omega
        case rel => exact ⟨i + 1, kd F a (dg x), by rw [← HZK.out, (HT.out.kid a (dg x) han hdl hne).2.2.1], by simp, by omega, nod_next HX.out HT2.out HD.out hne, b1⟩
    · obtain rfl : i = s.length := by omega
      have hz2 := HZ.out
      go_wp2_with fail
      go_ret
      refine ⟨?_, b0.trans (hbw.mono b0.size)⟩
      have h := HT2.out
      rw [List.take_length] at h
      unfold ndI
      rw [h]
      rfl
end Go.Proofs.Ytippbkooaonajaa
