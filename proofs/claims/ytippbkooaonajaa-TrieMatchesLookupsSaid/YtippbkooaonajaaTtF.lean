/-
  Package trie: deepest.
-/
import Derived.Test.YtippbkooaonajaaTtE
import Derived.Shelf.Abstract
namespace Go.Proofs.Ytippbkooaonajaa
open Go.RowKit Go.Shelf Dg Tr
attribute [local go_sem] Oper.semAt_some
set_option linter.unusedVariables false
set_option linter.unusedSimpArgs false

theorem path_any (A : Option Addr) (n cap : Nat) (s : Str) (w : World) : Calls Try.prog 45 #[.agg #[.slice A n cap], str s] w fun e w' =>
    e = .returned (.func (.func 51) #[] #[.pointer (some ⟨w.heap.size + 1, 0, none⟩), .pointer (some ⟨w.heap.size, 0, none⟩)]) ∧ w' = (w.alloc (.cells #[.slice A n cap] 24)).alloc (.cells #[str s] 9) := by
  unfold str
  go_enter Try.func45, Try.ntmps45
  go_wp2
  go_ret
  exact ⟨rfl, rfl⟩

theorem pthA_item {F : List Int} {s : Str} {x : Array Value} (h : x ∈ pthA F s) : ∃ a i : Nat, x = #[.int .i64 (a : Int), .int .i64 (i : Int)] := by
  unfold pthA at h
  simp only [List.mem_map] at h
  obtain ⟨y, _, rfl⟩ := h
  exact ⟨y.1, y.2, rfl⟩
theorem pthA_at {F : List Int} {s : Str} {k : Nat} {x : Array Value} (h : (pthA F s)[k]? = some x) : ∃ y, (pth F 0 0 s)[k]? = some y ∧ x = arr2 y := by
  unfold pthA at h
  rw [List.getElem?_map] at h
  cases hy : (pth F 0 0 s)[k]? with
  | none => rw [hy] at h; cases h
  | some y => rw [hy] at h; injection h with h; exact ⟨y, rfl, h.symm⟩

/-- Nodes that are read, past the walk's beginning. -/
theorem Rd.of {w W : World} {n cap gt : Nat} {ad : Addr} {F : List Int} {T : Nat → Prop} (hv : Nds w w.heap.size n (.slice (some ad) n cap) F) (hb : Below w.heap.size w W) (hn : 0 < n) (h1 : T gt) (h2 : ∀ b, b < w.heap.size → T b) (h3 : W.cell? ⟨gt, 0, none⟩ = some (.slice (some ad) n cap)) : Rd T gt n cap ad F W := by
  obtain ⟨ad', e, hab, hac⟩ := hv.at_ hn
  injection e with e
  subst e
  exact ⟨h1, h2 _ hab, h3, fun i hi j hj => (hb.cell (by rw [add_block, add_block]; exact hab)).trans (hac i hi j hj)⟩

theorem Blk.alloc {w : World} {g : Nat} {t : TypeId} {l : List Value} (h : Blk w g t l) (o : Obj) : Blk (w.alloc o) g t l := h.past ((Below.refl _ _).alloc (Nat.le_refl _) _) h.lt
theorem Blk.newAt (w : World) (t : TypeId) (l : List Value) (g : Nat) (hg : g = w.heap.size) : Blk (w.alloc (.cells l.toArray t)) g t l := by subst hg; exact Blk.new w t l

/-- What deepest's loop keeps. -/
def DpI (n0 g1 : Nat) (w : World) (l : List (Nat × Nat)) (M : Nat → Prop) (k : Nat) (W : World) : Prop :=
  (∀ b, M b ↔ (b = g1 ∨ b = g1 + 1)) ∧ Blk W g1 3 [.int .i64 ((lastOf l k).1 : Int)] ∧ Blk W (g1 + 1) 3 [.int .i64 ((lastOf l k).2 : Int)] ∧ Below n0 w W

set_option maxRecDepth 100000 in
set_option maxHeartbeats 2000000 in
theorem deepest_any (ad : Addr) (n cap : Nat) (F : List Int) (E : Nat → Nat) (s : Str) (w : World) (hv : Nds w w.heap.size n (.slice (some ad) n cap) F) (ht : Tree F n E) (hn : n ≤ 10000) (hs : ∀ b ∈ s, isD b = true) (hl : s.length ≤ 1000) :
    Calls Try.prog 34 #[.agg #[.slice (some ad) n cap], str s] w fun e w' => e = .returned (.tuple #[.int .i64 ((dp F s).1 : Int), .int .i64 ((dp F s).2 : Int)]) ∧ Below w.heap.size w w' := by
  have HS := Lib.hid hs
  have HT := Lib.hid ht
  have HV := Lib.hid hv
  have hpos := ht.pos
  clear hs ht hv
  refine (callsIn_wide (n := 0)).1 ?_
  refine callsIn_of_wp_marks Try.func34 rfl trivial ?_ rfl
  simp only [Try.ntmps34, List.size_toArray, List.length_cons, List.length_nil, Nat.reduceAdd, Nat.reduceSub, Array.replicate_succ, Array.replicate_zero, List.push_toArray, List.append_toArray, List.nil_append, List.cons_append]
  gi_wp2_with fail
  refine ⟨trivial, rfl, (callsIn_wide.2 (path_any (some ad) n cap s _)).mono ?_⟩
  rintro e w3 ⟨rfl, rfl⟩
  obtain ⟨W3, hW3⟩ : ∃ W3, W3 = (((((w.alloc (.cells #[.slice (some ad) n cap] 24)).alloc (.cells #[.int .i64 0] 3)).alloc (.cells #[.int .i64 0] 3)).alloc (.cells #[.slice (some ad) n cap] 24)).alloc (.cells #[str s] 9)) := ⟨_, rfl⟩
  have hs3 : W3.heap.size = w.heap.size + 5 := by rw [hW3]; simp
  have b3 : Below w.heap.size w W3 := by
    rw [hW3]
    refine (((((Below.refl _ _).alloc (Nat.le_refl _) _).alloc ?_ _).alloc ?_ _).alloc ?_ _).alloc ?_ _ <;> simp <;> omega
  have c4 : Blk W3 (w.heap.size + 1) 3 [.int .i64 0] := by
    rw [hW3]; exact (((Blk.newAt _ _ [_] _ (by simp)).alloc _).alloc _).alloc _
  have c5 : Blk W3 (w.heap.size + 1 + 1) 3 [.int .i64 0] := by
    rw [hW3]; exact ((Blk.newAt _ _ [_] _ (by simp)).alloc _).alloc _
  have ct : Blk W3 (w.heap.size + 3) 24 [.slice (some ad) n cap] := by
    rw [hW3]; exact (Blk.newAt _ _ [_] _ (by simp)).alloc _
  have cs : Blk W3 (w.heap.size + 4) 9 [str s] := by
    rw [hW3]; exact Blk.newAt _ _ [_] _ (by simp)
  have HW3 := Lib.hid hW3
  have HC := Lib.hid (And.intro c4 (And.intro c5 (And.intro ct cs)))
  clear hW3 c4 c5 ct cs
  gi_wp2_with fail

  rw [← HW3.out]
  refine wp_rangeV (gf := 51) (lb := #[.pointer (some ⟨w.heap.size + 1 + 1 + 1 + 1, 0, none⟩), .pointer (some ⟨w.heap.size + 1 + 1 + 1, 0, none⟩)]) (T := fun b => b < W3.heap.size ∧ b ≠ w.heap.size + 1 ∧ b ≠ w.heap.size + 1 + 1) (items := pthA F s) rfl (enters_of Try.func51 (by kernel_rfl) rfl) (fun b h => h.1)
    (fun x hx => by obtain ⟨_, _, rfl⟩ := pthA_item hx; rfl) ?hseq (DpI w.heap.size (w.heap.size + 1) w (pth F 0 0 s)) (fun _ => False) (fun b => b = w.heap.size + 1 ∨ b = w.heap.size + 1 + 1) (fun b hb h => by omega) ?h0 ?hlt ?hI (fun _ _ h => h.elim)
    (fun x => { tmps := #[.agg #[.slice (some ad) n cap], str s, .pointer (some ⟨w.heap.size, 0, none⟩), undef, .pointer (some ⟨w.heap.size + 1, 0, none⟩), .pointer (some ⟨w.heap.size + 1 + 1, 0, none⟩), x.getD 0 undef, x.getD 1 undef, .agg #[.slice (some ad) n cap], str s, .func (.func 51) #[] #[.pointer (some ⟨w.heap.size + 1 + 1 + 1 + 1, 0, none⟩), .pointer (some ⟨w.heap.size + 1 + 1 + 1, 0, none⟩)], x.getD 0 undef, x.getD 1 undef, undef, undef, undef, undef], defers := [] }) ?hassign ?hbody ?hdone (fun _ _ h => h.elim)
  case hseq =>
    intro W4 hb4
    have hb := b3.trans (hb4.mono b3.size)
    have h4 := hb4.size
    refine path_gives _ _ _ n cap ad F E s W4 ⟨by omega, by omega, by omega⟩ (cell_past (HC.out.2.2.2.cell (j := 0) rfl) hb4) (Rd.of HV.out hb hpos ⟨by omega, by omega, by omega⟩ (fun b hb => ⟨by omega, by omega, by omega⟩) (cell_past (HC.out.2.2.1.cell (j := 0) rfl) hb4)) HT.out HS.out hl hn (fun b hb => by omega)
  case h0 =>
    intro W4 hb4 hs4
    exact ⟨fun b => Iff.rfl, HC.out.1.past hb4 (by omega), HC.out.2.1.past hb4 (by omega), b3.trans (hb4.mono b3.size)⟩
  case hlt =>
    rintro M k W4 ⟨hM, h1, h2, h3⟩ b hb
    rcases (hM b).1 hb with rfl | rfl
    · exact h1.lt
    · exact h2.lt
  case hI =>
    rintro M k W4 W5 ⟨hM, h1, h2, h3⟩ hk
    exact ⟨hM, h1.keep hk (Or.inl (by omega)), h2.keep hk (Or.inl (by omega)), h3.trans (hk.below (fun q hq => Or.inl (by omega)) h3.size)⟩
  case hassign =>
    intro l' x W4 K hx hK
    obtain ⟨a, i, rfl⟩ := pthA_item hx
    gi_wp2
    exact hK
  case hdone =>
    rintro M W4 hs4 ⟨hM, h1, h2, h3⟩ hd
    have hlen : (pthA F s).length = (pth F 0 0 s).length := by simp [pthA]
    rw [hlen] at h1 h2
    have hdp : lastOf (pth F 0 0 s) (pth F 0 0 s).length = dp F s := rfl
    rw [hdp] at h1 h2
    gi_wp2_with fail
    refine wpIn_wide.2 ?_
    refine wp_region_ptk (fun _ => True) (.take 0 (.take 1 (.step 2 (.step 3 .done)))) (by kernel_rfl) (by kernel_rfl) (by kernel_rfl) (fun _ _ h => h) ?_
    have g1 := h1.drew
    have g2 := h2.drew
    have g3 : Below w.heap.size w W4.drew := h3.drew
    have gd : W4.drew.heap[W3.heap.size]? = some (.deferred (some [])) := hd
    obtain ⟨W5, hW5⟩ : ∃ W5, W5 = W4.drew := ⟨_, rfl⟩
    rw [← hW5] at g1 g2 g3 gd ⊢
    clear hW5 h1 h2 h3 hd
    refine ptk_take rfl rfl rfl rfl ?_
    apply Exists.intro
    refine ⟨fun w' hw' => ?_, ?_⟩
    · have hcell := hw'.cell (p := ⟨w.heap.size + 1, 0, none⟩) trivial (g1.cell (j := 0) rfl)
      focus ((repeat (first | go_skip | go_guarded | go_step | go_upon | go_back)); exact ⟨rfl, rfl, rfl⟩)
    refine ptk_take rfl rfl rfl rfl ?_
    apply Exists.intro
    refine ⟨fun w' hw' => ?_, ?_⟩
    · have hcell := hw'.cell (p := ⟨w.heap.size + 1 + 1, 0, none⟩) trivial (g2.cell (j := 0) rfl)
      focus ((repeat (first | go_skip | go_guarded | go_step | go_upon | go_back)); exact ⟨rfl, rfl, rfl⟩)
    refine ptk_step rfl ?_
    refine wp_storeC 3 (.tmp 4) (.tmp 15) rfl rfl (w.heap.size + 1) 0 rfl 3 [.int .i64 ((dp F s).1 : Int)] (.int .i64 ((dp F s).1 : Int)) rfl rfl rfl g1 (by simp) info_int rfl ?_
    intro w6 h6 k6
    obtain ⟨k6, h6⟩ := Keep.same g1 rfl h6 k6
    have g26 := g2.keep k6 trivial
    go_wp2_with fail
    refine ⟨rfl, k6, ?_⟩
    refine ptk_step rfl ?_
    refine wp_storeC 3 (.tmp 5) (.tmp 16) rfl rfl (w.heap.size + 1 + 1) 0 rfl 3 [.int .i64 ((dp F s).2 : Int)] (.int .i64 ((dp F s).2 : Int)) rfl rfl rfl g26 (by simp) info_int rfl ?_
    intro w7 h7 k7
    obtain ⟨k7, h7⟩ := Keep.same g26 rfl h7 k7
    go_wp2_with fail
    refine ⟨rfl, k7, ?_⟩
    have k57 := k6.trans k7
    have gd7 := k57.heap trivial gd
    have h67 := h6.keep k7 trivial
    have b7 := g3.trans (k57.below (fun _ _ => trivial) g3.size)
    change Exit.then _ _ Exit.normal _ _
    clear g1 g2 g3 gd g26 k57
    rw [hs3] at gd7
    have hp : ∀ O : Nat → Prop, ¬ O (w.heap.size + 5) → Keep O w7 (w7.putObj (w.heap.size + 5) (.deferred none)) := fun O hO => Keep.putObj _ _ _ hO
    have c1 := (h67.keep (hp (fun b => b = w.heap.size + 1) (by omega)) rfl).cell (j := 0) rfl
    have c2 := (h7.keep (hp (fun b => b = w.heap.size + 1 + 1) (by omega)) rfl).cell (j := 0) rfl
    have b9 : Below w.heap.size w (w7.putObj (w.heap.size + 5) (.deferred none)) := b7.trans ((hp (fun q => q < w.heap.size) (by omega)).below (fun q hq => hq) b7.size)
    gi_wp2_with fail
    show LeavesInM _ _ _ _ _ _ _ _ _
    refine ⟨by simp, .inl ⟨_, _, rfl, run_takeDeferred gd7, ?_⟩⟩
    exact ⟨_, results_cell2 Try.results34 _ ⟨w.heap.size + 1, 0, none⟩ ⟨w.heap.size + 1 + 1, 0, none⟩ _ _ _ rfl rfl (run_loadVar_one 3 .i64 Try.underlying3 _ _ _ c1) (run_loadVar_one 3 .i64 Try.underlying3 _ _ _ c2), rfl, b9⟩
  case hbody =>
    rintro l' M k x W4 hs4 ⟨hM, h1, h2, h3⟩ hx
    obtain ⟨y, hy, rfl⟩ := pthA_at hx
    have hls := lastOf_succ hy
    have HLS := Lib.hid hls
    have HM := Lib.hid hM
    clear hy hx hls hM
    gi_wp2_with (first | (refine wpi_storeC 3 (.tmp 4) (.tmp 13) rfl rfl (w.heap.size + 1) 0 rfl 3 [_] (.int .i64 (y.1 : Int)) rfl rfl rfl h1 (by simp) info_int rfl ?_; intro w5 h5 k5; have h25 := h2.keep k5 (by omega)) | (refine wpi_storeC 3 (.tmp 5) (.tmp 14) rfl rfl (w.heap.size + 1 + 1) 0 rfl 3 [_] (.int .i64 (y.2 : Int)) rfl rfl rfl h25 (by simp) info_int rfl ?_; intro w6 h6 k6))
    have h56 := h5.keep k6 (by omega)
    have kk : Keep (fun b => b ≠ w.heap.size + 1 ∧ b ≠ w.heap.size + 1 + 1) W4 w6 := (k5.mono fun b hb => hb.1).trans (k6.mono fun b hb => hb.2)
    refine ⟨M, ⟨HM.out, by rw [HLS.out]; exact h56, by rw [HLS.out]; exact h6, h3.trans (kk.below (fun q hq => by omega) h3.size)⟩, fun b hb => Or.inl hb, kk.mono fun b hb => ?_⟩
    rcases hb with hb | hb
    · exact ⟨fun h => hb ((HM.out b).2 (Or.inl h)), fun h => hb ((HM.out b).2 (Or.inr h))⟩
    · omega
end Go.Proofs.Ytippbkooaonajaa
