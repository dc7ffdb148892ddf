/-
  Decode of package hdlc, at a frame at the beginning of a stream.
-/
import Derived.Test.YtokjlcajcflhgaaHdF
import Derived.RegionTactic
namespace Go.Proofs.Ytokjlcajcflhgaa
open Go.RowKit Go.Shelf
attribute [local go_sem] Oper.semAt_some
set_option linter.unusedVariables false
set_option linter.unusedSimpArgs false

/-- 'x[0:k]' -/
theorem exec_upto {o : Oper} {a : Act} (w : World) {x lo hi : Operand} (ho : o.op = .slice 22 x (some lo) (some hi) none) {n : Nat} {A : Option Addr} {cap : Nat} (hx : a.eval x = .slice A n cap)
    (k : Nat) (q q' : IntKind) (I : Int) (hlo : a.eval lo = .int q 0) (hhi : a.eval hi = .int q' I) (hI : I = (k : Int)) (hk : k ≤ n) (hn : n ≤ cap) :
    (execOp a.eval o).run Try.prog w = .ok (.value (.slice A k cap)) w := by
  subst hI
  have ht := Try.underlying22
  have hel : Try.prog.elem 22 = 5 := by simp [Program.elem, ht]
  have ht' : Try.prog.underlying 22 = some (.slice (Try.prog.elem 22)) := by rw [hel]; exact ht
  obtain ⟨info, hin, hsz⟩ := Option.map_eq_some_iff.1 size_u8
  have hs : sliced A 0 k cap 1 = .slice A k cap := by
    have : A.map (fun y => y.add 0) = A := by cases A <;> simp [Addr.add]
    unfold sliced; simp [this]
  have hrun : (Instr.sliceAt 22 (.slice A n cap) (some (.int q 0)) (some (.int q' k)) none).run Try.prog w = .ok (.slice A k cap) w := by
    rw [run_sliceAt_slice (h := ht'), run_slice_lh (ht := ht') (h0 := by omega) (h1 := by omega) (h2 := by omega)]
    simp [hel, sizeOf, typeInfo, hin, hsz, Result.andThen, hs]
  unfold execOp
  simp only [ho, hx, hlo, hhi, Option.map_none, Option.map_some, Sem.run_bind, Sem.run_pure, Result.andThen_ok, hrun]

/-- What Decode's loop has found in k rounds. -/
def DecSt (items : List (List UInt8)) (B k : Nat) (W : World) (vp : Value) (ev : Int) : Prop :=
  (k = 0 ∧ vp = .slice none 0 0 ∧ ev = 20) ∨ (∃ x, 0 < k ∧ items[k - 1]? = some x ∧ ((∃ p, pay x = some p ∧ ev = 0 ∧ Own W B vp p) ∨ (pay x = none ∧ ev = 21 ∧ vp = .slice none 0 0)))
theorem DecSt.keep {O : Nat → Prop} {items : List (List UInt8)} {B k : Nat} {W W' : World} {vp : Value} {ev : Int} (h : DecSt items B k W vp ev) (hk : Keep O W W') (hO : ∀ q, B ≤ q → O q) : DecSt items B k W' vp ev := by
  rcases h with h | ⟨x, h1, h2, h3⟩
  · exact Or.inl h
  · refine Or.inr ⟨x, h1, h2, ?_⟩
    rcases h3 with ⟨p, h4, h5, h6⟩ | h3
    · exact Or.inl ⟨p, h4, h5, hk.own hO h6⟩
    · exact Or.inr h3

set_option maxRecDepth 100000 in
set_option maxHeartbeats 1000000 in
theorem decode_any (A : Option Addr) (cap : Nat) (b c r : List UInt8) (w : World) (hb : b = 126 :: (c ++ 126 :: r)) (hbare : Bare c) (hv : Bs w w.heap.size (.slice A b.length cap) b) (hl : b.length ≤ 1000000) :
    Calls Try.prog 16 #[.slice A b.length cap, .int .i64 0] w fun e w' => Below w.heap.size w w' ∧
      ((∃ p v, dcd c = some p ∧ e = .returned (.tuple #[v, .int .i64 ((c.length + 2 : Nat) : Int), .int .i64 0]) ∧ Own w' w.heap.size v p) ∨
       (dcd c = none ∧ unst c = none ∧ e = .returned (.tuple #[.slice none 0 0, .int .i64 0, .int .i64 20])) ∨
       (dcd c = none ∧ unst c ≠ none ∧ e = .returned (.tuple #[.slice none 0 0, .int .i64 0, .int .i64 21]))) := by
  have hcap := Row.cap hv
  have hlen : b.length = c.length + r.length + 2 := by rw [hb]; simp; omega
  have h0c : b[0]? = some 126 := by rw [hb]; rfl
  have hdrop : b.drop 1 = c ++ 126 :: r := by rw [hb]; rfl
  have hidx : idx (b.drop 1) = (c.length : Int) := by
    have h := fi_of hbare (r := r)
    unfold idx
    rw [hdrop, h, if_pos (by simp)]
  have hcont : cont (b.take (c.length + 2)) = [c] := by
    have : b.take (c.length + 2) = 126 :: (c ++ 126 :: []) := by
      rw [hb, List.take_succ_cons]
      congr 1
      rw [List.take_append]
      simp [List.take_of_length_le]
    rw [this]
    show (if (126 : UInt8) = 126 then cts [] (c ++ 126 :: []) else _) = _
    rw [if_pos rfl, cts_flag _ _ _ hbare]; rfl
  have HIDX := Lib.hid hidx
  have HCONT := Lib.hid hcont
  have hlb : c.length + 2 ≤ b.length := by omega
  have hpos : 0 < b.length := by omega
  have hce := hv.at_ 0 126 h0c
  clear hb hlen hdrop hidx hcont h0c
  refine (callsIn_wide (n := 0)).1 ?_
  refine callsIn_of_wp_marks Try.func16 rfl trivial ?_ rfl
  simp only [Try.ntmps16, List.size_toArray, List.length_cons, List.length_nil, Nat.reduceAdd, Nat.reduceSub, Array.replicate_succ, Array.replicate_zero, List.push_toArray, List.append_toArray, List.nil_append, List.cons_append]
  obtain ⟨W2, hW2⟩ : ∃ W2, W2 = (w.alloc (.cells #[.slice none 0 0] 22)).alloc (.cells #[.int .i64 0] 29) := ⟨_, rfl⟩
  have hb2 : Below w.heap.size w W2 := by rw [hW2]; exact ((Below.refl _ _).alloc (Nat.le_refl _) _).alloc (by simp) _
  have hs2 : W2.heap.size = w.heap.size + 2 := by rw [hW2]; simp
  have hpc : W2.cell? ⟨w.heap.size, 0, none⟩ = some (.slice none 0 0) := by
    rw [hW2]
    refine cell_past ?_ ((Below.refl _ _).alloc (Nat.le_refl _) _)
    rw [cell_of_row _ _ 0 _ _ _ (heap_alloc_new _ _)]; rfl
  have hec : W2.cell? ⟨w.heap.size + 1, 0, none⟩ = some (.int .i64 0) := by
    have h := cell_of_row _ _ 0 _ _ _ (heap_alloc_new (w.alloc (.cells #[.slice none 0 0] 22)) (.cells #[.int .i64 0] 29))
    rw [World.size_alloc] at h
    rw [hW2]; exact h
  have hpf : W2.frozen? ⟨w.heap.size, 0, none⟩ = false := by
    have h := heap_alloc_new w (.cells #[.slice none 0 0] 22)
    have h2 : W2.heap[w.heap.size]? = some (.cells #[.slice none 0 0] 22) := by rw [hW2]; exact (Below.heap_alloc _ _ _ (by simp)).trans h
    simp only [World.frozen?, h2]; simp
  have hef : W2.frozen? ⟨w.heap.size + 1, 0, none⟩ = false := by
    have h := heap_alloc_new (w.alloc (.cells #[.slice none 0 0] 22)) (.cells #[.int .i64 0] 29)
    rw [World.size_alloc, ← hW2] at h
    simp only [World.frozen?, h]; simp
  have hv2 := hv.carry hb2 (Nat.le_refl _)
  have HWA := Lib.hid hW2
  obtain ⟨A1, cap1, hf1⟩ := behind_form A cap b 1
  have hv21 := hv2.behind 1 (by omega)
  rw [hf1] at hv21
  obtain ⟨M, hM⟩ : ∃ M, M = (b.drop 1).length := ⟨_, rfl⟩
  have hcall := indexByte_any A1 cap1 (b.drop 1) W2 w.heap.size hv21
  rw [← hM, HIDX.out] at hcall
  have htk := hv2.take_ (c.length + 2) hlb
  obtain ⟨N, hN⟩ : ∃ N, N = b.length := ⟨_, rfl⟩
  rw [← hN, ← hM] at hf1
  rw [← hN] at hv2 hpos hlb hcap ⊢
  have HF1 := Lib.hid hf1.symm
  have HN := Lib.hid hN
  have HC := Lib.hid hcall
  have HV := Lib.hid hv
  obtain ⟨P, hP⟩ : ∃ P, P = c.length + 2 := ⟨_, rfl⟩
  have HP := Lib.hid hP
  rw [← hP] at htk hlb
  have hPi : (1 : Int) + (c.length : Int) + 1 = (P : Int) := by omega
  have HPI := Lib.hid hPi
  have hcl2 : c.length ≤ 1000000 := by omega
  clear hN hv hf1 hcall hM hv21 hP hPi
  gi_wp2_with (first
    | (refine wpi_at (.tmp 17) (.tmp 18) rfl rfl rfl (HWA.out ▸ hv2) _ _ 0 _ rfl rfl hce ?_; intro p hp hcell)
    | (refine wpi_run rfl (fun _ h => by cases h) rfl (exec_from _ rfl rfl 1 _ _ rfl rfl (by omega) hcap HF1.out) ?_))
  rw [← HWA.out]
  refine ⟨trivial, rfl, (callsIn_wide.2 HC.out).mono ?_⟩
  rintro e w3 ⟨rfl, rfl⟩
  clear hcell
  obtain ⟨W3, hW3⟩ : ∃ W3, W3 = (w.alloc (.cells #[.slice none 0 0] 22)).alloc (.cells #[.int .i64 20] 29) := ⟨_, rfl⟩
  have hb3 : Below w.heap.size w W3 := by rw [hW3]; exact ((Below.refl _ _).alloc (Nat.le_refl _) _).alloc (by simp) _
  have hs3 : W3.heap.size = w.heap.size + 2 := by rw [hW3]; simp
  have hpc3 : W3.cell? ⟨w.heap.size, 0, none⟩ = some (.slice none 0 0) := by
    rw [hW3]
    refine cell_past ?_ ((Below.refl _ _).alloc (Nat.le_refl _) _)
    rw [cell_of_row _ _ 0 _ _ _ (heap_alloc_new _ _)]; rfl
  have hec3 : W3.cell? ⟨w.heap.size + 1, 0, none⟩ = some (.int .i64 20) := by
    have h := cell_of_row _ _ 0 _ _ _ (heap_alloc_new (w.alloc (.cells #[.slice none 0 0] 22)) (.cells #[.int .i64 20] 29))
    rw [World.size_alloc] at h
    rw [hW3]; exact h
  have hpf3 : W3.frozen? ⟨w.heap.size, 0, none⟩ = false := by
    have h := heap_alloc_new w (.cells #[.slice none 0 0] 22)
    have h2 : W3.heap[w.heap.size]? = some (.cells #[.slice none 0 0] 22) := by rw [hW3]; exact (Below.heap_alloc _ _ _ (by simp)).trans h
    simp only [World.frozen?, h2]; simp
  have hef3 : W3.frozen? ⟨w.heap.size + 1, 0, none⟩ = false := by
    have h := heap_alloc_new (w.alloc (.cells #[.slice none 0 0] 22)) (.cells #[.int .i64 20] 29)
    rw [World.size_alloc, ← hW3] at h
    simp only [World.frozen?, h]; simp
  have HW3 := Lib.hid hW3
  have HS3 := Lib.hid hs3
  have hs3' : w.heap.size + 2 ≤ W3.heap.size := by omega
  clear hW3 hpc hec hpf hef hs3
  gi_wp2_with (refine wpi_run rfl (fun _ h => by cases h) rfl (exec_upto _ rfl rfl P _ _ _ rfl rfl ?_ hlb hcap) ?_; exact (by first | exact HPI.out | (have := HPI.out; omega)))
  rw [← HW3.out]
  clear hW2 HWA hv2 hb2 hs2 HF1 HC
  have htk3 : Bs W3 w.heap.size (.slice A P cap) (b.take P) := by
    have h := (HV.out.carry hb3 (Nat.le_refl _)).take_ P (by have := HN.out; omega)
    exact h
  obtain ⟨bp, hbp⟩ : ∃ bp, bp = b.take P := ⟨_, rfl⟩
  have hbpl : bp.length = P := by rw [hbp, List.length_take]; have := HN.out; omega
  have hct : cont bp = [c] := by rw [hbp, HP.out]; exact HCONT.out
  rw [← hbp, ← hbpl] at htk3
  rw [← hbpl]
  have hPl : bp.length ≤ 1000000 := by rw [hbpl]; have := HN.out; omega
  have HCT := Lib.hid hct
  have HBL := Lib.hid hbpl
  clear hct hbp htk hbpl
  refine ⟨trivial, rfl, (unstuffed_any _ A bp.length cap _).mono ?_⟩
  rintro e w5 ⟨rfl, rfl⟩
  obtain ⟨W4, hW4⟩ : ∃ W4, W4 = W3.alloc (.cells #[.slice A bp.length cap] 22) := ⟨_, rfl⟩
  have hb4 : Below W3.heap.size W3 W4 := by rw [hW4]; exact (Below.refl _ _).alloc (Nat.le_refl _) _
  have huc : W4.cell? ⟨W3.heap.size, 0, none⟩ = some (.slice A bp.length cap) := by
    rw [hW4, cell_of_row _ _ 0 _ _ _ (heap_alloc_new _ _)]; rfl
  have hs4 : W3.heap.size + 1 ≤ W4.heap.size := by rw [hW4]; simp
  gi_wp2_with fail
  rw [← hW4]
  clear hW4
  have hpc4 := cell_past hpc3 hb4
  have hec4 := cell_past hec3 hb4
  have hpf4 : W4.frozen? ⟨w.heap.size, 0, none⟩ = false := (hb4.frozen (p := ⟨w.heap.size, 0, none⟩) (show w.heap.size < W3.heap.size by omega)).trans hpf3
  have hef4 : W4.frozen? ⟨w.heap.size + 1, 0, none⟩ = false := (hb4.frozen (p := ⟨w.heap.size + 1, 0, none⟩) (show w.heap.size + 1 < W3.heap.size by omega)).trans hef3
  have hb14 : Below w.heap.size w W4 := hb3.trans (hb4.mono (by omega))
  clear hpc3 hec3 hpf3 hef3
  refine wp_range (gf := 44) (lb := #[.pointer (some ⟨W3.heap.size, 0, none⟩)]) (n0 := w.heap.size) (Item := ItemU) (items := [c].filterMap unst) rfl (enters_of Try.func44 (by kernel_rfl) rfl) (by omega)
    ?hItem ?hseq
    (fun B k W => ∃ vp ev, W.cell? ⟨w.heap.size, 0, none⟩ = some vp ∧ W.frozen? ⟨w.heap.size, 0, none⟩ = false ∧ W.cell? ⟨w.heap.size + 1, 0, none⟩ = some (.int .i64 ev) ∧ W.frozen? ⟨w.heap.size + 1, 0, none⟩ = false ∧ Below w.heap.size w W ∧ DecSt ([c].filterMap unst) B k W vp ev) ?h0 ?hI
    (fun v => { tmps := #[Value.slice A N cap, Value.int IntKind.i64 0, undef, undef, Value.pointer (some ⟨w.heap.size, 0, none⟩), Value.int IntKind.i64 (1 + (c.length : Int) + 1), Value.pointer (some ⟨w.heap.size + 1, 0, none⟩), Value.int IntKind.i64 (c.length : Int), v, Value.int IntKind.i64 0, Value.bool false, Value.bool false, Value.int IntKind.i64 0, Value.slice A N cap, Value.int IntKind.i64 (N : Int), Value.bool false, Value.bool false, Value.slice A N cap, Value.int IntKind.i64 0, Value.pointer (some p), Value.int IntKind.u8 126, Value.bool false, Value.slice A N cap, Value.int IntKind.i64 0, Value.int IntKind.i64 1, Value.slice A1 M cap1, Value.int IntKind.i64 (c.length : Int), Value.int IntKind.i64 (c.length : Int), Value.bool (decide ((c.length : Int) < 0)), Value.int IntKind.i64 0, Value.int IntKind.i64 1, Value.int IntKind.i64 (c.length : Int), Value.int IntKind.i64 (1 + (c.length : Int)), Value.int IntKind.i64 (1 + (c.length : Int) + 1), Value.slice A N cap, Value.int IntKind.i64 0, Value.int IntKind.i64 (1 + (c.length : Int) + 1), Value.slice A bp.length cap, Value.func (.func 44) #[] #[Value.pointer (some ⟨W3.heap.size, 0, none⟩)], v, undef, undef, undef, undef, undef, undef, undef, undef, undef, undef, undef], defers := [] }) ?hassign ?hbody ?hdone
  case hItem =>
    intro B v x W4 W5 hn hit hk
    exact hk.own (fun k hk => Or.inr hk) hit
  case hseq =>
    intro W5 hb
    have hn : w.heap.size ≤ W5.heap.size := by have := hb.size; omega
    have h := unstuffed_gives w.heap.size W3.heap.size A cap bp W5 hn (cell_past huc hb) ((htk3.carry (hb4.mono (by omega)) (Nat.le_refl _)).carry (hb.mono (by omega)) (Nat.le_refl _)) (by omega)
    rw [HCT.out] at h
    exact h
  case h0 =>
    intro W5 hb
    exact ⟨_, _, cell_past hpc4 hb, (hb.frozen (p := ⟨w.heap.size, 0, none⟩) (show w.heap.size < W4.heap.size by omega)).trans hpf4, cell_past hec4 hb, (hb.frozen (p := ⟨w.heap.size + 1, 0, none⟩) (show w.heap.size + 1 < W4.heap.size by omega)).trans hef4, hb14.trans (hb.mono (by omega)), Or.inl ⟨rfl, rfl, rfl⟩⟩
  case hI =>
    rintro B k W5 W6 hB ⟨vp, ev, h1, h2, h3, h4, h5, h6⟩ hk
    have hm : ∀ q, q < W4.heap.size → Mine W4.heap.size B q := fun q hq => Or.inl hq
    exact ⟨vp, ev, hk.cell (hm w.heap.size (by omega)) h1, (hk.frozen (p := ⟨w.heap.size, 0, none⟩) (hm w.heap.size (by omega)) h1).trans h2, hk.cell (hm (w.heap.size + 1) (by omega)) h3, (hk.frozen (p := ⟨w.heap.size + 1, 0, none⟩) (hm (w.heap.size + 1) (by omega)) h3).trans h4, h5.trans (hk.below (fun q hq => hm q (by omega)) h5.size), h6.keep hk (fun q hq => Or.inr hq)⟩
  case hassign =>
    intro l' v W5 K hK
    gi_wp2
    exact hK
  case hdone =>
    rintro D B W5 hD hDB hBW ⟨vp, ev, h1, h2, h3, h4, h5, h6⟩ hd
    have hres : (∃ p, dcd c = some p ∧ ev = 0 ∧ Own W5 B vp p) ∨ (dcd c = none ∧ unst c = none ∧ ev = 20) ∨ (dcd c = none ∧ unst c ≠ none ∧ ev = 21) := by
      cases hu : unst c with
      | none =>
        have hi : [c].filterMap unst = [] := by simp [hu]
        rw [hi] at h6
        rcases h6 with ⟨_, _, he⟩ | ⟨x, h0, _⟩
        · exact Or.inr (Or.inl ⟨by unfold dcd; rw [hu]; rfl, rfl, he⟩)
        · simp at h0
      | some x =>
        have hi : [c].filterMap unst = [x] := by simp [hu]
        rw [hi] at h6
        have hdc : dcd c = pay x := by unfold dcd; rw [hu]; rfl
        rcases h6 with ⟨h0, _⟩ | ⟨y, _, hy, h7⟩
        · simp at h0
        · simp at hy
          subst hy
          rcases h7 with ⟨p, h7, h8, h9⟩ | ⟨h7, h8, _⟩
          · exact Or.inl ⟨p, by rw [hdc, h7], h8, h9⟩
          · exact Or.inr (Or.inr ⟨by rw [hdc, h7], by simp, h8⟩)
    clear h6
    have hend : ∀ (V : Value) (E : Int) (W6 : World), (W6 = (W5.setCell ⟨w.heap.size, 0, none⟩ V).setCell ⟨w.heap.size + 1, 0, none⟩ (.int .i64 E) ∨ W6 = ((W5.setCell ⟨w.heap.size, 0, none⟩ V).setCell ⟨w.heap.size + 1, 0, none⟩ (.int .i64 E)).drew) →
        W6.heap[D]? = some (.deferred (some [])) ∧ (W6.putObj D (.deferred none)).cell? ⟨w.heap.size, 0, none⟩ = some V ∧ (W6.putObj D (.deferred none)).cell? ⟨w.heap.size + 1, 0, none⟩ = some (.int .i64 E) ∧ Below w.heap.size w (W6.putObj D (.deferred none)) ∧ Keep (fun q => B ≤ q) W5 (W6.putObj D (.deferred none)) := by
      intro V E W6 h6
      have hne : (⟨w.heap.size + 1, 0, none⟩ : Addr) ≠ ⟨w.heap.size, 0, none⟩ := by intro e; injection e with e _ _; omega
      have hne' : (⟨w.heap.size, 0, none⟩ : Addr) ≠ ⟨w.heap.size + 1, 0, none⟩ := Ne.symm hne
      have c1 : ((W5.setCell ⟨w.heap.size, 0, none⟩ V).setCell ⟨w.heap.size + 1, 0, none⟩ (.int .i64 E)).cell? ⟨w.heap.size, 0, none⟩ = some V := by
        rw [World.cell?_setCell_other _ _ _ _ hne]; exact World.cell?_setCell_same _ _ _ h1
      have c2 : ((W5.setCell ⟨w.heap.size, 0, none⟩ V).setCell ⟨w.heap.size + 1, 0, none⟩ (.int .i64 E)).cell? ⟨w.heap.size + 1, 0, none⟩ = some (.int .i64 E) := by
        refine World.cell?_setCell_same _ _ _ (u := .int .i64 ev) ?_
        rw [World.cell?_setCell_other _ _ _ _ hne']; exact h3
      have hk0 : ∀ O : Nat → Prop, ¬ O w.heap.size → ¬ O (w.heap.size + 1) → Keep O W5 ((W5.setCell ⟨w.heap.size, 0, none⟩ V).setCell ⟨w.heap.size + 1, 0, none⟩ (.int .i64 E)) := fun O h1 h2 => (Keep.setCell _ _ _ h1).trans (Keep.setCell _ _ _ h2)
      have hk9 : ∀ O : Nat → Prop, ¬ O w.heap.size → ¬ O (w.heap.size + 1) → Keep O W5 W6 := by
        intro O a1 a2
        have h := hk0 O a1 a2
        rcases h6 with rfl | rfl
        · exact h
        · exact ⟨h.os, h.tape, h.output, h.size, h.block⟩
      have d1 : W6.cell? ⟨w.heap.size, 0, none⟩ = some V := by rcases h6 with rfl | rfl <;> exact c1
      have d2 : W6.cell? ⟨w.heap.size + 1, 0, none⟩ = some (.int .i64 E) := by rcases h6 with rfl | rfl <;> exact c2
      have hka : ∀ O : Nat → Prop, ¬ O D → Keep O W6 (W6.putObj D (.deferred none)) := fun O hO => Keep.putObj _ _ _ hO
      exact ⟨(hk9 (fun q => q = D) (by omega) (by omega)).heap rfl hd, (hka (fun q => q ≠ D) (fun h => h rfl)).cell (p := ⟨w.heap.size, 0, none⟩) (show w.heap.size ≠ D by omega) d1, (hka (fun q => q ≠ D) (fun h => h rfl)).cell (p := ⟨w.heap.size + 1, 0, none⟩) (show w.heap.size + 1 ≠ D by omega) d2, h5.trans (((hk9 (fun q => q < w.heap.size) (by omega) (by omega)).trans (hka (fun q => q < w.heap.size) (by omega))).below (fun q hq => hq) h5.size), (hk9 _ (by omega) (by omega)).trans (hka _ (by omega))⟩
    have HEND := Lib.hid hend
    clear hend
    rcases hres with ⟨p9, hd9, rfl, ho9⟩ | hres
    · obtain ⟨A9, c9, rfl⟩ := (Own.bs ho9).form
      have HD9 := Lib.hid hd9
      have HO9 := Lib.hid ho9
      clear hd9 ho9
      gi_wp2_with fail
      show LeavesInM _ _ _ _ _ _ _ _ _
      obtain ⟨e1, e2, e3, e4, e5⟩ := HEND.out (.slice A9 p9.length c9) 0 _ (Or.inl rfl)
      refine ⟨by simp, .inl ⟨_, _, rfl, run_takeDeferred e1, ?_⟩⟩
      refine ⟨.tuple #[.slice A9 p9.length c9, .int .i64 (1 + (c.length : Int) + 1), .int .i64 0], ?_, ?_⟩
      · simp [results, Try.results16, go_sem, e2, e3]
      · refine ⟨e4, Or.inl ⟨p9, _, HD9.out, ?_, ownsRow_up (base := B) (e5.own (fun q hq => hq) HO9.out) (by omega)⟩⟩
        have : (1 : Int) + (c.length : Int) + 1 = ((c.length + 2 : Nat) : Int) := by omega
        rw [this]
    · have hev : (ev != 0) = true := by rcases hres with ⟨_, _, rfl⟩ | ⟨_, _, rfl⟩ <;> rfl
      have HRES := Lib.hid hres
      clear hres
      gi_wp2_with fail
      refine wpIn_wide.2 ?_
      go_region
      gi_wp2_with fail
      show LeavesInM _ _ _ _ _ _ _ _ _
      obtain ⟨e1, e2, e3, e4, e5⟩ := HEND.out (.slice none 0 0) ev _ (Or.inr rfl)
      refine ⟨by simp, .inl ⟨_, _, rfl, run_takeDeferred e1, ?_⟩⟩
      refine ⟨.tuple #[.slice none 0 0, .int .i64 0, .int .i64 ev], ?_, ?_⟩
      · simp [results, Try.results16, go_sem, e2, e3]
      · rcases HRES.out with ⟨r1, r2, rfl⟩ | ⟨r1, r2, rfl⟩
        · exact ⟨e4, Or.inr (Or.inl ⟨r1, r2, rfl⟩)⟩
        · exact ⟨e4, Or.inr (Or.inr ⟨r1, r2, rfl⟩)⟩
  case hbody =>
    rintro l' B k x v W5 hB hBW ⟨vp, ev, h1, h2, h3, h4, h5, h6⟩ hx hit
    obtain ⟨hx1, hx2⟩ := plain_len hx
    obtain ⟨pp, c1, c2, hxp⟩ := snoc2 hx1
    obtain ⟨A4, cap4, rfl⟩ := (Own.bs hit).form
    have hpl : pp.length ≤ 4096 := by rw [hxp] at hx2; simp at hx2; omega
    have hpay : pay x = if c1.toNat + 256 * c2.toNat = fcsN pp then some pp else none := by rw [hxp]; exact pay_form pp c1 c2
    have hit' : Own W5 B (.slice A4 pp.length cap4) pp := by
      have h : Own W5 B (.slice A4 x.length cap4) x := hit
      rw [hxp] at h
      exact h.to (by simp)
    have HXP := Lib.hid hxp
    have HPAY := Lib.hid hpay
    have hbit := Own.bs hit
    clear hxp hpay h6
    gi_wp2_with fail
    refine ⟨trivial, rfl, (CallsIn.inRound l' (callsIn_wide.2 (newTable_any W5))).mono ?_⟩
    rintro e w6 ⟨rfl, ht6, hb6⟩
    gi_wp2_with fail
    refine ⟨trivial, rfl, (payload_x l' W5.heap.size A4 cap4 x pp c1 c2 HXP.out w6 w6.heap.size ht6.is (hbit.past hb6) (by omega)).mono ?_⟩
    rintro e w7 ⟨⟨n7, hw7⟩, hor⟩
    have hb7 : Below W5.heap.size W5 w7 := by rw [hw7]; exact below_drewN hb6 n7
    have hs7 := hb7.size
    have hpc7 := cell_past h1 hb7
    have hec7 := cell_past h3 hb7
    have hpf7 : w7.frozen? ⟨w.heap.size, 0, none⟩ = false := (hb7.frozen (p := ⟨w.heap.size, 0, none⟩) (show w.heap.size < W5.heap.size by omega)).trans h2
    have hef7 : w7.frozen? ⟨w.heap.size + 1, 0, none⟩ = false := (hb7.frozen (p := ⟨w.heap.size + 1, 0, none⟩) (show w.heap.size + 1 < W5.heap.size by omega)).trans h4
    have hn7 : Below w.heap.size w w7 := h5.trans (hb7.mono h5.size)
    have hitp := hit'.past hb7
    clear hw7 h1 h2 h3 h4 ht6 hb6 hit hit' hbit
    have hfin : ∀ (V : Value) (E : Int), DecSt ([c].filterMap unst) B (k + 1) w7 V E → goesOn (fun W' => (∃ vp ev, W'.cell? ⟨w.heap.size, 0, none⟩ = some vp ∧ W'.frozen? ⟨w.heap.size, 0, none⟩ = false ∧ W'.cell? ⟨w.heap.size + 1, 0, none⟩ = some (.int .i64 ev) ∧ W'.frozen? ⟨w.heap.size + 1, 0, none⟩ = false ∧ Below w.heap.size w W' ∧ DecSt ([c].filterMap unst) B (k + 1) W' vp ev) ∧ Keep (Theirs w.heap.size W4.heap.size B) W5 W') Exit.normal { tmps := #[], defers := [] } ((w7.setCell ⟨w.heap.size, 0, none⟩ V).setCell ⟨w.heap.size + 1, 0, none⟩ (.int .i64 E)) := by
      intro V E hd
      have hk9 : ∀ O : Nat → Prop, ¬ O w.heap.size → ¬ O (w.heap.size + 1) → Keep O w7 ((w7.setCell ⟨w.heap.size, 0, none⟩ V).setCell ⟨w.heap.size + 1, 0, none⟩ (.int .i64 E)) := fun O h1 h2 => (Keep.setCell _ _ _ h1).trans (Keep.setCell _ _ _ h2)
      have hne : (⟨w.heap.size + 1, 0, none⟩ : Addr) ≠ ⟨w.heap.size, 0, none⟩ := by intro e; injection e with e _ _; omega
      have hne' : (⟨w.heap.size, 0, none⟩ : Addr) ≠ ⟨w.heap.size + 1, 0, none⟩ := Ne.symm hne
      refine ⟨rfl, ⟨V, E, ?_, ?_, ?_, ?_, ?_, ?_⟩, ?_⟩
      · rw [World.cell?_setCell_other _ _ _ _ hne]; exact World.cell?_setCell_same _ _ _ hpc7
      · rw [World.frozen?_setCell, World.frozen?_setCell]; exact hpf7
      · refine World.cell?_setCell_same _ _ _ (u := .int .i64 ev) ?_
        rw [World.cell?_setCell_other _ _ _ _ hne']; exact hec7
      · rw [World.frozen?_setCell, World.frozen?_setCell]; exact hef7
      · exact hn7.trans ((hk9 (fun q => q < w.heap.size) (by omega) (by omega)).below (fun q hq => hq) hn7.size)
      · exact hd.keep (hk9 (fun q => B ≤ q) (by omega) (by omega)) (fun q hq => hq)
      · exact (Keep.of_below hb7).trans (hk9 _ (by unfold Theirs; omega) (by unfold Theirs; omega))
    have HFIN := Lib.hid hfin
    clear hfin
    rcases hor with ⟨hok, rfl⟩ | ⟨hno, rfl⟩
    · have HD := Lib.hid (show DecSt ([c].filterMap unst) B (k + 1) w7 (.slice A4 pp.length cap4) 0 from Or.inr ⟨x, by omega, by simpa using hx, Or.inl ⟨pp, by rw [HPAY.out, if_pos hok], rfl, hitp⟩⟩)
      clear hok hx hitp
      gi_wp2_with fail
      exact HFIN.out _ _ HD.out
    · have HD := Lib.hid (show DecSt ([c].filterMap unst) B (k + 1) w7 (.slice none 0 0) 21 from Or.inr ⟨x, by omega, by simpa using hx, Or.inr ⟨by rw [HPAY.out, if_neg hno], rfl, rfl⟩⟩)
      clear hno hx hitp
      gi_wp2_with fail
      exact HFIN.out _ _ HD.out
end Go.Proofs.Ytokjlcajcflhgaa
