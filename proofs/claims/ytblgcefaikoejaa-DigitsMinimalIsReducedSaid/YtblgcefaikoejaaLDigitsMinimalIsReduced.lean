/-
  The walk of the law DigitsMinimalIsReduced.
-/
import Derived.Test.YtblgcefaikoejaaDrS
import Derived.Test.YtblgcefaikoejaaSts
import Derived.Sort.Walk0
namespace Go.Proofs.Ytblgcefaikoejaa
open Go.RowKit Dg
set_option linter.unusedVariables false
set_option linter.unusedSimpArgs false

/-- The run of siblings before an index. -/
def Runs (m : List Str) (i r : Nat) : Prop := 1 ≤ r ∧ r ≤ 9 ∧ (0 < i → ∃ T U p, m.take i = T ++ (U ++ [p]) ∧ U.length + 1 = r ∧ ∀ y ∈ U, y.length = p.length ∧ par y = par p)

theorem Runs.zero (m : List Str) : Runs m 0 1 := ⟨by omega, by omega, fun h => by omega⟩
theorem take_one {m : List Str} {i : Nat} {x : Str} (hx : m[i]? = some x) : m.take (i + 1) = m.take i ++ [x] := by rw [List.take_add_one, hx]; rfl
theorem Runs.fresh {m : List Str} {i : Nat} {x : Str} (hx : m[i]? = some x) : Runs m (i + 1) 1 := ⟨by omega, by omega, fun _ => ⟨m.take i, [], x, by rw [take_one hx]; rfl, rfl, fun y hy => by simp at hy⟩⟩

theorem mem_par {x : Str} (hd : digits x) (h0 : x ≠ []) : x ∈ exts (par x) := by
  refine mem_exts.2 ⟨x.getLast h0, hd _ (List.getLast_mem h0), ?_⟩
  unfold par
  rw [← List.dropLast_eq_take, List.dropLast_concat_getLast]

theorem Runs.more {l m : List Str} (hr : Red l m) {j r : Nat} {p x : Str} (h : Runs m (j + 1) r) (hp : m[j]? = some p) (hx : m[j + 1]? = some x) (hl : p.length = x.length) (h0 : 0 < x.length) (hc : com p x = x.length - 1) :
    Runs m (j + 2) (r + 1) := by
  obtain ⟨h1, h9, h2⟩ := h
  obtain ⟨T, U, p', ht, hu, hall⟩ := h2 (by omega)
  have hpe : p' = p := by
    have e := take_one hp
    rw [ht, ← List.append_assoc] at e
    have := (List.append_inj' e rfl).2
    simpa using this
  subst hpe
  have hpar : par p' = par x := by
    have := com_take p' x
    rw [hc] at this
    unfold par
    rw [hl]
    exact this
  have hall2 : ∀ y ∈ U ++ [p'], y.length = x.length ∧ par y = par x := fun y hy => by
    rcases List.mem_append.1 hy with hy | hy
    · exact ⟨(hall y hy).1.trans hl, (hall y hy).2.trans hpar⟩
    · simp at hy; subst hy; exact ⟨hl, hpar⟩
  have htake : m.take (j + 2) = T ++ ((U ++ [p']) ++ [x]) := by rw [take_one hx, ht, List.append_assoc]
  refine ⟨by omega, ?_, fun _ => ⟨T, U ++ [p'], x, htake, by rw [List.length_append]; simp [hu], hall2⟩⟩
  refine Classical.byContradiction fun hc9 => ?_
  have hr9 : r = 9 := by omega
  have hsub : ((U ++ [p']) ++ [x]).Sublist m := by
    have : ((U ++ [p']) ++ [x]).Sublist (m.take (j + 2)) := by rw [htake]; exact List.sublist_append_right _ _
    exact this.trans (List.take_sublist _ _)
  have hnd : ((U ++ [p']) ++ [x]).Nodup := (hr.sorted.sublist hsub).imp fun {a b} hab e => by subst e; exact List.lt_irrefl _ hab
  have hex : ∀ y ∈ (U ++ [p']) ++ [x], y ∈ exts (par x) := fun y hy => by
    have hym : y ∈ m := hsub.subset hy
    have hyd := (hr.short y hym).1
    have : y.length = x.length ∧ par y = par x := by
      rcases List.mem_append.1 hy with hy | hy
      · exact hall2 y hy
      · simp at hy; subst hy; exact ⟨rfl, rfl⟩
    rw [← this.2]
    exact mem_par hyd (fun e => by rw [e] at this; simp at this; omega)
  have hlen : ((U ++ [p']) ++ [x]).length = 10 := by simp [hu]; omega
  refine hr.noten (par x) fun z hz => ?_
  refine Classical.byContradiction fun hzm => ?_
  have hzn : z ∉ (U ++ [p']) ++ [x] := fun h => hzm (hsub.subset h)
  have := nodup_le (K := z :: ((U ++ [p']) ++ [x])) (K0 := exts (par x)) (List.nodup_cons.2 ⟨hzn, hnd⟩) (fun y hy => by
    rcases List.mem_cons.1 hy with rfl | hy
    · exact hz
    · exact hex y hy)
  rw [exts_ten, List.length_cons, hlen] at this
  omega

/-- Neighbours. -/
theorem red_next {l m : List Str} (hr : Red l m) {j : Nat} {p x : Str} (hp : m[j]? = some p) (hx : m[j + 1]? = some x) : p < x ∧ com p x ≠ p.length ∧ 0 < x.length := by
  obtain ⟨h1, rfl⟩ := List.getElem?_eq_some_iff.1 hp
  obtain ⟨h2, rfl⟩ := List.getElem?_eq_some_iff.1 hx
  have hlt : m[j] < m[j + 1] := List.pairwise_iff_getElem.1 hr.sorted j (j + 1) h1 h2 (by omega)
  refine ⟨hlt, fun e => ?_, ?_⟩
  · have := hr.anti _ (List.getElem_mem h1) _ (List.getElem_mem h2) ((com_pre _ _).1 e)
    rw [← this] at hlt
    exact List.lt_irrefl _ hlt
  · cases h : m[j + 1] with
    | nil => rw [h] at hlt; exact absurd hlt (List.not_lt_nil _)
    | cons a t => simp

/-- x >= y of two strings. -/
theorem exec_geq {o : Oper} {a : Act} (w : World) {x y : Operand} {t u : TypeId} (ho : o.op = .binOp .geq t x y u) {p q : Str} {b : Bool} (hx : a.eval x = .string ⟨p.toArray⟩) (hy : a.eval y = .string ⟨q.toArray⟩) (hl : Op.bytesLess p q = b) :
    (execOp a.eval o).run Try.prog w = .ok (.value (.bool !b)) w := by
  unfold execOp
  simp only [ho, hx, hy]
  have h : Op.stringOp .geq ⟨p.toArray⟩ ⟨q.toArray⟩ = pure (.bool !b) := by
    unfold Op.stringOp
    simp only [Lib.toList_data, hl]
  show (((Op.stringOp .geq ⟨p.toArray⟩ ⟨q.toArray⟩) >>= fun v => pure (Next.value v)) : Sem Next).run _ _ = _
  rw [h]
  rfl

set_option maxRecDepth 100000 in
set_option maxHeartbeats 4000000 in
theorem digitsMinimalIsReduced_walk (v : Value) (l : List (List UInt8)) (w : World) (hv : Sl w w.heap.size maxLen v l) :
    Calls Try.prog 10 #[v] w fun e w' => e = .returned (.bool true) ∧ Below w.heap.size w w' := by
  cases hf : few l
  · go_enter Try.func10, Try.ntmps10
    go_wp2_with fail
    refine (sane_any _).mono ?_
    rintro e w1 ⟨rfl, b1⟩
    have v1 := hv.past b1
    have F := few_any _ l w1 v1
    rw [hf] at F
    go_wp2_with fail
    refine F.mono ?_
    rintro e w' ⟨rfl, rfl⟩
    clear F
    go_wp2_with fail
    go_ret
    exact ⟨rfl, b1⟩
  · obtain ⟨hl60, hx40⟩ := few_iff.1 hf
    have M := fun w v (h : Sl w w.heap.size maxLen v l) => minimal_any v l w ⟨h.1, fun x hx => by have := hx40 x hx; omega⟩ (by omega)
    go_enter Try.func10, Try.ntmps10
    go_wp2_with fail
    refine (sane_any _).mono ?_
    rintro e w1 ⟨rfl, b1⟩
    have v1 := hv.past b1
    have F := few_any _ l w1 v1
    rw [hf] at F
    clear hx40 hf
    go_wp2_with fail
    refine F.mono ?_
    rintro e w' ⟨rfl, rfl⟩
    clear F
    go_wp2_with fail
    refine (M _ _ v1).mono ?_
    clear M
    rintro e w2 ⟨b2, ⟨hb, rfl⟩ | ⟨hb, u, m, rfl, hr, hu⟩⟩
    · go_wp2_with fail
      go_ret
      exact ⟨rfl, b1.trans (b2.mono b1.size)⟩
    · have HR := Lib.hid hr
      have b12 := b1.trans (b2.mono b1.size)
      have hml : m.length ≤ 60 := by have := hr.len; omega
      clear hb hr b2 b1 v1 hv hl60
      obtain ⟨A, cap, rfl⟩ := hu.form
      go_wp2_with fail
      go_loopw [6, 7] (fun vr vi wr => ∃ i r : Nat, vi = .int .i64 (i : Int) ∧ vr = .int .i64 (r : Int) ∧ i ≤ m.length ∧ Runs m i r ∧ Sl wr wr.heap.size 14 (.slice A m.length cap) m ∧ Below w.heap.size w wr)
        (fun vr vi wr => ixn m.length vi)
      case atStart => exact ⟨0, 1, rfl, rfl, Nat.zero_le _, Runs.zero _, hu, b12⟩
      case round =>
        clear hu b12
        obtain ⟨i, r, rfl, rfl, hi, hR, vr, hB⟩ := hrel
        by_cases hlt : i < m.length
        · obtain ⟨x, hx, hxs, hxl⟩ := vr.at_ hlt
          by_cases h0 : i = 0
          · subst h0
            have HN := Lib.hid (Runs.fresh hx)
            clear hR hx hxs
            go_wp2_with fail
            go_region
            go_wp2_with fail
            go_region
            go_wp2_with fail
            go_roundw
            case measure => show m.length - ((0 : Int) + 1).toNat < m.length - ((0 : Int)).toNat; omega
            case rel => exact ⟨1, 1, rfl, rfl, by omega, HN.out, vr.carry (Below.refl _ _).drew.drew (Nat.le_refl _), hB.drew.drew⟩
          · have hip : 0 < i := by omega
            obtain ⟨j, hj⟩ : ∃ j, i = j + 1 := ⟨i - 1, by omega⟩
            have hjl : j < m.length := by omega
            obtain ⟨p, hp, hps, hpl⟩ := vr.at_ hjl
            have hnx := red_next HR.out hp (x := x) (by rw [← hj]; exact hx)
            obtain ⟨hpx, hcne, hx0⟩ := hnx
            have hlb : Op.bytesLess p x = true := by rw [bytesLess_eq]; exact decide_eq_true hpx
            obtain ⟨ad, hA, had, hcp, hca⟩ := vr.cellat hp
            subst hA
            obtain ⟨ad2, hA, had2, hcx, hca2⟩ := vr.cellat hx
            obtain rfl : ad = ad2 := by injection hA
            have C := fun w => common_any p x w (by omega) (by omega)
            obtain ⟨c, hc⟩ : ∃ c, com p x = c := ⟨_, rfl⟩
            rw [hc] at C hcne
            have hcb : ((c : Int) == (p.length : Int)) = false := beq_eq_false_iff_ne.2 (by omega)
            have HC := Lib.hid hc
            have HP := Lib.hid hp
            have HX := Lib.hid hx
            have HRN := Lib.hid hR
            have hr9 : 1 ≤ r ∧ r ≤ 9 := ⟨hR.1, hR.2.1⟩
            obtain ⟨hr1, hr9⟩ := hr9
            unfold str at hcp hcx C
            have HJ := Lib.hid hj
            clear hpx hcne hc hp hx hR hps hxs hA had2 hca2 hj h0
            go_upto_region 13 with (fail)
            refine wp_region_pt wr.heap.size (.take 0 (.take 1 (.take 2 (.take 3 (.take 4 (.take 5 (.take 6 (.take 7 (.take 8 (.take 9 (.take 10 (.take 11 (.take 12 (.take 13 (.take 14 (.take 15 (.take 16 (.take 17 (.take 18 (.take 19 (.take 20 (.take 21 (.take 22 (.take 24 (.take 25 (.take 26 (.take 27 (.take 28 (.take 29 (.step 23 (.take 30 (.take 31 (.take 32 .done))))))))))))))))))))))))))))))))) (by kernel_rfl) (by kernel_rfl) (by kernel_rfl) (fun _ _ h => h) ?_
            obtain ⟨w0, hw0⟩ : ∃ w0, w0 = wr.drew := ⟨_, rfl⟩
            have ej : w0.cell? (ad.add j) = some (.string ⟨p.toArray⟩) := by rw [hw0]; simpa using hcp
            have ei : w0.cell? (ad.add i) = some (.string ⟨x.toArray⟩) := by rw [hw0]; simpa using hcx
            have hadj : (ad.add j).block < wr.heap.size := by rw [add_block]; exact had
            have hadi : (ad.add i).block < wr.heap.size := by rw [add_block]; exact had
            have b0 : Below wr.heap.size wr w0 := by rw [hw0]; exact (Below.refl _ _).drew
            have z0 : wr.heap.size ≤ w0.heap.size := b0.size
            rw [← hw0]
            clear hw0 hcp hcx
            first | refine pt_skip rfl rfl rfl rfl ?_ | (refine pt_take rfl rfl rfl rfl ?_; apply Exists.intro; refine ⟨fun w' hw' => ?_, ?_⟩; focus ((repeat (first | go_skip | go_guarded | go_step | go_upon | go_back)); exact ⟨rfl, rfl, rfl⟩))
            first | refine pt_skip rfl rfl rfl rfl ?_ | (refine pt_take rfl rfl rfl rfl ?_; apply Exists.intro; refine ⟨fun w' hw' => ?_, ?_⟩; focus ((repeat (first | go_skip | go_guarded | go_step | go_upon | go_back)); exact ⟨rfl, rfl, rfl⟩))
            first | refine pt_skip rfl rfl rfl rfl ?_ | (refine pt_take rfl rfl rfl rfl ?_; apply Exists.intro; refine ⟨fun w' hw' => ?_, ?_⟩; focus ((repeat (first | go_skip | go_guarded | go_step | go_upon | go_back)); exact ⟨rfl, rfl, rfl⟩))
            first | refine pt_skip rfl rfl rfl rfl ?_ | (refine pt_take rfl rfl rfl rfl ?_; apply Exists.intro; refine ⟨fun w' hw' => ?_, ?_⟩; focus ((repeat (first | go_skip | go_guarded | go_step | go_upon | go_back)); exact ⟨rfl, rfl, rfl⟩))
            first | refine pt_skip rfl rfl rfl rfl ?_ | (refine pt_take rfl rfl rfl rfl ?_; apply Exists.intro; refine ⟨fun w' hw' => ?_, ?_⟩; focus ((repeat (first | go_skip | go_guarded | go_step | go_upon | go_back)); exact ⟨rfl, rfl, rfl⟩))
            first | refine pt_skip rfl rfl rfl rfl ?_ | (refine pt_take rfl rfl rfl rfl ?_; apply Exists.intro; refine ⟨fun w' hw' => ?_, ?_⟩; focus ((repeat (first | go_skip | go_guarded | go_step | go_upon | go_back)); exact ⟨rfl, rfl, rfl⟩))
            refine pt_take rfl rfl rfl rfl ?_
            apply Exists.intro
            refine ⟨fun w' hw' => ?_, ?_⟩
            · refine wp_run rfl (exec_ix 28 9 Try.underlying28 size_strM w' rfl rfl _ _ j rfl (by have := HJ.out; omega) hjl (q := ad.add j) rfl) ?_
              exact ⟨rfl, rfl, rfl⟩
            refine pt_take rfl rfl rfl rfl ?_
            apply Exists.intro
            refine ⟨fun w' hw' => ?_, ?_⟩
            · have hcell := (hw'.cell (p := ad.add j) hadj).trans ej
              focus ((repeat (first | go_skip | go_guarded | go_step | go_upon | go_back)); exact ⟨rfl, rfl, rfl⟩)
            first | refine pt_skip rfl rfl rfl rfl ?_ | (refine pt_take rfl rfl rfl rfl ?_; apply Exists.intro; refine ⟨fun w' hw' => ?_, ?_⟩; focus ((repeat (first | go_skip | go_guarded | go_step | go_upon | go_back)); exact ⟨rfl, rfl, rfl⟩))
            first | refine pt_skip rfl rfl rfl rfl ?_ | (refine pt_take rfl rfl rfl rfl ?_; apply Exists.intro; refine ⟨fun w' hw' => ?_, ?_⟩; focus ((repeat (first | go_skip | go_guarded | go_step | go_upon | go_back)); exact ⟨rfl, rfl, rfl⟩))
            refine pt_take rfl rfl rfl rfl ?_
            apply Exists.intro
            refine ⟨fun w' hw' => ?_, ?_⟩
            · refine wp_run rfl (exec_ix 28 9 Try.underlying28 size_strM w' rfl rfl _ _ i rfl (by omega) hlt (q := ad.add i) rfl) ?_
              exact ⟨rfl, rfl, rfl⟩
            refine pt_take rfl rfl rfl rfl ?_
            apply Exists.intro
            refine ⟨fun w' hw' => ?_, ?_⟩
            · have hcell := (hw'.cell (p := ad.add i) hadi).trans ei
              focus ((repeat (first | go_skip | go_guarded | go_step | go_upon | go_back)); exact ⟨rfl, rfl, rfl⟩)
            refine pt_take rfl rfl rfl rfl ?_
            apply Exists.intro
            refine ⟨fun w' hw' => ?_, ?_⟩
            · refine wp_run rfl (exec_geq w' rfl rfl rfl hlb) ?_
              exact ⟨rfl, rfl, rfl⟩
            first | refine pt_skip rfl rfl rfl rfl ?_ | (refine pt_take rfl rfl rfl rfl ?_; apply Exists.intro; refine ⟨fun w' hw' => ?_, ?_⟩; focus ((repeat (first | go_skip | go_guarded | go_step | go_upon | go_back)); exact ⟨rfl, rfl, rfl⟩))
            first | refine pt_skip rfl rfl rfl rfl ?_ | (refine pt_take rfl rfl rfl rfl ?_; apply Exists.intro; refine ⟨fun w' hw' => ?_, ?_⟩; focus ((repeat (first | go_skip | go_guarded | go_step | go_upon | go_back)); exact ⟨rfl, rfl, rfl⟩))
            first | refine pt_skip rfl rfl rfl rfl ?_ | (refine pt_take rfl rfl rfl rfl ?_; apply Exists.intro; refine ⟨fun w' hw' => ?_, ?_⟩; focus ((repeat (first | go_skip | go_guarded | go_step | go_upon | go_back)); exact ⟨rfl, rfl, rfl⟩))
            first | refine pt_skip rfl rfl rfl rfl ?_ | (refine pt_take rfl rfl rfl rfl ?_; apply Exists.intro; refine ⟨fun w' hw' => ?_, ?_⟩; focus ((repeat (first | go_skip | go_guarded | go_step | go_upon | go_back)); exact ⟨rfl, rfl, rfl⟩))
            refine pt_take rfl rfl rfl rfl ?_
            apply Exists.intro
            refine ⟨fun w' hw' => ?_, ?_⟩
            · refine wp_run rfl (exec_ix 28 9 Try.underlying28 size_strM w' rfl rfl _ _ j rfl (by have := HJ.out; omega) hjl (q := ad.add j) rfl) ?_
              exact ⟨rfl, rfl, rfl⟩
            refine pt_take rfl rfl rfl rfl ?_
            apply Exists.intro
            refine ⟨fun w' hw' => ?_, ?_⟩
            · have hcell := (hw'.cell (p := ad.add j) hadj).trans ej
              focus ((repeat (first | go_skip | go_guarded | go_step | go_upon | go_back)); exact ⟨rfl, rfl, rfl⟩)
            first | refine pt_skip rfl rfl rfl rfl ?_ | (refine pt_take rfl rfl rfl rfl ?_; apply Exists.intro; refine ⟨fun w' hw' => ?_, ?_⟩; focus ((repeat (first | go_skip | go_guarded | go_step | go_upon | go_back)); exact ⟨rfl, rfl, rfl⟩))
            first | refine pt_skip rfl rfl rfl rfl ?_ | (refine pt_take rfl rfl rfl rfl ?_; apply Exists.intro; refine ⟨fun w' hw' => ?_, ?_⟩; focus ((repeat (first | go_skip | go_guarded | go_step | go_upon | go_back)); exact ⟨rfl, rfl, rfl⟩))
            refine pt_take rfl rfl rfl rfl ?_
            apply Exists.intro
            refine ⟨fun w' hw' => ?_, ?_⟩
            · refine wp_run rfl (exec_ix 28 9 Try.underlying28 size_strM w' rfl rfl _ _ i rfl (by omega) hlt (q := ad.add i) rfl) ?_
              exact ⟨rfl, rfl, rfl⟩
            refine pt_take rfl rfl rfl rfl ?_
            apply Exists.intro
            refine ⟨fun w' hw' => ?_, ?_⟩
            · have hcell := (hw'.cell (p := ad.add i) hadi).trans ei
              focus ((repeat (first | go_skip | go_guarded | go_step | go_upon | go_back)); exact ⟨rfl, rfl, rfl⟩)
            first | refine pt_skip rfl rfl rfl rfl ?_ | (refine pt_take rfl rfl rfl rfl ?_; apply Exists.intro; refine ⟨fun w' hw' => ?_, ?_⟩; focus ((repeat (first | go_skip | go_guarded | go_step | go_upon | go_back)); exact ⟨rfl, rfl, rfl⟩))
            first | refine pt_skip rfl rfl rfl rfl ?_ | (refine pt_take rfl rfl rfl rfl ?_; apply Exists.intro; refine ⟨fun w' hw' => ?_, ?_⟩; focus ((repeat (first | go_skip | go_guarded | go_step | go_upon | go_back)); exact ⟨rfl, rfl, rfl⟩))
            first | refine pt_skip rfl rfl rfl rfl ?_ | (refine pt_take rfl rfl rfl rfl ?_; apply Exists.intro; refine ⟨fun w' hw' => ?_, ?_⟩; focus ((repeat (first | go_skip | go_guarded | go_step | go_upon | go_back)); exact ⟨rfl, rfl, rfl⟩))
            refine pt_take rfl rfl rfl rfl ?_
            apply Exists.intro
            refine ⟨fun w' hw' => ?_, ?_⟩
            · refine wp_run rfl (exec_ix 28 9 Try.underlying28 size_strM w' rfl rfl _ _ j rfl (by have := HJ.out; omega) hjl (q := ad.add j) rfl) ?_
              exact ⟨rfl, rfl, rfl⟩
            refine pt_take rfl rfl rfl rfl ?_
            apply Exists.intro
            refine ⟨fun w' hw' => ?_, ?_⟩
            · have hcell := (hw'.cell (p := ad.add j) hadj).trans ej
              focus ((repeat (first | go_skip | go_guarded | go_step | go_upon | go_back)); exact ⟨rfl, rfl, rfl⟩)
            first | refine pt_skip rfl rfl rfl rfl ?_ | (refine pt_take rfl rfl rfl rfl ?_; apply Exists.intro; refine ⟨fun w' hw' => ?_, ?_⟩; focus ((repeat (first | go_skip | go_guarded | go_step | go_upon | go_back)); exact ⟨rfl, rfl, rfl⟩))
            refine pt_step rfl ?_
            go_wp2_with fail
            refine (C _).mono ?_
            rintro e W1 ⟨rfl, hb1⟩
            go_wp2_with fail
            refine ⟨rfl, hb1.mono z0, ?_⟩
            first | refine pt_skip rfl rfl rfl rfl ?_ | (refine pt_take rfl rfl rfl rfl ?_; apply Exists.intro; refine ⟨fun w' hw' => ?_, ?_⟩; focus ((repeat (first | go_skip | go_guarded | go_step | go_upon | go_back)); exact ⟨rfl, rfl, rfl⟩))
            first | refine pt_skip rfl rfl rfl rfl ?_ | (refine pt_take rfl rfl rfl rfl ?_; apply Exists.intro; refine ⟨fun w' hw' => ?_, ?_⟩; focus ((repeat (first | go_skip | go_guarded | go_step | go_upon | go_back)); exact ⟨rfl, rfl, rfl⟩))
            first | refine pt_skip rfl rfl rfl rfl ?_ | (refine pt_take rfl rfl rfl rfl ?_; apply Exists.intro; refine ⟨fun w' hw' => ?_, ?_⟩; focus ((repeat (first | go_skip | go_guarded | go_step | go_upon | go_back)); exact ⟨rfl, rfl, rfl⟩))
            have b01 : Below wr.heap.size wr W1 := b0.trans (hb1.mono z0)
            have v1 : Sl W1 W1.heap.size 14 (.slice (some ad) m.length cap) m := vr.past b01
            have hB1 : Below w.heap.size w W1 := hB.trans (b01.mono hB.size)
            obtain ⟨ad3, hA, had1, hcp, _⟩ := v1.cellat HP.out
            obtain rfl : ad = ad3 := by injection hA
            obtain ⟨ad4, hA4, _, hcx, _⟩ := v1.cellat HX.out
            obtain rfl : ad = ad4 := by injection hA4
            have had := had1
            unfold str at hcp hcx
            clear ej ei hadj hadi b0 z0 hb1 b01 vr hB had1 hA hA4 hcb
            have hxb : decide (0 < x.length) = true := decide_eq_true hx0
            change Exit.then _ _ Exit.normal _ _
            by_cases hpx : p.length = x.length
            · have hpb : ((p.length : Int) == (x.length : Int)) = true := by rw [hpx]; simp
              by_cases hsib : c = x.length - 1
              · have hsb : ((c : Int) == (x.length : Int) - 1) = true := by rw [beq_iff_eq]; omega
                have HN : Hid (Runs m (i + 1) (r + 1)) := Lib.hid (by
                  have hj := HJ.out
                  subst hj
                  exact HRN.out.more HR.out HP.out HX.out hpx hx0 (HC.out.trans hsib))
                have hr8 : r ≤ 8 := by have := HN.out.2.1; omega
                clear hpx hsib
                go_upto_region 15 with (fail)
                refine wp_region_pt W1.heap.size (.take 0 (.take 1 (.take 2 (.take 3 (.take 4 (.take 5 (.take 6 (.take 7 (.take 8 (.take 9 (.take 10 (.take 11 (.take 12 (.take 13 (.take 14 (.take 15 (.take 16 (.take 17 (.take 18 (.take 19 (.take 20 (.take 21 (.take 22 (.take 23 (.take 24 (.take 25 (.take 26 (.take 27 (.take 28 (.take 29 (.take 30 (.take 31 (.take 32 (.take 33 (.take 35 (.take 36 (.take 37 (.take 38 (.take 39 (.take 40 (.step 34 (.take 41 (.take 42 (.take 43 .done)))))))))))))))))))))))))))))))))))))))))))) (by kernel_rfl) (by kernel_rfl) (by kernel_rfl) (fun _ _ h => h) ?_
                obtain ⟨w0, hw0⟩ : ∃ w0, w0 = W1.drew := ⟨_, rfl⟩
                have ej : w0.cell? (ad.add j) = some (.string ⟨p.toArray⟩) := by rw [hw0]; simpa using hcp
                have ei : w0.cell? (ad.add i) = some (.string ⟨x.toArray⟩) := by rw [hw0]; simpa using hcx
                have hadj : (ad.add j).block < W1.heap.size := by rw [add_block]; exact had
                have hadi : (ad.add i).block < W1.heap.size := by rw [add_block]; exact had
                have b0 : Below W1.heap.size W1 w0 := by rw [hw0]; exact (Below.refl _ _).drew
                have z0 : W1.heap.size ≤ w0.heap.size := b0.size
                rw [← hw0]
                clear hw0 hcp hcx
                first | refine pt_skip rfl rfl rfl rfl ?_ | (refine pt_take rfl rfl rfl rfl ?_; apply Exists.intro; refine ⟨fun w' hw' => ?_, ?_⟩; focus ((repeat (first | go_skip | go_guarded | go_step | go_upon | go_back)); exact ⟨rfl, rfl, rfl⟩))
                first | refine pt_skip rfl rfl rfl rfl ?_ | (refine pt_take rfl rfl rfl rfl ?_; apply Exists.intro; refine ⟨fun w' hw' => ?_, ?_⟩; focus ((repeat (first | go_skip | go_guarded | go_step | go_upon | go_back)); exact ⟨rfl, rfl, rfl⟩))
                first | refine pt_skip rfl rfl rfl rfl ?_ | (refine pt_take rfl rfl rfl rfl ?_; apply Exists.intro; refine ⟨fun w' hw' => ?_, ?_⟩; focus ((repeat (first | go_skip | go_guarded | go_step | go_upon | go_back)); exact ⟨rfl, rfl, rfl⟩))
                first | refine pt_skip rfl rfl rfl rfl ?_ | (refine pt_take rfl rfl rfl rfl ?_; apply Exists.intro; refine ⟨fun w' hw' => ?_, ?_⟩; focus ((repeat (first | go_skip | go_guarded | go_step | go_upon | go_back)); exact ⟨rfl, rfl, rfl⟩))
                first | refine pt_skip rfl rfl rfl rfl ?_ | (refine pt_take rfl rfl rfl rfl ?_; apply Exists.intro; refine ⟨fun w' hw' => ?_, ?_⟩; focus ((repeat (first | go_skip | go_guarded | go_step | go_upon | go_back)); exact ⟨rfl, rfl, rfl⟩))
                refine pt_take rfl rfl rfl rfl ?_
                apply Exists.intro
                refine ⟨fun w' hw' => ?_, ?_⟩
                · refine wp_run rfl (exec_ix 28 9 Try.underlying28 size_strM w' rfl rfl _ _ i rfl (by omega) hlt (q := ad.add i) rfl) ?_
                  exact ⟨rfl, rfl, rfl⟩
                refine pt_take rfl rfl rfl rfl ?_
                apply Exists.intro
                refine ⟨fun w' hw' => ?_, ?_⟩
                · have hcell := (hw'.cell (p := ad.add i) hadi).trans ei
                  focus ((repeat (first | go_skip | go_guarded | go_step | go_upon | go_back)); exact ⟨rfl, rfl, rfl⟩)
                first | refine pt_skip rfl rfl rfl rfl ?_ | (refine pt_take rfl rfl rfl rfl ?_; apply Exists.intro; refine ⟨fun w' hw' => ?_, ?_⟩; focus ((repeat (first | go_skip | go_guarded | go_step | go_upon | go_back)); exact ⟨rfl, rfl, rfl⟩))
                first | refine pt_skip rfl rfl rfl rfl ?_ | (refine pt_take rfl rfl rfl rfl ?_; apply Exists.intro; refine ⟨fun w' hw' => ?_, ?_⟩; focus ((repeat (first | go_skip | go_guarded | go_step | go_upon | go_back)); exact ⟨rfl, rfl, rfl⟩))
                first | refine pt_skip rfl rfl rfl rfl ?_ | (refine pt_take rfl rfl rfl rfl ?_; apply Exists.intro; refine ⟨fun w' hw' => ?_, ?_⟩; focus ((repeat (first | go_skip | go_guarded | go_step | go_upon | go_back)); exact ⟨rfl, rfl, rfl⟩))
                first | refine pt_skip rfl rfl rfl rfl ?_ | (refine pt_take rfl rfl rfl rfl ?_; apply Exists.intro; refine ⟨fun w' hw' => ?_, ?_⟩; focus ((repeat (first | go_skip | go_guarded | go_step | go_upon | go_back)); exact ⟨rfl, rfl, rfl⟩))
                first | refine pt_skip rfl rfl rfl rfl ?_ | (refine pt_take rfl rfl rfl rfl ?_; apply Exists.intro; refine ⟨fun w' hw' => ?_, ?_⟩; focus ((repeat (first | go_skip | go_guarded | go_step | go_upon | go_back)); exact ⟨rfl, rfl, rfl⟩))
                first | refine pt_skip rfl rfl rfl rfl ?_ | (refine pt_take rfl rfl rfl rfl ?_; apply Exists.intro; refine ⟨fun w' hw' => ?_, ?_⟩; focus ((repeat (first | go_skip | go_guarded | go_step | go_upon | go_back)); exact ⟨rfl, rfl, rfl⟩))
                first | refine pt_skip rfl rfl rfl rfl ?_ | (refine pt_take rfl rfl rfl rfl ?_; apply Exists.intro; refine ⟨fun w' hw' => ?_, ?_⟩; focus ((repeat (first | go_skip | go_guarded | go_step | go_upon | go_back)); exact ⟨rfl, rfl, rfl⟩))
                refine pt_take rfl rfl rfl rfl ?_
                apply Exists.intro
                refine ⟨fun w' hw' => ?_, ?_⟩
                · refine wp_run rfl (exec_ix 28 9 Try.underlying28 size_strM w' rfl rfl _ _ j rfl (by have := HJ.out; omega) hjl (q := ad.add j) rfl) ?_
                  exact ⟨rfl, rfl, rfl⟩
                refine pt_take rfl rfl rfl rfl ?_
                apply Exists.intro
                refine ⟨fun w' hw' => ?_, ?_⟩
                · have hcell := (hw'.cell (p := ad.add j) hadj).trans ej
                  focus ((repeat (first | go_skip | go_guarded | go_step | go_upon | go_back)); exact ⟨rfl, rfl, rfl⟩)
                first | refine pt_skip rfl rfl rfl rfl ?_ | (refine pt_take rfl rfl rfl rfl ?_; apply Exists.intro; refine ⟨fun w' hw' => ?_, ?_⟩; focus ((repeat (first | go_skip | go_guarded | go_step | go_upon | go_back)); exact ⟨rfl, rfl, rfl⟩))
                first | refine pt_skip rfl rfl rfl rfl ?_ | (refine pt_take rfl rfl rfl rfl ?_; apply Exists.intro; refine ⟨fun w' hw' => ?_, ?_⟩; focus ((repeat (first | go_skip | go_guarded | go_step | go_upon | go_back)); exact ⟨rfl, rfl, rfl⟩))
                first | refine pt_skip rfl rfl rfl rfl ?_ | (refine pt_take rfl rfl rfl rfl ?_; apply Exists.intro; refine ⟨fun w' hw' => ?_, ?_⟩; focus ((repeat (first | go_skip | go_guarded | go_step | go_upon | go_back)); exact ⟨rfl, rfl, rfl⟩))
                refine pt_take rfl rfl rfl rfl ?_
                apply Exists.intro
                refine ⟨fun w' hw' => ?_, ?_⟩
                · refine wp_run rfl (exec_ix 28 9 Try.underlying28 size_strM w' rfl rfl _ _ i rfl (by omega) hlt (q := ad.add i) rfl) ?_
                  exact ⟨rfl, rfl, rfl⟩
                refine pt_take rfl rfl rfl rfl ?_
                apply Exists.intro
                refine ⟨fun w' hw' => ?_, ?_⟩
                · have hcell := (hw'.cell (p := ad.add i) hadi).trans ei
                  focus ((repeat (first | go_skip | go_guarded | go_step | go_upon | go_back)); exact ⟨rfl, rfl, rfl⟩)
                first | refine pt_skip rfl rfl rfl rfl ?_ | (refine pt_take rfl rfl rfl rfl ?_; apply Exists.intro; refine ⟨fun w' hw' => ?_, ?_⟩; focus ((repeat (first | go_skip | go_guarded | go_step | go_upon | go_back)); exact ⟨rfl, rfl, rfl⟩))
                first | refine pt_skip rfl rfl rfl rfl ?_ | (refine pt_take rfl rfl rfl rfl ?_; apply Exists.intro; refine ⟨fun w' hw' => ?_, ?_⟩; focus ((repeat (first | go_skip | go_guarded | go_step | go_upon | go_back)); exact ⟨rfl, rfl, rfl⟩))
                first | refine pt_skip rfl rfl rfl rfl ?_ | (refine pt_take rfl rfl rfl rfl ?_; apply Exists.intro; refine ⟨fun w' hw' => ?_, ?_⟩; focus ((repeat (first | go_skip | go_guarded | go_step | go_upon | go_back)); exact ⟨rfl, rfl, rfl⟩))
                first | refine pt_skip rfl rfl rfl rfl ?_ | (refine pt_take rfl rfl rfl rfl ?_; apply Exists.intro; refine ⟨fun w' hw' => ?_, ?_⟩; focus ((repeat (first | go_skip | go_guarded | go_step | go_upon | go_back)); exact ⟨rfl, rfl, rfl⟩))
                first | refine pt_skip rfl rfl rfl rfl ?_ | (refine pt_take rfl rfl rfl rfl ?_; apply Exists.intro; refine ⟨fun w' hw' => ?_, ?_⟩; focus ((repeat (first | go_skip | go_guarded | go_step | go_upon | go_back)); exact ⟨rfl, rfl, rfl⟩))
                first | refine pt_skip rfl rfl rfl rfl ?_ | (refine pt_take rfl rfl rfl rfl ?_; apply Exists.intro; refine ⟨fun w' hw' => ?_, ?_⟩; focus ((repeat (first | go_skip | go_guarded | go_step | go_upon | go_back)); exact ⟨rfl, rfl, rfl⟩))
                first | refine pt_skip rfl rfl rfl rfl ?_ | (refine pt_take rfl rfl rfl rfl ?_; apply Exists.intro; refine ⟨fun w' hw' => ?_, ?_⟩; focus ((repeat (first | go_skip | go_guarded | go_step | go_upon | go_back)); exact ⟨rfl, rfl, rfl⟩))
                refine pt_take rfl rfl rfl rfl ?_
                apply Exists.intro
                refine ⟨fun w' hw' => ?_, ?_⟩
                · refine wp_run rfl (exec_ix 28 9 Try.underlying28 size_strM w' rfl rfl _ _ j rfl (by have := HJ.out; omega) hjl (q := ad.add j) rfl) ?_
                  exact ⟨rfl, rfl, rfl⟩
                refine pt_take rfl rfl rfl rfl ?_
                apply Exists.intro
                refine ⟨fun w' hw' => ?_, ?_⟩
                · have hcell := (hw'.cell (p := ad.add j) hadj).trans ej
                  focus ((repeat (first | go_skip | go_guarded | go_step | go_upon | go_back)); exact ⟨rfl, rfl, rfl⟩)
                first | refine pt_skip rfl rfl rfl rfl ?_ | (refine pt_take rfl rfl rfl rfl ?_; apply Exists.intro; refine ⟨fun w' hw' => ?_, ?_⟩; focus ((repeat (first | go_skip | go_guarded | go_step | go_upon | go_back)); exact ⟨rfl, rfl, rfl⟩))
                first | refine pt_skip rfl rfl rfl rfl ?_ | (refine pt_take rfl rfl rfl rfl ?_; apply Exists.intro; refine ⟨fun w' hw' => ?_, ?_⟩; focus ((repeat (first | go_skip | go_guarded | go_step | go_upon | go_back)); exact ⟨rfl, rfl, rfl⟩))
                refine pt_take rfl rfl rfl rfl ?_
                apply Exists.intro
                refine ⟨fun w' hw' => ?_, ?_⟩
                · refine wp_run rfl (exec_ix 28 9 Try.underlying28 size_strM w' rfl rfl _ _ i rfl (by omega) hlt (q := ad.add i) rfl) ?_
                  exact ⟨rfl, rfl, rfl⟩
                refine pt_take rfl rfl rfl rfl ?_
                apply Exists.intro
                refine ⟨fun w' hw' => ?_, ?_⟩
                · have hcell := (hw'.cell (p := ad.add i) hadi).trans ei
                  focus ((repeat (first | go_skip | go_guarded | go_step | go_upon | go_back)); exact ⟨rfl, rfl, rfl⟩)
                first | refine pt_skip rfl rfl rfl rfl ?_ | (refine pt_take rfl rfl rfl rfl ?_; apply Exists.intro; refine ⟨fun w' hw' => ?_, ?_⟩; focus ((repeat (first | go_skip | go_guarded | go_step | go_upon | go_back)); exact ⟨rfl, rfl, rfl⟩))
                first | refine pt_skip rfl rfl rfl rfl ?_ | (refine pt_take rfl rfl rfl rfl ?_; apply Exists.intro; refine ⟨fun w' hw' => ?_, ?_⟩; focus ((repeat (first | go_skip | go_guarded | go_step | go_upon | go_back)); exact ⟨rfl, rfl, rfl⟩))
                refine pt_take rfl rfl rfl rfl ?_
                apply Exists.intro
                refine ⟨fun w' hw' => ?_, ?_⟩
                · refine wp_run rfl (exec_ix 28 9 Try.underlying28 size_strM w' rfl rfl _ _ i rfl (by omega) hlt (q := ad.add i) rfl) ?_
                  exact ⟨rfl, rfl, rfl⟩
                refine pt_take rfl rfl rfl rfl ?_
                apply Exists.intro
                refine ⟨fun w' hw' => ?_, ?_⟩
                · have hcell := (hw'.cell (p := ad.add i) hadi).trans ei
                  focus ((repeat (first | go_skip | go_guarded | go_step | go_upon | go_back)); exact ⟨rfl, rfl, rfl⟩)
                first | refine pt_skip rfl rfl rfl rfl ?_ | (refine pt_take rfl rfl rfl rfl ?_; apply Exists.intro; refine ⟨fun w' hw' => ?_, ?_⟩; focus ((repeat (first | go_skip | go_guarded | go_step | go_upon | go_back)); exact ⟨rfl, rfl, rfl⟩))
                first | refine pt_skip rfl rfl rfl rfl ?_ | (refine pt_take rfl rfl rfl rfl ?_; apply Exists.intro; refine ⟨fun w' hw' => ?_, ?_⟩; focus ((repeat (first | go_skip | go_guarded | go_step | go_upon | go_back)); exact ⟨rfl, rfl, rfl⟩))
                refine pt_step rfl ?_
                go_wp2_with fail
                refine (C _).mono ?_
                rintro e W2 ⟨rfl, hb2⟩
                go_wp2_with fail
                refine ⟨rfl, hb2.mono z0, ?_⟩
                first | refine pt_skip rfl rfl rfl rfl ?_ | (refine pt_take rfl rfl rfl rfl ?_; apply Exists.intro; refine ⟨fun w' hw' => ?_, ?_⟩; focus ((repeat (first | go_skip | go_guarded | go_step | go_upon | go_back)); exact ⟨rfl, rfl, rfl⟩))
                first | refine pt_skip rfl rfl rfl rfl ?_ | (refine pt_take rfl rfl rfl rfl ?_; apply Exists.intro; refine ⟨fun w' hw' => ?_, ?_⟩; focus ((repeat (first | go_skip | go_guarded | go_step | go_upon | go_back)); exact ⟨rfl, rfl, rfl⟩))
                first | refine pt_skip rfl rfl rfl rfl ?_ | (refine pt_take rfl rfl rfl rfl ?_; apply Exists.intro; refine ⟨fun w' hw' => ?_, ?_⟩; focus ((repeat (first | go_skip | go_guarded | go_step | go_upon | go_back)); exact ⟨rfl, rfl, rfl⟩))
                have b02 : Below W1.heap.size W1 W2 := b0.trans (hb2.mono z0)
                clear ej ei hadj hadi hb2 b0 z0 hsb hpb
                change Exit.then _ _ Exit.normal _ _
                go_wp2_with fail
                go_roundw
                case measure => show m.length - ((i : Int) + 1).toNat < m.length - ((i : Int)).toNat; omega
                case rel => exact ⟨i + 1, r + 1, by simp, by simp, by omega, HN.out, v1.past b02, hB1.trans (b02.mono hB1.size)⟩
              · have hsb : ((c : Int) == (x.length : Int) - 1) = false := beq_eq_false_iff_ne.2 (by omega)
                have HN : Hid (Runs m (i + 1) 1) := Lib.hid (Runs.fresh HX.out)
                clear hpx hsib
                go_upto_region 15 with (fail)
                refine wp_region_pt W1.heap.size (.take 0 (.take 1 (.take 2 (.take 3 (.take 4 (.take 5 (.take 6 (.take 7 (.take 8 (.take 9 (.take 10 (.take 11 (.take 12 (.take 13 (.take 14 (.take 15 (.take 16 (.take 17 (.take 18 (.take 19 (.take 20 (.take 21 (.take 22 (.take 23 (.take 24 (.take 25 (.take 26 (.take 27 (.take 28 (.take 29 (.take 30 (.take 31 (.take 32 (.take 33 (.take 35 (.take 36 (.take 37 (.take 38 (.take 39 (.take 40 (.step 34 (.take 41 (.take 42 (.take 43 .done)))))))))))))))))))))))))))))))))))))))))))) (by kernel_rfl) (by kernel_rfl) (by kernel_rfl) (fun _ _ h => h) ?_
                obtain ⟨w0, hw0⟩ : ∃ w0, w0 = W1.drew := ⟨_, rfl⟩
                have ej : w0.cell? (ad.add j) = some (.string ⟨p.toArray⟩) := by rw [hw0]; simpa using hcp
                have ei : w0.cell? (ad.add i) = some (.string ⟨x.toArray⟩) := by rw [hw0]; simpa using hcx
                have hadj : (ad.add j).block < W1.heap.size := by rw [add_block]; exact had
                have hadi : (ad.add i).block < W1.heap.size := by rw [add_block]; exact had
                have b0 : Below W1.heap.size W1 w0 := by rw [hw0]; exact (Below.refl _ _).drew
                have z0 : W1.heap.size ≤ w0.heap.size := b0.size
                rw [← hw0]
                clear hw0 hcp hcx
                first | refine pt_skip rfl rfl rfl rfl ?_ | (refine pt_take rfl rfl rfl rfl ?_; apply Exists.intro; refine ⟨fun w' hw' => ?_, ?_⟩; focus ((repeat (first | go_skip | go_guarded | go_step | go_upon | go_back)); exact ⟨rfl, rfl, rfl⟩))
                first | refine pt_skip rfl rfl rfl rfl ?_ | (refine pt_take rfl rfl rfl rfl ?_; apply Exists.intro; refine ⟨fun w' hw' => ?_, ?_⟩; focus ((repeat (first | go_skip | go_guarded | go_step | go_upon | go_back)); exact ⟨rfl, rfl, rfl⟩))
                first | refine pt_skip rfl rfl rfl rfl ?_ | (refine pt_take rfl rfl rfl rfl ?_; apply Exists.intro; refine ⟨fun w' hw' => ?_, ?_⟩; focus ((repeat (first | go_skip | go_guarded | go_step | go_upon | go_back)); exact ⟨rfl, rfl, rfl⟩))
                first | refine pt_skip rfl rfl rfl rfl ?_ | (refine pt_take rfl rfl rfl rfl ?_; apply Exists.intro; refine ⟨fun w' hw' => ?_, ?_⟩; focus ((repeat (first | go_skip | go_guarded | go_step | go_upon | go_back)); exact ⟨rfl, rfl, rfl⟩))
                first | refine pt_skip rfl rfl rfl rfl ?_ | (refine pt_take rfl rfl rfl rfl ?_; apply Exists.intro; refine ⟨fun w' hw' => ?_, ?_⟩; focus ((repeat (first | go_skip | go_guarded | go_step | go_upon | go_back)); exact ⟨rfl, rfl, rfl⟩))
                refine pt_take rfl rfl rfl rfl ?_
                apply Exists.intro
                refine ⟨fun w' hw' => ?_, ?_⟩
                · refine wp_run rfl (exec_ix 28 9 Try.underlying28 size_strM w' rfl rfl _ _ i rfl (by omega) hlt (q := ad.add i) rfl) ?_
                  exact ⟨rfl, rfl, rfl⟩
                refine pt_take rfl rfl rfl rfl ?_
                apply Exists.intro
                refine ⟨fun w' hw' => ?_, ?_⟩
                · have hcell := (hw'.cell (p := ad.add i) hadi).trans ei
                  focus ((repeat (first | go_skip | go_guarded | go_step | go_upon | go_back)); exact ⟨rfl, rfl, rfl⟩)
                first | refine pt_skip rfl rfl rfl rfl ?_ | (refine pt_take rfl rfl rfl rfl ?_; apply Exists.intro; refine ⟨fun w' hw' => ?_, ?_⟩; focus ((repeat (first | go_skip | go_guarded | go_step | go_upon | go_back)); exact ⟨rfl, rfl, rfl⟩))
                first | refine pt_skip rfl rfl rfl rfl ?_ | (refine pt_take rfl rfl rfl rfl ?_; apply Exists.intro; refine ⟨fun w' hw' => ?_, ?_⟩; focus ((repeat (first | go_skip | go_guarded | go_step | go_upon | go_back)); exact ⟨rfl, rfl, rfl⟩))
                first | refine pt_skip rfl rfl rfl rfl ?_ | (refine pt_take rfl rfl rfl rfl ?_; apply Exists.intro; refine ⟨fun w' hw' => ?_, ?_⟩; focus ((repeat (first | go_skip | go_guarded | go_step | go_upon | go_back)); exact ⟨rfl, rfl, rfl⟩))
                first | refine pt_skip rfl rfl rfl rfl ?_ | (refine pt_take rfl rfl rfl rfl ?_; apply Exists.intro; refine ⟨fun w' hw' => ?_, ?_⟩; focus ((repeat (first | go_skip | go_guarded | go_step | go_upon | go_back)); exact ⟨rfl, rfl, rfl⟩))
                first | refine pt_skip rfl rfl rfl rfl ?_ | (refine pt_take rfl rfl rfl rfl ?_; apply Exists.intro; refine ⟨fun w' hw' => ?_, ?_⟩; focus ((repeat (first | go_skip | go_guarded | go_step | go_upon | go_back)); exact ⟨rfl, rfl, rfl⟩))
                first | refine pt_skip rfl rfl rfl rfl ?_ | (refine pt_take rfl rfl rfl rfl ?_; apply Exists.intro; refine ⟨fun w' hw' => ?_, ?_⟩; focus ((repeat (first | go_skip | go_guarded | go_step | go_upon | go_back)); exact ⟨rfl, rfl, rfl⟩))
                first | refine pt_skip rfl rfl rfl rfl ?_ | (refine pt_take rfl rfl rfl rfl ?_; apply Exists.intro; refine ⟨fun w' hw' => ?_, ?_⟩; focus ((repeat (first | go_skip | go_guarded | go_step | go_upon | go_back)); exact ⟨rfl, rfl, rfl⟩))
                refine pt_take rfl rfl rfl rfl ?_
                apply Exists.intro
                refine ⟨fun w' hw' => ?_, ?_⟩
                · refine wp_run rfl (exec_ix 28 9 Try.underlying28 size_strM w' rfl rfl _ _ j rfl (by have := HJ.out; omega) hjl (q := ad.add j) rfl) ?_
                  exact ⟨rfl, rfl, rfl⟩
                refine pt_take rfl rfl rfl rfl ?_
                apply Exists.intro
                refine ⟨fun w' hw' => ?_, ?_⟩
                · have hcell := (hw'.cell (p := ad.add j) hadj).trans ej
                  focus ((repeat (first | go_skip | go_guarded | go_step | go_upon | go_back)); exact ⟨rfl, rfl, rfl⟩)
                first | refine pt_skip rfl rfl rfl rfl ?_ | (refine pt_take rfl rfl rfl rfl ?_; apply Exists.intro; refine ⟨fun w' hw' => ?_, ?_⟩; focus ((repeat (first | go_skip | go_guarded | go_step | go_upon | go_back)); exact ⟨rfl, rfl, rfl⟩))
                first | refine pt_skip rfl rfl rfl rfl ?_ | (refine pt_take rfl rfl rfl rfl ?_; apply Exists.intro; refine ⟨fun w' hw' => ?_, ?_⟩; focus ((repeat (first | go_skip | go_guarded | go_step | go_upon | go_back)); exact ⟨rfl, rfl, rfl⟩))
                first | refine pt_skip rfl rfl rfl rfl ?_ | (refine pt_take rfl rfl rfl rfl ?_; apply Exists.intro; refine ⟨fun w' hw' => ?_, ?_⟩; focus ((repeat (first | go_skip | go_guarded | go_step | go_upon | go_back)); exact ⟨rfl, rfl, rfl⟩))
                refine pt_take rfl rfl rfl rfl ?_
                apply Exists.intro
                refine ⟨fun w' hw' => ?_, ?_⟩
                · refine wp_run rfl (exec_ix 28 9 Try.underlying28 size_strM w' rfl rfl _ _ i rfl (by omega) hlt (q := ad.add i) rfl) ?_
                  exact ⟨rfl, rfl, rfl⟩
                refine pt_take rfl rfl rfl rfl ?_
                apply Exists.intro
                refine ⟨fun w' hw' => ?_, ?_⟩
                · have hcell := (hw'.cell (p := ad.add i) hadi).trans ei
                  focus ((repeat (first | go_skip | go_guarded | go_step | go_upon | go_back)); exact ⟨rfl, rfl, rfl⟩)
                first | refine pt_skip rfl rfl rfl rfl ?_ | (refine pt_take rfl rfl rfl rfl ?_; apply Exists.intro; refine ⟨fun w' hw' => ?_, ?_⟩; focus ((repeat (first | go_skip | go_guarded | go_step | go_upon | go_back)); exact ⟨rfl, rfl, rfl⟩))
                first | refine pt_skip rfl rfl rfl rfl ?_ | (refine pt_take rfl rfl rfl rfl ?_; apply Exists.intro; refine ⟨fun w' hw' => ?_, ?_⟩; focus ((repeat (first | go_skip | go_guarded | go_step | go_upon | go_back)); exact ⟨rfl, rfl, rfl⟩))
                first | refine pt_skip rfl rfl rfl rfl ?_ | (refine pt_take rfl rfl rfl rfl ?_; apply Exists.intro; refine ⟨fun w' hw' => ?_, ?_⟩; focus ((repeat (first | go_skip | go_guarded | go_step | go_upon | go_back)); exact ⟨rfl, rfl, rfl⟩))
                first | refine pt_skip rfl rfl rfl rfl ?_ | (refine pt_take rfl rfl rfl rfl ?_; apply Exists.intro; refine ⟨fun w' hw' => ?_, ?_⟩; focus ((repeat (first | go_skip | go_guarded | go_step | go_upon | go_back)); exact ⟨rfl, rfl, rfl⟩))
                first | refine pt_skip rfl rfl rfl rfl ?_ | (refine pt_take rfl rfl rfl rfl ?_; apply Exists.intro; refine ⟨fun w' hw' => ?_, ?_⟩; focus ((repeat (first | go_skip | go_guarded | go_step | go_upon | go_back)); exact ⟨rfl, rfl, rfl⟩))
                first | refine pt_skip rfl rfl rfl rfl ?_ | (refine pt_take rfl rfl rfl rfl ?_; apply Exists.intro; refine ⟨fun w' hw' => ?_, ?_⟩; focus ((repeat (first | go_skip | go_guarded | go_step | go_upon | go_back)); exact ⟨rfl, rfl, rfl⟩))
                first | refine pt_skip rfl rfl rfl rfl ?_ | (refine pt_take rfl rfl rfl rfl ?_; apply Exists.intro; refine ⟨fun w' hw' => ?_, ?_⟩; focus ((repeat (first | go_skip | go_guarded | go_step | go_upon | go_back)); exact ⟨rfl, rfl, rfl⟩))
                refine pt_take rfl rfl rfl rfl ?_
                apply Exists.intro
                refine ⟨fun w' hw' => ?_, ?_⟩
                · refine wp_run rfl (exec_ix 28 9 Try.underlying28 size_strM w' rfl rfl _ _ j rfl (by have := HJ.out; omega) hjl (q := ad.add j) rfl) ?_
                  exact ⟨rfl, rfl, rfl⟩
                refine pt_take rfl rfl rfl rfl ?_
                apply Exists.intro
                refine ⟨fun w' hw' => ?_, ?_⟩
                · have hcell := (hw'.cell (p := ad.add j) hadj).trans ej
                  focus ((repeat (first | go_skip | go_guarded | go_step | go_upon | go_back)); exact ⟨rfl, rfl, rfl⟩)
                first | refine pt_skip rfl rfl rfl rfl ?_ | (refine pt_take rfl rfl rfl rfl ?_; apply Exists.intro; refine ⟨fun w' hw' => ?_, ?_⟩; focus ((repeat (first | go_skip | go_guarded | go_step | go_upon | go_back)); exact ⟨rfl, rfl, rfl⟩))
                first | refine pt_skip rfl rfl rfl rfl ?_ | (refine pt_take rfl rfl rfl rfl ?_; apply Exists.intro; refine ⟨fun w' hw' => ?_, ?_⟩; focus ((repeat (first | go_skip | go_guarded | go_step | go_upon | go_back)); exact ⟨rfl, rfl, rfl⟩))
                refine pt_take rfl rfl rfl rfl ?_
                apply Exists.intro
                refine ⟨fun w' hw' => ?_, ?_⟩
                · refine wp_run rfl (exec_ix 28 9 Try.underlying28 size_strM w' rfl rfl _ _ i rfl (by omega) hlt (q := ad.add i) rfl) ?_
                  exact ⟨rfl, rfl, rfl⟩
                refine pt_take rfl rfl rfl rfl ?_
                apply Exists.intro
                refine ⟨fun w' hw' => ?_, ?_⟩
                · have hcell := (hw'.cell (p := ad.add i) hadi).trans ei
                  focus ((repeat (first | go_skip | go_guarded | go_step | go_upon | go_back)); exact ⟨rfl, rfl, rfl⟩)
                first | refine pt_skip rfl rfl rfl rfl ?_ | (refine pt_take rfl rfl rfl rfl ?_; apply Exists.intro; refine ⟨fun w' hw' => ?_, ?_⟩; focus ((repeat (first | go_skip | go_guarded | go_step | go_upon | go_back)); exact ⟨rfl, rfl, rfl⟩))
                first | refine pt_skip rfl rfl rfl rfl ?_ | (refine pt_take rfl rfl rfl rfl ?_; apply Exists.intro; refine ⟨fun w' hw' => ?_, ?_⟩; focus ((repeat (first | go_skip | go_guarded | go_step | go_upon | go_back)); exact ⟨rfl, rfl, rfl⟩))
                refine pt_take rfl rfl rfl rfl ?_
                apply Exists.intro
                refine ⟨fun w' hw' => ?_, ?_⟩
                · refine wp_run rfl (exec_ix 28 9 Try.underlying28 size_strM w' rfl rfl _ _ i rfl (by omega) hlt (q := ad.add i) rfl) ?_
                  exact ⟨rfl, rfl, rfl⟩
                refine pt_take rfl rfl rfl rfl ?_
                apply Exists.intro
                refine ⟨fun w' hw' => ?_, ?_⟩
                · have hcell := (hw'.cell (p := ad.add i) hadi).trans ei
                  focus ((repeat (first | go_skip | go_guarded | go_step | go_upon | go_back)); exact ⟨rfl, rfl, rfl⟩)
                first | refine pt_skip rfl rfl rfl rfl ?_ | (refine pt_take rfl rfl rfl rfl ?_; apply Exists.intro; refine ⟨fun w' hw' => ?_, ?_⟩; focus ((repeat (first | go_skip | go_guarded | go_step | go_upon | go_back)); exact ⟨rfl, rfl, rfl⟩))
                first | refine pt_skip rfl rfl rfl rfl ?_ | (refine pt_take rfl rfl rfl rfl ?_; apply Exists.intro; refine ⟨fun w' hw' => ?_, ?_⟩; focus ((repeat (first | go_skip | go_guarded | go_step | go_upon | go_back)); exact ⟨rfl, rfl, rfl⟩))
                refine pt_step rfl ?_
                go_wp2_with fail
                refine (C _).mono ?_
                rintro e W2 ⟨rfl, hb2⟩
                go_wp2_with fail
                refine ⟨rfl, hb2.mono z0, ?_⟩
                first | refine pt_skip rfl rfl rfl rfl ?_ | (refine pt_take rfl rfl rfl rfl ?_; apply Exists.intro; refine ⟨fun w' hw' => ?_, ?_⟩; focus ((repeat (first | go_skip | go_guarded | go_step | go_upon | go_back)); exact ⟨rfl, rfl, rfl⟩))
                first | refine pt_skip rfl rfl rfl rfl ?_ | (refine pt_take rfl rfl rfl rfl ?_; apply Exists.intro; refine ⟨fun w' hw' => ?_, ?_⟩; focus ((repeat (first | go_skip | go_guarded | go_step | go_upon | go_back)); exact ⟨rfl, rfl, rfl⟩))
                first | refine pt_skip rfl rfl rfl rfl ?_ | (refine pt_take rfl rfl rfl rfl ?_; apply Exists.intro; refine ⟨fun w' hw' => ?_, ?_⟩; focus ((repeat (first | go_skip | go_guarded | go_step | go_upon | go_back)); exact ⟨rfl, rfl, rfl⟩))
                have b02 : Below W1.heap.size W1 W2 := b0.trans (hb2.mono z0)
                clear ej ei hadj hadi hb2 b0 z0 hsb hpb
                change Exit.then _ _ Exit.normal _ _
                go_wp2_with fail
                go_roundw
                case measure => show m.length - ((i : Int) + 1).toNat < m.length - ((i : Int)).toNat; omega
                case rel => exact ⟨i + 1, 1, by simp, by rfl, by omega, HN.out, v1.past b02, hB1.trans (b02.mono hB1.size)⟩
            · have hpb : ((p.length : Int) == (x.length : Int)) = false := beq_eq_false_iff_ne.2 (by omega)
              have HN : Hid (Runs m (i + 1) 1) := Lib.hid (Runs.fresh HX.out)
              clear hpx
              go_upto_region 15 with (fail)
              refine wp_region_pt W1.heap.size (.take 0 (.take 1 (.take 2 (.take 3 (.take 4 (.take 5 (.take 6 (.take 7 (.take 8 (.take 9 (.take 10 (.take 11 (.take 12 (.take 13 (.take 14 (.take 15 (.take 16 (.take 17 (.take 18 (.take 19 (.take 20 (.take 21 (.take 22 (.take 23 (.take 24 (.take 25 (.take 26 (.take 27 (.take 28 (.take 29 (.take 30 (.take 31 (.take 32 (.take 33 (.take 35 (.take 36 (.take 37 (.take 38 (.take 39 (.take 40 (.step 34 (.take 41 (.take 42 (.take 43 .done)))))))))))))))))))))))))))))))))))))))))))) (by kernel_rfl) (by kernel_rfl) (by kernel_rfl) (fun _ _ h => h) ?_
              obtain ⟨w0, hw0⟩ : ∃ w0, w0 = W1.drew := ⟨_, rfl⟩
              have ej : w0.cell? (ad.add j) = some (.string ⟨p.toArray⟩) := by rw [hw0]; simpa using hcp
              have ei : w0.cell? (ad.add i) = some (.string ⟨x.toArray⟩) := by rw [hw0]; simpa using hcx
              have hadj : (ad.add j).block < W1.heap.size := by rw [add_block]; exact had
              have hadi : (ad.add i).block < W1.heap.size := by rw [add_block]; exact had
              have b0 : Below W1.heap.size W1 w0 := by rw [hw0]; exact (Below.refl _ _).drew
              have z0 : W1.heap.size ≤ w0.heap.size := b0.size
              rw [← hw0]
              clear hw0 hcp hcx
              first | refine pt_skip rfl rfl rfl rfl ?_ | (refine pt_take rfl rfl rfl rfl ?_; apply Exists.intro; refine ⟨fun w' hw' => ?_, ?_⟩; focus ((repeat (first | go_skip | go_guarded | go_step | go_upon | go_back)); exact ⟨rfl, rfl, rfl⟩))
              first | refine pt_skip rfl rfl rfl rfl ?_ | (refine pt_take rfl rfl rfl rfl ?_; apply Exists.intro; refine ⟨fun w' hw' => ?_, ?_⟩; focus ((repeat (first | go_skip | go_guarded | go_step | go_upon | go_back)); exact ⟨rfl, rfl, rfl⟩))
              first | refine pt_skip rfl rfl rfl rfl ?_ | (refine pt_take rfl rfl rfl rfl ?_; apply Exists.intro; refine ⟨fun w' hw' => ?_, ?_⟩; focus ((repeat (first | go_skip | go_guarded | go_step | go_upon | go_back)); exact ⟨rfl, rfl, rfl⟩))
              first | refine pt_skip rfl rfl rfl rfl ?_ | (refine pt_take rfl rfl rfl rfl ?_; apply Exists.intro; refine ⟨fun w' hw' => ?_, ?_⟩; focus ((repeat (first | go_skip | go_guarded | go_step | go_upon | go_back)); exact ⟨rfl, rfl, rfl⟩))
              first | refine pt_skip rfl rfl rfl rfl ?_ | (refine pt_take rfl rfl rfl rfl ?_; apply Exists.intro; refine ⟨fun w' hw' => ?_, ?_⟩; focus ((repeat (first | go_skip | go_guarded | go_step | go_upon | go_back)); exact ⟨rfl, rfl, rfl⟩))
              refine pt_take rfl rfl rfl rfl ?_
              apply Exists.intro
              refine ⟨fun w' hw' => ?_, ?_⟩
              · refine wp_run rfl (exec_ix 28 9 Try.underlying28 size_strM w' rfl rfl _ _ i rfl (by omega) hlt (q := ad.add i) rfl) ?_
                exact ⟨rfl, rfl, rfl⟩
              refine pt_take rfl rfl rfl rfl ?_
              apply Exists.intro
              refine ⟨fun w' hw' => ?_, ?_⟩
              · have hcell := (hw'.cell (p := ad.add i) hadi).trans ei
                focus ((repeat (first | go_skip | go_guarded | go_step | go_upon | go_back)); exact ⟨rfl, rfl, rfl⟩)
              first | refine pt_skip rfl rfl rfl rfl ?_ | (refine pt_take rfl rfl rfl rfl ?_; apply Exists.intro; refine ⟨fun w' hw' => ?_, ?_⟩; focus ((repeat (first | go_skip | go_guarded | go_step | go_upon | go_back)); exact ⟨rfl, rfl, rfl⟩))
              first | refine pt_skip rfl rfl rfl rfl ?_ | (refine pt_take rfl rfl rfl rfl ?_; apply Exists.intro; refine ⟨fun w' hw' => ?_, ?_⟩; focus ((repeat (first | go_skip | go_guarded | go_step | go_upon | go_back)); exact ⟨rfl, rfl, rfl⟩))
              first | refine pt_skip rfl rfl rfl rfl ?_ | (refine pt_take rfl rfl rfl rfl ?_; apply Exists.intro; refine ⟨fun w' hw' => ?_, ?_⟩; focus ((repeat (first | go_skip | go_guarded | go_step | go_upon | go_back)); exact ⟨rfl, rfl, rfl⟩))
              first | refine pt_skip rfl rfl rfl rfl ?_ | (refine pt_take rfl rfl rfl rfl ?_; apply Exists.intro; refine ⟨fun w' hw' => ?_, ?_⟩; focus ((repeat (first | go_skip | go_guarded | go_step | go_upon | go_back)); exact ⟨rfl, rfl, rfl⟩))
              first | refine pt_skip rfl rfl rfl rfl ?_ | (refine pt_take rfl rfl rfl rfl ?_; apply Exists.intro; refine ⟨fun w' hw' => ?_, ?_⟩; focus ((repeat (first | go_skip | go_guarded | go_step | go_upon | go_back)); exact ⟨rfl, rfl, rfl⟩))
              first | refine pt_skip rfl rfl rfl rfl ?_ | (refine pt_take rfl rfl rfl rfl ?_; apply Exists.intro; refine ⟨fun w' hw' => ?_, ?_⟩; focus ((repeat (first | go_skip | go_guarded | go_step | go_upon | go_back)); exact ⟨rfl, rfl, rfl⟩))
              first | refine pt_skip rfl rfl rfl rfl ?_ | (refine pt_take rfl rfl rfl rfl ?_; apply Exists.intro; refine ⟨fun w' hw' => ?_, ?_⟩; focus ((repeat (first | go_skip | go_guarded | go_step | go_upon | go_back)); exact ⟨rfl, rfl, rfl⟩))
              refine pt_take rfl rfl rfl rfl ?_
              apply Exists.intro
              refine ⟨fun w' hw' => ?_, ?_⟩
              · refine wp_run rfl (exec_ix 28 9 Try.underlying28 size_strM w' rfl rfl _ _ j rfl (by have := HJ.out; omega) hjl (q := ad.add j) rfl) ?_
                exact ⟨rfl, rfl, rfl⟩
              refine pt_take rfl rfl rfl rfl ?_
              apply Exists.intro
              refine ⟨fun w' hw' => ?_, ?_⟩
              · have hcell := (hw'.cell (p := ad.add j) hadj).trans ej
                focus ((repeat (first | go_skip | go_guarded | go_step | go_upon | go_back)); exact ⟨rfl, rfl, rfl⟩)
              first | refine pt_skip rfl rfl rfl rfl ?_ | (refine pt_take rfl rfl rfl rfl ?_; apply Exists.intro; refine ⟨fun w' hw' => ?_, ?_⟩; focus ((repeat (first | go_skip | go_guarded | go_step | go_upon | go_back)); exact ⟨rfl, rfl, rfl⟩))
              first | refine pt_skip rfl rfl rfl rfl ?_ | (refine pt_take rfl rfl rfl rfl ?_; apply Exists.intro; refine ⟨fun w' hw' => ?_, ?_⟩; focus ((repeat (first | go_skip | go_guarded | go_step | go_upon | go_back)); exact ⟨rfl, rfl, rfl⟩))
              first | refine pt_skip rfl rfl rfl rfl ?_ | (refine pt_take rfl rfl rfl rfl ?_; apply Exists.intro; refine ⟨fun w' hw' => ?_, ?_⟩; focus ((repeat (first | go_skip | go_guarded | go_step | go_upon | go_back)); exact ⟨rfl, rfl, rfl⟩))
              refine pt_take rfl rfl rfl rfl ?_
              apply Exists.intro
              refine ⟨fun w' hw' => ?_, ?_⟩
              · refine wp_run rfl (exec_ix 28 9 Try.underlying28 size_strM w' rfl rfl _ _ i rfl (by omega) hlt (q := ad.add i) rfl) ?_
                exact ⟨rfl, rfl, rfl⟩
              refine pt_take rfl rfl rfl rfl ?_
              apply Exists.intro
              refine ⟨fun w' hw' => ?_, ?_⟩
              · have hcell := (hw'.cell (p := ad.add i) hadi).trans ei
                focus ((repeat (first | go_skip | go_guarded | go_step | go_upon | go_back)); exact ⟨rfl, rfl, rfl⟩)
              first | refine pt_skip rfl rfl rfl rfl ?_ | (refine pt_take rfl rfl rfl rfl ?_; apply Exists.intro; refine ⟨fun w' hw' => ?_, ?_⟩; focus ((repeat (first | go_skip | go_guarded | go_step | go_upon | go_back)); exact ⟨rfl, rfl, rfl⟩))
              first | refine pt_skip rfl rfl rfl rfl ?_ | (refine pt_take rfl rfl rfl rfl ?_; apply Exists.intro; refine ⟨fun w' hw' => ?_, ?_⟩; focus ((repeat (first | go_skip | go_guarded | go_step | go_upon | go_back)); exact ⟨rfl, rfl, rfl⟩))
              first | refine pt_skip rfl rfl rfl rfl ?_ | (refine pt_take rfl rfl rfl rfl ?_; apply Exists.intro; refine ⟨fun w' hw' => ?_, ?_⟩; focus ((repeat (first | go_skip | go_guarded | go_step | go_upon | go_back)); exact ⟨rfl, rfl, rfl⟩))
              first | refine pt_skip rfl rfl rfl rfl ?_ | (refine pt_take rfl rfl rfl rfl ?_; apply Exists.intro; refine ⟨fun w' hw' => ?_, ?_⟩; focus ((repeat (first | go_skip | go_guarded | go_step | go_upon | go_back)); exact ⟨rfl, rfl, rfl⟩))
              first | refine pt_skip rfl rfl rfl rfl ?_ | (refine pt_take rfl rfl rfl rfl ?_; apply Exists.intro; refine ⟨fun w' hw' => ?_, ?_⟩; focus ((repeat (first | go_skip | go_guarded | go_step | go_upon | go_back)); exact ⟨rfl, rfl, rfl⟩))
              first | refine pt_skip rfl rfl rfl rfl ?_ | (refine pt_take rfl rfl rfl rfl ?_; apply Exists.intro; refine ⟨fun w' hw' => ?_, ?_⟩; focus ((repeat (first | go_skip | go_guarded | go_step | go_upon | go_back)); exact ⟨rfl, rfl, rfl⟩))
              first | refine pt_skip rfl rfl rfl rfl ?_ | (refine pt_take rfl rfl rfl rfl ?_; apply Exists.intro; refine ⟨fun w' hw' => ?_, ?_⟩; focus ((repeat (first | go_skip | go_guarded | go_step | go_upon | go_back)); exact ⟨rfl, rfl, rfl⟩))
              first | refine pt_skip rfl rfl rfl rfl ?_ | (refine pt_take rfl rfl rfl rfl ?_; apply Exists.intro; refine ⟨fun w' hw' => ?_, ?_⟩; focus ((repeat (first | go_skip | go_guarded | go_step | go_upon | go_back)); exact ⟨rfl, rfl, rfl⟩))
              first | refine pt_skip rfl rfl rfl rfl ?_ | (refine pt_take rfl rfl rfl rfl ?_; apply Exists.intro; refine ⟨fun w' hw' => ?_, ?_⟩; focus ((repeat (first | go_skip | go_guarded | go_step | go_upon | go_back)); exact ⟨rfl, rfl, rfl⟩))
              first | refine pt_skip rfl rfl rfl rfl ?_ | (refine pt_take rfl rfl rfl rfl ?_; apply Exists.intro; refine ⟨fun w' hw' => ?_, ?_⟩; focus ((repeat (first | go_skip | go_guarded | go_step | go_upon | go_back)); exact ⟨rfl, rfl, rfl⟩))
              first | refine pt_skip rfl rfl rfl rfl ?_ | (refine pt_take rfl rfl rfl rfl ?_; apply Exists.intro; refine ⟨fun w' hw' => ?_, ?_⟩; focus ((repeat (first | go_skip | go_guarded | go_step | go_upon | go_back)); exact ⟨rfl, rfl, rfl⟩))
              first | refine pt_skip rfl rfl rfl rfl ?_ | (refine pt_take rfl rfl rfl rfl ?_; apply Exists.intro; refine ⟨fun w' hw' => ?_, ?_⟩; focus ((repeat (first | go_skip | go_guarded | go_step | go_upon | go_back)); exact ⟨rfl, rfl, rfl⟩))
              first | refine pt_skip rfl rfl rfl rfl ?_ | (refine pt_take rfl rfl rfl rfl ?_; apply Exists.intro; refine ⟨fun w' hw' => ?_, ?_⟩; focus ((repeat (first | go_skip | go_guarded | go_step | go_upon | go_back)); exact ⟨rfl, rfl, rfl⟩))
              first | refine pt_skip rfl rfl rfl rfl ?_ | (refine pt_take rfl rfl rfl rfl ?_; apply Exists.intro; refine ⟨fun w' hw' => ?_, ?_⟩; focus ((repeat (first | go_skip | go_guarded | go_step | go_upon | go_back)); exact ⟨rfl, rfl, rfl⟩))
              first | refine pt_skip rfl rfl rfl rfl ?_ | (refine pt_take rfl rfl rfl rfl ?_; apply Exists.intro; refine ⟨fun w' hw' => ?_, ?_⟩; focus ((repeat (first | go_skip | go_guarded | go_step | go_upon | go_back)); exact ⟨rfl, rfl, rfl⟩))
              first | refine pt_skip rfl rfl rfl rfl ?_ | (refine pt_take rfl rfl rfl rfl ?_; apply Exists.intro; refine ⟨fun w' hw' => ?_, ?_⟩; focus ((repeat (first | go_skip | go_guarded | go_step | go_upon | go_back)); exact ⟨rfl, rfl, rfl⟩))
              first | refine pt_skip rfl rfl rfl rfl ?_ | (refine pt_take rfl rfl rfl rfl ?_; apply Exists.intro; refine ⟨fun w' hw' => ?_, ?_⟩; focus ((repeat (first | go_skip | go_guarded | go_step | go_upon | go_back)); exact ⟨rfl, rfl, rfl⟩))
              first | refine pt_skip rfl rfl rfl rfl ?_ | (refine pt_take rfl rfl rfl rfl ?_; apply Exists.intro; refine ⟨fun w' hw' => ?_, ?_⟩; focus ((repeat (first | go_skip | go_guarded | go_step | go_upon | go_back)); exact ⟨rfl, rfl, rfl⟩))
              first | refine pt_skip rfl rfl rfl rfl ?_ | (refine pt_take rfl rfl rfl rfl ?_; apply Exists.intro; refine ⟨fun w' hw' => ?_, ?_⟩; focus ((repeat (first | go_skip | go_guarded | go_step | go_upon | go_back)); exact ⟨rfl, rfl, rfl⟩))
              refine pt_step rfl ?_
              go_wp2_with fail
              refine ⟨rfl, Below.refl _ _, ?_⟩
              first | refine pt_skip rfl rfl rfl rfl ?_ | (refine pt_take rfl rfl rfl rfl ?_; apply Exists.intro; refine ⟨fun w' hw' => ?_, ?_⟩; focus ((repeat (first | go_skip | go_guarded | go_step | go_upon | go_back)); exact ⟨rfl, rfl, rfl⟩))
              first | refine pt_skip rfl rfl rfl rfl ?_ | (refine pt_take rfl rfl rfl rfl ?_; apply Exists.intro; refine ⟨fun w' hw' => ?_, ?_⟩; focus ((repeat (first | go_skip | go_guarded | go_step | go_upon | go_back)); exact ⟨rfl, rfl, rfl⟩))
              first | refine pt_skip rfl rfl rfl rfl ?_ | (refine pt_take rfl rfl rfl rfl ?_; apply Exists.intro; refine ⟨fun w' hw' => ?_, ?_⟩; focus ((repeat (first | go_skip | go_guarded | go_step | go_upon | go_back)); exact ⟨rfl, rfl, rfl⟩))
              clear ej ei hadj hadi hpb
              change Exit.then _ _ Exit.normal _ _
              go_wp2_with fail
              go_roundw
              case measure => show m.length - ((i : Int) + 1).toNat < m.length - ((i : Int)).toNat; omega
              case rel => exact ⟨i + 1, 1, by simp, by rfl, by omega, HN.out, v1.past b0, hB1.trans (b0.mono hB1.size)⟩
        · go_wp2_with fail
          go_ret
          exact ⟨rfl, hB⟩

end Go.Proofs.Ytblgcefaikoejaa
