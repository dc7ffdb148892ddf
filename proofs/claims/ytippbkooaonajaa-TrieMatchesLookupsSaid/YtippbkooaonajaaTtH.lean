/-
  Package trie: stored, as an iterator.
-/
import Derived.Test.YtippbkooaonajaaTtG
namespace Go.Proofs.Ytippbkooaonajaa
open Go.RowKit Go.Shelf Dg Tr
attribute [local go_sem] Oper.semAt_some
set_option linter.unusedVariables false
set_option linter.unusedSimpArgs false

def arrE (x : Str × Int) : Array Value := #[str x.1, .int .i64 x.2]
def entA (F : List Int) (f a : Nat) (r : Str) : List (Array Value) := (ent F f a r).map arrE

theorem kids_pre (F : List Int) (f a : Nat) (r : Str) (d : Nat) : ∀ m, ∃ tl, kids F f a r (d + m) = kids F f a r d ++ tl
  | 0 => ⟨[], by simp⟩
  | m + 1 => by
    obtain ⟨tl, h⟩ := kids_pre F f a r d m
    refine ⟨tl ++ (if kI F a (d + m) = 0 then [] else ent F (f - 1) (kd F a (d + m)) (r ++ [db (d + m)])), ?_⟩
    rw [show d + (m + 1) = d + m + 1 by omega, kids_succ, h, List.append_assoc]
/-- Where a child's entries stand among its parent's. -/
theorem ent_sub {F : List Int} {n : Nat} {E : Nat → Nat} (h : Tree F n E) {f a d : Nat} {r : Str} (ha : a < n) (hf : 15 ≤ f + E a) (hd : d < 10) (hk : kI F a d ≠ 0) {j : Nat} {x : Str × Int} (hx : (ent F (f - 1) (kd F a d) (r ++ [db d]))[j]? = some x) :
    (ent F f a r)[(own F a r).length + (kids F f a r d).length + j]? = some x := by
  obtain ⟨tl, ht⟩ := kids_pre F f a r (d + 1) (9 - d)
  rw [show d + 1 + (9 - d) = 10 by omega] at ht
  have hks := kids_succ F f a r d
  rw [if_neg hk] at hks
  rw [hks] at ht
  rw [ent_eq h ha hf, ht, List.getElem?_append_right (by omega), show (own F a r).length + (kids F f a r d).length + j - (own F a r).length = (kids F f a r d).length + j by omega, List.append_assoc, List.getElem?_append_right (by omega),
    show (kids F f a r d).length + j - (kids F f a r d).length = j by omega, List.getElem?_append_left (List.getElem?_eq_some_iff.1 hx).1]
  exact hx

theorem rune_digit (d : Nat) (hd : d < 10) (w : World) : (convert 21 9 (.int .i32 (48 + (d : Int)))).run Try.prog w = .ok (.string ⟨#[db d]⟩) w := by
  rcases (by omega : d = 0 ∨ d = 1 ∨ d = 2 ∨ d = 3 ∨ d = 4 ∨ d = 5 ∨ d = 6 ∨ d = 7 ∨ d = 8 ∨ d = 9) with rfl | rfl | rfl | rfl | rfl | rfl | rfl | rfl | rfl | rfl <;> rfl

theorem Keep.trans2 {O O2 : Nat → Prop} {a b c : World} (h : Keep O a b) (k : Keep O2 b c) (hO : ∀ i, O i → i < a.heap.size → O2 i) : Keep O a c :=
  ⟨k.os.trans h.os, k.tape.trans h.tape, k.output.trans h.output, Nat.le_trans h.size k.size, fun i hi hl => (k.block i (hO i hi hl) (Nat.lt_of_lt_of_le hl h.size)).trans (h.block i hi hl)⟩

/-- visit, as a value. -/
def vis (gt gy gv : Nat) : Value := .func (.func 53) #[] #[.pointer (some ⟨gt, 0, none⟩), .pointer (some ⟨gy, 0, none⟩), .pointer (some ⟨gv, 0, none⟩)]

set_option maxRecDepth 100000 in
set_option maxHeartbeats 2000000 in
theorem visit_any (l : Nat) (J : (Nat → Prop) → Nat → World → Prop) (Jx : World → Prop) (items : List (Array Value)) (T : Nat → Prop) (gt gy gv n cap : Nat) (ad : Addr) (F : List Int) (E : Nat → Nat)
    (h1 : ∀ M k W1, J M k W1 → ∀ b, M b → b < W1.heap.size) (h2 : ∀ M k W1 W2, J M k W1 → Below W1.heap.size W1 W2 → J M k W2) (hx : ∀ W1 W2, Jx W1 → Below W1.heap.size W1 W2 → Jx W2)
    (h3 : ∀ M k x W1, J M k W1 → items[k]? = some x →
      YieldAt Fence.wide 0 Try.prog l x W1 fun e W' => (e = .returned (.bool true) ∧ ∃ M', J M' (k + 1) W' ∧ (∀ b, M' b → M b ∨ W1.heap.size ≤ b) ∧ Keep (fun b => ¬ M b) W1 W') ∨ (e = .returned (.bool false) ∧ Jx W'))
    (ht : Tree F n E) (hn : n ≤ 10000) (hTy : T gy) (hTv : T gv) : ∀ (f a : Nat) (r : Str) (k : Nat) (M : Nat → Prop) (W : World), a < n → 15 ≤ f + E a → r.length ≤ 15 + E a → J M k W → (∀ j x, (entA F f a r)[j]? = some x → items[k + j]? = some x) →
      Rd T gt n cap ad F W → W.cell? ⟨gy, 0, none⟩ = some (.func (.yield l) #[] #[]) → W.cell? ⟨gv, 0, none⟩ = some (vis gt gy gv) → (∀ b, T b → ¬ M b) → (∀ b, T b → b < W.heap.size) →
      CallsIn Fence.wide 0 Try.prog 53 #[.int .i64 (a : Int), str r, .pointer (some ⟨gt, 0, none⟩), .pointer (some ⟨gy, 0, none⟩), .pointer (some ⟨gv, 0, none⟩)] W fun e W' =>
        (e = .returned (.bool true) ∧ ∃ M', J M' (k + (entA F f a r).length) W' ∧ (∀ b, M' b → M b ∨ W.heap.size ≤ b) ∧ Keep (fun b => ¬ M b) W W') ∨ (e = .returned (.bool false) ∧ Jx W') := by
  intro f
  induction f using Nat.strongRecOn with
  | ind f ih =>
    intro a r k M W ha hf hr hJ hit hRd hcy hcv hTM hTW
    have HT := Lib.hid ht
    have hq := hRd.cells a ha
    obtain ⟨q, hqe⟩ : ∃ q, q = ad.add (a * 11) := ⟨_, rfl⟩
    rw [← hqe] at hq
    obtain ⟨nl, hnl⟩ : ∃ nl, nl = ints (ndc F a) := ⟨_, rfl⟩
    have hcl := ndc_cells hq
    rw [← hnl] at hcl
    have hnl11 : nl.length = 11 := by rw [hnl, ints_len11]
    have hct := hRd.trie
    have HQ := Lib.hid hcl
    have HQE := Lib.hid hqe
    have HN11 := Lib.hid hnl11
    have HN1 : Hid (∀ u ∈ nl, u.oneCell' = true) := Lib.hid (by rw [hnl]; exact ints_one _)
    have HNL := Lib.hid hnl
    have HRD := Lib.hid hRd
    have HIT := Lib.hid hit
    have HTM := Lib.hid hTM
    have HCV := Lib.hid hcv
    have HCY := Lib.hid hcy
    clear ht hq hqe hnl hcl hnl11 hit hTM hRd hcv hcy
    refine callsIn_of_wp Try.func53 rfl trivial ?_ rfl
    simp only [Try.ntmps53, List.size_toArray, List.length_cons, List.length_nil, Nat.reduceAdd, Nat.reduceSub, Array.replicate_succ, Array.replicate_zero, List.push_toArray, List.append_toArray, List.nil_append, List.cons_append]
    obtain ⟨v, hvv⟩ : ∃ v, vl F a = v := ⟨_, rfl⟩
    have HV10 : Hid (nl[10]? = some (.int .i64 v)) := Lib.hid (by rw [HNL.out, ndc_get F a 10 (by omega), ← hvv]; rfl)
    have HVV := Lib.hid hvv
    have hgM : ¬ M W.heap.size := fun h => by have := h1 M k W hJ _ h; omega
    clear hvv
    have step : ∀ (R : Prop), (∀ hv0 : (v == 0) = true, R) → (∀ hv0 : (v == 0) = false, R) → R := fun R h1 h2 => by
      cases hc : (v == 0)
      · exact h2 hc
      · exact h1 hc
    refine step _ (fun hv0 => ?_) (fun hv0 => ?_)
    · have hv1 : (v != 0) = false := by rw [bne, hv0]; rfl
      have HO : Hid (own F a r = []) := Lib.hid (by unfold own; rw [HVV.out, if_pos (eq_of_beq hv0)])
      clear step
      gi_wp2_with (first | (refine wpi_run rfl (fun c hc => by cases hc) (by simp [Oper.about]) (exec_ixS 22 59 11 Try.underlying22 info_node _ rfl rfl .i64 (a : Int) a rfl rfl ha HQE.out) ?_) | (refine wpi_run rfl (fun c hc => by cases hc) (by simp [Oper.about]) (exec_loadPS 59 rfl q rfl nl _ HQ.out Try.underlying59 (by rw [info_node, HN11.out])) ?_) | (refine wpi_storeA 59 (.tmp 8) (.tmp 15) rfl rfl W.heap.size rfl 59 z11 nl rfl (Blk.new _ _ _) (by rw [info_node, HN11.out]) (by rw [HN11.out]; rfl) HN1.out rfl ?_; intro w1 h8 k8; have hb8 : Below W.heap.size W w1 := ((Below.refl _ _).alloc (Nat.le_refl _) _).trans (k8.below (fun k hk => by omega) (by simp)); have hJ1 := h2 M k W w1 hJ hb8; have cv := h8.cell HV10.out; have cy := cell_past HCY.out hb8; have hs8 : W.heap.size < w1.heap.size := h8.lt))
      refine ⟨fun _ h => (by cases h), ?_⟩
      go_at_K
      have hJz : J M (k + (own F a r).length) w1 := by rw [HO.out]; exact hJ1
      have hMz : ∀ b, M b → M b ∨ W.heap.size ≤ b := fun b hb => Or.inl hb
      have hkz : Keep (fun b => ¬ M b) W w1 := Keep.of_below hb8
      obtain ⟨kl, hkl⟩ : ∃ kl, kl = (nl.drop 0).take 10 := ⟨_, rfl⟩
      have HKL : Hid (∀ d, d < 10 → kl[d]? = some (.int .i64 (kI F a d))) := Lib.hid (fun d hd => by rw [hkl, List.drop_zero, HNL.out]; exact kdc_get F a d hd)
      have HK0 := Lib.hid hkl
      clear hkl
      have loadK : ∀ (a : Act) (o : Oper) (x : Operand), o.op = .load 57 x → a.eval x = .pointer (some ⟨W.heap.size, 0, none⟩) → (execOp a.eval o).run Try.prog w1 = .ok (.value (.agg kl.toArray)) w1 := fun a o x ho hx => by
        rw [HK0.out]; exact exec_loadM 57 ho W.heap.size 0 10 hx 59 nl 10 3 h8 Try.underlying57 (by rw [HN11.out]; omega) info_kids
      have HJZ := Lib.hid hJz
      clear hJz
      gi_wp2_with (first | (refine wpi_run rfl (fun c hc => by cases hc) (by simp [Oper.about]) (loadK _ _ _ rfl rfl) ?_))
      clear loadK
      gi_loopw [29] (fun vi wr => ∃ (d : Nat) (Md : Nat → Prop), vi = .int .i64 (d : Int) ∧ d ≤ 10 ∧ J Md (k + (own F a r).length + (kids F f a r d).length) wr ∧ (∀ b, Md b → M b ∨ W.heap.size ≤ b) ∧ Keep (fun b => ¬ M b) W wr) (fun vi wr => ixn 10 vi)
      case atStart => exact ⟨0, M, rfl, by omega, HJZ.out, hMz, hkz⟩
      case round =>
        obtain ⟨d, Md, rfl, hd, hJd, hMd, hkd⟩ := hrel
        clear HJZ hMz hkz h8 k8 hb8 hJ1 cv cy hs8
        by_cases hd10 : d < 10
        · obtain ⟨z, hz⟩ : ∃ z, kI F a d = z := ⟨_, rfl⟩
          have hix : ∀ W, (Instr.index 57 (.agg kl.toArray) (.int .i64 (d : Int))).run Try.prog W = .ok (.int .i64 z) W := fun W => run_indexA 57 3 10 .i64 Try.underlying57 Try.underlying3 info_int kl.toArray .i64 d hd10 (.int .i64 z) (by rw [← hz]; simpa using HKL.out d hd10) W
          have HZ := Lib.hid hz
          have HKS := Lib.hid (kids_succ F f a r d)
          clear hz
          by_cases hz0 : z = 0
          · subst hz0
            gi_wp2_with fail
            refine ⟨fun _ h => (by cases h), ?_⟩
            gi_wp2_with fail
            go_roundw
            case measure => show 10 - ((d : Int) + 1).toNat < 10 - ((d : Int)).toNat; omega
            case rel => exact ⟨d + 1, Md, by simp, by omega, by rw [HKS.out, if_pos HZ.out, List.append_nil]; exact hJd, hMd, hkd⟩
          · have hzb : (z == 0) = false := beq_eq_false_iff_ne.2 hz0
            have hzb2 : (z != 0) = true := by rw [bne, hzb]; rfl
            have hne : kI F a d ≠ 0 := by rw [HZ.out]; exact hz0
            obtain ⟨k1, k2, k3, k4, k5⟩ := HT.out.kid a d ha hd10 hne
            have hcall := ih (f - 1) (by omega) (kd F a d) (r ++ [db d]) _ Md wr k2 (by omega) (by simp; omega) hJd (fun j x hj => by
              unfold entA at hj
              rw [List.getElem?_map] at hj
              cases hy : (ent F (f - 1) (kd F a d) (r ++ [db d]))[j]? with
              | none => rw [hy] at hj; cases hj
              | some y =>
                rw [hy] at hj
                have hsub := ent_sub HT.out (r := r) ha hf hd10 hne hy
                have := HIT.out ((own F a r).length + (kids F f a r d).length + j) x (by unfold entA; rw [List.getElem?_map, hsub]; exact hj)
                rw [← this]; congr 1; omega) (HRD.out.keep hkd HTM.out) (hkd.cell (p := ⟨gy, 0, none⟩) (HTM.out _ hTy) HCY.out) (hkd.cell (p := ⟨gv, 0, none⟩) (HTM.out _ hTv) HCV.out)
              (fun b hb h => (hMd b h).elim (HTM.out b hb) (fun h => by have := hTW b hb; omega)) (fun b hb => by have := hTW b hb; have := hkd.size; omega)
            rw [← k3, HZ.out] at hcall
            have hcv := hkd.cell (p := ⟨gv, 0, none⟩) (HTM.out _ hTv) HCV.out
            have hrune := rune_digit d hd10 wr
            have HKS2 : Hid (kids F f a r (d + 1) = kids F f a r d ++ ent F (f - 1) (kd F a d) (r ++ [db d])) := Lib.hid (by rw [HKS.out, if_neg hne])
            have hE15 : E a ≤ 15 := HT.out.le ha
            have hsz := str_size r
            have hsz1 : (⟨#[db d]⟩ : ByteArray).size = 1 := rfl
            have HK3 := Lib.hid (And.intro k1 (And.intro k2 k4))
            clear k1 k2 k3 k4 k5 hne
            unfold vis at hcv
            unfold str
            unfold str at hcall
            gi_wp2_with fail
            rw [str_add]
            refine ⟨trivial, rfl, hcall.mono ?_⟩
            rintro e w5 (⟨rfl, M5, hJ5, hM5, hk5⟩ | ⟨rfl, hJx⟩)
            · clear hcall hcv hrune
              gi_wp2_with fail
              go_roundw
              case measure => show 10 - ((d : Int) + 1).toNat < 10 - ((d : Int)).toNat; omega
              case rel =>
                refine ⟨d + 1, M5, by simp, by omega, ?_, fun b hb => ?_, hkd.trans2 hk5 fun b hb hl h => ?_⟩
                · rw [HKS2.out, List.length_append]
                  unfold entA at hJ5
                  rw [List.length_map] at hJ5
                  rw [← Nat.add_assoc]; exact hJ5
                · rcases hM5 b hb with h | h
                  · exact hMd b h
                  · have := hkd.size; exact Or.inr (by omega)
                · rcases hMd b h with h | h
                  · exact hb h
                  · omega
            · clear hcall hcv hrune
              gi_wp2_with fail
              go_ret
              exact Or.inr ⟨rfl, hJx⟩
        · obtain rfl : d = 10 := by omega
          gi_wp2_with fail
          go_ret
          refine Or.inl ⟨rfl, Md, ?_, hMd, hkd⟩
          unfold entA
          rw [List.length_map, ent_eq HT.out ha hf, List.length_append, ← Nat.add_assoc]
          exact hJd
    · have hv1 : (v != 0) = true := by rw [bne, hv0]; rfl
      have HO : Hid (own F a r = [(r, v)]) := Lib.hid (by unfold own; rw [HVV.out, if_neg (ne_of_beq_false hv0)])
      have HI0 : Hid (items[k]? = some #[str r, .int .i64 v]) := Lib.hid (by
        have := HIT.out 0 #[str r, .int .i64 v] (by
          unfold entA
          rw [List.getElem?_map, ent_eq HT.out ha hf, HO.out]
          rfl)
        simpa using this)
      clear step
      gi_wp2_with (first | (refine wpi_run rfl (fun c hc => by cases hc) (by simp [Oper.about]) (exec_ixS 22 59 11 Try.underlying22 info_node _ rfl rfl .i64 (a : Int) a rfl rfl ha HQE.out) ?_) | (refine wpi_run rfl (fun c hc => by cases hc) (by simp [Oper.about]) (exec_loadPS 59 rfl q rfl nl _ HQ.out Try.underlying59 (by rw [info_node, HN11.out])) ?_) | (refine wpi_storeA 59 (.tmp 8) (.tmp 15) rfl rfl W.heap.size rfl 59 z11 nl rfl (Blk.new _ _ _) (by rw [info_node, HN11.out]) (by rw [HN11.out]; rfl) HN1.out rfl ?_; intro w1 h8 k8; have hb8 : Below W.heap.size W w1 := ((Below.refl _ _).alloc (Nat.le_refl _) _).trans (k8.below (fun k hk => by omega) (by simp)); have hJ1 := h2 M k W w1 hJ hb8; have cv := h8.cell HV10.out; have cy := cell_past HCY.out hb8; obtain ⟨fn, tmps, assign, body, hy, hRd⟩ := h3 M k _ w1 hJ1 HI0.out; have hs8 : W.heap.size < w1.heap.size := h8.lt))
      refine ⟨rfl, hRd.mono ?_⟩
      rintro e w3 (⟨rfl, M3, hJ3, hM3, hk3⟩ | ⟨rfl, hJx⟩)
      · have h83 := h8.keep hk3 hgM
        have hJz : J M3 (k + (own F a r).length) w3 := by rw [HO.out]; exact hJ3
        have hMz : ∀ b, M3 b → M b ∨ W.heap.size ≤ b := fun b hb => (hM3 b hb).imp id (fun h => by omega)
        have hkz : Keep (fun b => ¬ M b) W w3 := (Keep.of_below hb8).trans hk3
        clear hy hRd cv cy
        obtain ⟨kl, hkl⟩ : ∃ kl, kl = (nl.drop 0).take 10 := ⟨_, rfl⟩
        have HKL : Hid (∀ d, d < 10 → kl[d]? = some (.int .i64 (kI F a d))) := Lib.hid (fun d hd => by rw [hkl, List.drop_zero, HNL.out]; exact kdc_get F a d hd)
        have HK0 := Lib.hid hkl
        clear hkl
        have loadK : ∀ (a : Act) (o : Oper) (x : Operand), o.op = .load 57 x → a.eval x = .pointer (some ⟨W.heap.size, 0, none⟩) → (execOp a.eval o).run Try.prog w3 = .ok (.value (.agg kl.toArray)) w3 := fun a o x ho hx => by
          rw [HK0.out]; exact exec_loadM 57 ho W.heap.size 0 10 hx 59 nl 10 3 h83 Try.underlying57 (by rw [HN11.out]; omega) info_kids
        have HJZ := Lib.hid hJz
        clear hJz
        gi_wp2_with (first | (refine wpi_run rfl (fun c hc => by cases hc) (by simp [Oper.about]) (loadK _ _ _ rfl rfl) ?_))
        clear loadK
        gi_loopw [29] (fun vi wr => ∃ (d : Nat) (Md : Nat → Prop), vi = .int .i64 (d : Int) ∧ d ≤ 10 ∧ J Md (k + (own F a r).length + (kids F f a r d).length) wr ∧ (∀ b, Md b → M b ∨ W.heap.size ≤ b) ∧ Keep (fun b => ¬ M b) W wr) (fun vi wr => ixn 10 vi)
        case atStart => exact ⟨0, M3, rfl, by omega, HJZ.out, hMz, hkz⟩
        case round =>
          obtain ⟨d, Md, rfl, hd, hJd, hMd, hkd⟩ := hrel
          clear HJZ hMz hkz h83 h8 k8 hb8 hJ1 hs8 hJ3 hM3 hk3
          by_cases hd10 : d < 10
          · obtain ⟨z, hz⟩ : ∃ z, kI F a d = z := ⟨_, rfl⟩
            have hix : ∀ W, (Instr.index 57 (.agg kl.toArray) (.int .i64 (d : Int))).run Try.prog W = .ok (.int .i64 z) W := fun W => run_indexA 57 3 10 .i64 Try.underlying57 Try.underlying3 info_int kl.toArray .i64 d hd10 (.int .i64 z) (by rw [← hz]; simpa using HKL.out d hd10) W
            have HZ := Lib.hid hz
            have HKS := Lib.hid (kids_succ F f a r d)
            clear hz
            by_cases hz0 : z = 0
            · subst hz0
              gi_wp2_with fail
              refine ⟨fun _ h => (by cases h), ?_⟩
              gi_wp2_with fail
              go_roundw
              case measure => show 10 - ((d : Int) + 1).toNat < 10 - ((d : Int)).toNat; omega
              case rel => exact ⟨d + 1, Md, by simp, by omega, by rw [HKS.out, if_pos HZ.out, List.append_nil]; exact hJd, hMd, hkd⟩
            · have hzb : (z == 0) = false := beq_eq_false_iff_ne.2 hz0
              have hzb2 : (z != 0) = true := by rw [bne, hzb]; rfl
              have hne : kI F a d ≠ 0 := by rw [HZ.out]; exact hz0
              obtain ⟨k1, k2, k3, k4, k5⟩ := HT.out.kid a d ha hd10 hne
              have hcall := ih (f - 1) (by omega) (kd F a d) (r ++ [db d]) _ Md wr k2 (by omega) (by simp; omega) hJd (fun j x hj => by
                unfold entA at hj
                rw [List.getElem?_map] at hj
                cases hy : (ent F (f - 1) (kd F a d) (r ++ [db d]))[j]? with
                | none => rw [hy] at hj; cases hj
                | some y =>
                  rw [hy] at hj
                  have hsub := ent_sub HT.out (r := r) ha hf hd10 hne hy
                  have := HIT.out ((own F a r).length + (kids F f a r d).length + j) x (by unfold entA; rw [List.getElem?_map, hsub]; exact hj)
                  rw [← this]; congr 1; omega) (HRD.out.keep hkd HTM.out) (hkd.cell (p := ⟨gy, 0, none⟩) (HTM.out _ hTy) HCY.out) (hkd.cell (p := ⟨gv, 0, none⟩) (HTM.out _ hTv) HCV.out)
                (fun b hb h => (hMd b h).elim (HTM.out b hb) (fun h => by have := hTW b hb; omega)) (fun b hb => by have := hTW b hb; have := hkd.size; omega)
              rw [← k3, HZ.out] at hcall
              have hcv := hkd.cell (p := ⟨gv, 0, none⟩) (HTM.out _ hTv) HCV.out
              have hrune := rune_digit d hd10 wr
              have HKS2 : Hid (kids F f a r (d + 1) = kids F f a r d ++ ent F (f - 1) (kd F a d) (r ++ [db d])) := Lib.hid (by rw [HKS.out, if_neg hne])
              have hE15 : E a ≤ 15 := HT.out.le ha
              have hsz := str_size r
              have hsz1 : (⟨#[db d]⟩ : ByteArray).size = 1 := rfl
              have HK3 := Lib.hid (And.intro k1 (And.intro k2 k4))
              clear k1 k2 k3 k4 k5 hne
              unfold vis at hcv
              unfold str
              unfold str at hcall
              gi_wp2_with fail
              rw [str_add]
              refine ⟨trivial, rfl, hcall.mono ?_⟩
              rintro e w5 (⟨rfl, M5, hJ5, hM5, hk5⟩ | ⟨rfl, hJx⟩)
              · clear hcall hcv hrune
                gi_wp2_with fail
                go_roundw
                case measure => show 10 - ((d : Int) + 1).toNat < 10 - ((d : Int)).toNat; omega
                case rel =>
                  refine ⟨d + 1, M5, by simp, by omega, ?_, fun b hb => ?_, hkd.trans2 hk5 fun b hb hl h => ?_⟩
                  · rw [HKS2.out, List.length_append]
                    unfold entA at hJ5
                    rw [List.length_map] at hJ5
                    rw [← Nat.add_assoc]; exact hJ5
                  · rcases hM5 b hb with h | h
                    · exact hMd b h
                    · have := hkd.size; exact Or.inr (by omega)
                  · rcases hMd b h with h | h
                    · exact hb h
                    · omega
              · clear hcall hcv hrune
                gi_wp2_with fail
                go_ret
                exact Or.inr ⟨rfl, hJx⟩
          · obtain rfl : d = 10 := by omega
            gi_wp2_with fail
            go_ret
            refine Or.inl ⟨rfl, Md, ?_, hMd, hkd⟩
            unfold entA
            rw [List.length_map, ent_eq HT.out ha hf, List.length_append, ← Nat.add_assoc]
            exact hJd
      · gi_wp2_with fail
        go_ret
        exact Or.inr ⟨rfl, hJx⟩
end Go.Proofs.Ytippbkooaonajaa
