/-
  Walks of the reference of layer 2: FCS, Copy, Stuff, Sealed, flag, Same.
-/
import Derived.Test.YtokjlcajcflhgaaHdB
namespace Go.Proofs.Ytokjlcajcflhgaa
open Go.RowKit
set_option linter.unusedVariables false
set_option linter.unusedSimpArgs false

/-- '&x[i]', guarded or not. -/
theorem wp_atg {ops : Array Oper} {rest : List Oper} {o : Oper} {a : Act} {Q : Exit → Act → World → Prop} {w : World} (t e : TypeId) (ht : Try.prog.underlying t = some (.slice e)) (hz : (Try.prog.info? e).map (·.size) = some 1)
    (x y : Operand) (ho : o.op = .indexAddr t x y) (hw : Region.wanted o (yielded ops a.tmps) = true) {B n : Nat} {v : Value} {xs : List Value} (hx : a.eval x = v) (hr : Row w B 1 n v xs)
    (k : IntKind) (I : Int) (i : Nat) (u : Value) (hy : a.eval y = .int k I) (hI : I = (i : Int)) (hu : xs[i]? = some u)
    (h : ∀ p : Addr, p.block < B → w.cell? p = some u → wpList Try.prog ops Q rest (a.put o.dst (.pointer (some p))) w) : wpList Try.prog ops Q (o :: rest) a w := by
  obtain ⟨A, cap, rfl, h1, h2, h3, h4, h5⟩ := hr
  have hi : i < n := by have := (List.getElem?_eq_some_iff.1 hu).1; omega
  cases A with
  | none => have := h3 rfl; omega
  | some ad =>
    refine wp_run hw (exec_ix t e ht hz w ho hx k I i hy hI hi rfl) (h _ ?_ ?_)
    · rw [add_block]; exact (h5 ad rfl (by omega)).1
    · exact (h5 ad rfl (by omega)).2 _ u hu

theorem refCopy_any (v : Value) (l : List UInt8) (w : World) (hv : Bs w w.heap.size v l) (hl : l.length ≤ 1000000000) :
    Calls Try.prog 19 #[v] w fun e w' => ∃ v', e = .returned v' ∧ Own w' w.heap.size v' l ∧ Below w.heap.size w w' := by
  have HV := Lib.hid hv
  obtain ⟨A, cap, rfl⟩ := hv.form
  clear hv
  go_enter Try.func19, Try.ntmps19
  go_wp2_with (at_builtin; refine wp_apps w.heap.size (.const (.slice none 0 0)) (.tmp 3) rfl rfl _ _ [] l rfl rfl (Own.nil_ w _) (Nat.le_refl _) HV.out (by simp; omega) ?_; intro v1 w1 ho1 hb1)
  go_ret
  exact ⟨v1, rfl, by simpa using ho1, hb1⟩

theorem same_any (v u : Value) (l m : List UInt8) (w : World) (B B' : Nat) (hv : Bs w B v l) (hu : Bs w B' u m) :
    Calls Try.prog 17 #[v, u] w fun e w' => e = .returned (.bool (l == m)) ∧ w = w' := by
  have c1 := hv.str
  have c2 := hu.str
  obtain ⟨A, cap, rfl⟩ := hv.form
  obtain ⟨A', cap', rfl⟩ := hu.form
  unfold str at c1 c2
  go_enter Try.func17, Try.ntmps17
  go_wp2
  go_ret
  exact ⟨rfl, rfl⟩

set_option maxRecDepth 100000 in
set_option maxHeartbeats 400000 in
theorem refFlag_any (A : Option Addr) (cap : Nat) (l : List UInt8) (at0 : Nat) (w : World) (B : Nat) (hv : Bs w B (.slice A l.length cap) l) (ha : at0 ≤ l.length) (hl : l.length ≤ 1000000000) (z : Nat) (hz : z = at0 + fi (l.drop at0)) :
    Calls Try.prog 31 #[.slice A l.length cap, .int .i64 at0] w fun e w' => e = .returned (.int .i64 (z : Int)) ∧ w = w' := by
  have HZ := Lib.hid hz
  clear hz
  go_enter Try.func31, Try.ntmps31
  go_wp2
  go_loop [1] (fun i => ∃ j : Nat, i = .int .i64 j ∧ j ≤ l.length ∧ j + fi (l.drop j) = z) (fun i => (l.length - intOf i).toNat)
  case atStart => exact ⟨at0, rfl, ha, HZ.out.symm⟩
  case round =>
    obtain ⟨j, rfl, hj, he⟩ := hrel
    have HE := Lib.hid he
    clear he
    by_cases hlt : j < l.length
    · obtain ⟨c, hc⟩ : ∃ c, l[j]? = some c := ⟨_, List.getElem?_eq_getElem hlt⟩
      have hd : l.drop j = c :: l.drop (j + 1) := by
        rw [List.drop_eq_getElem_cons hlt]; congr 1; exact (List.getElem?_eq_some_iff.1 hc).2
      have hf : fi (l.drop j) = if c = 126 then 0 else fi (l.drop (j + 1)) + 1 := by rw [hd]; rfl
      by_cases h7 : c = 126
      · have HF := Lib.hid (show z = j by rw [← HE.out, hf, if_pos h7]; rfl)
        have ht : ((c.toNat : Int) != 126) = false := by rw [h7]; rfl
        clear hf hd h7
        go_wp2_with (refine wp_atg 22 5 Try.underlying22 size_u8 (.tmp 10) (.tmp 11) rfl rfl rfl hv _ _ j _ rfl rfl (hv.at_ j c hc) ?_; intro p hp hcell)
        go_ret
        exact ⟨by rw [HF.out]; rfl, rfl⟩
      · have HF := Lib.hid (show j + 1 + fi (l.drop (j + 1)) = z by rw [← HE.out, hf, if_neg h7]; omega)
        have ht : ((c.toNat : Int) != 126) = true := by have := toNat_ne (n := 126) (by omega) h7; simp at this ⊢; omega
        clear hf hd h7
        go_wp2_with (refine wp_atg 22 5 Try.underlying22 size_u8 (.tmp 10) (.tmp 11) rfl rfl rfl hv _ _ j _ rfl rfl (hv.at_ j c hc) ?_; intro p hp hcell)
        go_round
        case rel => exact ⟨j + 1, by go_num, by omega, HF.out⟩
        case measure => simp [intOf]; omega
    · have HF := Lib.hid (show z = j by rw [← HE.out, List.drop_eq_nil_of_le (by omega)]; rfl)
      have ht : decide ((j : Int) < (l.length : Int)) = false := by simp; omega
      go_wp2
      go_ret
      exact ⟨by rw [HF.out]; rfl, rfl⟩

set_option maxRecDepth 100000 in
set_option maxHeartbeats 800000 in
theorem refFCS_any (A : Option Addr) (cap : Nat) (l : List UInt8) (w : World) (B : Nat) (hv : Bs w B (.slice A l.length cap) l) (hl : l.length ≤ 1000000000) :
    Calls Try.prog 49 #[.slice A l.length cap] w fun e w' => e = .returned (.int .u16 (fcsN l)) ∧ w = w' := by
  go_enter Try.func49, Try.ntmps49
  go_wp2
  go_loop [3, 8] (fun x i => ∃ k : Nat, i = .int .i64 k ∧ x = .int .u16 (crun 65535 (l.take k)) ∧ k ≤ l.length) (fun _ i => (l.length - intOf i).toNat)
  case atStart => exact ⟨0, rfl, rfl, by omega⟩
  case round =>
    obtain ⟨k, rfl, rfl, hk⟩ := hrel
    have hr := crun_lt (l.take k) (v := 65535) (by omega)
    obtain ⟨y, hy⟩ : ∃ y, y = crun 65535 (l.take k) := ⟨_, rfl⟩
    have HE0 := Lib.hid (show ¬ k < l.length → fcsN l = 65535 ^^^ y from fun h => by rw [hy, List.take_of_length_le (by omega)]; rfl)
    by_cases hlt : k < l.length
    · obtain ⟨c, hc⟩ : ∃ c, l[k]? = some c := ⟨_, List.getElem?_eq_getElem hlt⟩
      have HS := Lib.hid (show crun 65535 (l.take (k + 1)) = byt y c.toNat by rw [crun_take hc, hy])
      rw [← hy] at hr ⊢
      have hx : bits BinOp.xor IntKind.u16 (y : Int) (c.toNat : Int) = ((y ^^^ c.toNat : Nat) : Int) := u16_xor_nat _ _ hr (by have := c.toNat_lt; omega)
      obtain ⟨z, hz⟩ : ∃ z, z = y ^^^ c.toNat := ⟨_, rfl⟩
      have hzl : z < 65536 := by rw [hz]; exact xor_lt16 hr (by have := c.toNat_lt; omega)
      have HZ := Lib.hid (show stn 8 z = byt y c.toNat by rw [hz]; rfl)
      rw [← hz] at hx
      have hcl := c.toNat_lt
      clear hy hz
      go_wp2_with (refine wp_at 22 5 Try.underlying22 size_u8 (.tmp 6) (.tmp 8) rfl rfl rfl hv _ _ k _ rfl rfl (hv.at_ k c hc) ?_; intro p hp hcell)
      go_loop [3, 16] (fun x i => ∃ m q : Nat, i = .int .i64 m ∧ x = .int .u16 q ∧ m ≤ 8 ∧ q < 65536 ∧ stn (8 - m) q = byt y c.toNat) (fun _ i => (8 - intOf i).toNat)
      case atStart => exact ⟨0, z, rfl, rfl, by omega, hzl, HZ.out⟩
      case round =>
        obtain ⟨m, q, rfl, rfl, hm, hq, he⟩ := hrel
        have HE := Lib.hid he
        clear he hx
        by_cases hm8 : m < 8
        · have HN := Lib.hid (show stn (8 - (m + 1)) (st1 q) = byt y c.toNat by rw [← HE.out, show 8 - m = (8 - (m + 1)) + 1 by omega]; rfl)
          by_cases ho : q % 2 = 1
          · have ht : ((q : Int) % 2 == 1) = true := by simp; omega
            have hs : bits BinOp.xor IntKind.u16 ((q : Int) / 2) 33800 = (st1 q : Int) := by
              have e : (q : Int) / 2 = ((q / 2 : Nat) : Int) := by omega
              have h := u16_xor_nat (q / 2) 33800 (by omega) (by omega)
              rw [e]
              refine h.trans ?_
              unfold st1; rw [ho]
            have hsl := st1_lt hq
            clear ho
            go_wp2
            go_round
            case rel => exact ⟨m + 1, st1 q, by go_num, rfl, by omega, hsl, HN.out⟩
            case measure => simp [intOf]; omega
          · have ht : ((q : Int) % 2 == 1) = false := by simp; omega
            have HS1 := Lib.hid (show st1 q = q / 2 by unfold st1; rw [show q % 2 = 0 by omega]; simp)
            clear ho
            go_wp2
            go_round
            case rel => exact ⟨m + 1, q / 2, by go_num, rfl, by omega, by omega, by rw [← HS1.out]; exact HN.out⟩
            case measure => simp [intOf]; omega
        · have HQ := Lib.hid (show q = byt y c.toNat by rw [← HE.out, show 8 - m = 0 by omega]; rfl)
          go_wp2
          go_round
          case rel => exact ⟨k + 1, by go_num, by rw [HS.out, ← HQ.out], by omega⟩
          case measure => simp [intOf]; omega
    · have HE := Lib.hid (HE0.out hlt)
      rw [← hy] at hr ⊢
      clear hy
      have hx : bits BinOp.xor IntKind.u16 (y : Int) 65535 = ((65535 ^^^ y : Nat) : Int) := by
        rw [Nat.xor_comm]; exact u16_xor_nat y 65535 hr (by omega)
      go_wp2
      go_ret
      exact ⟨by rw [HE.out, ← hx]; rfl, rfl⟩
end Go.Proofs.Ytokjlcajcflhgaa
