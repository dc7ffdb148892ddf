/-
  The walk of the law DigitsMinimalIsCanonical.
-/
import Derived.Test.YtblgcefaikoejaaDrS
import Derived.Test.YtblgcefaikoejaaSts
namespace Go.Proofs.Ytblgcefaikoejaa
open Go.RowKit Dg
set_option linter.unusedVariables false
set_option linter.unusedSimpArgs false

namespace Dg
theorem Full.mono {P Q : List Str} (h : ∀ q ∈ P, q ∈ Q) {p : Str} (hf : Full P p) : Full Q p := by
  induction hf with
  | cov hm hp => exact .cov (h _ hm) hp
  | join hx ih => exact .join ih

/-- The list that the law makes, its places from j on: O. -/
structure OI (l O : List Str) (j : Nat) : Prop where
  each : ∀ y ∈ O, num 0 14 y = true ∧ Full l y
  back : ∀ i x, j ≤ i → l[i]? = some x → Full O x
  len : O.length ≤ 10 * (l.length - j)
  some_ : j < l.length → O ≠ []

theorem OI.start {l : List Str} : OI l [] l.length :=
  ⟨fun y hy => by simp at hy, fun i x hi hx => by have := (List.getElem?_eq_some_iff.1 hx).1; omega, by simp, fun h => by omega⟩

theorem OI.more {l O X : List Str} {j : Nat} {x : Str} (h : OI l O (j + 1)) (hx : l[j]? = some x) (hX : ∀ y ∈ X, num 0 14 y = true ∧ Full l y) (hF : Full X x) (hl : X.length ≤ 10) (hn : X ≠ []) : OI l (O ++ X) j := by
  have hj := (List.getElem?_eq_some_iff.1 hx).1
  refine ⟨fun y hy => ?_, fun i y hi hy => ?_, ?_, fun _ => by simp [hn]⟩
  · rcases List.mem_append.1 hy with hy | hy
    · exact h.each y hy
    · exact hX y hy
  · by_cases hij : i = j
    · subst hij
      rw [hx] at hy
      injection hy with hy
      subst hy
      exact hF.mono fun q hq => List.mem_append_right _ hq
    · exact (h.back i y (by omega) hy).mono fun q hq => List.mem_append_left _ hq
  · have := h.len
    rw [List.length_append]
    omega

theorem OI.one {l : List Str} {j : Nat} {x : Str} (hx : l[j]? = some x) (hn : num 0 14 x = true) : (∀ y ∈ [x], num 0 14 y = true ∧ Full l y) ∧ Full [x] x :=
  ⟨fun y hy => by simp at hy; subst hy; exact ⟨hn, Full.mem (List.mem_of_getElem? hx)⟩, Full.mem (by simp)⟩

theorem OI.ten {l : List Str} {j : Nat} {x : Str} (hx : l[j]? = some x) (hn : num 0 14 x = true) (h13 : x.length ≤ 13) : (∀ y ∈ exts x, num 0 14 y = true ∧ Full l y) ∧ Full (exts x) x := by
  refine ⟨fun y hy => ?_, .join fun y hy => Full.mem hy⟩
  have hd := (num_iff.1 hn).2.2
  refine ⟨num_iff.2 ⟨Nat.zero_le _, by rw [exts_len hy]; omega, digits_ext hd hy⟩, ?_⟩
  obtain ⟨d, _, rfl⟩ := mem_exts.1 hy
  exact .cov (List.mem_of_getElem? hx) (List.prefix_append _ _)

theorem OI.eqv {l O : List Str} (h : OI l O 0) {z : Str} (hz : z ∈ O) : Eqv l (O ++ [z]) ∧ bad (O ++ [z]) = false := by
  have hm : ∀ y ∈ O ++ [z], y ∈ O := fun y hy => by
    rcases List.mem_append.1 hy with hy | hy
    · exact hy
    · simp at hy; subst hy; exact hz
  refine ⟨Eqv.of (fun q hq => ?_) (fun q hq => (h.each q (hm q hq)).2), ?_⟩
  · obtain ⟨i, hi⟩ := List.mem_iff_getElem?.1 hq
    exact (h.back i q (Nat.zero_le _) hi).mono fun y hy => List.mem_append_left _ hy
  · unfold bad
    rw [Bool.not_eq_false', List.all_eq_true]
    exact fun y hy => (h.each y (hm y hy)).1
end Dg

/-- The measure of a loop that counts down. -/
def dnm : Value → Nat
  | .int _ z => (z + 1).toNat
  | _ => 0

theorem digit_ext (d : Nat) (hd : d < 10) : (⟨#[48, 49, 50, 51, 52, 53, 54, 55, 56, 57]⟩ : ByteArray).extract d (d + 1) = ⟨#[UInt8.ofNat (48 + d)]⟩ := by
  rcases (by omega : d = 0 ∨ d = 1 ∨ d = 2 ∨ d = 3 ∨ d = 4 ∨ d = 5 ∨ d = 6 ∨ d = 7 ∨ d = 8 ∨ d = 9) with rfl | rfl | rfl | rfl | rfl | rfl | rfl | rfl | rfl | rfl <;> rfl

section
variable {ops : Array Oper} {rest : List Oper} {o : Oper} {a : Act} {Q : Exit → Act → World → Prop} {w : World}
/-- 'x & m': some number. -/
theorem wp_and (x y : Operand) (t t2 : TypeId) (ho : o.op = .binOp .and t x y t2) (hg : o.guard = none) (k m : Int) (hx : a.eval x = .int .i64 k) (hy : a.eval y = .int .i64 m)
    (h : ∀ r, wpList Try.prog ops Q rest (a.put o.dst (.int .i64 r)) w) : wpList Try.prog ops Q (o :: rest) a w := by
  obtain ⟨r, hr⟩ : ∃ r, Op.intBits .and .i64 k m = pure (.int .i64 r) := ⟨_, rfl⟩
  refine wpList_plain hg fun K hK => ?_
  unfold Oper.wp
  have hrun : (execOp a.eval o).run Try.prog w = .ok (.value (.int .i64 r)) w := by
    simp [execOp, ho, hx, hy, eqGuard, binOp, hr, Result.andThen]
  rw [hrun]
  exact hK _ _ (h r)
/-- 'x % m', m not nought: some number. -/
theorem wp_rem (x y : Operand) (t t2 : TypeId) (ho : o.op = .binOp .rem t x y t2) (hg : o.guard = none) (k m : Int) (hx : a.eval x = .int .i64 k) (hy : a.eval y = .int .i64 m) (hm : m ≠ 0)
    (h : ∀ r, wpList Try.prog ops Q rest (a.put o.dst (.int .i64 r)) w) : wpList Try.prog ops Q (o :: rest) a w := by
  obtain ⟨r, hr⟩ : ∃ r, Op.intDiv .rem .i64 k m = pure (.int .i64 r) := ⟨k.tmod m, by simp [Op.intDiv, hm]⟩
  refine wpList_plain hg fun K hK => ?_
  unfold Oper.wp
  have hrun : (execOp a.eval o).run Try.prog w = .ok (.value (.int .i64 r)) w := by
    simp [execOp, ho, hx, hy, eqGuard, binOp, hr, Result.andThen]
  rw [hrun]
  exact hK _ _ (h r)
end

set_option maxRecDepth 100000 in
set_option maxHeartbeats 4000000 in
theorem digitsMinimalIsCanonical_walk (v : Value) (l : List (List UInt8)) (k : Int) (w : World) (hv : Sl w w.heap.size maxLen v l) (hk : -9223372036854775808 ≤ k ∧ k ≤ 9223372036854775807) :
    Calls Try.prog 9 #[v, .int .i64 k] w fun e w' => e = .returned (.bool true) ∧ Below w.heap.size w w' := by
  obtain ⟨A, cap, rfl⟩ := hv.form
  cases hf : few l
  · go_enter Try.func9, Try.ntmps9
    go_wp2_with fail
    refine (sane_any _).mono ?_
    rintro e w1 ⟨rfl, b1⟩
    have v1 := hv.past b1
    have F := few_any _ l w1 v1
    rw [hf] at F
    go_wp2_with fail
    refine F.mono ?_
    rintro e w' ⟨rfl, rfl⟩
    clear F
    go_wp2_with fail
    go_ret
    exact ⟨rfl, b1⟩
  · obtain ⟨hl60, hx40⟩ := few_iff.1 hf
    by_cases hl0 : l.length = 0
    · obtain rfl : l = [] := List.length_eq_zero_iff.1 hl0
      clear hl0 hl60 hx40
      go_enter Try.func9, Try.ntmps9
      go_wp2_with fail
      refine (sane_any _).mono ?_
      rintro e w1 ⟨rfl, b1⟩
      have v1 := hv.past b1
      have F := few_any _ [] w1 v1
      rw [hf] at F
      clear hf
      go_wp2_with fail
      refine F.mono ?_
      rintro e w' ⟨rfl, rfl⟩
      clear F
      go_wp2_with fail
      go_ret
      exact ⟨rfl, b1⟩
    · have hlb : ((l.length : Int) == 0) = false := beq_eq_false_iff_ne.2 (by omega)
      have hlp : 0 < l.length := by omega
      have M := fun w v (h : Sl w w.heap.size maxLen v l) => minimal_any v l w ⟨h.1, fun x hx => by have := hx40 x hx; omega⟩ (by omega)
      have HX := Lib.hid hx40
      go_enter Try.func9, Try.ntmps9
      go_wp2_with fail
      refine (sane_any _).mono ?_
      rintro e w1 ⟨rfl, b1⟩
      have v1 := hv.past b1
      have F := few_any _ l w1 v1
      rw [hf] at F
      clear hx40 hf hl0
      go_wp2_with fail
      refine F.mono ?_
      rintro e w' ⟨rfl, rfl⟩
      clear F
      go_wp2_with fail
      refine (M _ _ v1).mono ?_
      clear M
      rintro e w2 ⟨b2, ⟨hb, rfl⟩ | ⟨hb, u, m, rfl, hr, hu⟩⟩
      · go_wp2_with fail
        go_ret
        exact ⟨rfl, b1.trans (b2.mono b1.size)⟩
      · have HB := Lib.hid hb
        have HR := Lib.hid hr
        have v2 := v1.past b2
        have b12 := b1.trans (b2.mono b1.size)
        clear hb hr b2 b1 v1 hv
        have hln : (l.length : Int) ≠ 0 := by omega
        go_wp2_with (first
          | (refine wp_and (.tmp 38) (.const (.int .i64 65535)) 3 3 rfl rfl k 65535 rfl rfl ?_; intro r)
          | (refine wp_rem (.tmp 39) (.tmp 41) 3 3 rfl rfl r (l.length : Int) rfl rfl hln ?_; intro at_))
        have hu2 := hu
        have BS := Lib.hid b12
        obtain ⟨base, hbase⟩ : ∃ base, w2.heap.size = base := ⟨_, rfl⟩
        have HBA := Lib.hid hbase
        rw [hbase] at v2 hu2
        go_loopw [9, 10] (fun vo vi wr => ∃ (j : Nat) (O : List Str), vi = .int .i64 ((j : Int) - 1) ∧ j ≤ l.length ∧ OwnS wr base vo O ∧ OI l O j ∧ Below base w2 wr)
          (fun vo vi wr => dnm vi)
        case atStart => exact ⟨l.length, [], rfl, Nat.le_refl _, OwnS.nil_ _ _, OI.start, Below.refl _ _⟩
        case round =>
          obtain ⟨j, O, hvi, hj, hO, hoi, hB⟩ := hrel
          have vr : Sl wr base maxLen (.slice A l.length cap) l := v2.carry hB (Nat.le_refl _)
          have hbr : base ≤ wr.heap.size := by have := hB.size; omega
          have HO := Lib.hid hoi
          have hOl : O.length ≤ 600 := by have := hoi.len; omega
          clear hoi
          cases j with
          | zero =>
            obtain rfl : u10 = .int .i64 (-1) := by rw [hvi]; rfl
            have hne : O ≠ [] := HO.out.some_ hlp
            obtain ⟨z, O', rfl⟩ : ∃ z O', O = z :: O' := by
              cases O with
              | nil => exact absurd rfl hne
              | cons z O' => exact ⟨z, O', rfl⟩
            have heq := HO.out.eqv (z := z) (by simp)
            have HE := Lib.hid heq
            have hz0 : ((z :: O').map str)[0]? = some (str z) := rfl
            have hrow := Row.of_own hO
            clear hne heq
            go_wp2_with (first
              | (refine wp_atg 28 9 Try.underlying28 size_strM (.tmp 85) (.const (.int .i64 0)) rfl rfl rfl hrow .i64 _ 0 (str z) rfl rfl hz0 ?_; intro ad had hcad; unfold str at hcad; go_frame)
              | (refine wp_appS1 base (.tmp 84) (.tmp 88) rfl rfl u9 (z :: O') z rfl rfl hO hbr (by omega) ?_; intro v' w5 o5 b5))
            have hO2 : ∀ y ∈ z :: O' ++ [z], y.length ≤ 1000 := fun y hy => by
              have hb := HE.out.2
              unfold bad at hb
              rw [Bool.not_eq_false', List.all_eq_true] at hb
              have := num_len (hb y hy)
              omega
            have hl2 : (z :: O' ++ [z]).length ≤ 1024 := by rw [List.length_append]; simp only [List.length_cons, List.length_nil] at hOl ⊢; omega
            have hB5 := hB.trans b5
            have hu5 : Sl w5 w5.heap.size 14 u m := hu2.carry (hB5) (by have := hB5.size; omega)
            have bw5 : Below w.heap.size w w5 := BS.out.trans (hB5.mono (by have := BS.out.size; have := HBA.out; omega))
            have M2 := minimal_any v' (z :: O' ++ [z]) w5 (o5.sl hO2) hl2
            clear hO2 hl2 hB5 b5 o5 hrow hz0 hB hO vr v2 hu2 hu
            go_wp2_with fail
            refine M2.mono ?_
            clear M2
            rintro e w6 ⟨b6, ⟨hb, rfl⟩ | ⟨hb, u2, m2, rfl, hr2, hs6⟩⟩
            · exfalso
              rw [HE.out.2] at hb
              cases hb
            · obtain rfl : m2 = m := hr2.unique HR.out HE.out.1.symm
              have hu6 := hu5.past b6
              have bw6 := bw5.trans (b6.mono bw5.size)
              have hml : m2.length ≤ 60 := by have := HR.out.len; omega
              have M3 := minimal_any u m2 w6 (hu6.wide (by omega)) (by omega)
              clear hr2 hb b6 hu5 bw5
              go_wp2_with fail
              refine M3.mono ?_
              clear M3
              rintro e w7 ⟨b7, ⟨hb, rfl⟩ | ⟨hb, u3, m3, rfl, hr3, hs7⟩⟩
              · exfalso
                have : bad m2 = false := by
                  unfold bad
                  rw [Bool.not_eq_false', List.all_eq_true]
                  intro y hy
                  obtain ⟨q1, q2⟩ := HR.out.short y hy
                  exact num_iff.2 ⟨Nat.zero_le _, q2, q1⟩
                rw [this] at hb
                cases hb
              · obtain rfl : m3 = m2 := hr3.unique HR.out HR.out.eqv.symm
                have hu7 := hu6.past b7
                have hs67 := hs6.past b7
                have bw7 := bw6.trans (b7.mono bw6.size)
                clear hr3 hb b7 hu6 bw6 hs6
                go_wp2_with fail
                refine (strings_same u u2 m3 w7 (hu7.wide (by omega)) (hs67.wide (by omega)) (by omega)).mono ?_
                rintro e w8 ⟨rfl, b8⟩
                have hu8 := hu7.past b8
                have hs8 := hs7.past b8
                have bw8 := bw7.trans (b8.mono bw7.size)
                clear b8 hu7 bw7 hs7 hs67
                go_wp2_with fail
                refine (strings_same u u3 m3 w8 (hu8.wide (by omega)) (hs8.wide (by omega)) (by omega)).mono ?_
                rintro e w9 ⟨rfl, b9⟩
                go_wp2_with fail
                go_ret
                exact ⟨rfl, bw8.trans (b9.mono bw8.size)⟩
          | succ j =>
            have hvi2 : u10 = .int .i64 (j : Int) := by rw [hvi]; congr 1; omega
            clear hvi
            subst hvi2
            obtain ⟨x, hx, hxs, _⟩ := vr.at_ (i := j) (by omega)
            have HXX := Lib.hid hx
            have hxn : num 0 14 x = true := by
              have := HB.out
              unfold bad at this
              rw [Bool.not_eq_false', List.all_eq_true] at this
              exact this x (List.mem_of_getElem? hx)
            have hx14 := num_len hxn
            have HXN := Lib.hid hxn
            have hfin : ∀ (vo : Value) (w5 : World) (X : List Str), OwnS w5 base vo (O ++ X) → (∀ y ∈ X, num 0 14 y = true ∧ Full l y) ∧ Full X x → X.length ≤ 10 → X ≠ [] → OI l (O ++ X) j := fun vo w5 X _ h1 h2 h3 => HO.out.more HXX.out h1.1 h1.2 h2 h3
            have HFIN := Lib.hid hfin
            clear hx hxn hfin
            by_cases hstay : (j : Int) ≠ at_ ∨ 13 < x.length
            · have hc : ((j : Int) != at_) = true ∨ (((j : Int) != at_) = false ∧ 13 < x.length) := by
                by_cases he : (j : Int) = at_
                · right
                  exact ⟨by simpa using he, hstay.resolve_left (fun h => h he)⟩
                · left
                  simpa using he
              have HONE := Lib.hid (OI.one HXX.out HXN.out)
              clear hstay
              rcases hc with hc | ⟨hc, hc2⟩
              all_goals
                go_wp2_with (first
                  | (refine wp_atg 28 9 Try.underlying28 size_strM (.tmp 54) (.tmp 55) rfl rfl rfl vr.1 .i64 _ j (str x) rfl rfl hxs ?_; intro ad had hcad; unfold str at hcad; go_frame)
                  | (refine wp_atg 28 9 Try.underlying28 size_strM (.tmp 62) (.tmp 63) rfl rfl rfl vr.1 .i64 _ j (str x) rfl rfl hxs ?_; intro ad2 had2 hcad2; unfold str at hcad2; go_frame)
                  | (refine wp_appS1 base (.tmp 61) (.tmp 66) rfl rfl u9 O x rfl rfl hO hbr (by omega) ?_; intro v' w5 o5 b5))
                go_roundw
                case measure => show ((j : Int) - 1 + 1).toNat < ((j : Int) + 1).toNat; omega
                case rel => exact ⟨j, O ++ [x], by simp, by omega, o5, HFIN.out _ _ _ o5 HONE.out (by simp) (by simp), hB.trans b5⟩
            · have he : (j : Int) = at_ := Classical.byContradiction fun h => hstay (Or.inl h)
              have hle : ¬ 13 < x.length := fun h => hstay (Or.inr h)
              have hc : ((j : Int) != at_) = false := by simpa using he
              have hc2 : x.length ≤ 13 := by omega
              have HTEN := Lib.hid (OI.ten HXX.out HXN.out (by omega))
              clear hstay he hle
              go_wp2_with (refine wp_atg 28 9 Try.underlying28 size_strM (.tmp 54) (.tmp 55) rfl rfl rfl vr.1 .i64 _ j (str x) rfl rfl hxs ?_; intro ad had hcad; unfold str at hcad; go_frame)
              clear had hcad
              have hx40 : x.length ≤ 40 := by omega
              go_loopw [9, 11] (fun vo vd wx => ∃ d : Nat, vd = .int .i64 (d : Int) ∧ d ≤ 10 ∧ OwnS wx base vo (O ++ (exts x).take d) ∧ Below base w2 wx)
                (fun vo vd wx => ixn 10 vd)
              case atStart => exact ⟨0, rfl, by omega, by simpa using hO, hB⟩
              case round =>
                clear hO hB vr hbr hxs
                obtain ⟨d, rfl, hd, hO, hB⟩ := hrel
                have vr : Sl wr base maxLen (.slice A l.length cap) l := v2.carry hB (Nat.le_refl _)
                have hbr : base ≤ wr.heap.size := by have := hB.size; have := HBA.out; omega
                by_cases hlt : d < 10
                · have hext := fun w => run_digit d hlt w
                  have htk := exts_take x d hlt
                  have hol : (O ++ (exts x).take d).length ≤ 620 := by rw [List.length_append, List.length_take]; omega
                  obtain ⟨c, hc'⟩ : ∃ c, UInt8.ofNat (48 + d) = c := ⟨_, rfl⟩
                  simp only [hc'] at hext
                  rw [hc'] at htk
                  have hadd := str_add x [c]
                  obtain ⟨OO, hOO⟩ : ∃ OO, O ++ (exts x).take d = OO := ⟨_, rfl⟩
                  have hO3 : O ++ (exts x).take (d + 1) = OO ++ [x ++ [c]] := by rw [htk, ← List.append_assoc, hOO]
                  rw [hOO] at hO hol
                  have HO3 := Lib.hid hO3
                  obtain ⟨ad, rfl, had, hcx, hca⟩ := vr.cellat HXX.out
                  have hjl : j < l.length := by omega
                  unfold str at hcx
                  clear hO3 htk hc' hOO
                  go_upto_region 19 with (fail)
                  refine wp_region_pt base (.take 0 (.take 1 (.take 2 (.take 3 (.take 4 (.take 5 (.take 6 (.take 7 (.take 8 (.take 9 (.step 10 (.step 11 (.take 12 .done))))))))))))) (by kernel_rfl) (by kernel_rfl) (by kernel_rfl) (fun _ _ h => h) ?_
                  obtain ⟨w0, hw0⟩ : ∃ w0, w0 = wr.drew := ⟨_, rfl⟩
                  have e1 : w0.cell? (ad.add j) = some (.string ⟨x.toArray⟩) := by rw [hw0]; simpa using hcx
                  have o0 : OwnS w0 base u9 OO := by rw [hw0]; exact hO.go (Below.refl _ _).drew
                  have b0 : Below base w2 w0 := by rw [hw0]; exact hB.drew
                  have hb0 : base ≤ w0.heap.size := by rw [hw0]; exact hbr
                  have hadl : (ad.add j).block < base := by rw [add_block]; exact had
                  rw [← hw0]
                  clear hw0 hcx hO hB
                  first | refine pt_skip rfl rfl rfl rfl ?_ | (refine pt_take rfl rfl rfl rfl ?_; apply Exists.intro; refine ⟨fun w' hw' => ?_, ?_⟩; focus ((repeat (first | go_skip | go_guarded | go_step | go_upon | go_back)); exact ⟨rfl, rfl, rfl⟩))
                  first | refine pt_skip rfl rfl rfl rfl ?_ | (refine pt_take rfl rfl rfl rfl ?_; apply Exists.intro; refine ⟨fun w' hw' => ?_, ?_⟩; focus ((repeat (first | go_skip | go_guarded | go_step | go_upon | go_back)); exact ⟨rfl, rfl, rfl⟩))
                  first | refine pt_skip rfl rfl rfl rfl ?_ | (refine pt_take rfl rfl rfl rfl ?_; apply Exists.intro; refine ⟨fun w' hw' => ?_, ?_⟩; focus ((repeat (first | go_skip | go_guarded | go_step | go_upon | go_back)); exact ⟨rfl, rfl, rfl⟩))
                  refine pt_take rfl rfl rfl rfl ?_
                  apply Exists.intro
                  refine ⟨fun w' hw' => ?_, ?_⟩
                  · refine wp_run rfl (exec_ix 28 9 Try.underlying28 size_strM w' rfl rfl _ _ j rfl rfl hjl (q := ad.add j) rfl) ?_
                    exact ⟨rfl, rfl, rfl⟩
                  refine pt_take rfl rfl rfl rfl ?_
                  apply Exists.intro
                  refine ⟨fun w' hw' => ?_, ?_⟩
                  · have hcell := (hw'.cell (p := ad.add j) hadl).trans e1
                    focus ((repeat (first | go_skip | go_guarded | go_step | go_upon | go_back)); exact ⟨rfl, rfl, rfl⟩)
                  first | refine pt_skip rfl rfl rfl rfl ?_ | (refine pt_take rfl rfl rfl rfl ?_; apply Exists.intro; refine ⟨fun w' hw' => ?_, ?_⟩; focus ((repeat (first | go_skip | go_guarded | go_step | go_upon | go_back)); exact ⟨rfl, rfl, rfl⟩))
                  first | refine pt_skip rfl rfl rfl rfl ?_ | (refine pt_take rfl rfl rfl rfl ?_; apply Exists.intro; refine ⟨fun w' hw' => ?_, ?_⟩; focus ((repeat (first | go_skip | go_guarded | go_step | go_upon | go_back)); exact ⟨rfl, rfl, rfl⟩))
                  first | refine pt_skip rfl rfl rfl rfl ?_ | (refine pt_take rfl rfl rfl rfl ?_; apply Exists.intro; refine ⟨fun w' hw' => ?_, ?_⟩; focus ((repeat (first | go_skip | go_guarded | go_step | go_upon | go_back)); exact ⟨rfl, rfl, rfl⟩))
                  first | refine pt_skip rfl rfl rfl rfl ?_ | (refine pt_take rfl rfl rfl rfl ?_; apply Exists.intro; refine ⟨fun w' hw' => ?_, ?_⟩; focus ((repeat (first | go_skip | go_guarded | go_step | go_upon | go_back)); exact ⟨rfl, rfl, rfl⟩))
                  first | refine pt_skip rfl rfl rfl rfl ?_ | (refine pt_take rfl rfl rfl rfl ?_; apply Exists.intro; refine ⟨fun w' hw' => ?_, ?_⟩; focus ((repeat (first | go_skip | go_guarded | go_step | go_upon | go_back)); exact ⟨rfl, rfl, rfl⟩))
                  refine pt_step rfl ?_
                  go_wp2_with fail
                  refine ⟨rfl, (Below.refl _ _).alloc hb0 _, ?_⟩
                  refine pt_step rfl ?_
                  go_wp2_with (refine wp_appS1b base (.tmp 72) (.tmp 82) rfl rfl u9 OO (x ++ [c]) rfl rfl o0 hb0 (by omega) ?_; intro v' w5 o5 b5)
                  refine ⟨rfl, b5, ?_⟩
                  first | refine pt_skip rfl rfl rfl rfl ?_ | (refine pt_take rfl rfl rfl rfl ?_; apply Exists.intro; refine ⟨fun w' hw' => ?_, ?_⟩; focus ((repeat (first | go_skip | go_guarded | go_step | go_upon | go_back)); exact ⟨rfl, rfl, rfl⟩))
                  change Exit.inBlock _ _ Exit.normal _ _
                  go_wp2_with fail
                  go_roundw
                  case measure => show 10 - ((d : Int) + 1).toNat < 10 - ((d : Int)).toNat; omega
                  case rel => exact ⟨d + 1, by simp, by omega, by rw [HO3.out]; exact o5, b0.trans (((Below.refl _ _).alloc hb0 _).trans b5)⟩
                · have hd10 : (exts x).take d = exts x := List.take_of_length_le (by rw [exts_ten]; omega)
                  rw [hd10] at hO
                  go_wp2_with fail
                  go_roundw
                  case measure => show ((j : Int) - 1 + 1).toNat < ((j : Int) + 1).toNat; omega
                  case rel => exact ⟨j, O ++ exts x, by simp, by omega, hO, HFIN.out _ _ _ hO HTEN.out (by rw [exts_ten]; omega) (fun e => by have := exts_ten x; rw [e] at this; cases this), hB⟩

end Go.Proofs.Ytblgcefaikoejaa
