/-
  Walks of the reference's functions on lists of prefixes: uncovered.
-/
import Derived.Test.YtblgcefaikoejaaDrE
import Derived.Sort.Walk0
namespace Go.Proofs.Ytblgcefaikoejaa
open Go.RowKit Dg
set_option linter.unusedVariables false
set_option linter.unusedSimpArgs false

/-- The proper prefixes of x of fewer than k bytes: is one in l? -/
def cvk (l : List Str) (x : Str) (k : Nat) : Bool := (List.range k).any fun i => decide (x.take i ∈ l)
theorem cvk_succ (l : List Str) (x : Str) (k : Nat) : cvk l x (k + 1) = (cvk l x k || decide (x.take k ∈ l)) := by
  unfold cvk
  rw [List.range_succ, List.any_append]
  simp

set_option maxRecDepth 100000 in
set_option maxHeartbeats 4000000 in
theorem uncovered_any (v : Value) (l : List Str) (w : World) (hv : Sl w w.heap.size 100 v l) (hl : l.length ≤ 1000) :
    Calls Try.prog 38 #[v] w fun e w' => ∃ u O, e = .returned u ∧ OwnS w' w.heap.size u O ∧ UI l O l.length ∧ Below w.heap.size w w' := by
  obtain ⟨A, cap, rfl⟩ := hv.form
  obtain ⟨base, hbase⟩ : ∃ base, w.heap.size = base := ⟨_, rfl⟩
  have HBA := Lib.hid hbase
  rw [hbase] at hv
  go_enter Try.func38, Try.ntmps38
  rw [hbase]
  clear hbase
  go_wp2_with fail
  go_loopw [3, 4] (fun vo vi wr => ∃ (i : Nat) (O : List Str), vi = .int .i64 (i : Int) ∧ i ≤ l.length ∧ OwnS wr base vo O ∧ UI l O i ∧ Below base w wr)
    (fun vo vi wr => ixn l.length vi)
  case atStart => exact ⟨0, [], rfl, Nat.zero_le _, OwnS.nil_ _ _, ⟨List.Pairwise.nil, fun x => by simp⟩, Below.refl _ _⟩
  case round =>
    obtain ⟨i, O, rfl, hi, hO, hu, hB⟩ := hrel
    have HU := Lib.hid hu
    have vr := hv.carry hB (Nat.le_refl _)
    have hbr : base ≤ wr.heap.size := by have := hB.size; have := HBA.out; omega
    have hOm : ∀ y ∈ O, y ∈ l := fun y hy => List.mem_of_mem_take ((hu.mem y).1 hy).1
    have hOl : O.length ≤ 1000 := by
      have := nodup_le (hu.sorted.imp fun {a b} hab e => by subst e; exact List.lt_irrefl _ hab) hOm
      omega
    have hOs : ∀ y ∈ O, y.length ≤ 100 := fun y hy => hv.2 y (hOm y hy)
    have HOS := Lib.hid hOs
    clear hu hOm hOs
    by_cases hlt : i < l.length
    · obtain ⟨x, hx, hxs, hxl⟩ := vr.at_ hlt
      have HX := Lib.hid hx
      clear hx
      have sO : Sl wr wr.heap.size 100 u3 O := hO.sl HOS.out
      have hh := has_any x u3 O _ wr (sO.wider (by omega)) (by omega)
      obtain ⟨q, hq⟩ : ∃ q, decide (x ∈ O) = q := ⟨_, rfl⟩
      rw [hq] at hh
      have HQ := Lib.hid hq
      unfold str at hh
      clear hq
      have hl0 : Sl wr base 1000 (.slice A l.length cap) l := vr.wider (by omega)
      go_wp2_with (refine wp_atg 28 9 Try.underlying28 size_strM (.tmp 16) (.tmp 17) rfl rfl rfl vr.1 .i64 _ i (str x) rfl rfl hxs ?_; intro ad had hcad; unfold str at hcad; go_frame)
      refine hh.mono ?_
      rintro e w' ⟨rfl, rfl⟩
      clear hh hcad had
      go_wp2_with fail
      go_loopw [5, 6] (fun vq vk wx => ∃ k : Nat, vk = .int .i64 (k : Int) ∧ k ≤ x.length ∧ vq = .bool (q || cvk l x k) ∧ wx = w')
        (fun vq vk wx => ixn x.length vk)
      case atStart => exact ⟨0, rfl, Nat.zero_le _, by simp [cvk], rfl⟩
      case round =>
        obtain ⟨k, rfl, hk, rfl, rfl⟩ := hrel
        by_cases hkl : k < x.length
        · have hcs := cvk_succ l x k
          obtain ⟨p, hp⟩ : ∃ p, (q || cvk l x k) = p := ⟨_, rfl⟩
          have HCS : Hid ((q || cvk l x (k + 1)) = (p || decide (x.take k ∈ l))) := Lib.hid (by rw [hcs, ← hp, Bool.or_assoc])
          rw [hp]
          clear hcs hp
          have hcut := str_cut x 0 k
          rw [List.drop_zero] at hcut
          cases p with
          | true =>
            go_wp2_with (refine wp_atg 28 9 Try.underlying28 size_strM (.tmp 22) (.tmp 23) rfl rfl rfl vr.1 .i64 _ i (str x) rfl rfl hxs ?_; intro ad had hcad; unfold str at hcad; go_frame)
            go_roundw
            case measure => show x.length - ((k : Int) + 1).toNat < x.length - ((k : Int)).toNat; omega
            case rel => exact ⟨k + 1, by simp, by omega, by rw [HCS.out]; rfl, by first | trivial | rfl⟩
          | false =>
            have hh2 := has_any (x.take k) _ l _ wr hl0 (by omega)
            obtain ⟨z, hz⟩ : ∃ z, x.take k = z := ⟨_, rfl⟩
            rw [hz] at hcut hh2 HCS
            unfold str at hh2
            clear hz
            go_wp2_with (first
              | (refine wp_atg 28 9 Try.underlying28 size_strM (.tmp 22) (.tmp 23) rfl rfl rfl vr.1 .i64 _ i (str x) rfl rfl hxs ?_; intro ad had hcad; unfold str at hcad; go_frame)
              | (refine wp_atg 28 9 Try.underlying28 size_strM (.tmp 33) (.tmp 34) rfl rfl rfl vr.1 .i64 _ i (str x) rfl rfl hxs ?_; intro ad2 had2 hcad2; unfold str at hcad2; go_frame))
            refine hh2.mono ?_
            rintro e w' ⟨rfl, rfl⟩
            go_wp2_with fail
            go_roundw
            case measure => show x.length - ((k : Int) + 1).toNat < x.length - ((k : Int)).toNat; omega
            case rel => exact ⟨k + 1, by simp, by omega, by rw [HCS.out]; simp, by first | trivial | rfl⟩
        · obtain rfl : k = x.length := by omega
          have hcv : cvk l x x.length = cvd l x := rfl
          rw [hcv]
          by_cases hc : x ∈ O ∨ cvd l x = true
          · have hb : (q || cvd l x) = true := by
              rw [← HQ.out]
              rcases hc with hc | hc
              · rw [decide_eq_true hc]; rfl
              · rw [hc, Bool.or_true]
            rw [hb]
            have HN := Lib.hid (HU.out.skip HX.out hc)
            clear hc hb
            go_wp2_with (refine wp_atg 28 9 Try.underlying28 size_strM (.tmp 22) (.tmp 23) rfl rfl rfl vr.1 .i64 _ i (str x) rfl rfl hxs ?_; intro ad had hcad; unfold str at hcad; go_frame)
            go_roundw
            case measure => show l.length - ((i : Int) + 1).toNat < l.length - ((i : Int)).toNat; omega
            case rel => exact ⟨i + 1, O, by simp, by omega, hO, HN.out, hB⟩
          · have hc1 : x ∉ O := fun h => hc (Or.inl h)
            have hc2 : cvd l x = false := by
              cases h : cvd l x
              · rfl
              · exact absurd (Or.inr h) hc
            have hb : (q || cvd l x) = false := by rw [← HQ.out, decide_eq_false hc1, hc2]; rfl
            rw [hb]
            have HC1 := Lib.hid hc1
            have HC2 := Lib.hid hc2
            clear hc hb hc1 hc2 hcv
            go_wp2_with (refine wp_atg 28 9 Try.underlying28 size_strM (.tmp 22) (.tmp 23) rfl rfl rfl vr.1 .i64 _ i (str x) rfl rfl hxs ?_; intro ad had hcad; unfold str at hcad; go_frame)
            clear had hcad
            obtain ⟨A2, cap2, hf2⟩ := sO.form
            subst hf2
            go_loopw [7] (fun va wx => ∃ t : Nat, va = .int .i64 (t : Int) ∧ t ≤ O.length ∧ (∀ j y, j < t → O[j]? = some y → y < x) ∧ OwnS wx base (.slice A2 O.length cap2) O ∧ Below base w wx)
              (fun va wx => ixn O.length va)
            case atStart => exact ⟨0, rfl, Nat.zero_le _, fun j y hj => absurd hj (by omega), hO, hB⟩
            case round =>
              clear hO hB vr hbr sO hl0
              obtain ⟨t, rfl, ht, hlt', hO, hB⟩ := hrel
              have HLT := Lib.hid hlt'
              have vr := hv.carry hB (Nat.le_refl _)
              have hbr : base ≤ wr.heap.size := by have := hB.size; have := HBA.out; omega
              have sO := hO.sl HOS.out
              clear hlt'
              have hOd : OwnS wr.drew base (.slice A2 O.length cap2) O := hO.go (Below.refl _ _).drew
              have hBd : Below base w wr.drew := hB.drew
              have bb : base ≤ wr.drew.heap.size := hbr
              have hrO : Row wr.drew wr.drew.heap.size 1 O.length (.slice A2 O.length cap2) (O.map str) := Row.of_own hOd
              have hnd : ∀ W, Below wr.drew.heap.size wr.drew W → Row W wr.drew.heap.size 1 O.length (.slice A2 O.length cap2) (O.map str) := fun W h => hrO.carry h (Nat.le_refl _)
              have hlW : ∀ W, Below wr.drew.heap.size wr.drew W → Row W base 1 l.length (.slice A l.length cap) (l.map str) := fun W h => (hv.carry (hBd.trans (h.mono bb)) (Nat.le_refl _)).1
              have ltk : (O.take t).length = t := by rw [List.length_take]; omega
              have ldr : (O.drop t).length = O.length - t := List.length_drop
              have cv1 : ∀ (W : World) (B : Nat) A3 cap3, Row W B 1 t (.slice A3 t cap3) (((O.map str).drop (0 * 1)).take (t * 1)) → Row W B 1 (O.take t).length (.slice A3 t cap3) ((O.take t).map str) := fun W B A3 cap3 h => by
                have e : ((O.map str).drop (0 * 1)).take (t * 1) = (O.take t).map str := by rw [Nat.zero_mul, List.drop_zero, Nat.mul_one, List.map_take]
                rw [e] at h
                rw [ltk]
                exact h
              have cv2 : ∀ (W : World) (B : Nat) A3 cap3, Row W B 1 (O.length - t) (.slice A3 (O.length - t) cap3) (((O.map str).drop (t * 1)).take ((O.length - t) * 1)) → Row W B 1 (O.drop t).length (.slice A3 (O.length - t) cap3) ((O.drop t).map str) := fun W B A3 cap3 h => by
                have e : ((O.map str).drop (t * 1)).take ((O.length - t) * 1) = (O.drop t).map str := by
                  rw [Nat.mul_one, Nat.mul_one, List.map_drop, List.take_of_length_le (by rw [List.length_drop, List.length_map]; omega)]
                rw [e] at h
                rw [ldr]
                exact h
              have ln1 : ([] : List Str).length + (O.take t).length ≤ 8000000000 := by rw [ltk]; simp only [List.length_nil]; omega
              have ln2 : ([] ++ O.take t : List Str).length + 1 ≤ 8000000000 := by simp only [List.nil_append, ltk]; omega
              have ln3 : ([] ++ O.take t ++ [x] : List Str).length + (O.drop t).length ≤ 8000000000 := by simp only [List.nil_append, List.length_append, ltk, ldr, List.length_cons, List.length_nil]; omega
              by_cases hto : t < O.length
              · have hkeep : True := trivial
                obtain ⟨y, hy⟩ : ∃ y, O[t]? = some y := ⟨O[t], List.getElem?_eq_getElem hto⟩
                obtain ⟨ad1, e1, had1, hcx, hca⟩ := (hv.carry hBd (Nat.le_refl _)).cellat HX.out
                obtain ⟨ad2, e2, had2, hcy, hca2⟩ := (hOd.sl HOS.out).cellat hy
                have HY := Lib.hid hy
                unfold str at hcx hcy
                subst e1 e2
                clear hy hO hB vr sO
                by_cases hyx : y < x
                · have hlb : Op.bytesLess y x = true := by rw [bytesLess_eq]; exact decide_eq_true hyx
                  have HN : Hid (∀ j z, j < t + 1 → O[j]? = some z → z < x) := Lib.hid fun j z hj hz => by
                    by_cases hjt : j < t
                    · exact HLT.out j z hjt hz
                    · have : j = t := by omega
                      subst this
                      rw [HY.out] at hz
                      injection hz with hz
                      subst hz
                      exact hyx
                  clear hyx
                  go_wp2_with fail
                  go_region
                  all_goals go_wp2_with fail
                  go_roundw
                  case measure => show O.length - ((t : Int) + 1).toNat < O.length - ((t : Int)).toNat; omega
                  case rel => exact ⟨t + 1, by simp, by omega, HN.out, hOd, hBd⟩
                · have hlb : Op.bytesLess y x = false := by rw [bytesLess_eq]; exact decide_eq_false hyx
                  have HN := Lib.hid (HU.out.add HX.out HC1.out HC2.out ht HLT.out (fun z hz => by rw [HY.out] at hz; injection hz with hz; subst hz; exact hyx))
                  clear hyx
                  go_wp2_with fail
                  go_region
                  go_wp2_with (first
                    | (refine wp_cut 28 9 Try.underlying28 size_strM (.tmp 60) none (some (.tmp 61)) rfl rfl rfl hrO 0 t (Or.inl ⟨rfl, rfl⟩) (Or.inr ⟨.i64, _, rfl, by simp⟩) (by omega) ?_; intro A3 cap3 hr3)
                    | (refine wp_appSs wr.drew.heap.size (.tmp 59) (.tmp 62) rfl rfl (.slice none 0 0) (.slice A3 t cap3) [] (O.take t) (B := wr.drew.heap.size) rfl rfl (OwnS.nil_ _ _) (Nat.le_refl _) (cv1 _ _ _ _ hr3) ln1 ?_; intro v1 W1 o1 bb1)
                    | (refine wp_atg 28 9 Try.underlying28 size_strM (.tmp 65) (.tmp 66) rfl rfl rfl (hlW _ bb1) .i64 _ i (str x) rfl rfl hxs ?_; intro ad5 had5 hcad5; unfold str at hcad5; go_frame)
                    | (refine wp_appS1 wr.drew.heap.size (.tmp 64) (.tmp 69) rfl rfl v1 ([] ++ O.take t) x rfl rfl o1 bb1.size ln2 ?_; intro v2 W2 o2 bb2)
                    | (refine wp_cut 28 9 Try.underlying28 size_strM (.tmp 72) (some (.tmp 73)) none rfl rfl rfl (hnd _ (bb1.trans bb2)) t (O.length - t) (Or.inr ⟨.i64, _, rfl, rfl⟩) (Or.inl ⟨rfl, by omega⟩) (by omega) ?_; intro A4 cap4 hr4)
                    | (refine wp_appSs wr.drew.heap.size (.tmp 71) (.tmp 74) rfl rfl v2 (.slice A4 (O.length - t) cap4) ([] ++ O.take t ++ [x]) (O.drop t) (B := wr.drew.heap.size) rfl rfl o2 (bb1.trans bb2).size (cv2 _ _ _ _ hr4) ln3 ?_; intro v3 W3 o3 bb3))
                  go_roundw
                  case measure => show l.length - ((i : Int) + 1).toNat < l.length - ((i : Int)).toNat; omega
                  case rel => exact ⟨i + 1, _, by simp, by omega, o3.up bb, HN.out, hBd.trans (((bb1.trans bb2).trans bb3).mono bb)⟩
              · have HN := Lib.hid (HU.out.add HX.out HC1.out HC2.out ht HLT.out (fun z hz => by have := (List.getElem?_eq_some_iff.1 hz).1; omega))
                have d0 : decide (t < O.length) = false := decide_eq_false hto
                go_wp2_with fail
                go_region
                go_wp2_with (first
                  | (refine wp_cut 28 9 Try.underlying28 size_strM (.tmp 60) none (some (.tmp 61)) rfl rfl rfl hrO 0 t (Or.inl ⟨rfl, rfl⟩) (Or.inr ⟨.i64, _, rfl, by simp⟩) (by omega) ?_; intro A3 cap3 hr3)
                  | (refine wp_appSs wr.drew.heap.size (.tmp 59) (.tmp 62) rfl rfl (.slice none 0 0) (.slice A3 t cap3) [] (O.take t) (B := wr.drew.heap.size) rfl rfl (OwnS.nil_ _ _) (Nat.le_refl _) (cv1 _ _ _ _ hr3) ln1 ?_; intro v1 W1 o1 bb1)
                  | (refine wp_atg 28 9 Try.underlying28 size_strM (.tmp 65) (.tmp 66) rfl rfl rfl (hlW _ bb1) .i64 _ i (str x) rfl rfl hxs ?_; intro ad5 had5 hcad5; unfold str at hcad5; go_frame)
                  | (refine wp_appS1 wr.drew.heap.size (.tmp 64) (.tmp 69) rfl rfl v1 ([] ++ O.take t) x rfl rfl o1 bb1.size ln2 ?_; intro v2 W2 o2 bb2)
                  | (refine wp_cut 28 9 Try.underlying28 size_strM (.tmp 72) (some (.tmp 73)) none rfl rfl rfl (hnd _ (bb1.trans bb2)) t (O.length - t) (Or.inr ⟨.i64, _, rfl, rfl⟩) (Or.inl ⟨rfl, by omega⟩) (by omega) ?_; intro A4 cap4 hr4)
                  | (refine wp_appSs wr.drew.heap.size (.tmp 71) (.tmp 74) rfl rfl v2 (.slice A4 (O.length - t) cap4) ([] ++ O.take t ++ [x]) (O.drop t) (B := wr.drew.heap.size) rfl rfl o2 (bb1.trans bb2).size (cv2 _ _ _ _ hr4) ln3 ?_; intro v3 W3 o3 bb3))
                go_roundw
                case measure => show l.length - ((i : Int) + 1).toNat < l.length - ((i : Int)).toNat; omega
                case rel => exact ⟨i + 1, _, by simp, by omega, o3.up bb, HN.out, hBd.trans (((bb1.trans bb2).trans bb3).mono bb)⟩
    · have hil : i = l.length := by omega
      subst hil
      go_wp2_with fail
      go_ret
      exact ⟨_, O, rfl, hO, HU.out, hB⟩

end Go.Proofs.Ytblgcefaikoejaa
