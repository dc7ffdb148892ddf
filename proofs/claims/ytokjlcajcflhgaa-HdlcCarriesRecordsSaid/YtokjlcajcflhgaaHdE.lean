/-
  The iterator over the unstuffed contents.
-/
import Derived.Test.YtokjlcajcflhgaaHdD
import Derived.Test.YtokjlcajcflhgaaRin
import Derived.Scope
import Derived.Shelf.Abstract
namespace Go.Proofs.Ytokjlcajcflhgaa
open Go.RowKit Go.Shelf
attribute [local go_sem] Oper.semAt_some
set_option linter.unusedVariables false
set_option linter.unusedSimpArgs false

theorem contents_any (m : Nat) (A : Option Addr) (n c : Nat) (w : World) : CallsIn Fence.wide m Try.prog 45 #[.slice A n c] w fun e w' => e = .returned (.func (.func 51) #[] #[.pointer (some ⟨w.heap.size, 0, none⟩)]) ∧ w' = w.alloc (.cells #[.slice A n c] 22) := by
  refine callsIn_wide.2 ?_
  go_enter Try.func45, Try.ntmps45
  go_wp2
  go_ret
  exact ⟨rfl, rfl⟩

/-- An item that lies in memory of its own. -/
def ItemU (B : Nat) (w : World) (v : Value) (x : List UInt8) : Prop := Own w B v x

theorem ownsRow_up {w : World} {base base' : Nat} {v : Value} {l : List UInt8} (h : Own w base v l) (hb : base' ≤ base) : Own w base' v l := by
  obtain ⟨h1, h2⟩ := h
  refine ⟨h1, ?_⟩
  rcases h2 with h2 | ⟨g, cap, cur, hv, hg, r⟩
  · exact Or.inl h2
  · exact Or.inr ⟨g, cap, cur, hv, Nat.le_trans hb hg, r⟩
theorem un_cons (e : Bool) (acc : List UInt8) (c : UInt8) (l : List UInt8) : un e acc (c :: l) = if acc.length = 4098 then none else if e = true then (if spec (c ^^^ 32) = true then un false (acc ++ [c ^^^ 32]) l else none) else if c = 125 then un true acc l else un false (acc ++ [c]) l := rfl
theorem fm_next {α β : Type} (f : α → Option β) {L : List α} {k : Nat} {x : α} {y : β} (hx : L[k]? = some x) (hy : f x = some y) :
    (L.filterMap f)[((L.take k).filterMap f).length]? = some y ∧ ((L.take (k + 1)).filterMap f).length = ((L.take k).filterMap f).length + 1 := by
  have hk := (List.getElem?_eq_some_iff.1 hx).1
  have h1 : L.drop k = x :: L.drop (k + 1) := by
    rw [List.drop_eq_getElem_cons hk]; congr 1; exact (List.getElem?_eq_some_iff.1 hx).2
  have h2 : L.filterMap f = (L.take k).filterMap f ++ y :: (L.drop (k + 1)).filterMap f := by
    conv => lhs; rw [← List.take_append_drop k L, h1]
    rw [List.filterMap_append, List.filterMap_cons, hy]
  refine ⟨by rw [h2]; simp, ?_⟩
  rw [List.take_add_one, hx, List.filterMap_append]
  simp [hy]

theorem cts_short : ∀ (l acc : List UInt8), ∀ x ∈ cts acc l, x.length ≤ acc.length + l.length
  | [], _, x, h => by cases h
  | c :: l, acc, x, h => by
    rw [cts_cons] at h
    split at h
    · rcases List.mem_cons.1 h with rfl | h
      · simp
      · have := cts_short l [] x h
        simp at this ⊢; omega
    · have := cts_short l _ x h
      simp at this ⊢; omega
theorem cont_short : ∀ (l : List UInt8), ∀ x ∈ cont l, x.length ≤ l.length
  | [], x, h => by cases h
  | c :: l, x, h => by
    have e : cont (c :: l) = if c = 126 then cts [] l else cont l := rfl
    rw [e] at h
    split at h
    · have := cts_short l [] x h
      simp at this ⊢; omega
    · have := cont_short l x h
      simp; omega

set_option maxRecDepth 100000 in
set_option maxHeartbeats 1000000 in
theorem unstuffed_gives (n0 bb : Nat) (A : Option Addr) (cap : Nat) (b : List UInt8) (W : World) (hn0 : n0 ≤ W.heap.size) (hbox : W.cell? ⟨bb, 0, none⟩ = some (.slice A b.length cap)) (hv : Bs W n0 (.slice A b.length cap) b) (hl : b.length ≤ 1000000) :
    Gives Try.prog 44 #[.pointer (some ⟨bb, 0, none⟩)] ItemU ((cont b).filterMap unst) n0 W := by
  intro l J h1 h2 h3
  refine callsIn_of_wp_marks Try.func44 rfl trivial ?_ rfl
  simp only [Try.ntmps44, List.size_toArray, List.length_cons, List.length_nil, Nat.reduceAdd, Nat.reduceSub, Array.replicate_succ, Array.replicate_zero, List.push_toArray, List.append_toArray, List.nil_append, List.cons_append]
  have hb1 : Below W.heap.size W (W.alloc (.cells #[.func (.yield l) #[] #[]] 28)) := (Below.refl _ _).alloc (Nat.le_refl _) _
  have hbox1 := cell_past hbox hb1
  have hv1 := hv.carry (hb1.mono hn0) (Nat.le_refl _)
  obtain ⟨W2, hW2⟩ : ∃ W2, W2 = W.alloc (.cells #[.func (.yield l) #[] #[]] 28) := ⟨_, rfl⟩
  rw [← hW2] at hb1 hbox1 hv1
  have hyb : W2.cell? ⟨W.heap.size, 0, none⟩ = some (.func (.yield l) #[] #[]) := by
    rw [hW2, cell_of_row _ _ 0 _ _ _ (heap_alloc_new _ _)]; rfl
  have hW2s : W2.heap.size = W.heap.size + 1 := by rw [hW2]; simp
  gi_wp2_with fail
  rw [← hW2]
  refine wpIn_wide.2 (wp_scope_straight ((wpIn_wide (n := 0)).1 (wpIn_seq (wpIn_label ?_))))
  show Code.wpIn _ _ _ _ _ _ _
  clear hW2
  gi_wp2_with fail
  refine ⟨trivial, rfl, (contents_any _ A b.length cap _).mono ?_⟩
  rintro e w3 ⟨rfl, rfl⟩
  obtain ⟨W3, hW3⟩ : ∃ W3, W3 = W2.alloc (.cells #[.slice A b.length cap] 22) := ⟨_, rfl⟩
  have hb3 : Below W2.heap.size W2 W3 := by rw [hW3]; exact (Below.refl _ _).alloc (Nat.le_refl _) _
  have hcb : W3.cell? ⟨W.heap.size + 1, 0, none⟩ = some (.slice A b.length cap) := by
    have h := cell_of_row _ _ 0 _ _ _ (heap_alloc_new W2 (.cells #[.slice A b.length cap] 22))
    rw [hW2s] at h
    rw [hW3]; exact h
  have hW3s : W3.heap.size = W.heap.size + 2 := by rw [hW3]; simp [hW2s]
  have hyb3 := cell_past hyb hb3
  have hv3 := hv1.carry (hb3.mono (by omega)) (Nat.le_refl _)
  have hb13 := hb1.trans (hb3.mono hb1.size)
  gi_wp2_with fail
  rw [← hW3]
  clear hW3 hyb hv1 hbox1 hb1 hb3 hv hbox hW2s
  refine wp_range (gf := 51) (lb := #[.pointer (some ⟨W.heap.size + 1, 0, none⟩)]) (n0 := n0) (Item := ItemC n0) (items := cont b) rfl (enters_of Try.func51 (by kernel_rfl) rfl) (by omega)
    ?hItem ?hseq
    (fun B k w => J B ((cont b).take k |>.filterMap unst).length w ∧ w.cell? ⟨W.heap.size, 0, none⟩ = some (.func (.yield l) #[] #[])) ?h0 ?hI
    (fun v => { tmps := #[.func (.yield l) #[] #[], .pointer (some ⟨bb, 0, none⟩), .pointer (some ⟨W.heap.size, 0, none⟩), v, undef, undef, undef, undef, .slice A b.length cap, .func (.func 51) #[] #[.pointer (some ⟨W.heap.size + 1, 0, none⟩)], v, undef, undef, undef, undef, undef, undef, undef, undef, undef, undef, undef, undef, undef, undef, undef, undef, undef, undef, undef, undef, undef, undef, undef, undef, undef, undef, undef, undef, undef, undef, undef, undef, undef, undef, undef, undef, undef, undef, undef, undef, undef, undef, undef, undef, undef, undef, undef], defers := [] }) ?hassign ?hbody ?hdone
  case hItem =>
    intro B v x W4 W5 hn hit hk
    exact hk.row (fun k hk => Or.inl hk) hn hit
  case hseq =>
    intro W4 hb
    have hn : n0 ≤ W4.heap.size := by have := hb.size; omega
    exact contents_gives n0 (W.heap.size + 1) A cap b W4 hn (cell_past hcb hb) (hv3.carry (hb.mono (by omega)) (Nat.le_refl _)) (by omega)
  case h0 =>
    intro W4 hb
    exact ⟨h1 W4 (hb13.trans (hb.mono (by omega))), cell_past hyb3 hb⟩
  case hI =>
    intro B k W4 W5 hB h hk
    exact ⟨h2 B _ W4 W5 (by omega) h.1 (hk.mono fun q hq => Or.elim hq (fun h => Or.inl (by omega)) Or.inr), hk.cell (p := ⟨W.heap.size, 0, none⟩) (Or.inl (show W.heap.size < W3.heap.size by omega)) h.2⟩
  case hassign =>
    intro l' v W4 K hK
    gi_wp2
    exact hK
  case hdone =>
    rintro D B W4 hD hDB hBW ⟨hJ, _⟩ hd
    gi_wp2_with fail
    show LeavesInM _ _ _ _ _ _ _ _ _
    refine ⟨by simp, .inl ⟨_, _, rfl, run_takeDeferred hd, ?_⟩⟩
    have hk : Keep (Mine W.heap.size B) W4 (W4.putObj D (.deferred none)) := Keep.putObj _ _ _ (by unfold Mine; omega)
    have hJ2 := h2 B _ W4 _ (by omega) hJ hk
    rw [List.take_length] at hJ2
    exact ⟨_, results_none rfl _ _ _, ⟨_, rfl⟩, B, by omega, by have := hk.size; omega, hJ2⟩
  case hbody =>
    rintro l' B k x v W4 hB hBW ⟨hJ, hy4⟩ hx hit
    obtain ⟨A4, cap4, rfl⟩ := Bs.form hit
    have hxl : x.length ≤ 1000000 := by
      have h := cont_short _ _ (List.mem_of_getElem? hx)
      omega
    obtain ⟨N, hN⟩ : ∃ N : Nat, N = min x.length 4098 := ⟨_, rfl⟩
    have hN1 : N ≤ 4098 := by omega
    have HN := Lib.hid hN
    clear hN
    have hit' : Bs W4 n0 (.slice A4 x.length cap4) x := hit
    have hn4 : n0 ≤ W4.heap.size := by omega
    have hnone : unst x = none → ∀ wr, Below W4.heap.size W4 wr → goesOn (fun W' => (J B ((cont b).take (k + 1) |>.filterMap unst).length W' ∧ W'.cell? ⟨W.heap.size, 0, none⟩ = some (.func (.yield l) #[] #[])) ∧ Keep (Theirs n0 W3.heap.size B) W4 W') Exit.normal { tmps := #[], defers := [] } wr := by
      intro hu wr hb
      refine ⟨rfl, ⟨?_, cell_past hy4 hb⟩, Keep.of_below hb⟩
      have e : ((cont b).take (k + 1)).filterMap unst = ((cont b).take k).filterMap unst := by
        rw [List.take_add_one, hx, List.filterMap_append]; simp [hu]
      rw [e]
      exact h2 B _ W4 wr (by omega) hJ (Keep.of_below hb)
    have HNONE := Lib.hid hnone
    clear hnone
    gi_wp2_with (gi_at_make; refine wpi_make0 W4.heap.size _ _ rfl rfl _ N rfl rfl ?_ (by omega) (Nat.le_refl _) ?_; exact (by rw [HN.out]; push_cast; omega); intro v5 w5 ho5 hb5)
    all_goals
      gi_loopw [4, 5, 17] (fun pl e i wr => ∃ (q : Nat) (acc : List UInt8) (eb : Bool), i = .int .i64 q ∧ e = .bool eb ∧ q ≤ x.length ∧ Own wr W4.heap.size pl acc ∧ acc.length ≤ q ∧ Below W4.heap.size W4 wr ∧ un eb acc (x.drop q) = un false [] x) (fun _ _ i _ => (x.length - intOf i).toNat)
      case atStart => exact ⟨0, [], false, rfl, rfl, Nat.zero_le _, ho5, Nat.le_refl _, hb5, rfl⟩
      case round =>
        obtain ⟨q, acc, eb, rfl, rfl, hq, hown, hal, hbl, hun⟩ := hrel
        have HUN := Lib.hid hun
        clear hun
        obtain ⟨A6, cap6, hf6⟩ := hown.bs.form
        rw [hf6] at hown ⊢
        clear hf6
        have hbs := hbl.size
        by_cases hlt : q < x.length
        · obtain ⟨c, hc⟩ : ∃ c, x[q]? = some c := ⟨_, List.getElem?_eq_getElem hlt⟩
          have HD := Lib.hid (show x.drop q = c :: x.drop (q + 1) by
            rw [List.drop_eq_getElem_cons hlt]; congr 1; exact (List.getElem?_eq_some_iff.1 hc).2)
          have hir : Bs _ n0 (.slice A4 x.length cap4) x := hit'.carry (hbl.mono hn4) (Nat.le_refl _)
          have hce := hir.at_ q c hc
          have hx32 := xor_32 c
          by_cases h98 : acc.length = 4098
          · have HU : unst x = none := by
              unfold unst; rw [← HUN.out, HD.out]; unfold un; rw [if_pos h98]; rfl
            have HU' := Lib.hid HU
            have ht : ((acc.length : Int) == 4098) = true := by rw [h98]; rfl
            clear HU h98
            gi_wp2_with (refine wpi_at (.tmp 15) (.tmp 17) rfl rfl rfl hir _ _ q _ rfl rfl hce ?_; intro p hp hcell)
            exact HNONE.out HU'.out _ hbl
          · have ht : ((acc.length : Int) == 4098) = false := beq_eq_false_iff_ne.2 (by omega)
            have HSTEP := Lib.hid (show un eb acc (x.drop q) = if eb = true then (if spec (c ^^^ 32) = true then un false (acc ++ [c ^^^ 32]) (x.drop (q + 1)) else none) else if c = 125 then un true acc (x.drop (q + 1)) else un false (acc ++ [c]) (x.drop (q + 1)) by
              rw [HD.out, un_cons, if_neg h98])
            clear h98
            obtain ⟨d, hd⟩ : ∃ d, d = c ^^^ 32 := ⟨_, rfl⟩
            rw [← hd] at hx32 HSTEP
            clear hd
            cases eb with
            | true =>
              have hcall := special_any d
              by_cases hs : spec d = true
              · rw [hs] at hcall
                have HC := Lib.hid hcall
                have HR := Lib.hid (show un false (acc ++ [d]) (x.drop (q + 1)) = un false [] x by
                  rw [← HUN.out, HSTEP.out]; simp [hs])
                clear hcall hs
                gi_wp2_with (refine wpi_at (.tmp 15) (.tmp 17) rfl rfl rfl hir _ _ q _ rfl rfl hce ?_; intro p hp hcell)
                refine ⟨trivial, rfl, (CallsIn.inRound l' (callsIn_wide.2 (HC.out _))).mono ?_⟩
                rintro e w7 ⟨rfl, rfl⟩
                clear hcell
                gi_wp2_with (gi_at_builtin; refine wpi_app1 W4.heap.size (.tmp 39) (.tmp 42) rfl rfl _ acc _ d rfl rfl hown hbs (by omega) rfl ?_; intro v8 w8 hown8 hb8)
                go_roundw
                case rel => exact ⟨q + 1, acc ++ [d], false, by go_num, rfl, by omega, hown8, by simp; omega, hbl.trans hb8, HR.out⟩
                case measure => simp [intOf]; omega
              · have hs' : spec d = false := by simpa using hs
                rw [hs'] at hcall
                have HC := Lib.hid hcall
                have HU' := Lib.hid (show unst x = none by
                  unfold unst; rw [← HUN.out, HSTEP.out]; simp [hs])
                clear hcall hs hs'
                gi_wp2_with (refine wpi_at (.tmp 15) (.tmp 17) rfl rfl rfl hir _ _ q _ rfl rfl hce ?_; intro p hp hcell)
                refine ⟨trivial, rfl, (CallsIn.inRound l' (callsIn_wide.2 (HC.out _))).mono ?_⟩
                rintro e w7 ⟨rfl, rfl⟩
                clear hcell
                gi_wp2_with fail
                exact HNONE.out HU'.out _ hbl
            | false =>
              by_cases h7d : c = 125
              · have HR := Lib.hid (show un true acc (x.drop (q + 1)) = un false [] x by
                  rw [← HUN.out, HSTEP.out]; simp [h7d])
                have t7 : ((c.toNat : Int) == 125) = true := by rw [h7d]; rfl
                clear h7d
                gi_wp2_with (refine wpi_at (.tmp 15) (.tmp 17) rfl rfl rfl hir _ _ q _ rfl rfl hce ?_; intro p hp hcell)
                refine ⟨trivial, ?_⟩
                gi_wp2_with fail
                go_roundw
                case rel => exact ⟨q + 1, acc, true, by go_num, rfl, by omega, hown, by omega, hbl, HR.out⟩
                case measure => simp [intOf]; omega
              · have HR := Lib.hid (show un false (acc ++ [c]) (x.drop (q + 1)) = un false [] x by
                  rw [← HUN.out, HSTEP.out]; simp [h7d])
                have t7 : ((c.toNat : Int) == 125) = false := toNat_ne (n := 125) (by omega) h7d
                clear h7d
                gi_wp2_with (refine wpi_at (.tmp 15) (.tmp 17) rfl rfl rfl hir _ _ q _ rfl rfl hce ?_; intro p hp hcell)
                refine ⟨trivial, ?_⟩
                clear hcell
                gi_wp2_with (gi_at_builtin; refine wpi_app1 W4.heap.size (.tmp 21) (.tmp 23) rfl rfl _ acc _ c rfl rfl hown hbs (by omega) rfl ?_; intro v8 w8 hown8 hb8)
                go_roundw
                case rel => exact ⟨q + 1, acc ++ [c], false, by go_num, rfl, by omega, hown8, by simp; omega, hbl.trans hb8, HR.out⟩
                case measure => simp [intOf]; omega
        · have HQ := Lib.hid (show x.drop q = [] from List.drop_eq_nil_of_le (by omega))
          cases eb with
          | true =>
            have HU' := Lib.hid (show unst x = none by unfold unst; rw [← HUN.out, HQ.out]; rfl)
            gi_wp2_with fail
            exact HNONE.out HU'.out _ hbl
          | false =>
            have HA := Lib.hid (show un false [] x = some acc by rw [← HUN.out, HQ.out]; rfl)
            by_cases h2l : acc.length < 2
            · have HU' := Lib.hid (show unst x = none by unfold unst; rw [HA.out]; simp [h2l])
              gi_wp2_with fail
              exact HNONE.out HU'.out _ hbl
            · have hu : unst x = some acc := by unfold unst; rw [HA.out]; simp [h2l]
              obtain ⟨hi1, hi2⟩ := fm_next unst hx hu
              have HI2 := Lib.hid hi2
              have hyr := cell_past hy4 hbl
              have hJr := h2 B _ W4 _ (by omega) hJ (Keep.of_below hbl)
              have hitu := ownsRow_up (base := W4.heap.size) (base' := B) hown (by omega)
              obtain ⟨fn, tmps, assign, body, hyy, hR⟩ := h3 B _ acc _ (.slice A6 acc.length cap6) (by omega) (by omega) hJr hi1 hitu
              clear hu hi1 hi2 hitu hJr
              gi_wp2_with fail
              refine ⟨rfl, RoundIn.mono (F := Fence.wide) hR ?_⟩
              rintro e w9 ⟨rfl, hJ9, hk9⟩
              clear hR hyy
              gi_wp2_with fail
              have hk4 : Keep (Theirs n0 W3.heap.size B) W4 w9 := (Keep.of_below hbl).trans (hk9.mono fun t ht => Or.elim ht Or.inl (fun h => Or.inr ⟨by omega, h.2⟩))
              exact ⟨rfl, ⟨by rw [HI2.out]; exact hJ9, hk9.cell (p := ⟨W.heap.size, 0, none⟩) (Or.inr ⟨Nat.le_refl _, show W.heap.size < B by omega⟩) hyr⟩, hk4⟩
end Go.Proofs.Ytokjlcajcflhgaa
