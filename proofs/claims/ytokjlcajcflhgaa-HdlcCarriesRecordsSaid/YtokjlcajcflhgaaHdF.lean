/-
  Scan and Decode of package hdlc.
-/
import Derived.Test.YtokjlcajcflhgaaHdE
import Derived.Test.YtokjlcajcflhgaaLst
namespace Go.Proofs.Ytokjlcajcflhgaa
open Go.RowKit Go.Shelf
attribute [local go_sem] Oper.semAt_some
set_option linter.unusedVariables false
set_option linter.unusedSimpArgs false

theorem unstuffed_any (m : Nat) (A : Option Addr) (n c : Nat) (w : World) : CallsIn Fence.wide m Try.prog 28 #[.slice A n c] w fun e w' => e = .returned (.func (.func 44) #[] #[.pointer (some ⟨w.heap.size, 0, none⟩)]) ∧ w' = w.alloc (.cells #[.slice A n c] 22) := by
  refine callsIn_wide.2 ?_
  go_enter Try.func28, Try.ntmps28
  go_wp2
  go_ret
  exact ⟨rfl, rfl⟩

theorem snoc2 {l : List UInt8} (h : 2 ≤ l.length) : ∃ p c d, l = p ++ [c, d] := by
  refine ⟨l.take (l.length - 2), l[l.length - 2], l[l.length - 1], ?_⟩
  conv => lhs; rw [← List.take_append_drop (l.length - 2) l]
  congr 1
  rw [List.drop_eq_getElem_cons (by omega), List.drop_eq_getElem_cons (by omega), List.drop_eq_nil_of_le (by omega)]
  congr 2
  simp only [show l.length - 2 + 1 = l.length - 1 by omega]
theorem plain_len {L : List (List UInt8)} {k : Nat} {x : List UInt8} (h : (L.filterMap unst)[k]? = some x) : 2 ≤ x.length ∧ x.length ≤ 4098 := by
  have h1 := List.mem_of_getElem? h
  obtain ⟨y, _, hy⟩ := List.mem_filterMap.1 h1
  exact unst_length hy
theorem payload_x (l' b : Nat) (A : Option Addr) (cap : Nat) (x p : List UInt8) (c d : UInt8) (hx : x = p ++ [c, d]) (w : World) (B : Nat) (ht : TabIs w b) (hv : Bs w B (.slice A x.length cap) x) (hl : p.length ≤ 1000000) :
    CallsIn (Fence.wide.inRound l') 0 Try.prog 29 #[.pointer (some ⟨b, 0, none⟩), .slice A x.length cap] w fun e w' => (∃ n, w' = w.drewN n) ∧
      (((c.toNat + 256 * d.toNat = fcsN p) ∧ e = .returned (.tuple #[.slice A p.length cap, .int .i64 0])) ∨ (¬ (c.toNat + 256 * d.toNat = fcsN p) ∧ e = .returned (.tuple #[.slice none 0 0, .int .i64 21]))) := by
  subst hx
  exact CallsIn.inRound l' (callsIn_wide.2 (payload_any b A cap p c d w B ht hv hl))
theorem cts_count : ∀ (l acc : List UInt8), (cts acc l).length ≤ l.length
  | [], _ => Nat.le_refl _
  | c :: l, acc => by
    rw [cts_cons]
    split
    · have := cts_count l []
      simp; omega
    · have := cts_count l (acc ++ [c])
      simp; omega
theorem cont_count : ∀ l : List UInt8, (cont l).length ≤ l.length
  | [] => Nat.le_refl _
  | c :: l => by
    have e : cont (c :: l) = if c = 126 then cts [] l else cont l := rfl
    rw [e]
    split
    · have := cts_count l []
      simp; omega
    · have := cont_count l
      simp; omega
theorem lst_block {w : World} {base : Nat} {v : Value} {ls : List (List UInt8)} (h : Lst w base v ls) : ∀ k, v.ownBlock = some k → base ≤ k := by
  obtain ⟨vs, h1, _⟩ := h
  exact fun k hk => (own_block h1 k hk).1
theorem scanP_eq (b : List UInt8) : scanP b = ((cont b).filterMap unst).filterMap pay := by
  unfold scanP; rw [List.filterMap_filterMap]; rfl
theorem TabIs.keep {O : Nat → Prop} {w w' : World} {b : Nat} (h : TabIs w b) (hk : Keep O w w') (hb : O b) : TabIs w' b := fun j hj => hk.cell (p := ⟨b, j, none⟩) hb (h j hj)
theorem lidx_use (b : List UInt8) : (lidx b = (lastF b : Int) ∧ (lidx b < 0) = False) ∨ (lidx b = -1 ∧ lastF b = b.length) := by
  unfold lidx
  by_cases h : lastF b < b.length
  · rw [if_pos h]; exact Or.inl ⟨rfl, by simp⟩
  · rw [if_neg h]; exact Or.inr ⟨rfl, by have := lastF_le b; omega⟩

set_option maxRecDepth 100000 in
set_option maxHeartbeats 1000000 in
theorem scan_any (A : Option Addr) (cap : Nat) (b : List UInt8) (w : World) (hv : Bs w w.heap.size (.slice A b.length cap) b) (hl : b.length ≤ 1000000) :
    Calls Try.prog 12 #[.slice A b.length cap] w fun e w' => ∃ v', e = .returned (.tuple #[v', .int .i64 (lastF b)]) ∧ Lst w' w.heap.size v' (scanP b) ∧ Below w.heap.size w w' := by
  refine (callsIn_wide (n := 0)).1 ?_
  refine callsIn_of_wp_marks Try.func12 rfl trivial ?_ rfl
  simp only [Try.ntmps12, List.size_toArray, List.length_cons, List.length_nil, Nat.reduceAdd, Nat.reduceSub, Array.replicate_succ, Array.replicate_zero, List.push_toArray, List.append_toArray, List.nil_append, List.cons_append]
  obtain ⟨W1, hW1⟩ : ∃ W1, W1 = w.alloc (.cells #[.slice none 0 0] 24) := ⟨_, rfl⟩
  have hb1 : Below w.heap.size w W1 := by rw [hW1]; exact (Below.refl _ _).alloc (Nat.le_refl _) _
  have hs1 : W1.heap.size = w.heap.size + 1 := by rw [hW1]; simp
  have hlc : W1.cell? ⟨w.heap.size, 0, none⟩ = some (.slice none 0 0) := by rw [hW1, cell_of_row _ _ 0 _ _ _ (heap_alloc_new _ _)]; rfl
  have hlf : W1.frozen? ⟨w.heap.size, 0, none⟩ = false := by
    have h := heap_alloc_new w (.cells #[.slice none 0 0] 24)
    rw [← hW1] at h
    simp only [World.frozen?, h]; simp
  gi_wp2_with fail
  rw [← hW1]
  obtain ⟨T, hT⟩ : ∃ T, T = W1.heap.size := ⟨_, rfl⟩
  have hc := newTable_any W1
  rw [← hT] at hc
  refine ⟨trivial, rfl, (callsIn_wide.2 hc).mono ?_⟩
  rintro e w2 ⟨rfl, ht2, hb2⟩
  have hTs : T = w.heap.size + 1 := by omega
  have ht2' := ht2.is
  have hlc2 := cell_past hlc (by rw [← hT]; exact hb2)
  have hlf2 : w2.frozen? ⟨w.heap.size, 0, none⟩ = false := (hb2.frozen (p := ⟨w.heap.size, 0, none⟩) (show w.heap.size < T by omega)).trans hlf
  have hb12 : Below w.heap.size w w2 := hb1.trans (hb2.mono (by omega))
  have hs2 := hb2.size
  have HT := Lib.hid hTs
  rw [← hT] at hs2
  have hT1 : w.heap.size < T := by omega
  have hT2 : T < w2.heap.size := by
    have h0 := ht2' 0 (by omega)
    obtain ⟨o, ho, _⟩ := cells_of_cell h0
    exact (Array.getElem?_eq_some_iff.1 ho).1
  clear hW1 hc hlc hlf hb1 hb2 ht2 hTs hT hs1
  gi_wp2_with fail
  refine ⟨trivial, rfl, (unstuffed_any _ A b.length cap _).mono ?_⟩
  rintro e w5 ⟨rfl, rfl⟩
  obtain ⟨W3, hW3⟩ : ∃ W3, W3 = (w2.alloc (.cells #[.pointer (some ⟨T, 0, none⟩)] 54)).alloc (.cells #[.slice A b.length cap] 22) := ⟨_, rfl⟩
  have hb3 : Below w2.heap.size w2 W3 := by rw [hW3]; exact ((Below.refl _ _).alloc (Nat.le_refl _) _).alloc (by simp) _
  have hs3 : W3.heap.size = w2.heap.size + 2 := by rw [hW3]; simp
  have htc : W3.cell? ⟨w2.heap.size, 0, none⟩ = some (.pointer (some ⟨T, 0, none⟩)) := by
    rw [hW3]
    refine cell_past ?_ ((Below.refl _ _).alloc (Nat.le_refl _) _)
    rw [cell_of_row _ _ 0 _ _ _ (heap_alloc_new _ _)]; rfl
  have huc : W3.cell? ⟨w2.heap.size + 1, 0, none⟩ = some (.slice A b.length cap) := by
    have h := cell_of_row _ _ 0 _ _ _ (heap_alloc_new (w2.alloc (.cells #[.pointer (some ⟨T, 0, none⟩)] 54)) (.cells #[.slice A b.length cap] 22))
    rw [World.size_alloc] at h
    rw [hW3]; exact h
  have hlc3 := cell_past hlc2 hb3
  have hlf3 : W3.frozen? ⟨w.heap.size, 0, none⟩ = false := (hb3.frozen (p := ⟨w.heap.size, 0, none⟩) (show w.heap.size < w2.heap.size by omega)).trans hlf2
  have ht3 : TabIs W3 T := ht2'.past hb3 hT2
  have hb13 : Below w.heap.size w W3 := hb12.trans (hb3.mono hb12.size)
  have hn2 := hb12.size
  have HS3 := Lib.hid hs3
  have hs3' : w2.heap.size + 2 ≤ W3.heap.size := by omega
  gi_wp2_with fail
  rw [← hW3]
  clear hW3 hlc2 hlf2 ht2' hb12 hb3 hs3
  have hkn : ∀ (B k : Nat) (W : World), W3.heap.size ≤ B → True := fun _ _ _ _ => trivial
  clear hkn
  refine wp_range (gf := 44) (lb := #[.pointer (some ⟨w2.heap.size + 1, 0, none⟩)]) (n0 := w.heap.size) (Item := ItemU) (items := (cont b).filterMap unst) rfl (enters_of Try.func44 (by kernel_rfl) rfl) (by omega)
    ?hItem ?hseq
    (fun B k W => ∃ vl, W.cell? ⟨w.heap.size, 0, none⟩ = some vl ∧ W.frozen? ⟨w.heap.size, 0, none⟩ = false ∧ Lst W B vl ((((cont b).filterMap unst).take k).filterMap pay) ∧ TabIs W T ∧ W.cell? ⟨w2.heap.size, 0, none⟩ = some (.pointer (some ⟨T, 0, none⟩)) ∧ Below w.heap.size w W) ?h0 ?hI
    (fun v => { tmps := #[.slice A b.length cap, undef, .pointer (some ⟨w.heap.size, 0, none⟩), .int .i64 0, .pointer (some ⟨w2.heap.size, 0, none⟩), v, undef, undef, .pointer (some ⟨T, 0, none⟩), .slice A b.length cap, .func (.func 44) #[] #[.pointer (some ⟨w2.heap.size + 1, 0, none⟩)], v, undef, undef, undef, undef, undef, undef, undef, undef, undef, undef, undef, undef, undef, undef, undef, undef, undef, undef, undef, undef], defers := [] }) ?hassign ?hbody ?hdone
  case hItem =>
    intro B v x W4 W5 hn hit hk
    exact hk.own (fun k hk => Or.inr hk) hit
  case hseq =>
    intro W4 hb
    have hn : w.heap.size ≤ W4.heap.size := by have := hb.size; omega
    exact unstuffed_gives w.heap.size (w2.heap.size + 1) A cap b W4 hn (cell_past huc hb) (hv.carry (hb13.trans (hb.mono (by omega))) (Nat.le_refl _)) (by omega)
  case h0 =>
    intro W4 hb
    exact ⟨_, cell_past hlc3 hb, (hb.frozen (p := ⟨w.heap.size, 0, none⟩) (show w.heap.size < W3.heap.size by omega)).trans hlf3, by simpa using Lst.nil_ W4 _, ht3.past hb (by omega), cell_past htc hb, hb13.trans (hb.mono (by omega))⟩
  case hI =>
    rintro B k W4 W5 hB ⟨vl, h1, h2, h3, h4, h5, h6⟩ hk
    have hm : ∀ q, q < W3.heap.size → Mine W3.heap.size B q := fun q hq => Or.inl hq
    exact ⟨vl, hk.cell (hm w.heap.size (by omega)) h1, (hk.frozen (p := ⟨w.heap.size, 0, none⟩) (hm w.heap.size (by omega)) h1).trans h2, h3.keep hk (fun q hq => Or.inr hq), h4.keep hk (hm _ (by omega)), hk.cell (hm w2.heap.size (by omega)) h5, h6.trans (hk.below (fun q hq => hm q (by omega)) h6.size)⟩
  case hassign =>
    intro l' v W4 K hK
    gi_wp2
    exact hK
  case hdone =>
    rintro D B W4 hD hDB hBW ⟨vl, h1, h2, h3, h4, h5, h6⟩ hd
    rw [List.take_length, ← scanP_eq] at h3
    have hv4 := hv.carry h6 (Nat.le_refl _)
    obtain ⟨ls, hls⟩ : ∃ ls, ls = scanP b := ⟨_, rfl⟩
    rw [← hls] at h3
    have HLS := Lib.hid hls
    obtain ⟨A5, c5, rfl⟩ := h3.ls.form
    have hk9 : ∀ O : Nat → Prop, ¬ O w.heap.size → Keep O W4 (W4.setCell ⟨w.heap.size, 0, none⟩ (.slice A5 ls.length c5)) := fun O hO => Keep.setCell _ _ _ hO
    have hd9 := (hk9 (fun q => q = D) (fun h => by omega)).heap rfl hd
    have hka : ∀ O : Nat → Prop, ¬ O D → Keep O (W4.setCell ⟨w.heap.size, 0, none⟩ (.slice A5 ls.length c5)) ((W4.setCell ⟨w.heap.size, 0, none⟩ (.slice A5 ls.length c5)).putObj D (.deferred none)) := fun O hO => Keep.putObj _ _ _ hO
    have hca := (hka (fun q => q ≠ D) (fun h => h rfl)).cell (p := ⟨w.heap.size, 0, none⟩) (show w.heap.size ≠ D by omega) (World.cell?_setCell_same _ _ _ h1)
    have hla := (h3.keep (hk9 (fun q => B ≤ q) (by omega)) (fun q hq => hq)).keep (hka (fun q => B ≤ q) (by omega)) (fun q hq => hq)
    have hba := h6.trans (((hk9 (fun q => q < w.heap.size) (by omega)).trans (hka (fun q => q < w.heap.size) (by omega))).below (fun q hq => hq) h6.size)
    have hlast := hla.down (base' := w.heap.size) (by omega)
    clear hls hk9 hka hla
    rcases lidx_use b with ⟨hu, _⟩ | ⟨hu, hu2⟩
    · have HU := Lib.hid hu
      have hcall := lastIndexByte_any A cap b W4 w.heap.size hv4 (by omega)
      rw [hu] at hcall
      clear hu
      gi_wp2_with fail
      refine ⟨trivial, rfl, (callsIn_wide.2 hcall).mono ?_⟩
      rintro e w7 ⟨rfl, rfl⟩
      clear hcall
      gi_wp2_with fail
      show LeavesInM _ _ _ _ _ _ _ _ _
      refine ⟨by simp, .inl ⟨_, _, rfl, run_takeDeferred hd9, ?_⟩⟩
      refine ⟨.tuple #[.slice A5 ls.length c5, .int .i64 (lastF b)], ?_, ?_⟩
      · simp [results, Try.results12, go_sem, hca]
      · exact ⟨_, rfl, by rw [← HLS.out]; exact hlast, hba⟩
    · have HU2 := Lib.hid hu2
      have hcall := lastIndexByte_any A cap b W4 w.heap.size hv4 (by omega)
      rw [hu] at hcall
      clear hu hu2
      gi_wp2_with fail
      refine ⟨trivial, rfl, (callsIn_wide.2 hcall).mono ?_⟩
      rintro e w7 ⟨rfl, rfl⟩
      clear hcall
      gi_wp2_with fail
      show LeavesInM _ _ _ _ _ _ _ _ _
      refine ⟨by simp, .inl ⟨_, _, rfl, run_takeDeferred hd9, ?_⟩⟩
      refine ⟨.tuple #[.slice A5 ls.length c5, .int .i64 b.length], ?_, ?_⟩
      · simp [results, Try.results12, go_sem, hca]
      · exact ⟨_, by rw [HU2.out], by rw [← HLS.out]; exact hlast, hba⟩
  case hbody =>
    rintro l' B k x v W4 hB hBW ⟨vl, h1, h2, h3, h4, h5, h6⟩ hx hit
    obtain ⟨hx1, hx2⟩ := plain_len hx
    obtain ⟨p, c, d, hxp⟩ := snoc2 hx1
    obtain ⟨A4, cap4, rfl⟩ := (Own.bs hit).form
    have hpl : p.length ≤ 4096 := by rw [hxp] at hx2; simp at hx2; omega
    have hpay : pay x = if c.toNat + 256 * d.toNat = fcsN p then some p else none := by rw [hxp]; exact pay_form p c d
    have hit' : Own W4 B (.slice A4 p.length cap4) p := by
      have h : Own W4 B (.slice A4 x.length cap4) x := hit
      rw [hxp] at h
      exact h.to (by simp)
    have HXP := Lib.hid hxp
    have HPAY := Lib.hid hpay
    have hbit := Own.bs hit
    clear hxp hpay
    gi_wp2_with fail
    refine ⟨trivial, rfl, (payload_x l' T A4 cap4 x p c d HXP.out W4 W4.heap.size h4 hbit (by omega)).mono ?_⟩
    rintro e w7 ⟨⟨n7, hw7⟩, hor⟩
    have hb7 : Below W4.heap.size W4 w7 := by rw [hw7]; exact below_drewN (Below.refl _ _) n7
    have hs7 := hb7.size
    have hlc7 := cell_past h1 hb7
    have hlf7 : w7.frozen? ⟨w.heap.size, 0, none⟩ = false := by rw [hw7]; exact h2
    have hLst := h3.past hb7
    have ht7 : TabIs w7 T := h4.keep (O := fun _ => True) (Keep.of_below hb7) trivial
    have htb7 := cell_past h5 hb7
    have hitp := hit'.past hb7
    have hn7 : Below w.heap.size w w7 := h6.trans (hb7.mono h6.size)
    clear hw7 h1 h2 h3 h4 h5 hit hit' hbit
    rcases hor with ⟨hok, rfl⟩ | ⟨hno, rfl⟩
    · have HP := Lib.hid (show pay x = some p by rw [HPAY.out, if_pos hok])
      obtain ⟨hi1, hi2⟩ := fm_next pay hx HP.out
      have HX := Lib.hid hx
      have hlen : ((((cont b).filterMap unst).take k).filterMap pay).length + 1 ≤ 1000000000 := by
        have h1 := List.length_filterMap_le pay (((cont b).filterMap unst).take k)
        have h2 : (((cont b).filterMap unst).take k).length ≤ ((cont b).filterMap unst).length := by rw [List.length_take]; omega
        have h3 := List.length_filterMap_le unst (cont b)
        have h4 := cont_count b
        omega
      have hnext : (((cont b).filterMap unst).take (k + 1)).filterMap pay = (((cont b).filterMap unst).take k).filterMap pay ++ [p] := by
        rw [List.take_add_one, hx, List.filterMap_append]; simp [HP.out]
      have HN := Lib.hid hnext
      have hbB : B ≤ w7.heap.size := by omega
      have hbox : w.heap.size < W3.heap.size := by omega
      obtain ⟨ls, hls⟩ : ∃ ls, ls = (((cont b).filterMap unst).take k).filterMap pay := ⟨_, rfl⟩
      rw [← hls] at hLst hlen
      have HLS := Lib.hid hls
      clear hok hi1 hi2 hx hnext hls
      gi_wp2_with (gi_at_builtin; refine wpi_appL B (.tmp 20) (.tmp 22) rfl rfl _ _ ls p rfl rfl hLst hitp rfl hbB hlen ?_; intro v8 w8 hL8 hg8; obtain ⟨A8, c8, rfl⟩ := hL8.ls.form; have hk8 : ∀ O : Nat → Prop, (∀ q, B ≤ q → ¬ O q) → Keep O w7 w8 := (fun O hO => Keep.of_grew hg8 (fun q hq => hO q (lst_block hLst q hq))); have hlc8 := (hk8 (fun q => q < B) (fun q hq h => by omega)).cell (p := ⟨w.heap.size, 0, none⟩) (show w.heap.size < B by omega) hlc7; have hlf8 := ((hk8 (fun q => q < B) (fun q hq h => by omega)).frozen (p := ⟨w.heap.size, 0, none⟩) (show w.heap.size < B by omega) hlc7).trans hlf7)
      have hL8' : Lst w8 B (.slice A8 (ls.length + 1) c8) (ls ++ [p]) := by
        have h := hL8
        rw [List.length_append] at h
        exact h
      have hkb := hk8 (fun q => q < B) (fun q hq h => by omega)
      have hkt := hk8 (Theirs w.heap.size W3.heap.size B) (fun q hq h => by unfold Theirs at h; omega)
      have hk9 : ∀ O : Nat → Prop, ¬ O w.heap.size → Keep O w8 (w8.setCell ⟨w.heap.size, 0, none⟩ (.slice A8 (ls.length + 1) c8)) := fun O hO => Keep.setCell _ _ _ hO
      have ht8 := ht7.keep hkb (show T < B by omega)
      have htb8 := hkb.cell (p := ⟨w2.heap.size, 0, none⟩) (show w2.heap.size < B by omega) htb7
      refine ⟨rfl, ⟨_, World.cell?_setCell_same _ _ _ hlc8, (by rw [World.frozen?_setCell]; exact hlf8), ?_, ht8.keep (hk9 (fun q => q ≠ w.heap.size) (fun h => h rfl)) (show T ≠ w.heap.size by omega), (hk9 (fun q => q ≠ w.heap.size) (fun h => h rfl)).cell (p := ⟨w2.heap.size, 0, none⟩) (show w2.heap.size ≠ w.heap.size by omega) htb8, ?_⟩, ((Keep.of_below hb7).trans hkt).trans (hk9 _ (by unfold Theirs; omega))⟩
      · rw [HN.out, ← HLS.out]
        exact hL8'.keep (hk9 (fun q => B ≤ q) (by omega)) (fun q hq => hq)
      · exact hn7.trans ((hkb.below (fun q hq => by omega) hn7.size).trans ((hk9 (fun q => q < w.heap.size) (by omega)).below (fun q hq => hq) (by have := hkb.size; omega)))
    · have HP := Lib.hid (show pay x = none by rw [HPAY.out, if_neg hno])
      have hkeep : (((cont b).filterMap unst).take (k + 1)).filterMap pay = (((cont b).filterMap unst).take k).filterMap pay := by
        rw [List.take_add_one, hx, List.filterMap_append]; simp [HP.out]
      have HK := Lib.hid hkeep
      clear hkeep hno hx
      gi_wp2_with fail
      exact ⟨rfl, ⟨vl, hlc7, hlf7, by rw [HK.out]; exact hLst, ht7, htb7, hn7⟩, Keep.of_below hb7⟩
end Go.Proofs.Ytokjlcajcflhgaa
