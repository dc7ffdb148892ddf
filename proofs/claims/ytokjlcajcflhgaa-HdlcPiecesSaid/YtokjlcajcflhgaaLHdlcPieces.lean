/-
  The walk of the law HdlcPieces.
-/
import Derived.Test.YtokjlcajcflhgaaHdL
namespace Go.Proofs.Ytokjlcajcflhgaa
open Go.RowKit
set_option linter.unusedVariables false
set_option linter.unusedSimpArgs false

/-- 'append(l, m...)', both of the call's own. -/
theorem wp_appsL {ops : Array Oper} {rest : List Oper} {o : Oper} {a : Act} {Q : Exit → Act → World → Prop} {w : World} (base : Nat) (s x : Operand)
    (ho : o.op = .call { callee := .builtin .append, args := #[s, x], argTypes := #[24, 24] }) (hgd : o.guard = none)
    (v u : Value) (ls ms : List (List UInt8)) (hs : a.eval s = v) (hx : a.eval x = u)
    (hown : Lst w base v ls) (hm : Lst w base u ms) (hbase : base ≤ w.heap.size) (hl : ls.length + ms.length ≤ 1000000000)
    (h : ∀ v' w', Lst w' base v' (ls ++ ms) → Below base w w' → wpList Try.prog ops Q rest (a.put o.dst v') w') :
    wpList Try.prog ops Q (o :: rest) a w := by
  obtain ⟨i0, hi, hz0, hz1, hz2⟩ := info_parts info_bs
  have hown0 := hown
  obtain ⟨vs, h1, h2⟩ := hown
  obtain ⟨us, k1, k2⟩ := hm
  have kr := Row.of_own k1
  have kl : us.length = ms.length := by have := k1.1; simpa using this
  rcases k1.2 with ⟨rfl, hms⟩ | ⟨g, cap, cur, rfl, _⟩
  · have hus : us = [] := List.eq_nil_of_length_eq_zero (by omega)
    have hmm : ms = [] := List.eq_nil_of_length_eq_zero (by omega)
    subst hus hmm
    refine wpList_plain hgd fun K hK => ?_
    have hr := run_append_owned_none (P := Try.prog) w base 24 o.type 22 i0 1 Try.underlying24 hi v ls.length vs h1
    unfold Oper.wp execOp
    simp only [ho, resolve, invoke, builtin, Sem.run_bind, Sem.run_pure, Result.andThen_ok, List.map_toArray, List.map_cons, List.map_nil, hs, hx, List.length_nil, hr]
    exact hK _ _ (h v w (by simpa using hown0) (Below.refl _ _))
  · refine wpList_append_own_at _ hgd s x 24 ho base 22 i0 (.slice none 0 0) 1 24 Try.underlying24 hi hz0 hz1 hz2 rfl (by decide) v ls.length vs hs h1
      ⟨g, 0, none⟩ ms.length cap us hx (by omega) (Row.cells kr) ?_ (by simp only [maxLen]; omega) (by omega) hbase ?_
    · intro y hy
      obtain ⟨i, hi'⟩ := List.mem_iff_getElem?.1 hy
      have hlt := (List.getElem?_eq_some_iff.1 hi').1
      obtain ⟨z, hz⟩ : ∃ z, ms[i]? = some z := ⟨_, List.getElem?_eq_getElem (by omega)⟩
      obtain ⟨A, c, rfl⟩ := (k2 i y z hi' hz).bs.form
      rfl
    · intro v' w' h3 h4 _ h5
      refine h v' w' (Lst.appended h1 h2 kl k2 h4 h3) ?_
      exact (Below.refl base w).grown h4 hbase fun k hk => (own_block h1 k hk).1

theorem scan_v (v : Value) (b : List UInt8) (w : World) (hv : Bs w w.heap.size v b) (hl : b.length ≤ 1000000) :
    Calls Try.prog 12 #[v] w fun e w' => ∃ v', e = .returned (.tuple #[v', .int .i64 (lastF b)]) ∧ Lst w' w.heap.size v' (scanP b) ∧ Below w.heap.size w w' := by
  obtain ⟨A, cap, rfl⟩ := hv.form
  exact scan_any A cap b w hv hl

theorem scan_count' (b : List UInt8) : (scanP b).length ≤ b.length := by
  unfold scanP
  exact Nat.le_trans (List.length_filterMap_le _ _) (cont_count b)

set_option maxRecDepth 100000 in
set_option maxHeartbeats 1600000 in
theorem hdlcPieces_walk (v : Value) (b : List UInt8) (cut : Int) (w : World) (hv : Bs w w.heap.size v b) (hcut : -9223372036854775808 ≤ cut ∧ cut ≤ 9223372036854775807) :
    Calls Try.prog 8 #[v, .int .i64 cut] w fun e w' => e = .returned (.bool true) ∧ Below w.heap.size w w' := by
  obtain ⟨A, cap, rfl⟩ := hv.form
  by_cases hl : b.length ≤ 1500
  · by_cases hc0 : 0 ≤ cut
    · obtain ⟨k, rfl⟩ := Int.eq_ofNat_of_zero_le hc0
      by_cases hkl : k ≤ b.length
      · have hcapb := Row.cap hv
        obtain ⟨u, hu⟩ : ∃ u, u = lastF (b.take k) := ⟨_, rfl⟩
        have hul : u ≤ k := by
          have h := lastF_le (b.take k)
          rw [List.length_take] at h; omega
        have hp := scan_pieces (b.take k) (b.drop k)
        rw [List.take_append_drop, ← hu] at hp
        have HP := Lib.hid hp
        have hul2 := lastF_le (b.drop u)
        have hulb := lastF_le b
        rw [List.length_drop] at hul2
        have HE := Lib.hid (show ((u : Int) + (lastF (b.drop u) : Int) == (lastF b : Int)) = true by rw [hp.2]; simp)
        have c1 := scan_count' b
        have c2 := scan_count' (b.take k)
        have c3 := scan_count' (b.drop u)
        rw [List.length_take] at c2
        rw [List.length_drop] at c3
        obtain ⟨vu, hvu⟩ : ∃ vu, vu = behind A b.length cap u := ⟨_, rfl⟩
        have HVU := Lib.hid hvu
        have HU := Lib.hid hu
        obtain ⟨N, hN⟩ : ∃ N, N = b.length := ⟨_, rfl⟩
        have HNN := Lib.hid hN
        have HV := Lib.hid hv
        clear hp hvu hu hcut hc0
        go_enter Try.func8, Try.ntmps8
        go_wp2_with fail
        refine (sane_any _).mono ?_
        rintro e w1 ⟨rfl, b1⟩
        have s1 := HV.out.past b1
        go_wp2_with fail
        refine (scan_v _ b _ s1 (by omega)).mono ?_
        rintro e w2 ⟨v2, rfl, o2, b2⟩
        have s2 := s1.past b2
        have hb2 := b1.trans (b2.mono b1.size)
        clear s1 b1 b2
        go_wp2_with (refine wp_to _ _ rfl rfl rfl k _ _ rfl rfl hkl hcapb ?_)
        refine (scan_v _ (b.take k) _ (s2.take_ k hkl) (by rw [List.length_take]; omega)).mono ?_
        rintro e w3 ⟨v3, rfl, o3, b3⟩
        rw [← HU.out]
        have s3 := s2.past b3
        have r3 := o2.ls.carry b3 (Nat.le_refl _)
        have hb3 := hb2.trans (b3.mono hb2.size)
        have e3 := b3.size
        have b3z := b3.size
        have hs3 := hb2.size
        clear s2 b3 o2 hb2
        have t1 : decide ((k : Int) < (u : Int)) = false := by simp; omega
        go_wp2_with (refine wp_run rfl (exec_from _ rfl rfl u _ _ rfl rfl (show u ≤ b.length by omega) hcapb HVU.out) ?_)
        have s3u := s3.behind u (show u ≤ b.length by omega)
        rw [← HVU.out] at s3u
        refine (scan_v _ (b.drop u) _ s3u (by rw [List.length_drop]; omega)).mono ?_
        rintro e w4 ⟨v4, rfl, o4, b4⟩
        have r4 := r3.carry (b4.mono b3z) (Nat.le_refl _)
        have q4 := o3.past b4
        have hb4 := hb3.trans (b4.mono hb3.size)
        have e4 := b4.size
        clear s3u b4 o3 r3 hb3 s3
        have hlen : (scanP (b.take k)).length + (scanP (b.drop u)).length ≤ 1000000000 := by omega
        have o4' := o4.down e3
        go_wp2_with (refine wp_appsL w2.heap.size (.tmp 52) (.tmp 53) rfl rfl v3 v4 _ _ rfl rfl q4 o4' (by omega) hlen ?_; intro v5 w5 o5 b5)
        have r5 := r4.carry b5 (Nat.le_refl _)
        have hb5 := hb4.trans (b5.mono hs3)
        rw [← HP.out.1] at o5
        clear o4 o4' q4 r4 hb4 b5
        refine (sameAll_any _ _ (scanP b) (scanP b) _ _ _ o5.ls r5 (by omega) (by omega)).mono ?_
        rintro e w6 ⟨rfl, m, rfl⟩
        rw [show (scanP b == scanP b) = true by simp]
        have hE := HE.out
        go_wp2_with fail
        go_ret
        exact ⟨rfl, below_drewN hb5 m⟩
      · have t1 : decide ((b.length : Int) < (k : Int)) = true := by simp; omega
        go_enter Try.func8, Try.ntmps8
        go_wp2_with fail
        refine (sane_any _).mono ?_
        rintro e w1 ⟨rfl, b1⟩
        go_wp2_with fail
        go_ret
        exact ⟨rfl, b1⟩
    · have t1 : decide (cut < 0) = true := by simp; omega
      go_enter Try.func8, Try.ntmps8
      go_wp2_with fail
      refine (sane_any _).mono ?_
      rintro e w1 ⟨rfl, b1⟩
      go_wp2_with fail
      go_ret
      exact ⟨rfl, b1⟩
  · go_enter Try.func8, Try.ntmps8
    go_wp2_with fail
    refine (sane_any _).mono ?_
    rintro e w1 ⟨rfl, b1⟩
    go_wp2_with fail
    go_ret
    exact ⟨rfl, b1⟩

end Go.Proofs.Ytokjlcajcflhgaa
