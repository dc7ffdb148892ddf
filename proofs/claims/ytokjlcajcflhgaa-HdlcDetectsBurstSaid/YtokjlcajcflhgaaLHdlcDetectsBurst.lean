/-
  The walk of the law HdlcDetectsBurst.
-/
import Derived.Test.YtokjlcajcflhgaaHdL
import Derived.Laws.OwnMore
namespace Go.Proofs.Ytokjlcajcflhgaa
open Go.RowKit
set_option linter.unusedVariables false
set_option linter.unusedSimpArgs false

theorem scan_v3 (v : Value) (b : List UInt8) (w : World) (hv : Bs w w.heap.size v b) (hl : b.length ≤ 1000000) :
    Calls Try.prog 12 #[v] w fun e w' => ∃ v', e = .returned (.tuple #[v', .int .i64 (lastF b)]) ∧ Lst w' w.heap.size v' (scanP b) ∧ Below w.heap.size w w' := by
  obtain ⟨A, cap, rfl⟩ := hv.form
  exact scan_any A cap b w hv hl

theorem xor_uu (c d : UInt8) : bits BinOp.xor IntKind.u8 (c.toNat : Int) (d.toNat : Int) = ((c ^^^ d).toNat : Int) := by
  have h := u8_xor_nat c.toNat d.toNat c.toNat_lt d.toNat_lt
  rw [UInt8.toNat_xor]; exact h

/-- A store into a row of bytes of the call's own. -/
theorem own_stored {w : World} {base g cap n : Nat} {l : List UInt8} (h : Own w base (.slice (some ⟨g, 0, none⟩) n cap) l) (hn : n = l.length) (hb : base ≤ w.heap.size) (k : Nat) (z : UInt8) (hk : k < l.length) :
    Own (w.setCell ⟨g, k, none⟩ (.int .u8 (z.toNat : Int))) base (.slice (some ⟨g, 0, none⟩) n cap) (l.set k z) ∧ Below base w (w.setCell ⟨g, k, none⟩ (.int .u8 (z.toNat : Int))) := by
  subst hn
  have h' := h
  unfold Own at h
  obtain ⟨h1, h2⟩ := h.stored k (.int .u8 (z.toNat : Int))
  refine ⟨?_, below_own h' hb h2⟩
  unfold Own
  have e : u8s (l.set k z) = (u8s l).set k (.int .u8 (z.toNat : Int)) := by
    unfold u8s
    rw [List.map_set]
    rfl
  rw [e, List.length_set]
  exact h1

theorem set_two (p : List UInt8) (k : Nat) (x y z1 z2 : UInt8) (hx : p[k]? = some x) (hy : p[k + 1]? = some y) :
    p = p.take k ++ x :: y :: p.drop (k + 2) ∧ (p.set k z1).set (k + 1) z2 = p.take k ++ z1 :: z2 :: p.drop (k + 2) := by
  have hk := (List.getElem?_eq_some_iff.1 hy).1
  have e : p = p.take k ++ x :: y :: p.drop (k + 2) := by
    have h1 : p.drop k = x :: y :: p.drop (k + 2) := by
      rw [List.drop_eq_getElem_cons (by omega), List.drop_eq_getElem_cons (by omega)]
      have e1 : p[k] = x := by have := List.getElem?_eq_getElem (l := p) (i := k) (by omega); rw [hx] at this; injection this with this; exact this.symm
      have e2 : p[k + 1] = y := by have := List.getElem?_eq_getElem (l := p) (i := k + 1) (by omega); rw [hy] at this; injection this with this; exact this.symm
      rw [e1, e2]
    rw [← h1, List.take_append_drop]
  refine ⟨e, ?_⟩
  have hl : (p.take k).length = k := by rw [List.length_take]; omega
  generalize hA : p.take k = A at e hl ⊢
  generalize hB : p.drop (k + 2) = B at e ⊢
  subst hl
  rw [e]
  simp [List.set_append]

set_option maxRecDepth 100000 in
set_option maxHeartbeats 3200000 in
theorem hdlcDetectsBurst_walk (v : Value) (p : List UInt8) (at_ a b : Int) (w : World) (hv : Bs w w.heap.size v p) (hat : -9223372036854775808 ≤ at_ ∧ at_ ≤ 9223372036854775807) (ha : 0 ≤ a ∧ a ≤ 255) (hb : 0 ≤ b ∧ b ≤ 255) :
    Calls Try.prog 6 #[v, .int .i64 at_, .int .u8 a, .int .u8 b] w fun e w' => e = .returned (.bool true) ∧ Below w.heap.size w w' := by
  have HV := Lib.hid hv
  obtain ⟨A, cap, rfl⟩ := hv.form
  obtain ⟨c, rfl⟩ : ∃ c : UInt8, a = (c.toNat : Int) := ⟨b8 a.toNat, by rw [b8_toNat (by omega)]; omega⟩
  obtain ⟨d, rfl⟩ : ∃ d : UInt8, b = (d.toNat : Int) := ⟨b8 b.toNat, by rw [b8_toNat (by omega)]; omega⟩
  clear hv ha hb
  by_cases hl : p.length ≤ 1000
  · by_cases hc0 : 0 ≤ at_
    · obtain ⟨k, rfl⟩ := Int.eq_ofNat_of_zero_le hc0
      by_cases hkl : k + 1 < p.length
      · have t1 : decide ((p.length : Int) - 1 ≤ (k : Int)) = false := by simp; omega
        by_cases hcd : c = 0 ∧ d = 0
        · obtain ⟨rfl, rfl⟩ := hcd
          go_enter Try.func6, Try.ntmps6
          go_wp2_with fail
          refine (sane_any _).mono ?_
          rintro e w1 ⟨rfl, b1⟩
          go_wp2_with fail
          go_ret
          exact ⟨rfl, b1⟩
        · obtain ⟨x, hx⟩ : ∃ x, p[k]? = some x := ⟨_, List.getElem?_eq_getElem (by omega)⟩
          obtain ⟨y, hy⟩ : ∃ y, p[k + 1]? = some y := ⟨_, List.getElem?_eq_getElem (by omega)⟩
          obtain ⟨z1, hz1⟩ : ∃ z, z = x ^^^ c := ⟨_, rfl⟩
          obtain ⟨z2, hz2⟩ : ∃ z, z = y ^^^ d := ⟨_, rfl⟩
          have x1 := xor_uu x c
          have x2 := xor_uu y d
          rw [← hz1] at x1
          rw [← hz2] at x2
          obtain ⟨p2, hp2⟩ : ∃ q, q = (p.set k z1).set (k + 1) z2 := ⟨_, rfl⟩
          have hset := set_two p k x y z1 z2 hx hy
          have hne : fcsN p ≠ fcsN p2 := by
            rw [hp2, hset.2, hset.1, hz1, hz2]
            have h := fcs_burst (p.take k) (p.drop (k + 2)) x y c d hcd
            rw [← hset.1] at h ⊢
            exact fun e => h e.symm
          have hp2l : p2.length = p.length := by rw [hp2]; simp
          have hn := fcsN_lt p
          obtain ⟨n, hnn⟩ : ∃ n, n = fcsN p := ⟨_, rfl⟩
          rw [← hnn] at hne hn
          obtain ⟨C, hC⟩ : ∃ C, C = stuff (p2 ++ tail2 n) := ⟨_, rfl⟩
          obtain ⟨F, hF⟩ : ∃ F, F = frm p2 n := ⟨_, rfl⟩
          have hFc : F = 126 :: (C ++ 126 :: []) := by rw [hF, hC]; rfl
          have hbare : Bare C := by rw [hC]; exact stuff_bare _
          have hdc : dcd C = none := by rw [hC, dcd_stuff p2 _ (by omega) hn, if_neg hne]
          have hun : unst C ≠ none := by rw [hC, unst_stuff p2 n (by omega)]; simp
          have hsc : scanP F = [] := by rw [hF]; exact scan_bad p2 n (by omega) hn hne
          have hla : lastF F = F.length - 1 := by rw [hF]; exact last_frm [] p2 n
          have hfl := frm_length p2 n
          rw [← hF] at hfl
          have t9 : ((lastF F : Int) == (F.length : Int) - 1) = true := by rw [hla]; simp; omega
          have hFl : F.length ≤ 100000 := by omega
          have hFl1 : 4 ≤ F.length := by omega
          have HX := Lib.hid hx
          have HY := Lib.hid hy
          have HP2 := Lib.hid hp2
          have HNN := Lib.hid hnn
          have HF := Lib.hid hF
          have HFC := Lib.hid hFc
          have HD := Lib.hid hdc
          have HU := Lib.hid hun
          have HSC := Lib.hid hsc
          have HP2L := Lib.hid hp2l
          have T9 := Lib.hid t9
          have key : ((c.toNat : Int) == 0) = false ∨ (((c.toNat : Int) == 0) = true ∧ ((d.toNat : Int) == 0) = false) := by
            by_cases hc : c = 0
            · subst hc
              refine Or.inr ⟨rfl, toNat_ne (n := 0) (by omega) fun h => hcd ⟨rfl, h⟩⟩
            · exact Or.inl (toNat_ne (n := 0) (by omega) hc)
          clear hx hy hp2 hnn hF hFc hdc hun hsc hp2l t9 hfl hC hz1 hz2 hset hne hla hcd
          rcases key with t5 | ⟨t5, t6⟩
          · go_enter Try.func6, Try.ntmps6
            go_wp2_with fail
            refine (sane_any _).mono ?_
            rintro e w1 ⟨rfl, b1⟩
            have s1 := HV.out.past b1
            go_wp2_with fail
            refine (refCopy_any _ p _ s1 (by omega)).mono ?_
            rintro e w2 ⟨v2, rfl, o2, b2⟩
            have s2 := s1.carry b2 (Nat.le_refl _)
            have hb2 := b1.trans (b2.mono b1.size)
            have e2 := b2.size
            have e1 := b1.size
            clear b1 s1 b2
            obtain ⟨g, cap2, rfl⟩ : ∃ g cap2, v2 = .slice (some ⟨g, 0, none⟩) p.length cap2 := by
              rcases o2.2 with ⟨_, h⟩ | ⟨g, cap', cur, hv, _⟩
              · omega
              · exact ⟨g, cap', hv⟩
            obtain ⟨o3, k3⟩ := own_stored o2 rfl e2 k z1 (by omega)
            obtain ⟨o4, k4⟩ := own_stored o3 (by rw [List.length_set]) (by simpa using e2) (k + 1) z2 (by rw [List.length_set]; omega)
            rw [← HP2.out] at o4
            have cA : w2.cell? ⟨g, k, none⟩ = some (.int .u8 (x.toNat : Int)) := by
              rw [World.ownsRow.cellAt o2 k (by omega)]; simp [u8s, HX.out, u8]
            have fA : w2.frozen? ⟨g, k, none⟩ = false := World.ownsRow.frozenAt o2 k
            have cB : (w2.setCell ⟨g, k, none⟩ (.int .u8 (z1.toNat : Int))).cell? ⟨g, k + 1, none⟩ = some (.int .u8 (y.toNat : Int)) := by
              have h := o3
              unfold Own at h
              rw [List.length_set] at h
              rw [World.ownsRow.cellAt h (k + 1) (by omega)]; simp [u8s, HY.out, u8, List.getElem?_set]
            have fB : w2.frozen? ⟨g, k + 1, none⟩ = false := World.ownsRow.frozenAt o2 (k + 1)
            have s4 := s2.carry (k3.trans k4) (Nat.le_refl _)
            have hb4 := hb2.trans ((k3.trans k4).mono e1)
            have HE4 := Lib.hid (Nat.le_trans (Nat.le_refl w1.heap.size) (show w1.heap.size ≤ ((w2.setCell ⟨g, k, none⟩ (.int .u8 (z1.toNat : Int))).setCell ⟨g, k + 1, none⟩ (.int .u8 (z2.toNat : Int))).heap.size from Nat.le_trans e2 (k3.trans k4).size))
            have HO4 := Lib.hid o4
            have HB4 := Lib.hid hb4
            have HS4 := Lib.hid s4
            clear o3 k3 k4 o2 hb2 s2 o4 hb4 s4
            go_wp2_with fail
            clear cA fA cB fB
            generalize (w2.setCell ⟨g, k, none⟩ (.int .u8 (z1.toNat : Int))).setCell ⟨g, k + 1, none⟩ (.int .u8 (z2.toNat : Int)) = W4 at HO4 HB4 HS4 HE4 ⊢
            refine (fcs_any _ p _ (HS4.out.carry (Below.refl _ _) HE4.out) (by omega)).mono ?_
            rintro e w5 ⟨rfl, b5⟩
            rw [← HNN.out]
            have o5 := HO4.out.past b5
            have hb5 := HB4.out.trans (b5.mono HB4.out.size)
            clear b5 HO4 HB4 HS4 HE4
            go_wp2_with fail
            refine (refSealed_any _ p2 n hn _ o5.bs (by have := HP2L.out; omega)).mono ?_
            rintro e w6 ⟨v6, rfl, o6, b6⟩
            rw [← HF.out] at o6
            have hb6 := hb5.trans (b6.mono hb5.size)
            have r6 := o6.bs
            obtain ⟨A6, c6, rfl⟩ := r6.form
            clear b6 o5 hb5 o6
            go_wp2_with fail
            refine (decode_any A6 c6 F C [] _ HFC.out hbare r6 (by omega)).mono ?_
            rintro e w7 ⟨b7, hor⟩
            obtain rfl : e = .returned (.tuple #[.slice none 0 0, .int .i64 0, .int .i64 21]) := by
              rcases hor with ⟨p, v, hd, _⟩ | ⟨_, hu, _⟩ | ⟨_, _, he⟩
              · rw [HD.out] at hd; cases hd
              · exact absurd hu HU.out
              · exact he
            have r7 := r6.past b7
            have hb7 := hb6.trans (b7.mono hb6.size)
            clear b7 r6 hb6 hor
            go_wp2_with fail
            refine (scan_v3 _ F _ r7 (by omega)).mono ?_
            rintro e w8 ⟨v8, rfl, o8, b8⟩
            rw [HSC.out] at o8
            have hb8 := hb7.trans (b8.mono hb7.size)
            obtain ⟨A8, c8, rfl⟩ := o8.ls.form
            have t9 := T9.out
            clear o8 b8 hb7
            go_wp2_with fail
            go_ret
            exact ⟨rfl, hb8⟩
          · go_enter Try.func6, Try.ntmps6
            go_wp2_with fail
            refine (sane_any _).mono ?_
            rintro e w1 ⟨rfl, b1⟩
            have s1 := HV.out.past b1
            go_wp2_with fail
            refine (refCopy_any _ p _ s1 (by omega)).mono ?_
            rintro e w2 ⟨v2, rfl, o2, b2⟩
            have s2 := s1.carry b2 (Nat.le_refl _)
            have hb2 := b1.trans (b2.mono b1.size)
            have e2 := b2.size
            have e1 := b1.size
            clear b1 s1 b2
            obtain ⟨g, cap2, rfl⟩ : ∃ g cap2, v2 = .slice (some ⟨g, 0, none⟩) p.length cap2 := by
              rcases o2.2 with ⟨_, h⟩ | ⟨g, cap', cur, hv, _⟩
              · omega
              · exact ⟨g, cap', hv⟩
            obtain ⟨o3, k3⟩ := own_stored o2 rfl e2 k z1 (by omega)
            obtain ⟨o4, k4⟩ := own_stored o3 (by rw [List.length_set]) (by simpa using e2) (k + 1) z2 (by rw [List.length_set]; omega)
            rw [← HP2.out] at o4
            have cA : w2.cell? ⟨g, k, none⟩ = some (.int .u8 (x.toNat : Int)) := by
              rw [World.ownsRow.cellAt o2 k (by omega)]; simp [u8s, HX.out, u8]
            have fA : w2.frozen? ⟨g, k, none⟩ = false := World.ownsRow.frozenAt o2 k
            have cB : (w2.setCell ⟨g, k, none⟩ (.int .u8 (z1.toNat : Int))).cell? ⟨g, k + 1, none⟩ = some (.int .u8 (y.toNat : Int)) := by
              have h := o3
              unfold Own at h
              rw [List.length_set] at h
              rw [World.ownsRow.cellAt h (k + 1) (by omega)]; simp [u8s, HY.out, u8, List.getElem?_set]
            have fB : w2.frozen? ⟨g, k + 1, none⟩ = false := World.ownsRow.frozenAt o2 (k + 1)
            have s4 := s2.carry (k3.trans k4) (Nat.le_refl _)
            have hb4 := hb2.trans ((k3.trans k4).mono e1)
            have HE4 := Lib.hid (Nat.le_trans (Nat.le_refl w1.heap.size) (show w1.heap.size ≤ ((w2.setCell ⟨g, k, none⟩ (.int .u8 (z1.toNat : Int))).setCell ⟨g, k + 1, none⟩ (.int .u8 (z2.toNat : Int))).heap.size from Nat.le_trans e2 (k3.trans k4).size))
            have HO4 := Lib.hid o4
            have HB4 := Lib.hid hb4
            have HS4 := Lib.hid s4
            clear o3 k3 k4 o2 hb2 s2 o4 hb4 s4
            go_wp2_with fail
            clear cA fA cB fB
            generalize (w2.setCell ⟨g, k, none⟩ (.int .u8 (z1.toNat : Int))).setCell ⟨g, k + 1, none⟩ (.int .u8 (z2.toNat : Int)) = W4 at HO4 HB4 HS4 HE4 ⊢
            refine (fcs_any _ p _ (HS4.out.carry (Below.refl _ _) HE4.out) (by omega)).mono ?_
            rintro e w5 ⟨rfl, b5⟩
            rw [← HNN.out]
            have o5 := HO4.out.past b5
            have hb5 := HB4.out.trans (b5.mono HB4.out.size)
            clear b5 HO4 HB4 HS4 HE4
            go_wp2_with fail
            refine (refSealed_any _ p2 n hn _ o5.bs (by have := HP2L.out; omega)).mono ?_
            rintro e w6 ⟨v6, rfl, o6, b6⟩
            rw [← HF.out] at o6
            have hb6 := hb5.trans (b6.mono hb5.size)
            have r6 := o6.bs
            obtain ⟨A6, c6, rfl⟩ := r6.form
            clear b6 o5 hb5 o6
            go_wp2_with fail
            refine (decode_any A6 c6 F C [] _ HFC.out hbare r6 (by omega)).mono ?_
            rintro e w7 ⟨b7, hor⟩
            obtain rfl : e = .returned (.tuple #[.slice none 0 0, .int .i64 0, .int .i64 21]) := by
              rcases hor with ⟨p, v, hd, _⟩ | ⟨_, hu, _⟩ | ⟨_, _, he⟩
              · rw [HD.out] at hd; cases hd
              · exact absurd hu HU.out
              · exact he
            have r7 := r6.past b7
            have hb7 := hb6.trans (b7.mono hb6.size)
            clear b7 r6 hb6 hor
            go_wp2_with fail
            refine (scan_v3 _ F _ r7 (by omega)).mono ?_
            rintro e w8 ⟨v8, rfl, o8, b8⟩
            rw [HSC.out] at o8
            have hb8 := hb7.trans (b8.mono hb7.size)
            obtain ⟨A8, c8, rfl⟩ := o8.ls.form
            have t9 := T9.out
            clear o8 b8 hb7
            go_wp2_with fail
            go_ret
            exact ⟨rfl, hb8⟩
      · have t1 : decide ((p.length : Int) - 1 ≤ (k : Int)) = true := by simp; omega
        go_enter Try.func6, Try.ntmps6
        go_wp2_with fail
        refine (sane_any _).mono ?_
        rintro e w1 ⟨rfl, b1⟩
        go_wp2_with fail
        go_ret
        exact ⟨rfl, b1⟩
    · have t1 : decide (at_ < 0) = true := by simp; omega
      go_enter Try.func6, Try.ntmps6
      go_wp2_with fail
      refine (sane_any _).mono ?_
      rintro e w1 ⟨rfl, b1⟩
      go_wp2_with fail
      go_ret
      exact ⟨rfl, b1⟩
  · go_enter Try.func6, Try.ntmps6
    go_wp2_with fail
    refine (sane_any _).mono ?_
    rintro e w1 ⟨rfl, b1⟩
    go_wp2_with fail
    go_ret
    exact ⟨rfl, b1⟩

end Go.Proofs.Ytokjlcajcflhgaa
