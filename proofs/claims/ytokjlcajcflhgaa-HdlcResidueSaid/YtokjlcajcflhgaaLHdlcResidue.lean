/-
  The walk of the law HdlcResidue.
-/
import Derived.Test.YtokjlcajcflhgaaHdL
namespace Go.Proofs.Ytokjlcajcflhgaa
open Go.RowKit
set_option linter.unusedVariables false
set_option linter.unusedSimpArgs false

set_option maxRecDepth 100000 in
set_option maxHeartbeats 1600000 in
theorem hdlcResidue_walk (v : Value) (l : List UInt8) (w : World) (hv : Bs w w.heap.size v l) :
    Calls Try.prog 5 #[v] w fun e w' => e = .returned (.bool true) ∧ Below w.heap.size w w' := by
  obtain ⟨A, cap, rfl⟩ := hv.form
  by_cases hl : l.length ≤ 3000
  · have hn := fcsN_lt l
    obtain ⟨n, hnn⟩ : ∃ n, n = fcsN l := ⟨_, rfl⟩
    obtain ⟨c1, hc1⟩ : ∃ c, c = b8 (n % 256) := ⟨_, rfl⟩
    obtain ⟨c2, hc2⟩ : ∃ c, c = b8 (n / 256) := ⟨_, rfl⟩
    rw [← hnn] at hn
    have e1 : c1.toNat = n % 256 := by rw [hc1]; exact b8_toNat (by omega)
    have e2 : c2.toNat = n / 256 := by rw [hc2]; exact b8_toNat (by omega)
    have h1 : (n : Int) % 256 = (c1.toNat : Int) := by omega
    have h2 : (n : Int) / 256 = (c2.toNat : Int) := by omega
    have hcl1 := c1.toNat_lt
    have hcl2 := c2.toNat_lt
    have HR := Lib.hid (show fcsN (l ++ [c1, c2]) = 3911 by rw [hc1, hc2, hnn]; exact fcs_residue l)
    have HN := Lib.hid hnn
    clear hc1 hc2 e1 e2 hnn
    go_enter Try.func5, Try.ntmps5
    go_wp2_with fail
    refine (sane_any _).mono ?_
    rintro e w1 ⟨rfl, b1⟩
    have s1 := hv.past b1
    go_wp2_with fail
    refine (fcs_any _ l _ s1 (by omega)).mono ?_
    rintro e w2 ⟨rfl, b2⟩
    rw [← HN.out]
    have s2 := s1.past b2
    have hb2 := b1.trans (b2.mono b1.size)
    clear s1 b1 b2
    go_wp2_with fail
    refine (refCopy_any _ l _ s2 (by omega)).mono ?_
    rintro e w3 ⟨v3, rfl, o3, b3⟩
    have hb3 := hb2.trans (b3.mono hb2.size)
    have hs3 := b3.size
    go_wp2_with (at_builtin; refine wp_apps w2.heap.size (.tmp 14) (.tmp 20) rfl rfl _ _ l [c1, c2] rfl rfl (o3.alloc _) (by simp; omega) (own_lit_n w3 [c1, c2] (by simp [maxLen])).bs (by simp; omega) ?_; intro v4 w4 o4 b4)
    have hb4 : Below w.heap.size w w4 := (hb3.alloc hb3.size _).trans (b4.mono hb2.size)
    clear o3 b3 b4 hb3 hs3
    refine (fcs_any _ (l ++ [c1, c2]) _ o4.bs (by simp; omega)).mono ?_
    rintro e w5 ⟨rfl, b5⟩
    rw [HR.out]
    go_wp2_with fail
    go_ret
    exact ⟨rfl, hb4.trans (b5.mono hb4.size)⟩
  · go_enter Try.func5, Try.ntmps5
    go_wp2_with fail
    refine (sane_any _).mono ?_
    rintro e w1 ⟨rfl, b1⟩
    go_wp2_with fail
    go_ret
    exact ⟨rfl, b1⟩

end Go.Proofs.Ytokjlcajcflhgaa
