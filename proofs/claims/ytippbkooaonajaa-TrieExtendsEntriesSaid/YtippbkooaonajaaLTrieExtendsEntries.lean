/-
  TrieExtendsEntries: the walk of the law.
-/
import Derived.Test.YtippbkooaonajaaTrE
namespace Go.Proofs.Ytippbkooaonajaa
open Go.RowKit Dg Tr
set_option linter.unusedVariables false
set_option linter.unusedSimpArgs false

set_option maxRecDepth 100000 in
set_option maxHeartbeats 4000000 in
theorem trieExtendsEntries_walk (v : Value) (l : List (Str × Int)) (s : Str) (w : World) (hv : Pl w w.heap.size v l) (hu : ∀ x ∈ l, Upd x) (hs : s.length ≤ maxLen) :
    Calls Try.prog 7 #[v, str s] w fun e w' => e = .returned (.bool true) ∧ Below w.heap.size w w' := by
  have hsz := str_size s
  have hml : maxLen = 9223372036854775807 := rfl
  unfold str
  have HU := Lib.hid hu
  clear hu
  go_enter Try.func7, Try.ntmps7
  go_wp2_with fail
  refine (sane_any w).mono ?_
  rintro e w1 ⟨rfl, b1⟩
  have v1 : Pl w1 w1.heap.size v l := Row.past hv b1
  clear hv
  go_wp2_with fail
  refine (short_any v l w1 v1 HU.out).mono ?_
  rintro e w2 ⟨⟨r, rfl, hr⟩, bx⟩
  have v2 : Pl w2 w2.heap.size v l := Row.past v1 bx
  have b2 := b1.trans (bx.mono b1.size)
  clear v1 bx b1
  cases r with
  | false =>
    clear hr
    go_wp2_with fail
    go_ret
    exact ⟨rfl, b2⟩
  | true =>
  obtain ⟨hl60, hl40⟩ := hr rfl
  have HL40 := Lib.hid hl40
  clear hr hl40
  by_cases hbs : 40 < s.length
  · go_wp2_with fail
    go_ret
    exact ⟨rfl, b2⟩
  go_wp2_with fail
  refine (built_any v l w2 v2 HU.out hl60 HL40.out).mono ?_
  rintro e w3 ⟨⟨Ax, nx, cx, X, K, u, rfl, hkp, hKl, xn, kp⟩, bx⟩
  have b3 := b2.trans (bx.mono b2.size)
  have HKP := Lib.hid hkp
  have hnx := hkp.le
  clear v2 bx b2 hkp
  go_wp2_with (first | (refine wp_storeA 24 (.tmp 5) (.tmp 22) rfl rfl w3.heap.size rfl 24 [.slice none 0 0] [.slice Ax nx cx] rfl (Blk.new _ _ _) (by rw [info_trie]; rfl) rfl (by intro v hv; simp at hv; subst hv; rfl) rfl ?_; intro w4 kx kkx; have bx : Below w3.heap.size w3 w4 := ((Below.refl _ _).alloc (Nat.le_refl _) _).trans (kkx.below (fun q hq => by omega) (by simp)); have t4 := TrV.laidN xn bx kx; have p4 : Pl w4 w4.heap.size u K := Row.past kp bx; have b4 := b3.trans (bx.mono b3.size); clear kkx bx kx xn kp b3))
  obtain ⟨Ak, ck, rfl⟩ := row_form p4
  obtain ⟨g5, hg5⟩ : ∃ q, w3.heap.size = q := ⟨_, rfl⟩
  rw [hg5] at t4 ⊢
  clear hg5
  go_loopw [7, 8] (fun vb vi wr => ∃ (i : Nat) (b : Bool), vb = .bool b ∧ vi = .int .i64 (i : Int) ∧ i ≤ K.length ∧ (b = true ↔ Lo (K.take i) s) ∧ Below w4.heap.size w4 wr) (fun vb vi wr => ixn K.length vi)
  case atStart => exact ⟨0, false, rfl, rfl, Nat.zero_le _, ⟨fun h => (by cases h), fun h => absurd h (lo_nil K s)⟩, Below.refl _ _⟩
  case round =>
    obtain ⟨i, b, rfl, rfl, hi', hbl, hbw⟩ := hrel
    have HBL := Lib.hid hbl
    clear hbl
    by_cases hlt : i < K.length
    · obtain ⟨⟨p, z⟩, hx⟩ : ∃ x, K[i]? = some x := ⟨_, List.getElem?_eq_getElem hlt⟩
      obtain ⟨ad, q, px, hA, hqe, hpx, hpx2, hqb, _, hcs, _⟩ := Pl.elem p4 hbw hx
      subst hA
      obtain ⟨hp15, _⟩ := HKP.out.has (List.mem_of_getElem? hx)
      have hp15 : p.length ≤ 15 := hp15
      have HQE := Lib.hid hqe
      have HSN := Lib.hid (lo_snoc hx s)
      have hpz := str_size p
      unfold str at hcs
      clear hqe hpx hpx2 hx hqb
      cases b with
      | true =>
        go_wp2_with fail
        go_roundw
        case measure => show K.length - ((i : Int) + 1).toNat < K.length - ((i : Int)).toNat; omega
        case rel => exact ⟨i + 1, true, rfl, by simp, by omega, ⟨fun _ => HSN.out.2 (Or.inl (HBL.out.1 rfl)), fun _ => rfl⟩, hbw⟩
      | false =>
        have HNO : Hid (¬ Lo (K.take i) s) := Lib.hid fun h => by have := HBL.out.2 h; cases this
        by_cases hgt : s.length < p.length
        · go_wp2_with (first | (refine wp_run rfl (exec_ixS 38 45 2 Try.underlying38 info_pv2 _ rfl rfl .i64 (i : Int) i rfl rfl hlt HQE.out) ?_))
          have hC := starts_any p s wr (by omega) (by omega)
          obtain ⟨pb, hpb⟩ : ∃ b, pre s p = b := ⟨_, rfl⟩
          rw [hpb] at hC
          unfold str at hC
          refine hC.mono ?_
          rintro e w5 ⟨rfl, rfl⟩
          have HPB := Lib.hid hpb
          clear hC hpb
          go_wp2_with fail
          go_roundw
          case measure => show K.length - ((i : Int) + 1).toNat < K.length - ((i : Int)).toNat; omega
          case rel =>
            refine ⟨i + 1, pb, rfl, by simp, by omega, ?_, hbw⟩
            rw [HSN.out, ← HPB.out, pre_iff]
            exact ⟨fun h => Or.inr ⟨hgt, h⟩, fun h => h.elim (fun h => absurd h HNO.out) fun h => h.2⟩
        · go_wp2_with (first | (refine wp_run rfl (exec_ixS 38 45 2 Try.underlying38 info_pv2 _ rfl rfl .i64 (i : Int) i rfl rfl hlt HQE.out) ?_))
          go_roundw
          case measure => show K.length - ((i : Int) + 1).toNat < K.length - ((i : Int)).toNat; omega
          case rel =>
            refine ⟨i + 1, false, rfl, by simp, by omega, ?_, hbw⟩
            rw [HSN.out]
            exact ⟨fun h => (by cases h), fun h => h.elim (fun h => absurd h HNO.out) fun h => absurd h.1 hgt⟩
    · obtain rfl : i = K.length := by omega
      have t5 := t4.go hbw
      have ct5 := t5.cell
      have b5 := b4.trans (hbw.mono b4.size)
      go_wp2_with fail
      have hC := extends_any Ax nx cx X s wr t5.nds (by omega) (by omega)
      unfold str at hC
      refine hC.mono ?_
      rintro e w6 ⟨⟨r, rfl, hr⟩, bx⟩
      have b6 := b5.trans (bx.mono b5.size)
      have HRB : Hid ((r == b) = true) := Lib.hid (by
        have h1 := HBL.out
        rw [List.take_length] at h1
        rw [beq_iff_eq, Bool.eq_iff_iff, hr, h1]
        exact lo_ext HKP.out s)
      clear hC hr bx
      go_wp2_with fail
      go_ret
      exact ⟨congrArg (fun b => Ending.returned (.bool b)) HRB.out, b6⟩
end Go.Proofs.Ytippbkooaonajaa
