/-
  Walks of the reference of layer 2: Scan, SameAll, Few.
-/
import Derived.Test.YtokjlcajcflhgaaHrC
namespace Go.Proofs.Ytokjlcajcflhgaa
open Go.RowKit
set_option linter.unusedVariables false
set_option linter.unusedSimpArgs false

theorem drop_at {b : List UInt8} {j : Nat} {c : UInt8} (h : b[j]? = some c) : b.drop j = c :: b.drop (j + 1) := by
  have hj := (List.getElem?_eq_some_iff.1 h).1
  rw [List.drop_eq_getElem_cons hj]; congr 1; exact (List.getElem?_eq_some_iff.1 h).2

set_option maxRecDepth 100000 in
set_option maxHeartbeats 1600000 in
theorem refScan_any (A : Option Addr) (cap : Nat) (b : List UInt8) (w : World) (hv : Bs w w.heap.size (.slice A b.length cap) b) (hl : b.length ≤ 1000000) :
    Calls Try.prog 13 #[.slice A b.length cap] w fun e w' => ∃ v', e = .returned (.tuple #[v', .int .i64 (lastF b)]) ∧ Lst w' w.heap.size v' (scanP b) ∧ Below w.heap.size w w' := by
  obtain ⟨z0, hz0⟩ : ∃ z0, z0 = fi b := ⟨_, rfl⟩
  have hflag := refFlag_any A cap b 0 w w.heap.size hv (by omega) (by omega) z0 (by rw [hz0]; simp)
  have HFL := Lib.hid hflag
  have hz0l : z0 ≤ b.length := by rw [hz0]; exact fi_le b
  have hst : (z0 < b.length → b[z0]? = some 126 ∧ ([] : List (List UInt8)) ++ (cts [] (b.drop (z0 + 1))).filterMap dcd = scanP b) ∧ (¬ z0 < b.length → ([] : List (List UInt8)) = scanP b ∧ lastF b = b.length) := by
    rw [hz0]
    refine ⟨fun h => ⟨fi_at b h, ?_⟩, fun h => ⟨?_, lastF_bare (bare_of_fi h)⟩⟩
    · unfold scanP; rw [cont_fi, if_pos h]; rfl
    · unfold scanP; rw [cont_fi, if_neg h]; rfl
  have HST := Lib.hid hst
  clear hflag hz0 hst
  go_enter Try.func13, Try.ntmps13
  go_wp2_with fail
  refine HFL.out.mono ?_
  rintro e w1 ⟨rfl, rfl⟩
  go_wp2_with fail
  go_loopw [4, 5] (fun vl i wr => ∃ (j : Nat) (ls : List (List UInt8)), i = .int .i64 j ∧ j ≤ b.length ∧ Lst wr w.heap.size vl ls ∧ ls.length ≤ j ∧ Below w.heap.size w wr ∧
      (j < b.length → b[j]? = some 126 ∧ ls ++ (cts [] (b.drop (j + 1))).filterMap dcd = scanP b) ∧ (¬ j < b.length → ls = scanP b ∧ lastF b = b.length)) (fun _ i _ => (b.length - intOf i).toNat)
  case atStart => exact ⟨z0, [], rfl, hz0l, Lst.nil_ _ _, by simp, Below.refl _ _, HST.out.1, HST.out.2⟩
  case round =>
    obtain ⟨j, ls, rfl, hj, hL, hlen, hb, hs1, hs2⟩ := hrel
    have hbs := hb.size
    obtain ⟨AL, cL, hLf⟩ := hL.ls.form
    rw [hLf] at hL ⊢
    clear hLf
    have hvr := hv.carry hb hbs
    by_cases hlt : j < b.length
    · obtain ⟨h7e, hsc⟩ := hs1 hlt
      obtain ⟨z, hz⟩ : ∃ z, z = j + 1 + fi (b.drop (j + 1)) := ⟨_, rfl⟩
      have hfl := fi_le (b.drop (j + 1))
      rw [List.length_drop] at hfl
      have hzl : z ≤ b.length := by omega
      have hflag := refFlag_any A cap b (j + 1) _ _ hvr (by omega) (by omega) z hz
      rw [show ((j + 1 : Nat) : Int) = (j : Int) + 1 by omega] at hflag
      have HF := Lib.hid hflag
      clear hs1 hs2 hflag
      by_cases hze : z = b.length
      · have hbare : Bare (b.drop (j + 1)) := bare_of_fi (by rw [List.length_drop]; omega)
        have HL := Lib.hid (show lastF b = j from lidx_step hlt h7e hbare)
        have HS := Lib.hid (show ls = scanP b by rw [← hsc, cts_bare _ _ hbare]; simp)
        have t1 : ((z : Int) == (b.length : Int)) = true := by rw [hze]; simp
        clear hze hz h7e hsc hbare
        go_wp2_with fail
        refine HF.out.mono ?_
        rintro e w2 ⟨rfl, rfl⟩
        go_wp2_with fail
        go_ret2
        exact ⟨.slice AL ls.length cL, by rw [HL.out]; rfl, by rw [← HS.out]; exact hL, hb⟩
      · have t1 : ((z : Int) == (b.length : Int)) = false := beq_eq_false_iff_ne.2 (by omega)
        have hflt : fi (b.drop (j + 1)) < (b.drop (j + 1)).length := by rw [List.length_drop]; omega
        have h7z : b[z]? = some 126 := by
          have h := fi_at _ hflt
          rw [List.getElem?_drop] at h
          rw [hz]; exact h
        obtain ⟨x, hx⟩ : ∃ x, x = (b.drop (j + 1)).take (z - (j + 1)) := ⟨_, rfl⟩
        have hcts : cts [] (b.drop (j + 1)) = x :: cts [] (b.drop (z + 1)) := by
          rw [cts_fi, if_pos hflt, List.drop_drop, hx, show z - (j + 1) = fi (b.drop (j + 1)) by omega]
          congr 3
          omega
        have hdec := refDecode_any A cap b x j z _ hvr hl h7e hz (by omega) hx
        have HDEC := Lib.hid hdec
        rw [hcts] at hsc
        have HSC := Lib.hid hsc
        have H7 := Lib.hid h7z
        have hjz : j + 1 ≤ z := by omega
        clear hcts hsc hdec h7e hx hz hflt h7z
        go_wp2_with fail
        refine HF.out.mono ?_
        rintro e w2 ⟨rfl, rfl⟩
        go_wp2_with fail
        refine HDEC.out.mono ?_
        rintro e w3 ⟨hb3, hor⟩
        have hL3 := hL.past hb3
        have hs3 := hb3.size
        rcases hor with ⟨p, v, hd, rfl, hown⟩ | ⟨hd, E, hE, rfl⟩
        · have HN := Lib.hid (show (ls ++ [p]) ++ (cts [] (b.drop (z + 1))).filterMap dcd = scanP b by rw [← HSC.out, List.filterMap_cons, hd]; simp)
          have hown' := hown.up hbs
          obtain ⟨Ap, cp, rfl⟩ := hown.bs.form
          clear hd
          go_wp2_with (at_builtin; refine wp_appL w.heap.size (.tmp 35) (.tmp 37) rfl rfl _ _ ls p rfl rfl hL3 hown' rfl (by omega) (by omega) ?_; intro v8 w8 hL8 hg8)
          have hb8 : Below w.heap.size w w8 := (hb.trans (hb3.mono hbs)).trans (by obtain ⟨vs, h1, _⟩ := hL3; exact hg8.below h1 (by omega))
          go_roundw
          case rel => exact ⟨z, ls ++ [p], rfl, hzl, hL8, by simp; omega, hb8, fun _ => ⟨H7.out, HN.out⟩, fun h => absurd (show z < b.length by omega) h⟩
          case measure => simp [intOf]; omega
        · have HN := Lib.hid (show ls ++ (cts [] (b.drop (z + 1))).filterMap dcd = scanP b by rw [← HSC.out, List.filterMap_cons, hd])
          clear hd
          go_wp2_with fail
          go_roundw
          case rel => exact ⟨z, ls, rfl, hzl, hL3, by omega, hb.trans (hb3.mono hbs), fun _ => ⟨H7.out, HN.out⟩, fun h => absurd (show z < b.length by omega) h⟩
          case measure => simp [intOf]; omega
    · obtain ⟨hs, hlf⟩ := hs2 hlt
      have HL := Lib.hid hlf
      have HS := Lib.hid hs
      have ht : decide ((j : Int) < (b.length : Int)) = false := by simp; omega
      clear hs1 hs2 hs hlf
      go_wp2_with fail
      go_ret2
      exact ⟨.slice AL ls.length cL, by rw [HL.out]; rfl, by rw [← HS.out]; exact hL, hb⟩

theorem Ls.drewN {w : World} {B : Nat} {v : Value} {ls : List (List UInt8)} (h : Ls w B v ls) (m : Nat) : Ls (w.drewN m) B v ls := by
  obtain ⟨vs, h1, h2⟩ := h
  refine ⟨vs, ?_, fun i u x hu hx => (h2 i u x hu hx).drewN m⟩
  obtain ⟨A, cap, h1, h2, h3, h4, h5, h6⟩ := h1
  exact ⟨A, cap, h1, h2, h3, h4, h5, fun a ha h0 => ⟨(h6 a ha h0).1, fun i u hu => (World.cell?_drewN _ _ _).trans ((h6 a ha h0).2 i u hu)⟩⟩

set_option maxRecDepth 100000 in
set_option maxHeartbeats 1600000 in
theorem sameAll_any (v u : Value) (ls ms : List (List UInt8)) (w : World) (B B' : Nat) (hv : Ls w B v ls) (hu : Ls w B' u ms) (hl : ls.length ≤ 1000000000) (hm : ms.length ≤ 1000000000) :
    Calls Try.prog 14 #[v, u] w fun e w' => e = .returned (.bool (ls == ms)) ∧ ∃ n, w' = w.drewN n := by
  have hv0 := hv
  have hu0 := hu
  obtain ⟨A, cap, rfl⟩ := hv.form
  obtain ⟨A', cap', rfl⟩ := hu.form
  by_cases hlm : ls.length = ms.length
  · have t0 : ((ls.length : Int) != (ms.length : Int)) = false := by simp [hlm]
    have hml : ms.length ≤ ls.length := by omega
    have hlm' : ls.length ≤ ms.length := by omega
    have HLM := Lib.hid hlm
    clear hlm
    go_enter Try.func14, Try.ntmps14
    go_wp2
    go_loopw [13] (fun i wr => ∃ k m : Nat, i = .int .i64 k ∧ k ≤ ls.length ∧ ls.take k = ms.take k ∧ wr = w.drewN m) (fun i _ => (ls.length - intOf i).toNat)
    case atStart => exact ⟨0, 0, rfl, by omega, rfl, rfl⟩
    case round =>
      obtain ⟨k, m, rfl, hk, heq, hw⟩ := hrel
      have HEQ := Lib.hid heq
      have HW := Lib.hid hw
      have hvr : Ls wr B (.slice A ls.length cap) ls := by rw [hw]; exact hv.drewN m
      have hur : Ls wr B' (.slice A' ms.length cap') ms := by rw [hw]; exact hu.drewN m
      clear heq hw
      by_cases hlt : k < ls.length
      · have hlt2 : k < ms.length := by omega
        obtain ⟨x, hx⟩ : ∃ x, ls[k]? = some x := ⟨_, List.getElem?_eq_getElem hlt⟩
        obtain ⟨y, hy⟩ : ∃ y, ms[k]? = some y := ⟨_, List.getElem?_eq_getElem hlt2⟩
        obtain ⟨vs, Ax, cx, hrv, hvk, hbx⟩ := hvr.at_ hx
        obtain ⟨us, Ay, cy, hru, huk, hby⟩ := hur.at_ hy
        obtain ⟨ad, rfl, _, hca⟩ := Row.at_ hrv (by omega)
        obtain ⟨bd, rfl, _, hcb⟩ := Row.at_ hru (by omega)
        have hca : wr.drew.cell? _ = _ := hca _ _ hvk
        have hcb : wr.drew.cell? _ = _ := hcb _ _ huk
        obtain ⟨qa, hqa⟩ : ∃ q, q = ad.add k := ⟨_, rfl⟩
        obtain ⟨qb, hqb⟩ : ∃ q, q = bd.add k := ⟨_, rfl⟩
        rw [← hqa] at hca
        rw [← hqb] at hcb
        have QA := Lib.hid hqa
        have QB := Lib.hid hqb
        have hsame := same_any _ _ x y _ B B' (show Bs (World.drew _) B _ x from hbx) (show Bs (World.drew _) B' _ y from hby)
        have HX := Lib.hid hx
        have HY := Lib.hid hy
        clear hqa hqb hvr hur hrv hru hvk huk hbx hby hx hy hv hu hv0 hu0
        by_cases hxy : x = y
        · rw [show (x == y) = true by simpa using hxy] at hsame
          have HSAME := Lib.hid hsame
          have HXY := Lib.hid hxy
          clear hsame hxy
          go_wp2_with fail
          refine wp_region_plan ((0, true) :: (1, true) :: (2, true) :: (3, true) :: (4, true) :: (5, true) :: (6, true) :: (7, true) :: (8, false) :: (9, true) :: []) (by kernel_rfl) (by kernel_rfl) (by kernel_rfl) rfl (fun _ _ h => h) ?_
          iterate 2 (first | refine plan_skip rfl rfl rfl rfl ?_ | (refine plan_take rfl rfl rfl rfl ?_; apply Exists.intro; refine ⟨fun w' hw' => ?_, ?_⟩; focus (go_wp2; exact ⟨rfl, rfl, rfl⟩)))
          refine plan_take rfl rfl rfl rfl ?_
          apply Exists.intro
          refine ⟨fun w' hw' => ?_, ?_⟩
          · refine wp_run rfl (exec_ix 24 22 Try.underlying24 size_bs _ rfl rfl _ _ (k) rfl rfl hlt QA.out) ?_
            exact ⟨rfl, rfl, rfl⟩
          refine plan_take rfl rfl rfl rfl ?_
          apply Exists.intro
          refine ⟨fun w' hw' => ?_, ?_⟩
          · have c := cell_past hca hw'
            go_wp2
            exact ⟨rfl, rfl, rfl⟩
          iterate 2 (first | refine plan_skip rfl rfl rfl rfl ?_ | (refine plan_take rfl rfl rfl rfl ?_; apply Exists.intro; refine ⟨fun w' hw' => ?_, ?_⟩; focus (go_wp2; exact ⟨rfl, rfl, rfl⟩)))
          refine plan_take rfl rfl rfl rfl ?_
          apply Exists.intro
          refine ⟨fun w' hw' => ?_, ?_⟩
          · refine wp_run rfl (exec_ix 24 22 Try.underlying24 size_bs _ rfl rfl _ _ (k) rfl rfl hlt2 QB.out) ?_
            exact ⟨rfl, rfl, rfl⟩
          refine plan_take rfl rfl rfl rfl ?_
          apply Exists.intro
          refine ⟨fun w' hw' => ?_, ?_⟩
          · have c := cell_past hcb hw'
            go_wp2
            exact ⟨rfl, rfl, rfl⟩
          refine plan_step rfl ?_
          go_wp2_with fail
          refine (HSAME.out).mono ?_
          rintro e w' ⟨rfl, rfl⟩
          go_wp2_with fail
          refine ⟨rfl, Below.refl _ _, ?_⟩
          iterate 1 (first | refine plan_skip rfl rfl rfl rfl ?_ | (refine plan_take rfl rfl rfl rfl ?_; apply Exists.intro; refine ⟨fun w' hw' => ?_, ?_⟩; focus (go_wp2; exact ⟨rfl, rfl, rfl⟩)))
          show Exit.then _ _ _ _ _
          go_wp2_with fail
          go_roundw
          case rel => exact ⟨k + 1, m + 1, by go_num, by omega, by rw [List.take_add_one, List.take_add_one, HX.out, HY.out, HXY.out, HEQ.out], by rw [HW.out]; rfl⟩
          case measure => simp [intOf]; omega
        · rw [show (x == y) = false by simpa using hxy] at hsame
          have HSAME := Lib.hid hsame
          have HR := Lib.hid (show (ls == ms) = false by
            refine beq_eq_false_iff_ne.2 fun e => hxy ?_
            have h1 := HX.out
            rw [e, HY.out] at h1
            injection h1 with h1
            exact h1.symm)
          clear hsame hxy
          go_wp2_with fail
          refine wp_region_plan ((0, true) :: (1, true) :: (2, true) :: (3, true) :: (4, true) :: (5, true) :: (6, true) :: (7, true) :: (8, false) :: (9, true) :: []) (by kernel_rfl) (by kernel_rfl) (by kernel_rfl) rfl (fun _ _ h => h) ?_
          iterate 2 (first | refine plan_skip rfl rfl rfl rfl ?_ | (refine plan_take rfl rfl rfl rfl ?_; apply Exists.intro; refine ⟨fun w' hw' => ?_, ?_⟩; focus (go_wp2; exact ⟨rfl, rfl, rfl⟩)))
          refine plan_take rfl rfl rfl rfl ?_
          apply Exists.intro
          refine ⟨fun w' hw' => ?_, ?_⟩
          · refine wp_run rfl (exec_ix 24 22 Try.underlying24 size_bs _ rfl rfl _ _ (k) rfl rfl hlt QA.out) ?_
            exact ⟨rfl, rfl, rfl⟩
          refine plan_take rfl rfl rfl rfl ?_
          apply Exists.intro
          refine ⟨fun w' hw' => ?_, ?_⟩
          · have c := cell_past hca hw'
            go_wp2
            exact ⟨rfl, rfl, rfl⟩
          iterate 2 (first | refine plan_skip rfl rfl rfl rfl ?_ | (refine plan_take rfl rfl rfl rfl ?_; apply Exists.intro; refine ⟨fun w' hw' => ?_, ?_⟩; focus (go_wp2; exact ⟨rfl, rfl, rfl⟩)))
          refine plan_take rfl rfl rfl rfl ?_
          apply Exists.intro
          refine ⟨fun w' hw' => ?_, ?_⟩
          · refine wp_run rfl (exec_ix 24 22 Try.underlying24 size_bs _ rfl rfl _ _ (k) rfl rfl hlt2 QB.out) ?_
            exact ⟨rfl, rfl, rfl⟩
          refine plan_take rfl rfl rfl rfl ?_
          apply Exists.intro
          refine ⟨fun w' hw' => ?_, ?_⟩
          · have c := cell_past hcb hw'
            go_wp2
            exact ⟨rfl, rfl, rfl⟩
          refine plan_step rfl ?_
          go_wp2_with fail
          refine (HSAME.out).mono ?_
          rintro e w' ⟨rfl, rfl⟩
          go_wp2_with fail
          refine ⟨rfl, Below.refl _ _, ?_⟩
          iterate 1 (first | refine plan_skip rfl rfl rfl rfl ?_ | (refine plan_take rfl rfl rfl rfl ?_; apply Exists.intro; refine ⟨fun w' hw' => ?_, ?_⟩; focus (go_wp2; exact ⟨rfl, rfl, rfl⟩)))
          show Exit.then _ _ _ _ _
          go_wp2_with fail
          go_ret
          exact ⟨by rw [HR.out]; rfl, m + 1, by rw [HW.out]; rfl⟩
      · have HR := Lib.hid (show (ls == ms) = true by
          have h := HEQ.out
          rw [List.take_of_length_le (by omega), List.take_of_length_le (by omega)] at h
          simpa using h)
        go_wp2
        go_ret
        exact ⟨by rw [HR.out]; rfl, m, HW.out⟩
  · have t0 : ((ls.length : Int) != (ms.length : Int)) = true := by simp; omega
    have HR := Lib.hid (show (ls == ms) = false from beq_eq_false_iff_ne.2 (fun e => hlm (by rw [e])))
    clear hlm
    go_enter Try.func14, Try.ntmps14
    go_wp2
    go_ret
    exact ⟨by rw [HR.out]; rfl, 0, rfl⟩

def fewB (ls : List (List UInt8)) (m : Nat) : Bool := decide (ls.length ≤ m) && ls.all (fun x => decide (x.length ≤ 300))

set_option maxRecDepth 100000 in
set_option maxHeartbeats 800000 in
theorem few_any (v : Value) (ls : List (List UInt8)) (most : Nat) (w : World) (B : Nat) (hv : Ls w B v ls) (hl : ls.length ≤ 140737488355328) (hm : most ≤ 1000) :
    Calls Try.prog 21 #[v, .int .i64 most] w fun e w' => e = .returned (.bool (fewB ls most)) ∧ w = w' := by
  obtain ⟨A, cap, rfl⟩ := hv.form
  go_enter Try.func21, Try.ntmps21
  go_wp2
  go_loop [5] (fun i => ∃ k : Nat, i = .int .i64 k ∧ k ≤ ls.length ∧ k ≤ most + 1 ∧ ∀ j x, j < k → ls[j]? = some x → x.length ≤ 300) (fun i => (most + 1 - intOf i).toNat)
  case atStart => exact ⟨0, rfl, by omega, by omega, fun j x h => by omega⟩
  case round =>
    obtain ⟨k, rfl, hk, hkm, hall⟩ := hrel
    have HALL := Lib.hid hall
    clear hall
    by_cases hlt : k < ls.length
    · by_cases hle : k ≤ most
      · obtain ⟨x, hx⟩ : ∃ x, ls[k]? = some x := ⟨_, List.getElem?_eq_getElem hlt⟩
        obtain ⟨vs, Ax, cx, hrv, hvk, hbx⟩ := hv.at_ hx
        have t1 : decide ((k : Int) ≤ (most : Int)) = true := by simp; omega
        by_cases h3 : x.length ≤ 300
        · have HA := Lib.hid (show ∀ j y, j < k + 1 → ls[j]? = some y → y.length ≤ 300 by
            intro j y hj hy
            by_cases hjk : j = k
            · subst hjk; rw [hx] at hy; injection hy with hy; subst hy; exact h3
            · exact HALL.out j y (by omega) hy)
          clear hx hbx
          go_wp2_with (refine wp_at 24 22 Try.underlying24 size_bs (.tmp 17) (.tmp 18) rfl rfl rfl hrv _ _ k _ rfl rfl hvk ?_; intro p hp hcell)
          go_round
          case rel => exact ⟨k + 1, by go_num, by omega, by omega, HA.out⟩
          case measure => simp [intOf]; omega
        · have HR := Lib.hid (show fewB ls most = false by
            unfold fewB
            rw [Bool.and_eq_false_iff]
            right
            rw [List.all_eq_false]
            exact ⟨x, List.mem_of_getElem? hx, by simpa using h3⟩)
          clear hx hbx
          go_wp2_with (refine wp_at 24 22 Try.underlying24 size_bs (.tmp 17) (.tmp 18) rfl rfl rfl hrv _ _ k _ rfl rfl hvk ?_; intro p hp hcell)
          go_ret
          exact ⟨by rw [HR.out]; rfl, rfl⟩
      · have t1 : decide ((k : Int) ≤ (most : Int)) = false := by simp; omega
        have t2 : decide (ls.length ≤ most) = false := by simp; omega
        have HR := Lib.hid (show fewB ls most = false by unfold fewB; rw [decide_eq_false (by omega)]; rfl)
        go_wp2
        go_ret
        exact ⟨by rw [HR.out]; rfl, rfl⟩
    · have t1 : decide ((k : Int) < (ls.length : Int)) = false := by simp; omega
      have hall : ls.all (fun x => decide (x.length ≤ 300)) = true := by
        rw [List.all_eq_true]
        intro x hx
        obtain ⟨j, hj⟩ := List.mem_iff_getElem?.1 hx
        have := HALL.out j x (by have := (List.getElem?_eq_some_iff.1 hj).1; omega) hj
        simpa using this
      by_cases hle : ls.length ≤ most
      · have t2 : decide (ls.length ≤ most) = true := by simp; omega
        have HR := Lib.hid (show fewB ls most = true by unfold fewB; rw [hall, decide_eq_true hle]; rfl)
        clear hall
        go_wp2
        go_ret
        exact ⟨by rw [HR.out]; rfl, rfl⟩
      · have t2 : decide (ls.length ≤ most) = false := by simp; omega
        have HR := Lib.hid (show fewB ls most = false by unfold fewB; rw [decide_eq_false hle]; rfl)
        clear hall
        go_wp2
        go_ret
        exact ⟨by rw [HR.out]; rfl, rfl⟩
end Go.Proofs.Ytokjlcajcflhgaa
