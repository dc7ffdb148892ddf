/-
  The walk of the reference's Minimal.
-/
import Derived.Test.YtblgcefaikoejaaDrF
import Derived.Test.YtblgcefaikoejaaDgN
namespace Go.Proofs.Ytblgcefaikoejaa
open Go.RowKit Dg
set_option linter.unusedVariables false
set_option linter.unusedSimpArgs false

namespace Dg
theorem UI.all {l O : List Str} (h : UI l O l.length) : (∀ x, x ∈ O ↔ x ∈ l ∧ cvd l x = false) := fun x => by
  have := h.mem x
  rwa [List.take_of_length_le (Nat.le_refl _)] at this
theorem UI.nodup {l O : List Str} {i : Nat} (h : UI l O i) : O.Nodup := h.sorted.imp fun {a b} hab e => by subst e; exact List.lt_irrefl _ hab
theorem UI.anti {l O : List Str} (h : UI l O l.length) : Anti O := by
  intro p hp q hq hpq
  refine Classical.byContradiction fun hne => ?_
  have h1 := ((h.all q).1 hq).2
  rw [cvd_iff.2 ⟨p, ((h.all p).1 hp).1, hpq, hne⟩] at h1
  cases h1
theorem UI.base {l O : List Str} (h : UI l O l.length) : ∀ s ∈ l, ∃ t ∈ O, t <+: s := by
  have key : ∀ n (s : Str), s.length ≤ n → s ∈ l → ∃ t ∈ O, t <+: s := by
    intro n
    induction n with
    | zero =>
      intro s hs hl
      refine ⟨s, (h.all s).2 ⟨hl, ?_⟩, List.prefix_refl _⟩
      unfold cvd
      rw [Nat.le_zero.1 hs]; rfl
    | succ n ih =>
      intro s hs hl
      cases hc : cvd l s with
      | false => exact ⟨s, (h.all s).2 ⟨hl, hc⟩, List.prefix_refl _⟩
      | true =>
        obtain ⟨q, hq, hp, hne⟩ := cvd_iff.1 hc
        have hlt : q.length < s.length := by
          refine Nat.lt_of_le_of_ne hp.length_le fun e => hne ?_
          obtain ⟨r, rfl⟩ := hp
          have : r = [] := by cases r with
            | nil => rfl
            | cons _ _ => simp at e
          rw [this, List.append_nil]
        obtain ⟨t, ht, htp⟩ := ih q (by omega) hq
        exact ⟨t, ht, htp.trans hp⟩
  exact fun s hs => key s.length s (Nat.le_refl _) hs

/-- A list on the way to the smallest one. -/
structure Gd (l L : List Str) : Prop where
  sorted : L.Pairwise (· < ·)
  anti : Anti L
  short : Short L
  eqv : Eqv l L
  len : L.length ≤ l.length

theorem Gd.start {l O : List Str} (h : UI l O l.length) (hs : Short l) : Gd l O :=
  ⟨h.sorted, h.anti, fun x hx => hs x ((h.all x).1 hx).1, eqv_uncovered (fun x hx => ((h.all x).1 hx).1) h.base, nodup_le h.nodup fun x hx => ((h.all x).1 hx).1⟩

theorem Gd.next {l L O : List Str} {p : Str} (h : Gd l L) (hp : ∀ y ∈ exts p, y ∈ L) (hu : UI ([p] ++ L) O ([p] ++ L).length) : Gd l O ∧ O.length < L.length := by
  have h0 : p ++ [48] ∈ exts p := mem_exts.2 ⟨48, rfl, rfl⟩
  have hpd : digits p ∧ p.length ≤ 14 := by
    obtain ⟨a, b⟩ := h.short _ (hp _ h0)
    exact ⟨digits_pre a (List.prefix_append _ _), by have := exts_len h0; omega⟩
  have hs : Short ([p] ++ L) := fun x hx => by
    rcases List.mem_append.1 hx with hx | hx
    · simp at hx; subst hx; exact hpd
    · exact h.short x hx
  have hm : ∀ x, x ∈ O ↔ x ∈ [p] ++ L ∧ cvd ([p] ++ L) x = false := hu.all
  have hn : L.Nodup := h.sorted.imp fun {a b} hab e => by subst e; exact List.lt_irrefl _ hab
  have hsub : ∀ x ∈ O, x ∈ p :: strike (exts p) L := fun x hx => by
    obtain ⟨h1, h2⟩ := (hm x).1 hx
    rcases List.mem_append.1 h1 with h1 | h1
    · simp at h1; subst h1; simp
    · refine List.mem_cons_of_mem _ ((mem_strike _ hn x).2 ⟨h1, fun he => ?_⟩)
      obtain ⟨d, _, rfl⟩ := mem_exts.1 he
      rw [cvd_iff.2 ⟨p, by simp, List.prefix_append _ _, by simp⟩] at h2
      cases h2
  have hl := nodup_le hu.nodup hsub
  have hst := strike_len (exts p) hn (exts_nodup p) hp
  rw [exts_ten] at hst
  rw [List.length_cons] at hl
  have hlt : O.length < L.length := by omega
  refine ⟨⟨hu.sorted, hu.anti, fun x hx => hs x ((hm x).1 hx).1, h.eqv.trans ((Eqv.of (fun x hx => Full.mem (List.mem_append_right _ hx)) (fun x hx => ?_)).trans (eqv_uncovered (fun x hx => ((hm x).1 hx).1) hu.base)), by have := h.len; omega⟩, hlt⟩
  rcases List.mem_append.1 hx with hx | hx
  · simp at hx; subst hx; exact .join fun y hy => Full.mem (hp y hy)
  · exact Full.mem hx
end Dg

theorem ownS_lit (w : World) (p : Str) : OwnS (w.alloc (.cells #[str p] 9)) w.heap.size (.slice (some ⟨w.heap.size, 0, none⟩) 1 1) [p] := by
  have h := World.ownsRow_lit (e := 9) (size := 1) w #[str p] 1 (Nat.le_refl _) (by simp [maxLen]) (by simp)
  simpa [OwnS] using h

/-- The length of a slice. -/
def sln : Value → Nat
  | .slice _ n _ => n
  | _ => 0
theorem OwnS.form {w : World} {base : Nat} {v : Value} {l : List Str} (h : OwnS w base v l) : ∃ A cap, v = .slice A l.length cap := (h.sl (m := l.foldr (fun x n => max x.length n) 0) (fun x hx => by
  induction l with
  | nil => simp at hx
  | cons a l ih =>
    rw [List.foldr_cons]
    rcases List.mem_cons.1 hx with rfl | hx
    · exact Nat.le_max_left _ _
    · have : ∀ (l : List Str) (x : Str), x ∈ l → x.length ≤ l.foldr (fun x n => max x.length n) 0 := by
        intro l
        induction l with
        | nil => intro x hx; simp at hx
        | cons a l ih2 =>
          intro x hx
          rw [List.foldr_cons]
          rcases List.mem_cons.1 hx with rfl | hx
          · exact Nat.le_max_left _ _
          · exact Nat.le_trans (ih2 x hx) (Nat.le_max_right _ _)
      exact Nat.le_trans (this l x hx) (Nat.le_max_right _ _))).form

set_option maxRecDepth 100000 in
set_option maxHeartbeats 4000000 in
theorem rminimal_any (v : Value) (l : List Str) (w : World) (hv : Sl w w.heap.size 100 v l) (hl : l.length ≤ 100) :
    Calls Try.prog 22 #[v] w fun e w' => Below w.heap.size w w' ∧
      ((bad l = true ∧ e = .returned (.tuple #[.slice none 0 0, .int .i64 60])) ∨ (bad l = false ∧ ∃ (u : Value) (m : List Str), e = .returned (.tuple #[u, .int .i64 0]) ∧ Red l m ∧ Sl w' w'.heap.size 14 u m)) := by
  obtain ⟨A, cap, rfl⟩ := hv.form
  go_enter Try.func22, Try.ntmps22
  go_wp2_with fail
  go_loopw [4] (fun vi wr => ∃ i : Nat, vi = .int .i64 (i : Int) ∧ i ≤ l.length ∧ wr = w ∧ (∀ x ∈ l.take i, num 0 14 x = true))
    (fun vi wr => ixn l.length vi)
  case atStart => exact ⟨0, rfl, Nat.zero_le _, rfl, fun x hx => by simp at hx⟩
  case round =>
    obtain ⟨i, rfl, hi, rfl, ht⟩ := hrel
    have HT := Lib.hid ht
    clear ht
    by_cases hlt : i < l.length
    · obtain ⟨x, hx, hxs, hxl⟩ := hv.at_ hlt
      have ho := only_any x 0 14 wr (by omega) (by omega) (by simp only [maxLen]; omega)
      have HX := Lib.hid hx
      unfold str at ho
      clear hx
      cases hq : num 0 14 x
      · rw [hq] at ho
        have HBAD : Hid (bad l = true) := Lib.hid (by
          unfold bad
          rw [Bool.not_eq_true', List.all_eq_false]
          exact ⟨x, List.mem_of_getElem? HX.out, by rw [hq]; simp⟩)
        clear hq
        go_wp2_with (refine wp_atg 28 9 Try.underlying28 size_strM (.tmp 18) (.tmp 19) rfl rfl rfl hv.1 .i64 _ i (str x) rfl rfl hxs ?_; intro ad had hcad; unfold str at hcad; go_frame)
        refine ho.mono ?_
        rintro e w' ⟨rfl, rfl⟩
        go_wp2_with fail
        go_ret2
        exact ⟨Below.refl _ _, Or.inl ⟨HBAD.out, rfl⟩⟩
      · rw [hq] at ho
        have HN : Hid (∀ y ∈ l.take (i + 1), num 0 14 y = true) := Lib.hid fun y hy => by
          rw [List.take_add_one, HX.out] at hy
          rcases List.mem_append.1 hy with hy | hy
          · exact HT.out y hy
          · simp at hy; subst hy; exact hq
        clear hq
        go_wp2_with (refine wp_atg 28 9 Try.underlying28 size_strM (.tmp 18) (.tmp 19) rfl rfl rfl hv.1 .i64 _ i (str x) rfl rfl hxs ?_; intro ad had hcad; unfold str at hcad; go_frame)
        refine ho.mono ?_
        rintro e w' ⟨rfl, rfl⟩
        go_wp2_with fail
        go_roundw
        case measure => show l.length - ((i : Int) + 1).toNat < l.length - ((i : Int)).toNat; omega
        case rel => exact ⟨i + 1, by simp, by omega, by first | trivial | rfl, HN.out⟩
    · have HBAD : Hid (bad l = false) := Lib.hid (by
        unfold bad
        rw [Bool.not_eq_false', List.all_eq_true]
        have := HT.out
        rwa [List.take_of_length_le (by omega)] at this)
      have hun := uncovered_any (.slice A l.length cap) l wr hv (by omega)
      go_wp2_with fail
      refine hun.mono ?_
      clear hun
      rintro e w1 ⟨u1, O1, rfl, o1, ui, b1⟩
      have hg := Gd.start ui (short_of HBAD.out)
      obtain ⟨base, hbase⟩ : ∃ base, wr.heap.size = base := ⟨_, rfl⟩
      have HBA := Lib.hid hbase
      rw [hbase] at o1 b1
      clear ui hv
      go_wp2_with fail
      go_loopw [5] (fun vl wx => ∃ L : List Str, OwnS wx base vl L ∧ Gd l L ∧ Below base wr wx)
        (fun vl wx => sln vl)
      case atStart => exact ⟨O1, o1, hg, b1⟩
      case round =>
        clear o1 hg b1
        obtain ⟨L, hO, hgd, hB⟩ := hrel
        have HG := Lib.hid hgd
        have hLl : L.length ≤ 100 := by have := hgd.len; omega
        have hLs : ∀ x ∈ L, x.length ≤ 14 := fun x hx => (hgd.short x hx).2
        have HLS := Lib.hid hLs
        have hfu := full_any u5 L _ ((hO.sl hLs).wider (by omega)) (by omega)
        obtain ⟨A5, c5, hf5⟩ := hO.form
        subst hf5
        have hbr : base ≤ wr.heap.size := by have := hB.size; have := HBA.out; omega
        clear hgd hLs
        unfold str at hfu
        go_wp2_with fail
        refine hfu.mono ?_
        clear hfu
        rintro e w2 ⟨b2, ⟨p, hpl, rfl, hall⟩ | ⟨rfl, hnt⟩⟩
        · have HALL := Lib.hid hall
          have hO2 := hO.go b2
          have hB2 := hB.trans (b2.mono hbr)
          have hb2s := b2.size
          clear hall hO hB b2
          have ha : Below w2.heap.size w2 (w2.alloc (.cells #[str p] 9)) := (Below.refl _ _).alloc (Nat.le_refl _) _
          have hrow : Row (w2.alloc (.cells #[str p] 9)) w2.heap.size 1 L.length (.slice A5 L.length c5) (L.map str) := (Row.of_own hO2).carry ha (Nat.le_refl _)
          have hlit := ownS_lit w2 p
          have hsz : w2.heap.size ≤ (w2.alloc (.cells #[str p] 9)).heap.size := by simp
          have hln : ([p] : List Str).length + L.length ≤ 8000000000 := by simp; omega
          unfold str at ha hrow hlit hsz
          go_wp2_with (refine wp_appSs w2.heap.size (.tmp 36) (.tmp 37) rfl rfl (.slice (some ⟨w2.heap.size, 0, none⟩) 1 1) (.slice A5 L.length c5) [p] L (B := w2.heap.size) rfl rfl hlit hsz hrow hln ?_; intro v8 W3 o8 b8)
          have hps : ∀ x ∈ [p] ++ L, x.length ≤ 100 := fun x hx => by
            rcases List.mem_append.1 hx with hx | hx
            · simp at hx; subst hx; exact hpl
            · have := HLS.out x hx; omega
          have hun2 := uncovered_any v8 ([p] ++ L) W3 (o8.sl hps) (by simp; omega)
          have hB3 := hB2.trans ((ha.trans b8).mono (by omega))
          have hbs3 : base ≤ W3.heap.size := by have := b8.size; omega
          clear hrow hlit hsz hln hps b8 ha hB2 o8
          go_wp2_with fail
          refine hun2.mono ?_
          clear hun2
          rintro e w4 ⟨u4, O4, rfl, o4, ui4, b4⟩
          obtain ⟨hg4, hl4⟩ := HG.out.next HALL.out ui4
          obtain ⟨A4, c4, rfl⟩ := o4.form
          have HG4 := Lib.hid hg4
          clear ui4 hg4
          go_wp2_with fail
          go_roundw
          case measure => exact hl4
          case rel => exact ⟨O4, o4.up hbs3, HG4.out, hB3.trans (b4.mono hbs3)⟩
        · have hred : Red l L := ⟨HG.out.sorted, HG.out.anti, hnt, HG.out.short, HG.out.eqv, HG.out.len⟩
          have HRED := Lib.hid hred
          have hO2 := hO.go b2
          have hB2 := hB.trans (b2.mono hbr)
          clear hred hnt hO hB b2
          go_wp2_with fail
          go_ret2
          refine ⟨?_, Or.inr ⟨HBAD.out, _, L, rfl, HRED.out, hO2.sl HLS.out⟩⟩
          have := HBA.out
          rw [this]
          exact hB2

end Go.Proofs.Ytblgcefaikoejaa
