/-
  Walks of package hdlc: bytes of a check sequence, special bytes, the table, the check sequence by the table.
-/
import Derived.Test.YtokjlcajcflhgaaByt
import Derived.Test.YtokjlcajcflhgaaFrm
import Derived.Test.YtokjlcajcflhgaaPlan
import Derived.Outline
import Derived.Deep.QuietTactic
import Derived.BigQuiet
namespace Go.Proofs.Ytokjlcajcflhgaa
open Go.RowKit
set_option linter.unusedVariables false
set_option linter.unusedSimpArgs false

theorem low_any (n : Nat) (w : World) (h : n < 65536) :
    Calls Try.prog 34 #[.int .u16 n] w fun e w' => e = .returned (.int .u8 ((n % 256 : Nat) : Int)) ∧ w = w' := by
  go_enter Try.func34, Try.ntmps34
  go_wp2
  go_ret
  exact ⟨rfl, rfl⟩

theorem low_to (n z : Nat) (w : World) (h : n < 65536) (hz : z = n % 256) :
    Calls Try.prog 34 #[.int .u16 n] w fun e w' => e = .returned (.int .u8 (z : Int)) ∧ w' = w := by
  subst hz
  exact (low_any n w h).mono fun _ _ ⟨h1, h2⟩ => ⟨h1, h2.symm⟩

theorem low_l (n z : Nat) (w : World) (h : n < 65536) (hz : z = n % 256) :
    Calls Try.prog 34 #[.int .u16 n] w fun e w' => e = .returned (.int .u8 (z : Int)) ∧ w = w' := by
  subst hz
  exact low_any n w h

theorem high_any (n : Nat) (w : World) (h : n < 65536) :
    Calls Try.prog 35 #[.int .u16 n] w fun e w' => e = .returned (.int .u8 ((n / 256 : Nat) : Int)) ∧ w = w' := by
  go_enter Try.func35, Try.ntmps35
  go_wp2
  go_ret
  exact ⟨rfl, rfl⟩

theorem toNat_ne {c : UInt8} {n : Nat} (hn : n < 256) (h : c ≠ b8 n) : ((c.toNat : Int) == (n : Int)) = false := by
  refine beq_eq_false_iff_ne.2 fun e => h ?_
  apply UInt8.toNat_inj.1
  rw [b8_toNat hn]; omega

theorem special_any (c : UInt8) (w : World) :
    Calls Try.prog 46 #[.int .u8 c.toNat] w fun e w' => e = .returned (.bool (spec c)) ∧ w = w' := by
  by_cases h1 : c = 126
  · subst h1
    go_enter Try.func46, Try.ntmps46
    go_wp2
    go_ret
    exact ⟨rfl, rfl⟩
  · by_cases h2 : c = 125
    · subst h2
      go_enter Try.func46, Try.ntmps46
      go_wp2
      go_ret
      exact ⟨rfl, rfl⟩
    · have hs : spec c = false := by unfold spec; simp [h1, h2]
      have E := Lib.hid hs
      have e1 : ((c.toNat : Int) == 126) = false := toNat_ne (n := 126) (by omega) h1
      have e2 : ((c.toNat : Int) == 125) = false := toNat_ne (n := 125) (by omega) h2
      clear hs h1 h2
      go_enter Try.func46, Try.ntmps46
      go_wp2
      go_ret
      exact ⟨by rw [E.out]; rfl, rfl⟩

def tabZ : Array Value := Array.replicate 256 (.int .u16 0)
theorem zero_table (w : World) : (zeroValue 66).run Try.prog w = .ok (.agg tabZ) w := by kernel_rfl

/-- The table in block b, its first k entries made. -/
def TabTo (w : World) (b k : Nat) : Prop :=
  (∀ j : Nat, j < 256 → w.cell? ⟨b, j, none⟩ = some (.int .u16 (if j < k then (stn 8 j : Int) else 0))) ∧ ∀ j : Nat, j < 256 → w.frozen? ⟨b, j, none⟩ = false

theorem TabTo.new (w : World) : TabTo (w.alloc (.cells tabZ 66)) w.heap.size 0 := by
  have h := heap_alloc_new w (.cells tabZ 66)
  refine ⟨fun j hj => ?_, fun j hj => ?_⟩
  · rw [cell_of_row _ _ j tabZ _ _ h]
    simp [tabZ, hj]
  · simp only [World.frozen?, h]
    simp

theorem TabTo.put {w : World} {b k : Nat} (h : TabTo w b k) (hk : k < 256) (y : Nat) (hy : y = stn 8 k) : TabTo (w.setCell ⟨b, k, none⟩ (.int .u16 y)) b (k + 1) := by
  subst hy
  refine ⟨fun j hj => ?_, fun j hj => ?_⟩
  · by_cases e : j = k
    · subst e
      rw [World.cell?_setCell_same _ _ _ (h.1 j hj), if_pos (by omega)]
    · have hne : (⟨b, k, none⟩ : Addr) ≠ ⟨b, j, none⟩ := by intro e2; injection e2 with _ e3 _; omega
      rw [World.cell?_setCell_other _ _ _ _ hne, h.1 j hj]
      by_cases hjk : j < k
      · rw [if_pos hjk, if_pos (by omega)]
      · rw [if_neg hjk, if_neg (by omega)]
  · rw [World.frozen?_setCell]; exact h.2 j hj

theorem bit_step (y : Nat) (hy : y < 65536) : bits BinOp.xor IntKind.u16 ((y : Int) / 2) (IntKind.u16.wrap (bits BinOp.and IntKind.u16 (y : Int) 1 * 33800)) = (st1 y : Int) := by
  have h1 : bits BinOp.and IntKind.u16 (y : Int) 1 = ((y % 2 : Nat) : Int) := by
    have h := u16_and_nat y 1 hy (by omega)
    rw [Nat.and_one_is_mod] at h
    exact h
  have h2 : IntKind.u16.wrap (((y % 2 : Nat) : Int) * 33800) = ((y % 2 * 33800 : Nat) : Int) := by
    rw [IntKind.wrap_u16]; omega
  have h3 : ((y : Int) / 2) = ((y / 2 : Nat) : Int) := by omega
  rw [h1, h2, h3, u16_xor_nat _ _ (by omega) (by omega)]
  rfl

set_option maxRecDepth 100000 in
set_option maxHeartbeats 400000 in
theorem newTable_any (w : World) :
    Calls Try.prog 27 #[] w fun e w' => e = .returned (.pointer (some ⟨w.heap.size, 0, none⟩)) ∧ TabTo w' w.heap.size 256 ∧ Below w.heap.size w w' := by
  have hz := zero_table
  go_enter Try.func27, Try.ntmps27
  go_wp2
  clear hz
  go_loopw [5] (fun i wr => ∃ k : Nat, i = .int .i64 k ∧ k ≤ 256 ∧ TabTo wr w.heap.size k ∧ Below w.heap.size w wr) (fun i _ => (256 - intOf i).toNat)
  case atStart => exact ⟨0, rfl, by omega, TabTo.new w, (Below.refl _ _).alloc (Nat.le_refl _) _⟩
  case round =>
    obtain ⟨k, rfl, hk, ht, hb⟩ := hrel
    by_cases hlt : k < 256
    · go_wp2
      go_loop [3, 10] (fun v i => ∃ (m y : Nat), i = .int .i64 m ∧ v = .int .u16 y ∧ m ≤ 8 ∧ y < 65536 ∧ stn (8 - m) y = stn 8 k) (fun _ i => (8 - intOf i).toNat)
      case atStart => exact ⟨0, k, rfl, rfl, by omega, by omega, rfl⟩
      case round =>
        obtain ⟨m, y, rfl, rfl, hm, hy, he⟩ := hrel
        have HE := Lib.hid he
        clear he
        by_cases hm8 : m < 8
        · go_wp2
          go_round
          case rel => exact ⟨m + 1, st1 y, by go_num, by rw [bit_step y hy], by omega, st1_lt hy, by rw [← HE.out, show 8 - m = (8 - (m + 1)) + 1 by omega]; rfl⟩
          case measure => simp [intOf]; omega
        · have HY : y = stn 8 k := by rw [← HE.out, show 8 - m = 0 by omega]; rfl
          have HY' := Lib.hid HY
          obtain ⟨u, hu⟩ : ∃ u, wr.cell? ⟨w.heap.size, k, none⟩ = some u := ⟨_, ht.1 k hlt⟩
          have hf := ht.2 k hlt
          clear HY
          go_wp2
          go_roundw
          case rel => exact ⟨k + 1, by go_num, by omega, ht.put hlt y HY'.out, hb.setCell (Nat.le_refl _) _⟩
          case measure => simp [intOf]; omega
    · have hk6 : k = 256 := by omega
      subst hk6
      go_wp2
      go_ret
      exact ⟨rfl, ht, hb⟩

/-- The whole table, read only. -/
def TabIs (w : World) (b : Nat) : Prop := ∀ j : Nat, j < 256 → w.cell? ⟨b, j, none⟩ = some (.int .u16 (stn 8 j))
theorem TabTo.is {w : World} {b : Nat} (h : TabTo w b 256) : TabIs w b := fun j hj => by rw [h.1 j hj, if_pos hj]
theorem TabIs.past {w w' : World} {b B : Nat} (h : TabIs w b) (hb : Below B w w') (hB : b < B) : TabIs w' b := fun j hj => (hb.cell (p := ⟨b, j, none⟩) hB).trans (h j hj)

theorem Bs.at_ {w : World} {B : Nat} {v : Value} {l : List UInt8} (h : Bs w B v l) (k : Nat) (c : UInt8) (hk : l[k]? = some c) : (u8s l)[k]? = some (.int .u8 (c.toNat : Int)) := by simp [u8s, hk, u8]
theorem Bs.drewN {w : World} {B : Nat} {v : Value} {l : List UInt8} (h : Bs w B v l) (m : Nat) : Bs (w.drewN m) B v l := by
  obtain ⟨A, cap, h1, h2, h3, h4, h5, h6⟩ := h
  exact ⟨A, cap, h1, h2, h3, h4, h5, fun a ha h0 => ⟨(h6 a ha h0).1, fun i u hu => by simpa using (h6 a ha h0).2 i u hu⟩⟩
theorem TabIs.drewN {w : World} {b : Nat} (h : TabIs w b) (m : Nat) : TabIs (w.drewN m) b := fun j hj => by simpa using h j hj

set_option maxRecDepth 100000 in
set_option maxHeartbeats 400000 in
theorem tabFcs_any (b : Nat) (v : Value) (l : List UInt8) (w : World) (B : Nat) (ht : TabIs w b) (hv : Bs w B v l) (hl : l.length ≤ 1000000000) :
    Calls Try.prog 37 #[.pointer (some ⟨b, 0, none⟩), v] w fun e w' => e = .returned (.int .u16 (fcsN l)) ∧ ∃ n, w' = w.drewN n := by
  obtain ⟨A, cap, rfl⟩ := hv.form
  go_enter Try.func37, Try.ntmps37
  go_wp2
  go_loopw [5, 10] (fun x i wr => ∃ (k m : Nat), i = .int .i64 k ∧ x = .int .u16 (crun 65535 (l.take k)) ∧ k ≤ l.length ∧ wr = w.drewN m) (fun _ i _ => (l.length - intOf i).toNat)
  case atStart => exact ⟨0, 0, rfl, rfl, by omega, rfl⟩
  case round =>
    obtain ⟨k, m, rfl, rfl, hk, hw⟩ := hrel
    have hvr : Bs wr B (.slice A l.length cap) l := by rw [hw]; exact hv.drewN m
    have htr : TabIs wr b := by rw [hw]; exact ht.drewN m
    have HW := Lib.hid hw
    clear hw
    have hr := crun_lt (l.take k) (v := 65535) (by omega)
    by_cases hlt : k < l.length
    · obtain ⟨c, hc⟩ : ∃ c, l[k]? = some c := ⟨_, List.getElem?_eq_getElem hlt⟩
      have hs := crun_take hc 65535
      have HS := Lib.hid hs
      obtain ⟨y, hy⟩ : ∃ y, y = crun 65535 (l.take k) := ⟨_, rfl⟩
      rw [← hy] at hr ⊢
      have HY := Lib.hid hy
      clear hs hy
      go_wp2_with (refine wp_at 22 5 Try.underlying22 size_u8 (.tmp 8) (.tmp 10) rfl rfl rfl hvr _ _ k _ rfl rfl (hvr.at_ k c hc) ?_; intro p hp hcell)
      obtain ⟨z, hz⟩ : ∃ z, z = y % 256 := ⟨_, rfl⟩
      obtain ⟨x, hx⟩ : ∃ x, x = z ^^^ c.toNat := ⟨_, rfl⟩
      obtain ⟨t, htt⟩ : ∃ t, t = stn 8 x := ⟨_, rfl⟩
      have hx8 : x < 256 := by rw [hx]; exact Nat.xor_lt_two_pow (n := 8) (by omega) c.toNat_lt
      have ht16 : t < 65536 := by rw [htt]; exact stn_lt 8 (by omega)
      have hbx : bits BinOp.xor IntKind.u8 (z : Int) (c.toNat : Int) = (x : Int) := by rw [hx]; exact u8_xor_nat _ _ (by omega) c.toNat_lt
      have hct : wr.cell? ⟨b, x, none⟩ = some (.int .u16 (t : Int)) := by rw [htt]; exact htr x hx8
      have hres : bits BinOp.xor IntKind.u16 ((y : Int) / 256) (t : Int) = ((byt y c.toNat : Nat) : Int) := by
        rw [byt_tab hr c.toNat_lt, ← hz, ← hx, ← htt]
        have e : (y : Int) / 256 = ((y / 256 : Nat) : Int) := by omega
        rw [e]; exact u16_xor_nat _ _ (by omega) ht16
      have hx0 : (0 : Int) ≤ (x : Int) := by omega
      have hx1 : (x : Int) < 256 := by omega
      have HZ := Lib.hid hz
      clear hz hx htt hcell
      go_quiet ((go_at_call 34; exact Calls.quiet_of_same (low_to y z _ hr HZ.out)))
      go_wp2
      go_roundw
      case rel => exact ⟨k + 1, _, by go_num, by rw [HS.out, ← HY.out], by omega, by rw [HW.out, World.drewN_drewN]⟩
      case measure => simp [intOf]; omega
    · have hkl : k = l.length := by omega
      have HE := Lib.hid (show l.take k = l by rw [hkl, List.take_length])
      clear hkl
      obtain ⟨y, hy⟩ : ∃ y, y = crun 65535 (l.take k) := ⟨_, rfl⟩
      rw [← hy] at hr ⊢
      have HY := Lib.hid hy
      clear hy
      go_wp2
      go_ret
      refine ⟨?_, _, HW.out⟩
      have hm : IntKind.u16.max = ((65535 : Nat) : Int) := by decide
      show Ending.returned (.int .u16 (bits BinOp.xor IntKind.u16 IntKind.u16.max (y : Int))) = _
      rw [hm, u16_xor_nat _ _ (by omega) hr, HY.out, HE.out]
      rfl

/-- 'x[:k]': the same address. -/
theorem wp_to {ops : Array Oper} {rest : List Oper} {o : Oper} {a : Act} {Q : Exit → Act → World → Prop} {w : World}
    (x hi : Operand) (ho : o.op = .slice 22 x none (some hi) none) (hgd : o.guard = none) {n : Nat} {A : Option Addr} {cap : Nat} (hx : a.eval x = .slice A n cap)
    (k : Nat) (q : IntKind) (I : Int) (hhi : a.eval hi = .int q I) (hI : I = (k : Int)) (hk : k ≤ n) (hn : n ≤ cap)
    (h : wpList Try.prog ops Q rest (a.put o.dst (.slice A k cap)) w) : wpList Try.prog ops Q (o :: rest) a w := by
  subst hI
  have ht := Try.underlying22
  have hel : Try.prog.elem 22 = 5 := by simp [Program.elem, ht]
  have ht' : Try.prog.underlying 22 = some (.slice (Try.prog.elem 22)) := by rw [hel]; exact ht
  obtain ⟨info, hin, hsz⟩ := Option.map_eq_some_iff.1 size_u8
  have hs : sliced A 0 k cap 1 = .slice A k cap := by
    have : A.map (fun y => y.add 0) = A := by cases A <;> simp [Addr.add]
    unfold sliced; simp [this]
  have hrun : (Instr.sliceAt 22 (.slice A n cap) none (some (.int q k)) none).run Try.prog w = .ok (.slice A k cap) w := by
    rw [run_sliceAt_slice (h := ht'), run_slice_h (ht := ht') (h0 := by omega) (h2 := by omega)]
    simp [hel, sizeOf, typeInfo, hin, hsz, Result.andThen, hs]
  refine wpList_plain hgd fun K hK => ?_
  unfold Oper.wp execOp
  simp only [ho, hx, hhi, Option.map_none, Option.map_some, Sem.run_bind, Sem.run_pure, Result.andThen_ok, hrun]
  exact hK _ _ h

theorem Bs.to {w : World} {B : Nat} {A : Option Addr} {cap : Nat} {p m : List UInt8} (h : Bs w B (.slice A (p ++ m).length cap) (p ++ m)) : Bs w B (.slice A p.length cap) p := by
  obtain ⟨A', cap', hv, h1, h2, h3, h4, h5⟩ := h
  injection hv with e1 _ e2
  subst e1 e2
  rw [List.length_append] at h1
  refine ⟨A, cap, rfl, by omega, h2, h3, by simp [u8s_length], fun a ha h0 => ⟨(h5 a ha (by rw [List.length_append]; omega)).1, fun i u hu => (h5 a ha (by rw [List.length_append]; omega)).2 i u ?_⟩⟩
  have hi := (List.getElem?_eq_some_iff.1 hu).1
  rw [u8s_append, List.getElem?_append_left hi]; exact hu

theorem quiet_add_same {P : Program} {f : FuncId} {args : Array Value} {w : World} {a n : Nat} {v : Value}
    (h : Calls P f args (w.drewN (a + n)) fun e w' => e = .returned v ∧ w' = w.drewN (a + n)) :
    Calls P f args (w.drewN (a + n)) fun e w'' => e = .returned v ∧ ∃ m, w'' = w.drewN (a + m) :=
  h.mono fun _ _ ⟨he, hm⟩ => ⟨he, n, hm⟩

theorem high_l (n z : Nat) (w : World) (h : n < 65536) (hz : z = n / 256) :
    Calls Try.prog 35 #[.int .u16 n] w fun e w' => e = .returned (.int .u8 (z : Int)) ∧ w = w' := by
  subst hz
  exact high_any n w h
theorem high_to (n z : Nat) (w : World) (h : n < 65536) (hz : z = n / 256) :
    Calls Try.prog 35 #[.int .u16 n] w fun e w' => e = .returned (.int .u8 (z : Int)) ∧ w' = w := by
  subst hz
  exact (high_any n w h).mono fun _ _ ⟨h1, h2⟩ => ⟨h1, h2.symm⟩

/-- '&x[i]' of a slice of one-cell elements at a known address. -/
theorem exec_ix (t e : TypeId) (ht : Try.prog.underlying t = some (.slice e)) (hz : (Try.prog.info? e).map (·.size) = some 1) {o : Oper} {a : Act} (w : World) {x y : Operand} (ho : o.op = .indexAddr t x y) {ad : Addr} {n cap : Nat} (hx : a.eval x = .slice (some ad) n cap)
    (k : IntKind) (I : Int) (i : Nat) (hy : a.eval y = .int k I) (hI : I = (i : Int)) (hi : i < n) {q : Addr} (hq : q = ad.add i) : (execOp a.eval o).run Try.prog w = .ok (.value (.pointer (some q))) w := by
  subst hI hq
  have hel : Try.prog.elem t = e := by simp [Program.elem, ht]
  have ht' : Try.prog.underlying t = some (.slice (Try.prog.elem t)) := by rw [hel]; exact ht
  obtain ⟨info, hin, hsz⟩ := Option.map_eq_some_iff.1 hz
  unfold execOp
  simp only [ho, hx, hy, Sem.run_bind, Sem.run_pure, run_indexAt_slice (h := ht'), hel, sizeOf, typeInfo, run_program, hin, hsz, Result.andThen_ok]
  rw [if_pos ⟨by omega, by omega⟩]
  simp [Sem.run_pure]

theorem cell_past {w w' : World} {p : Addr} {u : Value} (h : w.cell? p = some u) (hb : Below w.heap.size w w') : w'.cell? p = some u := by
  have hlt : p.block < w.heap.size := by
    refine Classical.byContradiction fun hn => ?_
    unfold World.cell? at h
    rw [Array.getElem?_eq_none (by omega)] at h
    simp at h
  exact (hb.cell hlt).trans h

set_option maxRecDepth 100000 in
set_option maxHeartbeats 400000 in
theorem payload_any (b : Nat) (A : Option Addr) (cap : Nat) (p : List UInt8) (c d : UInt8) (w : World) (B : Nat) (ht : TabIs w b) (hv : Bs w B (.slice A (p ++ [c, d]).length cap) (p ++ [c, d])) (hl : p.length ≤ 1000000) :
    Calls Try.prog 29 #[.pointer (some ⟨b, 0, none⟩), .slice A (p ++ [c, d]).length cap] w fun e w' => (∃ n, w' = w.drewN n) ∧
      (((c.toNat + 256 * d.toNat = fcsN p) ∧ e = .returned (.tuple #[.slice A p.length cap, .int .i64 0])) ∨ (¬ (c.toNat + 256 * d.toNat = fcsN p) ∧ e = .returned (.tuple #[.slice none 0 0, .int .i64 21]))) := by
  have hn := fcsN_lt p
  have hcap := Row.cap hv
  have hp := hv.to
  obtain ⟨f, hf⟩ : ∃ f, f = fcsN p := ⟨_, rfl⟩
  have hlen : (p ++ [c, d]).length = p.length + 2 := by simp
  have e1 := hv.at_ p.length c (by simp)
  have e2 := hv.at_ (p.length + 1) d (by simp [List.getElem?_append])
  obtain ⟨ad, rfl, hblk, hcells⟩ := Row.at_ (show Row w B 1 _ _ _ from hv) (by omega)
  rw [hlen] at hv hcap ⊢
  obtain ⟨q1, hq1⟩ : ∃ q, q = ad.add p.length := ⟨_, rfl⟩
  obtain ⟨q2, hq2⟩ : ∃ q, q = ad.add (p.length + 1) := ⟨_, rfl⟩
  have hc1 := hcells _ _ e1
  have hc2 := hcells _ _ e2
  rw [← hq1] at hc1
  rw [← hq2] at hc2
  have Q1 := Lib.hid hq1
  have Q2 := Lib.hid hq2
  clear hcells e1 e2 hq1 hq2
  obtain ⟨z, hz⟩ : ∃ z, z = f % 256 := ⟨_, rfl⟩
  obtain ⟨h, hh⟩ : ∃ h, h = f / 256 := ⟨_, rfl⟩
  have hcl := c.toNat_lt
  have hdl := d.toNat_lt
  have key : (c.toNat + 256 * d.toNat = fcsN p) ↔ (c.toNat = z ∧ d.toNat = h) := by rw [← hf]; omega
  have H := Lib.hid key
  have HZ := Lib.hid hz
  have HH := Lib.hid hh
  have HF := Lib.hid hf
  clear key hz hh hlen
  by_cases t1 : c.toNat = z
  · have b1 : ((c.toNat : Int) != (z : Int)) = false := by simp [t1]
    by_cases t2 : d.toNat = h
    · have b2 : ((d.toNat : Int) != (h : Int)) = false := by simp [t2]
      have H1 := Lib.hid (H.out.2 ⟨t1, t2⟩)
      rw [← hf] at hn
      clear t1 t2 hf
      go_enter Try.func29, Try.ntmps29
      go_wp2_with (refine wp_to (.tmp 12) (.tmp 13) rfl rfl rfl p.length _ _ rfl rfl ?_ hcap ?_; exact (by omega))
      refine (tabFcs_any b _ p _ B ht hp (by omega)).mono ?_
      rintro e w1 ⟨rfl, m1, hw1⟩
      have hc1' : w1.drew.cell? q1 = some (.int .u8 (c.toNat : Int)) := by rw [hw1]; simpa using hc1
      have hc2' : w1.drew.cell? q2 = some (.int .u8 (d.toNat : Int)) := by rw [hw1]; simpa using hc2
      have HW := Lib.hid (show w1.drew = w.drewN (m1 + 1) by rw [hw1]; rfl)
      clear hw1 hc1 hc2
      rw [← HF.out]
      go_wp2_with fail
      refine wp_region_plan ((0, true) :: (1, true) :: (2, true) :: (3, true) :: (4, true) :: (5, false) :: (6, true) :: (7, true) :: (8, true) :: (9, true) :: (10, true) :: (11, true) :: (12, true) :: (13, true) :: (14, false) :: (15, true) :: (16, true) :: []) (by kernel_rfl) (by kernel_rfl) (by kernel_rfl) rfl (fun _ _ h => h) ?_
      iterate 2 (first | refine plan_skip rfl rfl rfl rfl ?_ | (refine plan_take rfl rfl rfl rfl ?_; apply Exists.intro; refine ⟨fun w' hw' => ?_, ?_⟩; focus (go_wp2; exact ⟨rfl, rfl, rfl⟩)))
      refine plan_take rfl rfl rfl rfl ?_
      apply Exists.intro
      refine ⟨fun w' hw' => ?_, ?_⟩
      · refine wp_run rfl (exec_ix 22 5 Try.underlying22 size_u8 _ rfl rfl _ _ (p.length) rfl rfl (by omega) Q1.out) ?_
        exact ⟨rfl, rfl, rfl⟩
      refine plan_take rfl rfl rfl rfl ?_
      apply Exists.intro
      refine ⟨fun w' hw' => ?_, ?_⟩
      · have c := cell_past hc1' hw'
        go_wp2
        exact ⟨rfl, rfl, rfl⟩
      iterate 1 (first | refine plan_skip rfl rfl rfl rfl ?_ | (refine plan_take rfl rfl rfl rfl ?_; apply Exists.intro; refine ⟨fun w' hw' => ?_, ?_⟩; focus (go_wp2; exact ⟨rfl, rfl, rfl⟩)))
      refine plan_step rfl ?_
      go_wp2_with fail
      refine (low_to f z _ hn HZ.out).mono ?_
      rintro e w' ⟨rfl, rfl⟩
      go_wp2_with fail
      refine ⟨rfl, Below.refl _ _, ?_⟩
      iterate 2 (first | refine plan_skip rfl rfl rfl rfl ?_ | (refine plan_take rfl rfl rfl rfl ?_; apply Exists.intro; refine ⟨fun w' hw' => ?_, ?_⟩; focus (go_wp2; exact ⟨rfl, rfl, rfl⟩)))
      iterate 3 (first | refine plan_skip rfl rfl rfl rfl ?_ | (refine plan_take rfl rfl rfl rfl ?_; apply Exists.intro; refine ⟨fun w' hw' => ?_, ?_⟩; focus (go_wp2; exact ⟨rfl, rfl, rfl⟩)))
      refine plan_take rfl rfl rfl rfl ?_
      apply Exists.intro
      refine ⟨fun w' hw' => ?_, ?_⟩
      · refine wp_run rfl (exec_ix 22 5 Try.underlying22 size_u8 _ rfl rfl _ _ (p.length + 1) rfl (by push_cast; rfl) (by omega) Q2.out) ?_
        exact ⟨rfl, rfl, rfl⟩
      refine plan_take rfl rfl rfl rfl ?_
      apply Exists.intro
      refine ⟨fun w' hw' => ?_, ?_⟩
      · have c := cell_past hc2' hw'
        go_wp2
        exact ⟨rfl, rfl, rfl⟩
      iterate 1 (first | refine plan_skip rfl rfl rfl rfl ?_ | (refine plan_take rfl rfl rfl rfl ?_; apply Exists.intro; refine ⟨fun w' hw' => ?_, ?_⟩; focus (go_wp2; exact ⟨rfl, rfl, rfl⟩)))
      refine plan_step rfl ?_
      go_wp2_with fail
      refine (high_to f h _ hn HH.out).mono ?_
      rintro e w' ⟨rfl, rfl⟩
      go_wp2_with fail
      refine ⟨rfl, Below.refl _ _, ?_⟩
      iterate 2 (first | refine plan_skip rfl rfl rfl rfl ?_ | (refine plan_take rfl rfl rfl rfl ?_; apply Exists.intro; refine ⟨fun w' hw' => ?_, ?_⟩; focus (go_wp2; exact ⟨rfl, rfl, rfl⟩)))
      show Exit.then _ _ _ _ _
      go_wp2_with (refine wp_to (.tmp 33) (.tmp 34) rfl rfl rfl p.length _ _ rfl rfl ?_ hcap ?_; exact (by omega))
      go_ret2
      exact ⟨⟨_, HW.out⟩, Or.inl ⟨H1.out, rfl⟩⟩
    · have b2 : ((d.toNat : Int) != (h : Int)) = true := by simp; omega
      have H1 := Lib.hid (show ¬ (c.toNat + 256 * d.toNat = fcsN p) from fun k => t2 (H.out.1 k).2)
      rw [← hf] at hn
      clear t1 t2 hf
      go_enter Try.func29, Try.ntmps29
      go_wp2_with (refine wp_to (.tmp 12) (.tmp 13) rfl rfl rfl p.length _ _ rfl rfl ?_ hcap ?_; exact (by omega))
      refine (tabFcs_any b _ p _ B ht hp (by omega)).mono ?_
      rintro e w1 ⟨rfl, m1, hw1⟩
      have hc1' : w1.drew.cell? q1 = some (.int .u8 (c.toNat : Int)) := by rw [hw1]; simpa using hc1
      have hc2' : w1.drew.cell? q2 = some (.int .u8 (d.toNat : Int)) := by rw [hw1]; simpa using hc2
      have HW := Lib.hid (show w1.drew = w.drewN (m1 + 1) by rw [hw1]; rfl)
      clear hw1 hc1 hc2
      rw [← HF.out]
      go_wp2_with fail
      refine wp_region_plan ((0, true) :: (1, true) :: (2, true) :: (3, true) :: (4, true) :: (5, false) :: (6, true) :: (7, true) :: (8, true) :: (9, true) :: (10, true) :: (11, true) :: (12, true) :: (13, true) :: (14, false) :: (15, true) :: (16, true) :: []) (by kernel_rfl) (by kernel_rfl) (by kernel_rfl) rfl (fun _ _ h => h) ?_
      iterate 2 (first | refine plan_skip rfl rfl rfl rfl ?_ | (refine plan_take rfl rfl rfl rfl ?_; apply Exists.intro; refine ⟨fun w' hw' => ?_, ?_⟩; focus (go_wp2; exact ⟨rfl, rfl, rfl⟩)))
      refine plan_take rfl rfl rfl rfl ?_
      apply Exists.intro
      refine ⟨fun w' hw' => ?_, ?_⟩
      · refine wp_run rfl (exec_ix 22 5 Try.underlying22 size_u8 _ rfl rfl _ _ (p.length) rfl rfl (by omega) Q1.out) ?_
        exact ⟨rfl, rfl, rfl⟩
      refine plan_take rfl rfl rfl rfl ?_
      apply Exists.intro
      refine ⟨fun w' hw' => ?_, ?_⟩
      · have c := cell_past hc1' hw'
        go_wp2
        exact ⟨rfl, rfl, rfl⟩
      iterate 1 (first | refine plan_skip rfl rfl rfl rfl ?_ | (refine plan_take rfl rfl rfl rfl ?_; apply Exists.intro; refine ⟨fun w' hw' => ?_, ?_⟩; focus (go_wp2; exact ⟨rfl, rfl, rfl⟩)))
      refine plan_step rfl ?_
      go_wp2_with fail
      refine (low_to f z _ hn HZ.out).mono ?_
      rintro e w' ⟨rfl, rfl⟩
      go_wp2_with fail
      refine ⟨rfl, Below.refl _ _, ?_⟩
      iterate 2 (first | refine plan_skip rfl rfl rfl rfl ?_ | (refine plan_take rfl rfl rfl rfl ?_; apply Exists.intro; refine ⟨fun w' hw' => ?_, ?_⟩; focus (go_wp2; exact ⟨rfl, rfl, rfl⟩)))
      iterate 3 (first | refine plan_skip rfl rfl rfl rfl ?_ | (refine plan_take rfl rfl rfl rfl ?_; apply Exists.intro; refine ⟨fun w' hw' => ?_, ?_⟩; focus (go_wp2; exact ⟨rfl, rfl, rfl⟩)))
      refine plan_take rfl rfl rfl rfl ?_
      apply Exists.intro
      refine ⟨fun w' hw' => ?_, ?_⟩
      · refine wp_run rfl (exec_ix 22 5 Try.underlying22 size_u8 _ rfl rfl _ _ (p.length + 1) rfl (by push_cast; rfl) (by omega) Q2.out) ?_
        exact ⟨rfl, rfl, rfl⟩
      refine plan_take rfl rfl rfl rfl ?_
      apply Exists.intro
      refine ⟨fun w' hw' => ?_, ?_⟩
      · have c := cell_past hc2' hw'
        go_wp2
        exact ⟨rfl, rfl, rfl⟩
      iterate 1 (first | refine plan_skip rfl rfl rfl rfl ?_ | (refine plan_take rfl rfl rfl rfl ?_; apply Exists.intro; refine ⟨fun w' hw' => ?_, ?_⟩; focus (go_wp2; exact ⟨rfl, rfl, rfl⟩)))
      refine plan_step rfl ?_
      go_wp2_with fail
      refine (high_to f h _ hn HH.out).mono ?_
      rintro e w' ⟨rfl, rfl⟩
      go_wp2_with fail
      refine ⟨rfl, Below.refl _ _, ?_⟩
      iterate 2 (first | refine plan_skip rfl rfl rfl rfl ?_ | (refine plan_take rfl rfl rfl rfl ?_; apply Exists.intro; refine ⟨fun w' hw' => ?_, ?_⟩; focus (go_wp2; exact ⟨rfl, rfl, rfl⟩)))
      show Exit.then _ _ _ _ _
      go_wp2_with fail
      go_ret2
      exact ⟨⟨_, HW.out⟩, Or.inr ⟨H1.out, rfl⟩⟩
  · have b1 : ((c.toNat : Int) != (z : Int)) = true := by simp; omega
    have H1 := Lib.hid (show ¬ (c.toNat + 256 * d.toNat = fcsN p) from fun k => t1 (H.out.1 k).1)
    rw [← hf] at hn
    clear t1 hf
    go_enter Try.func29, Try.ntmps29
    go_wp2_with (refine wp_to (.tmp 12) (.tmp 13) rfl rfl rfl p.length _ _ rfl rfl ?_ hcap ?_; exact (by omega))
    refine (tabFcs_any b _ p _ B ht hp (by omega)).mono ?_
    rintro e w1 ⟨rfl, m1, hw1⟩
    have hc1' : w1.drew.cell? q1 = some (.int .u8 (c.toNat : Int)) := by rw [hw1]; simpa using hc1
    have hc2' : w1.drew.cell? q2 = some (.int .u8 (d.toNat : Int)) := by rw [hw1]; simpa using hc2
    have HW := Lib.hid (show w1.drew = w.drewN (m1 + 1) by rw [hw1]; rfl)
    clear hw1 hc1 hc2
    rw [← HF.out]
    go_wp2_with fail
    refine wp_region_plan ((0, true) :: (1, true) :: (2, true) :: (3, true) :: (4, true) :: (5, false) :: (6, true) :: (7, true) :: (8, true) :: (9, true) :: (10, true) :: (11, true) :: (12, true) :: (13, true) :: (14, false) :: (15, true) :: (16, true) :: []) (by kernel_rfl) (by kernel_rfl) (by kernel_rfl) rfl (fun _ _ h => h) ?_
    iterate 2 (first | refine plan_skip rfl rfl rfl rfl ?_ | (refine plan_take rfl rfl rfl rfl ?_; apply Exists.intro; refine ⟨fun w' hw' => ?_, ?_⟩; focus (go_wp2; exact ⟨rfl, rfl, rfl⟩)))
    refine plan_take rfl rfl rfl rfl ?_
    apply Exists.intro
    refine ⟨fun w' hw' => ?_, ?_⟩
    · refine wp_run rfl (exec_ix 22 5 Try.underlying22 size_u8 _ rfl rfl _ _ (p.length) rfl rfl (by omega) Q1.out) ?_
      exact ⟨rfl, rfl, rfl⟩
    refine plan_take rfl rfl rfl rfl ?_
    apply Exists.intro
    refine ⟨fun w' hw' => ?_, ?_⟩
    · have c := cell_past hc1' hw'
      go_wp2
      exact ⟨rfl, rfl, rfl⟩
    iterate 1 (first | refine plan_skip rfl rfl rfl rfl ?_ | (refine plan_take rfl rfl rfl rfl ?_; apply Exists.intro; refine ⟨fun w' hw' => ?_, ?_⟩; focus (go_wp2; exact ⟨rfl, rfl, rfl⟩)))
    refine plan_step rfl ?_
    go_wp2_with fail
    refine (low_to f z _ hn HZ.out).mono ?_
    rintro e w' ⟨rfl, rfl⟩
    go_wp2_with fail
    refine ⟨rfl, Below.refl _ _, ?_⟩
    iterate 2 (first | refine plan_skip rfl rfl rfl rfl ?_ | (refine plan_take rfl rfl rfl rfl ?_; apply Exists.intro; refine ⟨fun w' hw' => ?_, ?_⟩; focus (go_wp2; exact ⟨rfl, rfl, rfl⟩)))
    iterate 9 (first | refine plan_skip rfl rfl rfl rfl ?_ | (refine plan_take rfl rfl rfl rfl ?_; apply Exists.intro; refine ⟨fun w' hw' => ?_, ?_⟩; focus (go_wp2; exact ⟨rfl, rfl, rfl⟩)))
    show Exit.then _ _ _ _ _
    go_wp2_with fail
    go_ret2
    exact ⟨⟨_, HW.out⟩, Or.inr ⟨H1.out, rfl⟩⟩
end Go.Proofs.Ytokjlcajcflhgaa
