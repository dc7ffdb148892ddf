/-
  Package trie: path, as an iterator.
-/
import Derived.Test.YtippbkooaonajaaTtD
import Derived.Test.YtippbkooaonajaaRgv
import Derived.Test.YtippbkooaonajaaRin
namespace Go.Proofs.Ytippbkooaonajaa
open Go.RowKit Dg Tr
attribute [local go_sem] Oper.semAt_some
set_option linter.unusedVariables false
set_option linter.unusedSimpArgs false

theorem run_ofstr (l : List UInt8) (w : World) (hl : l.length ≤ maxLen) : ∃ cap w', (convert 9 60 (str l)).run Try.prog w = .ok (.slice (some ⟨w.heap.size, 0, none⟩) l.length cap) w' ∧
    Bs w' w'.heap.size (.slice (some ⟨w.heap.size, 0, none⟩) l.length cap) l ∧ Below w.heap.size w w' ∧ w'.heap.size = w.heap.size + 1 := by
  have hr := run_bytes_of_string (P := Try.prog) w 9 60 5 ⟨l.toArray⟩ Try.underlying9 Try.underlying60 Try.underlying5
  have hl2 : (ByteArray.mk l.toArray).size = l.length := by simp [ByteArray.size]
  refine ⟨_, _, (by unfold str; rw [← hl2]; exact hr), ?_, (((Below.refl _ _).drew).alloc (Nat.le_refl _) _), by simp⟩
  have hge := grownCap_ge w l.length 0 5
  have hle := grownCap_le_maxLen w l.length 0 5 hl
  refine ⟨some ⟨w.heap.size, 0, none⟩, _, rfl, by rw [hl2]; exact hge, by rw [hl2]; exact hle, (fun h => by cases h), by simp [u8s_length], fun a ha _ => ?_⟩
  obtain rfl : (⟨w.heap.size, 0, none⟩ : Addr) = a := by injection ha
  refine ⟨by simp, fun i u hu => ?_⟩
  have hadd : (⟨w.heap.size, 0, none⟩ : Addr).add i = ⟨w.heap.size, i, none⟩ := by unfold Addr.add; split <;> simp_all
  rw [hadd]
  have hblk := heap_alloc_new w.drew (.cells (bytesRow ⟨l.toArray⟩ (grownCap w l.length 0 5)) 5 ((bytesRow ⟨l.toArray⟩ (grownCap w l.length 0 5)).size, (bytesRow ⟨l.toArray⟩ (grownCap w l.length 0 5)).size + 1))
  have hi : i < l.length := by have := (List.getElem?_eq_some_iff.1 hu).1; rwa [u8s_length] at this
  unfold World.cell?
  have hb2 : (w.drew.heap.size) = w.heap.size := rfl
  rw [hb2] at hblk
  rw [hl2, hblk]
  simp only [Option.isSome_none, Bool.false_eq_true, if_false]
  rw [← hu]
  simp [bytesRow, u8s, u8, hi, Array.getElem?_append]

theorem Row.keepT {O T : Nat → Prop} {w w' : World} {B B' s n : Nat} {v : Value} {xs : List Value} (h : Row w B s n v xs) (hT : AtT T v) (hk : Keep O w w') (hO : ∀ b, T b → O b) (hB : B ≤ B') : Row w' B' s n v xs := by
  obtain ⟨A, cap, rfl, h1, h2, h3, h4, h5⟩ := h
  refine ⟨A, cap, rfl, h1, h2, h3, h4, fun a ha h0 => ?_⟩
  obtain ⟨hl, hc⟩ := h5 a ha h0
  refine ⟨by omega, fun i u hu => hk.cell ?_ (hc i u hu)⟩
  rw [add_block]
  subst ha
  exact hO _ (hT a _ _ rfl h0)

def arr2 (x : Nat × Nat) : Array Value := #[.int .i64 (x.1 : Int), .int .i64 (x.2 : Int)]
def pthA (F : List Int) (s : Str) : List (Array Value) := (pth F 0 0 s).map arr2
theorem pthA_get {F : List Int} {s : Str} (hs : ∀ b ∈ s, isD b = true) {i a : Nat} (hi : i ≤ s.length) (h : nod F 0 (s.take i) = some a) : (pthA F s)[i]? = some #[.int .i64 (a : Int), .int .i64 (i : Int)] := by
  unfold pthA
  rw [List.getElem?_map, pth_get i hs, if_pos hi, h]
  simp [arr2]
theorem pthA_len {F : List Int} {s : Str} (hs : ∀ b ∈ s, isD b = true) {i a : Nat} (hi : i ≤ s.length) (h : nod F 0 (s.take i) = some a) (he : i = s.length ∨ nod F 0 (s.take (i + 1)) = none) : (pthA F s).length = i + 1 := by
  have h1 : (pth F 0 0 s)[i]? = some (a, i) := by rw [pth_get i hs, if_pos hi, h]; simp
  have h2 : (pth F 0 0 s)[i + 1]? = none := by
    rw [pth_get (i + 1) hs]
    by_cases hc : i + 1 ≤ s.length
    · rw [if_pos hc, he.resolve_left (by omega)]; rfl
    · rw [if_neg hc]
  have h3 := (List.getElem?_eq_some_iff.1 h1).1
  have h4 := List.getElem?_eq_none_iff.1 h2
  unfold pthA
  rw [List.length_map]; omega

/-- What the iterators read: a trie in a box. T: the blocks that it lies in. -/
structure Rd (T : Nat → Prop) (gt n cap : Nat) (ad : Addr) (F : List Int) (w : World) : Prop where
  box : T gt
  row : T ad.block
  trie : w.cell? ⟨gt, 0, none⟩ = some (.slice (some ad) n cap)
  cells : ∀ i, i < n → ∀ j, j < 11 → w.cell? ((ad.add (i * 11)).add j) = some (.int .i64 (F.getD (11 * i + j) 0))
theorem Rd.keep {T O : Nat → Prop} {gt n cap : Nat} {ad : Addr} {F : List Int} {w w' : World} (h : Rd T gt n cap ad F w) (hk : Keep O w w') (hO : ∀ b, T b → O b) : Rd T gt n cap ad F w' :=
  ⟨h.box, h.row, hk.cell (p := ⟨gt, 0, none⟩) (hO _ h.box) h.trie, fun i hi j hj => hk.cell (by rw [add_block, add_block]; exact hO _ h.row) (h.cells i hi j hj)⟩

set_option maxRecDepth 100000 in
set_option maxHeartbeats 2000000 in
theorem path_gives (T : Nat → Prop) (gs gt n cap : Nat) (ad : Addr) (F : List Int) (E : Nat → Nat) (s : Str) (W : World) (hgs : T gs) (hcs : W.cell? ⟨gs, 0, none⟩ = some (str s)) (hR : Rd T gt n cap ad F W) (ht : Tree F n E) (hs : ∀ b ∈ s, isD b = true) (hl : s.length ≤ 1000) (hn : n ≤ 10000) (hTW : ∀ b, T b → b < W.heap.size) :
    GivesV Try.prog 51 #[.pointer (some ⟨gs, 0, none⟩), .pointer (some ⟨gt, 0, none⟩)] (pthA F s) T W := by
  intro l J Jx h1 h2 hx h3 M0 hJ0 hTM
  obtain ⟨bc, W1, hconv, hbs, hb1, hs1⟩ := run_ofstr s W (by simp only [maxLen]; omega)
  have HS := Lib.hid hs
  have HT := Lib.hid ht
  have hJ1 := h2 M0 0 W W1 hJ0 hb1
  have hR1 := hR.keep (Keep.of_below (O := fun _ => True) hb1) (fun _ _ => trivial)
  have hc1 : W1.cell? ⟨gs, 0, none⟩ = some (str s) := cell_past hcs hb1
  have hnM : ¬ M0 W.heap.size := fun h => by have := h1 M0 0 W hJ0 _ h; omega
  have hAT : AtT (fun b => ¬ M0 b) (.slice (some ⟨W.heap.size, 0, none⟩) s.length bc) := fun a n c e h0 => by
    injection e with e1 _ _
    injection e1 with e1
    rw [← e1]; exact hnM
  have HBS := Lib.hid hbs
  have HAT := Lib.hid hAT
  have HR1 := Lib.hid hR1
  have HC1 := Lib.hid hc1
  have HTM := Lib.hid hTM
  clear hs ht hbs hAT hR1 hb1 hR hJ0 hTM hc1
  refine callsIn_of_wp Try.func51 rfl trivial ?_ rfl
  simp only [Try.ntmps51, List.size_toArray, List.length_cons, List.length_nil, Nat.reduceAdd, Nat.reduceSub, Array.replicate_succ, Array.replicate_zero, List.push_toArray, List.append_toArray, List.nil_append, List.cons_append]
  gi_wp2_with fail
  clear hconv
  gi_loopw [10, 4] (fun vi va wr => ∃ (i a : Nat) (M : Nat → Prop), vi = .int .i64 (i : Int) ∧ va = .int .i64 (a : Int) ∧ i ≤ s.length ∧ Hid (nod F 0 (s.take i) = some a) ∧ J M i wr ∧ Hid (Bs wr wr.heap.size (.slice (some ⟨W.heap.size, 0, none⟩) s.length bc) s) ∧ ¬ M W.heap.size ∧ Hid (Rd T gt n cap ad F wr) ∧ Hid (wr.cell? ⟨gs, 0, none⟩ = some (str s)) ∧ Hid (∀ b, T b → ¬ M b) ∧ W.heap.size + 1 ≤ wr.heap.size) (fun vi va wr => ixn s.length vi)
  case atStart => exact ⟨0, 0, M0, rfl, rfl, Nat.zero_le _, Lib.hid rfl, hJ1, HBS, hnM, HR1, HC1, HTM, by omega⟩
  case round =>
    obtain ⟨i, a, M, rfl, rfl, hi', HN, hJr, HBr, hnMr, HRr, HCr, HTr, hsz⟩ := hrel
    clear hJ1 HBS HAT HR1 HC1 HTM hnM hs1
    have han : a < n := (nod_lt HT.out HT.out.pos HN.out).1
    have hit := pthA_get HS.out hi' HN.out
    obtain ⟨fn, tmps, assign, body, hy, hRd⟩ := h3 M i _ wr hJr hit
    have HIT := Lib.hid hit
    clear hit
    by_cases hlt : i < s.length
    · obtain ⟨x, hxx⟩ : ∃ x, s[i]? = some x := ⟨s[i], List.getElem?_eq_getElem hlt⟩
      have hdx : isD x = true := HS.out x (List.mem_of_getElem? hxx)
      have HX := Lib.hid hxx
      have HD := Lib.hid hdx
      have hu : (u8s s)[i]? = some (.int .u8 (x.toNat : Int)) := by simp [u8s, hxx, u8]
      have HU := Lib.hid hu
      clear hxx hdx hu
      gi_wp2_with (first | (refine wpi_at (.tmp 8) (.tmp 10) rfl rfl rfl HBr.out .i64 (i : Int) i _ rfl rfl HU.out ?_; intro pp hpp hpc))
      refine ⟨rfl, hRd.mono ?_⟩
      rintro e w3 (⟨rfl, M3, hJ3, hM3, hk3⟩ | ⟨rfl, hJx⟩)
      · have hs3 := hk3.size
        have HB3 : Hid (Bs w3 w3.heap.size (.slice (some ⟨W.heap.size, 0, none⟩) s.length bc) s) := Lib.hid (Bs.keepT HBr.out (T := fun b => b = W.heap.size) (fun a n c e h0 => by
          injection e with e1 _ _
          injection e1 with e1
          rw [← e1]) hk3 (fun b hb => by rw [hb]; exact hnMr) hs3)
        have hnM3 : ¬ M3 W.heap.size := fun h => (hM3 _ h).elim hnMr (fun h => by omega)
        have HR3 : Hid (Rd T gt n cap ad F w3) := Lib.hid (HRr.out.keep hk3 HTr.out)
        have HC3 : Hid (w3.cell? ⟨gs, 0, none⟩ = some (str s)) := Lib.hid (hk3.cell (p := ⟨gs, 0, none⟩) (HTr.out _ hgs) HCr.out)
        have HT3 : Hid (∀ b, T b → ¬ M3 b) := Lib.hid (fun b hb h => (hM3 b h).elim (HTr.out b hb) (fun h => by have := hTW b hb; omega))
        have hsz3 : W.heap.size + 1 ≤ w3.heap.size := by omega
        clear hy hRd hk3 hM3 HBr HRr HCr HTr hJr hnMr hs3 hpp hpc
        obtain ⟨z, hzk⟩ : ∃ z, kI F a (dg x) = z := ⟨_, rfl⟩
        obtain ⟨q, hqe⟩ : ∃ q, q = ad.add (a * 11) := ⟨_, rfl⟩
        have hdl := dg_lt HD.out
        have hdn := (isD_iff x).1 HD.out
        have hqz : w3.cell? (q.add (x.toNat - 48)) = some (.int .i64 z) := by rw [← hzk, hqe]; exact HR3.out.cells a han (dg x) (by omega)
        have hct : w3.cell? ⟨gt, 0, none⟩ = some (.slice (some ad) n cap) := HR3.out.trie
        have HQE := Lib.hid hqe
        have HZK := Lib.hid hzk
        clear hqe hzk
        have step : ∀ (R : Prop), (∀ hz0 : (z == 0) = true, R) → (∀ hz0 : (z == 0) = false, R) → R := fun R h1 h2 => by
          cases hc : (z == 0)
          · exact h2 hc
          · exact h1 hc
        refine step _ (fun hz0 => ?_) (fun hz0 => ?_)
        all_goals
          clear step
          gi_wp2_with (first | (refine wpi_run rfl (fun c hc => by cases hc) (by simp [Oper.about]) (exec_ixS 22 59 11 Try.underlying22 info_node _ rfl rfl .i64 (a : Int) a rfl rfl han HQE.out) ?_))
        · have hst := nod_stop HX.out HN.out (by rw [HZK.out]; exact eq_of_beq hz0)
          refine bodyPost_ret (results_none rfl _ _ _) rfl ?_
          exact ⟨⟨_, rfl⟩, Or.inl ⟨M3, by rw [pthA_len HS.out hi' HN.out (Or.inr hst)]; exact hJ3⟩⟩
        · have hne : kI F a (dg x) ≠ 0 := by rw [HZK.out]; exact ne_of_beq_false hz0
          go_roundw
          case measure => show s.length - ((i : Int) + 1).toNat < s.length - ((i : Int)).toNat; omega
          case rel => exact ⟨i + 1, kd F a (dg x), M3, by simp, by rw [← HZK.out, (HT.out.kid a (dg x) han hdl hne).2.2.1], by omega, Lib.hid (nod_next HX.out HN.out HD.out hne), hJ3, HB3, hnM3, HR3, HC3, HT3, hsz3⟩
      · gi_wp2_with fail
        refine bodyPost_ret (results_none rfl _ _ _) rfl ?_
        exact ⟨⟨_, rfl⟩, Or.inr hJx⟩
    · obtain rfl : i = s.length := by omega
      have hcs2 := HCr.out
      unfold str at hcs2
      have hz3 := str_size s
      gi_wp2_with fail
      refine ⟨rfl, hRd.mono ?_⟩
      rintro e w3 (⟨rfl, M3, hJ3, hM3, hk3⟩ | ⟨rfl, hJx⟩)
      · gi_wp2_with fail
        go_end0
        exact ⟨⟨_, rfl⟩, Or.inl ⟨M3, by rw [pthA_len HS.out (Nat.le_refl _) HN.out (Or.inl rfl)]; exact hJ3⟩⟩
      · gi_wp2_with fail
        go_end0
        exact ⟨⟨_, rfl⟩, Or.inr hJx⟩
end Go.Proofs.Ytippbkooaonajaa
