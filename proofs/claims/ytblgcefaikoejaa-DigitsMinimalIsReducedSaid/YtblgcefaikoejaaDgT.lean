/-
  The walk of Shorten.
-/
import Derived.Test.YtblgcefaikoejaaDgH
namespace Go.Proofs.Ytblgcefaikoejaa
open Go.RowKit Dg
attribute [local go_sem] Oper.semAt_some
set_option linter.unusedVariables false
set_option linter.unusedSimpArgs false

theorem size_str' : (Try.prog.info? 9).map (·.size) = some 1 := by kernel_rfl
theorem size_err : (Try.prog.info? 24).map (·.size) = some 1 := by kernel_rfl

theorem keepsFrom_below {B : Nat} {W W' : World} (h : Below W.heap.size W W') : KeepsFrom B W W' := ⟨h.size, fun k o _ hk _ => (h.block k (Array.getElem?_eq_some_iff.1 hk).1).trans hk⟩
theorem kpO_below {O : Nat → Prop} {W W' : World} (h : Below W.heap.size W W') (hO : ∀ k, O k → k < W.heap.size) : KpO O W W' := ⟨fun k s p hk => (h.block k (Array.getElem?_eq_some_iff.1 hk).1).trans hk, fun k hk => h.block k (hO k hk)⟩

theorem shorten_at {n c a : Str} {pre0 : List Str} {x : Str} (h : (pre0 ++ [x]) <+: cands n c a) (h1 : ∀ y ∈ pre0, norm y c a ≠ some n) (h2 : norm x c a = some n) : shorten n c a = some x := by
  obtain ⟨r, hr⟩ := h
  unfold shorten
  rw [← hr, List.append_assoc, List.find?_append]
  have : pre0.find? (fun s => norm s c a == some n) = none := by
    rw [List.find?_eq_none]
    intro y hy
    simpa using h1 y hy
  rw [this, List.cons_append, List.nil_append]
  simp [h2]

theorem shorten_miss {n c a : Str} (h1 : ∀ y ∈ cands n c a, norm y c a ≠ some n) : shorten n c a = none := by
  unfold shorten
  rw [List.find?_eq_none]
  intro y hy
  simpa using h1 y hy

theorem cands_len {n c a : Str} (hn : n.length ≤ 1000) {x : Str} (h : x ∈ cands n c a) : x.length ≤ 2000 := by
  unfold cands at h
  rcases List.mem_append.1 h with h | h
  · split at h
    · simp only [List.mem_singleton] at h; subst h; rw [List.length_drop]; omega
    · simp at h
  · rcases List.mem_append.1 h with h | h
    · split at h
      · simp only [List.mem_singleton] at h; subst h; simp only [List.length_cons, List.length_drop]; omega
      · simp at h
    · simp only [List.mem_singleton] at h; subst h; simp only [List.length_cons]; omega

theorem one_more {w0 w : World} {B : Nat} (hb : Below B w0 w) (hB : B ≤ w.heap.size) (t : TypeId) (u : Value) : Below B w0 (w.alloc (.cells #[u] t)) ∧ (w.alloc (.cells #[u] t)).heap.size = w.heap.size + 1 ∧ Blk (w.alloc (.cells #[u] t)) w.heap.size t [u] ∧ Below w.heap.size w (w.alloc (.cells #[u] t)) :=
  ⟨hb.alloc hB _, by simp, Blk.new w t [u], (Below.refl _ _).alloc (Nat.le_refl _) _⟩
theorem three (w : World) (t1 t2 t3 : TypeId) (u1 u2 u3 : Value) (w3 : World) (h : ((w.alloc (.cells #[u1] t1)).alloc (.cells #[u2] t2)).alloc (.cells #[u3] t3) = w3) :
    Below w.heap.size w w3 ∧ w3.heap.size = w.heap.size + 1 + 1 + 1 ∧ Blk w3 w.heap.size t1 [u1] ∧ Blk w3 (w.heap.size + 1) t2 [u2] ∧ Blk w3 (w.heap.size + 1 + 1) t3 [u3] := by
  obtain ⟨b1, s1, k1, c1⟩ := one_more (Below.refl w.heap.size w) (Nat.le_refl _) t1 u1
  obtain ⟨b2, s2, k2, c2⟩ := one_more b1 (by omega) t2 u2
  obtain ⟨b3, s3, k3, c3⟩ := one_more b2 (by omega) t3 u3
  subst h
  rw [s2, s1] at s3
  rw [s1] at k2
  rw [s2, s1] at k3
  refine ⟨b3, s3, (k1.past c2 (by omega)).past c3 (by omega), k2.past c3 (by omega), k3⟩
theorem five (w : World) (t1 t2 t3 t4 t5 : TypeId) (u1 u2 u3 u4 u5 : Value) (w5 : World) (h : ((((w.alloc (.cells #[u1] t1)).alloc (.cells #[u2] t2)).alloc (.cells #[u3] t3)).alloc (.cells #[u4] t4)).alloc (.cells #[u5] t5) = w5) :
    Below w.heap.size w w5 ∧ w5.heap.size = w.heap.size + 1 + 1 + 1 + 1 + 1 ∧ Blk w5 w.heap.size t1 [u1] ∧ Blk w5 (w.heap.size + 1) t2 [u2] ∧ Blk w5 (w.heap.size + 1 + 1) t3 [u3] ∧ Blk w5 (w.heap.size + 1 + 1 + 1) t4 [u4] ∧ Blk w5 (w.heap.size + 1 + 1 + 1 + 1) t5 [u5] := by
  obtain ⟨b3, s3, k1, k2, k3⟩ := three w t1 t2 t3 u1 u2 u3 _ rfl
  obtain ⟨b4, s4, k4, c4⟩ := one_more b3 (by omega) t4 u4
  obtain ⟨b5, s5, k5, c5⟩ := one_more b4 (by omega) t5 u5
  subst h
  rw [s4, s3] at s5
  rw [s3] at k4
  rw [s4, s3] at k5
  exact ⟨b5, s5, (k1.past c4 (by omega)).past c5 (by omega), (k2.past c4 (by omega)).past c5 (by omega), (k3.past c4 (by omega)).past c5 (by omega), k4.past c5 (by omega), k5⟩

set_option maxRecDepth 100000 in
set_option maxHeartbeats 1000000 in
theorem shorten_any (n c a : Str) (w : World) (hn : n.length ≤ 1000) (hc : c.length ≤ 1000) (ha : a.length ≤ 1000) :
    Calls Try.prog 16 #[str n, str c, str a] w fun e w' => e = .returned (resN (shorten n c a)) ∧ Below w.heap.size w w' := by
  obtain ⟨res, hres⟩ : ∃ res, shorten n c a = res := ⟨_, rfl⟩
  rw [hres]
  have HRES := Lib.hid hres
  clear hres
  refine (callsIn_wide (n := 6)).1 ?_
  refine callsIn_of_wp_marks Try.func16 rfl trivial ?_ rfl
  simp only [Try.ntmps16, List.size_toArray, List.length_cons, List.length_nil, Nat.reduceAdd, Nat.reduceSub, Array.replicate_succ, Array.replicate_zero, List.push_toArray, List.append_toArray, List.nil_append, List.cons_append]
  unfold str
  gi_wp2_with fail
  refine ⟨trivial, (callsIn_wide.2 (candidates_any n c a _)).mono ?_⟩
  rintro e w3 ⟨rfl, hw3⟩
  obtain ⟨w0, hw0⟩ : ∃ w0, ((((w.alloc (.cells #[.string ⟨n.toArray⟩] 9)).alloc (.cells #[.string ⟨c.toArray⟩] 9)).alloc (.cells #[.string ⟨a.toArray⟩] 9)).alloc (.cells #[.string ⟨#[]⟩] 9)).alloc (.cells #[.int .i64 0] 24) = w0 := ⟨_, rfl⟩
  obtain ⟨hb0, hs0, k1, k2, k3, k4, k5⟩ := five w 9 9 9 9 24 (str n) (str c) (str a) (str []) (.int .i64 0) w0 hw0
  rw [hw0] at hw3 ⊢
  clear hw0
  obtain ⟨hb3, hs3, j1, j2, j3⟩ := three w0 9 9 9 (str n) (str c) (str a) w3 hw3.symm
  have hb : Below w.heap.size w w3 := hb0.trans (hb3.mono (by omega))
  replace k1 := k1.past hb3 (by omega)
  replace k2 := k2.past hb3 (by omega)
  replace k3 := k3.past hb3 (by omega)
  replace k4 := k4.past hb3 (by omega)
  replace k5 := k5.past hb3 (by omega)
  have hS : w3.heap.size = w.heap.size + 1 + 1 + 1 + 1 + 1 + 1 + 1 + 1 := by omega
  obtain ⟨g, hg⟩ : ∃ g, w0.heap.size = g := ⟨_, rfl⟩
  rw [hg] at j1 j2 j3 hs0 ⊢
  have HS := Lib.hid hS
  have HS0 := Lib.hid hs0
  clear hw3 hb3 hb0 hs3 hs0 hS hg w0
  gi_wp2_with fail
  refine wpIn_rangeFunc_ownG rfl (by omega) (gf := 47) (lb := #[.pointer (some ⟨g, 0, none⟩), .pointer (some ⟨g + 1, 0, none⟩), .pointer (some ⟨g + 1 + 1, 0, none⟩)]) rfl trivial (enters_of Try.func47 (by kernel_rfl) rfl)
    (cand_stops g (g + 1) (g + 1 + 1) n c a w3 5 (by omega) j1 j2 j3 hn hc ha) kpO_t (kpO_b (fun k hk => by have := HS.out; have := HS0.out; omega)) (Below.refl _ _) (fun _ => rfl)
    (fun pre W => (Blk W w.heap.size 9 [str n] ∧ Blk W (w.heap.size + 1) 9 [str c] ∧ Blk W (w.heap.size + 1 + 1) 9 [str a] ∧ Blk W (w.heap.size + 1 + 1 + 1) 9 [str []] ∧ Blk W (w.heap.size + 1 + 1 + 1 + 1) 24 [.int .i64 0]) ∧ (∀ x ∈ pre, norm (clip x) c a ≠ some n) ∧ Below w.heap.size w W ∧ w3.heap.size ≤ W.heap.size)
    (fun j pre W => j = .ret ∧ ∃ pre0 x, pre = pre0 ++ [x] ∧ (∀ y ∈ pre0, norm (clip y) c a ≠ some n) ∧ norm (clip x) c a = some n ∧ Blk W (w.heap.size + 1 + 1 + 1) 9 [str (clip x)] ∧ Blk W (w.heap.size + 1 + 1 + 1 + 1) 24 [.int .i64 0] ∧ Below w.heap.size w W)
    (own_keep fun s W W' ⟨⟨h1, h2, h3, h4, h5⟩, h6, h7, h8⟩ hk => by
      have hS := HS.out
      exact ⟨⟨h1.keep hk (by omega), h2.keep hk (by omega), h3.keep hk (by omega), h4.keep hk (by omega), h5.keep hk (by omega)⟩, h6, h7.trans (hk.below (fun k hk => by omega) h7.size), Nat.le_trans h8 hk.size⟩)
    (fun j => own_keep fun s W W' ⟨h0, pre0, x, h1, h2, h3, h4, h5, h6⟩ hk => by
      have hS := HS.out
      exact ⟨h0, pre0, x, h1, h2, h3, h4.keep hk (by omega), h5.keep hk (by omega), h6.trans (hk.below (fun k hk => by omega) h6.size)⟩)
    ⟨⟨k1, k2, k3, k4, k5⟩, (fun x hx => absurd hx (by simp)), hb, Nat.le_refl _⟩
    (fun x => { tmps := #[.string ⟨n.toArray⟩, .string ⟨c.toArray⟩, .string ⟨a.toArray⟩, .pointer (some ⟨w.heap.size, 0, none⟩), .pointer (some ⟨w.heap.size + 1, 0, none⟩), .pointer (some ⟨w.heap.size + 1 + 1, 0, none⟩), .pointer (some ⟨w.heap.size + 1 + 1 + 1, 0, none⟩), .pointer (some ⟨w.heap.size + 1 + 1 + 1 + 1, 0, none⟩), str (clip x), undef, undef, .string ⟨n.toArray⟩, .string ⟨c.toArray⟩, .string ⟨a.toArray⟩, .func (.func 47) #[] #[.pointer (some ⟨g, 0, none⟩), .pointer (some ⟨g + 1, 0, none⟩), .pointer (some ⟨g + 1 + 1, 0, none⟩)], str (clip x), undef, undef, undef, undef, undef, undef, undef, undef, undef, undef, undef, undef, undef, undef, undef], defers := [] }) ?assign ?body ?done ?stop
  case assign =>
    intro l x W K hK
    gi_wp2_with fail
    exact hK
  case body =>
    rintro l pre x W ⟨⟨h1, h2, h3, h4, h5⟩, h6, h7, h8⟩ _
    have c2 := h2.cell (j := 0) rfl
    have c3 := h3.cell (j := 0) rfl
    have hyl : (clip x).length ≤ maxLen := by have := clip_len x; simp only [maxLen]; omega
    have hN := normalize_any (clip x) c a W hyl (by simp only [maxLen]; omega) (by simp only [maxLen]; omega)
    obtain ⟨y, hy⟩ : ∃ y, clip x = y := ⟨_, rfl⟩
    have HY := Lib.hid hy
    rw [hy] at hN ⊢
    obtain ⟨o, ho⟩ : ∃ o, norm y c a = o := ⟨_, rfl⟩
    have HO := Lib.hid ho
    rw [ho] at hN
    clear hy ho hyl
    have hS := HS.out
    have HH6 := Lib.hid h6
    clear h6
    cases o with
    | none =>
      rw [resN_none] at hN
      unfold str at hN c2 c3 ⊢
      gi_wp2_with fail
      refine ⟨trivial, CallsIn.inRound l ((callsIn_wide.2 hN).mono ?_)⟩
      rintro e W2 ⟨rfl, hb2⟩
      gi_wp2_with fail
      exact ⟨keepsFrom_below hb2, kpO_below hb2 (fun k hk => by have := HS0.out; omega), ⟨h1.past hb2 h1.lt, h2.past hb2 h2.lt, h3.past hb2 h3.lt, h4.past hb2 h4.lt, h5.past hb2 h5.lt⟩, fun z hz => by
        rcases List.mem_append.1 hz with hz | hz
        · exact HH6.out z hz
        · simp at hz; subst hz; rw [HY.out, HO.out]; simp, h7.trans (hb2.mono h7.size), Nat.le_trans h8 hb2.size⟩
    | some m =>
      rw [resN_some] at hN
      by_cases hm : m = n
      · subst hm
        unfold str at hN c2 c3 ⊢
        gi_wp2_with fail
        refine ⟨trivial, CallsIn.inRound l ((callsIn_wide.2 hN).mono ?_)⟩
        rintro e W2 ⟨rfl, hb2⟩
        have c1 := (h1.past hb2 h1.lt).cell (j := 0) rfl
        have h42 := h4.past hb2 h4.lt
        have h52 := h5.past hb2 h5.lt
        have h72 := h7.trans (hb2.mono h7.size)
        unfold str at c1
        gi_wp2_with (first
          | (refine wpi_storeC 9 (.tmp 6) (.tmp 30) rfl rfl (w.heap.size + 1 + 1 + 1) 0 rfl 9 [str []] (str y) rfl rfl rfl h42 (by simp) size_str' rfl ?_; intro w5 k5 kp5)
          | (refine wpi_storeC 24 (.tmp 7) (.const (.int .i64 0)) rfl rfl (w.heap.size + 1 + 1 + 1 + 1) 0 rfl 24 [.int .i64 0] (.int .i64 0) rfl rfl rfl (h52.keep kp5 (by omega)) (by simp) size_err rfl ?_; intro w6 k6 kp6))
        have h7' := (h72.trans (kp5.below (fun k hk => by omega) h72.size))
        refine ⟨⟨Nat.le_trans hb2.size (Nat.le_trans kp5.size kp6.size), fun k o hB hk _ => kp6.heap (by omega) (kp5.heap (by omega) ((hb2.block k (Array.getElem?_eq_some_iff.1 hk).1).trans hk))⟩, rfl, pre, x, rfl, HH6.out, by rw [HY.out, HO.out], ?_, k6, h7'.trans (kp6.below (fun k hk => by omega) h7'.size)⟩
        rw [HY.out]
        exact k5.keep kp6 (by omega)
      · have hmn : (m == n) = false := by simpa using hm
        unfold str at hN c2 c3 ⊢
        gi_wp2_with fail
        refine ⟨trivial, CallsIn.inRound l ((callsIn_wide.2 hN).mono ?_)⟩
        rintro e W2 ⟨rfl, hb2⟩
        have c1 := (h1.past hb2 h1.lt).cell (j := 0) rfl
        unfold str at c1
        gi_wp2_with fail
        exact ⟨keepsFrom_below hb2, kpO_below hb2 (fun k hk => by have := HS0.out; omega), ⟨h1.past hb2 h1.lt, h2.past hb2 h2.lt, h3.past hb2 h3.lt, h4.past hb2 h4.lt, h5.past hb2 h5.lt⟩, fun z hz => by
          rcases List.mem_append.1 hz with hz | hz
          · exact HH6.out z hz
          · simp at hz; subst hz; rw [HY.out, HO.out]; simpa using hm, h7.trans (hb2.mono h7.size), Nat.le_trans h8 hb2.size⟩
  case done =>
    rintro D xs W hD rfl ⟨⟨h1, h2, h3, h4, h5⟩, h6, h7, h8⟩ hKD
    have HA := Lib.hid (HRES.out.symm.trans (shorten_miss fun y hy => by have := h6 y hy; rwa [clip_id (cands_len hn hy)] at this))
    have hS := HS.out
    clear h6
    gi_wp2_with (first
      | (refine wpi_storeC 9 (.tmp 6) (.const (.string ⟨#[]⟩)) rfl rfl (w.heap.size + 1 + 1 + 1) 0 rfl 9 [str []] (str []) rfl rfl rfl h4 (by simp) size_str' rfl ?_; intro w5 k5 kp5)
      | (refine wpi_storeC 24 (.tmp 7) (.const (.int .i64 60)) rfl rfl (w.heap.size + 1 + 1 + 1 + 1) 0 rfl 24 [.int .i64 0] (.int .i64 60) rfl rfl rfl (h5.keep kp5 (by omega)) (by simp) size_err rfl ?_; intro w6 k6 kp6))
    have h7' := (h7.trans (kp5.below (fun k hk => by omega) h7.size))
    have h7'' := h7'.trans (kp6.below (fun k hk => by omega) h7'.size)
    have hd6 : w6.heap[D]? = some (.deferred (some [])) := kp6.heap (by omega) (kp5.heap (by omega) hKD)
    have k56 := k5.keep kp6 (by omega)
    rw [HA.out]
    have kd : Keep (fun k => k ≠ D) w6 (w6.putObj D (.deferred none)) := Keep.putObj _ _ _ (fun h => h rfl)
    have hDn : w.heap.size + 1 + 1 + 1 + 1 < D := by have := HS.out; omega
    have e2 : (w6.putObj D (.deferred none)).cell? ⟨w.heap.size + 1 + 1 + 1, 0, none⟩ = some (str []) := (k56.keep kd (by omega)).cell rfl
    have e3 : (w6.putObj D (.deferred none)).cell? ⟨w.heap.size + 1 + 1 + 1 + 1, 0, none⟩ = some (.int .i64 60) := (k6.keep kd (by omega)).cell rfl
    show LeavesInM _ _ _ _ _ _ _ _ _
    refine ⟨by simp, .inl ⟨_, _, rfl, run_takeDeferred hd6, ?_⟩⟩
    refine ⟨.tuple #[str [], .int .i64 60], ?_, ?_⟩
    · simp [results, Try.results16, go_sem, e2, e3]
    · exact ⟨rfl, h7''.trans (kd.below (fun k hk => by omega) (by have := h7''.size; omega))⟩
  case stop =>
    rintro D j pre W hD hP ⟨rfl, pre0, x, rfl, h1, h2, h3, h4, h5⟩ hKD
    have hxm : ∀ y ∈ pre0 ++ [x], clip y = y := fun y hy => clip_id (cands_len hn (hP.subset hy))
    have hx : clip x = x := hxm x (by simp)
    rw [hx] at h2 h3
    have HA := Lib.hid (HRES.out.symm.trans (shorten_at hP (fun y hy => by have := h1 y hy; rwa [hxm y (by simp [hy])] at this) h2))
    have hS := HS.out
    clear hxm hx h1 h2
    gi_wp2_with fail
    rw [HA.out]
    have kd : Keep (fun k => k ≠ D) W (W.putObj D (.deferred none)) := Keep.putObj _ _ _ (fun h => h rfl)
    have hDn : w.heap.size + 1 + 1 + 1 + 1 < D := by have := HS.out; omega
    have e2 : (W.putObj D (.deferred none)).cell? ⟨w.heap.size + 1 + 1 + 1, 0, none⟩ = some (str x) := (h3.keep kd (by omega)).cell rfl
    have e3 : (W.putObj D (.deferred none)).cell? ⟨w.heap.size + 1 + 1 + 1 + 1, 0, none⟩ = some (.int .i64 0) := (h4.keep kd (by omega)).cell rfl
    show LeavesInM _ _ _ _ _ _ _ _ _
    refine ⟨by simp, .inl ⟨_, _, rfl, run_takeDeferred hKD, ?_⟩⟩
    refine ⟨.tuple #[str x, .int .i64 0], ?_, ?_⟩
    · simp [results, Try.results16, go_sem, e2, e3]
    · exact ⟨rfl, h5.trans (kd.below (fun k hk => by omega) (by have := h5.size; omega))⟩

end Go.Proofs.Ytblgcefaikoejaa
