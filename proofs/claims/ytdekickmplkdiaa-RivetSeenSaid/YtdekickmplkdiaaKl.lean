/- Merged: Wa, Wb. -/
import Derived.Test.YtdekickmplkdiaaVp
import Derived.Test.YtdekickmplkdiaaSs

/- Pure facts: the least answers of Sticks and Pleat, the first best gap of Widen; fans like a fan have no error. -/
namespace Go.Proofs.Ytdekickmplkdiaa
open Go.RowKit

theorem least_of (p : Nat → Bool) (n : Nat) : ∃ k, k ≤ n ∧ (∀ j, j < k → p j = false) ∧ (k < n → p k = true) := by
  induction n with
  | zero => exact ⟨0, Nat.le_refl _, fun j h => absurd h (by omega), fun h => absurd h (by omega)⟩
  | succ n ih =>
    obtain ⟨k, h1, h2, h3⟩ := ih
    by_cases hk : k < n
    · exact ⟨k, by omega, h2, fun _ => h3 hk⟩
    · obtain rfl : k = n := by omega
      cases hp : p k
      · refine ⟨k + 1, Nat.le_refl _, fun j hj => ?_, fun h => absurd h (by omega)⟩
        rcases Nat.lt_or_ge j k with h | h
        · exact h2 j h
        · obtain rfl : j = k := by omega
          exact hp
      · exact ⟨k, by omega, h2, fun _ => hp⟩
theorem search_spec (p : Nat → Bool) (n : Nat) (hm : ∀ i j, i ≤ j → j < n → p i = true → p j = true) : searchL p n ≤ n ∧ (∀ j, j < searchL p n → p j = false) ∧ (searchL p n < n → p (searchL p n) = true) := by
  obtain ⟨k, h1, h2, h3⟩ := least_of p n
  rw [search_least p n k h1 h2 h3 hm]
  exact ⟨h1, h2, h3⟩
theorem gap_ok {f : Fan} (h : fanErr f = 0) : ∀ g ∈ f.gs, gapB g = true := by
  rw [fanErr_eq] at h
  split at h
  · omega
  split at h
  · omega
  split at h
  · omega
  rename_i h3
  intro g hg
  cases hq : gapB g
  · exact absurd (List.any_eq_true.2 ⟨g, hg, by rw [hq]; rfl⟩) h3
  · rfl
theorem err_like {f : Fan} (h : fanErr f = 0) (gs : List Gap) (hl : gs.length ≤ 40) (hg : ∀ g ∈ gs, gapB g = true) : fanErr ⟨f.a, f.b, f.c, f.d, gs⟩ = 0 := by
  rw [fanErr_eq] at h ⊢
  split at h
  · omega
  rename_i h1
  have h4 : gs.any (fun g => !gapB g) = false := by
    rw [List.any_eq_false]
    intro g hgm
    rw [hg g hgm]; decide
  rw [if_neg h1, if_neg (show ¬ 40 < gs.length by omega), show (gs.any fun g => !gapB g) = false from h4]
  rfl
theorem rep_err {f : Fan} (h : fanErr f = 0) (h0 : 0 < f.gs.length) {k : Nat} (hk : k ≤ 40) : fanErr (f.rep k) = 0 :=
  err_like h _ (by simpa using hk) fun g hg => by
    rw [List.eq_of_mem_replicate hg]
    exact gap_ok h _ (gap_getD_mem h0)
theorem gapB_mk {a b c d : Int} (h0 : 0 ≤ a) (h1 : a ≤ b) (h2 : b ≤ 1000) (h3 : 0 ≤ c) (h4 : c ≤ d) (h5 : d ≤ 500) : gapB ⟨a, b, c, d⟩ = true := by
  simp only [gapB, spanB, inB, Bool.and_eq_true]
  exact ⟨⟨⟨decide_eq_true (by omega), decide_eq_true (by omega)⟩, decide_eq_true (by omega)⟩, ⟨decide_eq_true (by omega), decide_eq_true (by omega)⟩, decide_eq_true (by omega)⟩
theorem pleat_err {f : Fan} (h : fanErr f = 0) {arc : Int} (h0 : 0 ≤ arc) (h1 : arc ≤ 1000) : fanErr (f.pleat arc) = 0 := by
  obtain ⟨hf, hg, hl⟩ := fanB_of h
  refine err_like h _ (by simpa using hl) fun g hq => ?_
  obtain ⟨y, hy, rfl⟩ := List.mem_map.1 hq
  have := hf.g y hy
  have := hg y hy
  exact gapB_mk h0 (Int.le_refl _) h1 (by omega) (by omega) (by omega)
theorem wide_err {f : Fan} (h : fanErr f = 0) {more : Int} (h0 : 0 ≤ more) (k : Nat) (hk : k < f.gs.length) (hr : (f.gs.getD k Gap.zero).lh + more ≤ 1000) : fanErr (f.wide k more) = 0 := by
  obtain ⟨hf, hg, hl⟩ := fanB_of h
  refine err_like h _ (by simpa using hl) fun g hq => ?_
  have m := gap_getD_mem hk
  rcases List.mem_or_eq_of_mem_set hq with h2 | rfl
  · exact gap_ok h g h2
  · have := hf.g _ m
    have := hg _ m
    exact gapB_mk (by omega) (by omega) hr (by omega) (by omega) (by omega)
theorem Fo.At.room2 {x : Fo} {w : World} (h : x.At w) {k : Nat} (hk : k < x.fan.gs.length) : (x.fan.gs.getD k Gap.zero).lh ≤ 539 := by
  obtain ⟨i, e⟩ := x.gsTo_mem _ _ (gap_getD_mem (gs := x.fan.gs) hk)
  rw [e]
  have q0 := h.by_bd i 0
  have q1 := h.by_bd i 1
  simp only [Fo.gap]
  omega
theorem stick_none {f : Fan} (h : fanErr f = 0) {d : Int} (hd : 0 ≤ d ∧ d ≤ 360) (h0 : f.gs.length = 0) : stickR f d = (0, 7) := by
  unfold stickR
  rw [if_pos h, within_inB', show inB d 0 360 = true from by simp [inB, hd.1, hd.2], if_pos rfl, if_pos h0]
theorem stick_some {f : Fan} (h : fanErr f = 0) {d : Int} (hd : 0 ≤ d ∧ d ≤ 360) (h0 : 0 < f.gs.length) :
    (stickR f d = (0, 7) ∧ degL false (f.rep 40) < d) ∨ ∃ k : Nat, k ≤ 40 ∧ stickR f d = ((k : Int) + 1, 0) ∧ d ≤ degL false (f.rep k) ∧ ∀ j, j < k → degL false (f.rep j) < d := by
  obtain ⟨s1, s2, s3⟩ := search_spec (stickP f d) 41 (fun i j hij _ hp => by
    have := rep_mono (fanB_of h).1 h0 hij
    simp only [stickP, decide_eq_true_eq] at hp ⊢
    omega)
  have hP : ∀ k, stickP f d k = decide (d ≤ degL false (f.rep k)) := fun _ => rfl
  unfold stickR stickL
  rw [if_pos h, within_inB', show inB d 0 360 = true from by simp [inB, hd.1, hd.2], if_pos rfl, if_neg (by omega)]
  generalize searchL (stickP f d) 41 = k at *
  by_cases hk : 40 < k
  · rw [if_pos hk]
    have := s2 40 hk
    rw [hP, decide_eq_false_iff_not] at this
    exact Or.inl ⟨rfl, by omega⟩
  · rw [if_neg hk]
    have := s3 (by omega)
    rw [hP, decide_eq_true_eq] at this
    refine Or.inr ⟨k, by omega, rfl, this, fun j hj => ?_⟩
    have := s2 j hj
    rw [hP, decide_eq_false_iff_not] at this
    omega
theorem pleat_some {f : Fan} (h : fanErr f = 0) {d : Int} (hd : 0 ≤ d ∧ d ≤ 360) :
    (pleatR f d = (0, 7) ∧ degL false (f.pleat 1000) < d) ∨ ∃ k : Nat, k ≤ 1000 ∧ pleatR f d = ((k : Int), 0) ∧ d ≤ degL false (f.pleat k) ∧ ∀ j : Nat, j < k → degL false (f.pleat j) < d := by
  have hP : ∀ k : Nat, pleatP f d k = decide (d ≤ degL false (f.pleat k)) := fun _ => rfl
  obtain ⟨s1, s2, s3⟩ := search_spec (pleatP f d) 1001 (fun i j hij _ hp => by
    have := pleat_mono (fanB_of h).1 hij
    simp only [hP, decide_eq_true_eq] at hp ⊢
    omega)
  unfold pleatR pleatL
  rw [if_pos h, within_inB', show inB d 0 360 = true from by simp [inB, hd.1, hd.2], if_pos rfl]
  generalize searchL (pleatP f d) 1001 = k at *
  by_cases hk : 1000 < k
  · rw [if_pos hk]
    have := s2 1000 hk
    rw [hP, decide_eq_false_iff_not] at this
    exact Or.inl ⟨rfl, by simpa using this⟩
  · rw [if_neg hk]
    have := s3 (by omega)
    rw [hP, decide_eq_true_eq] at this
    refine Or.inr ⟨k, by omega, rfl, this, fun j hj => ?_⟩
    have := s2 j hj
    rw [hP, decide_eq_false_iff_not] at this
    omega
theorem widen_none {f : Fan} (h : fanErr f = 0) {more : Int} (hd : 0 ≤ more ∧ more ≤ 1000) (h0 : f.gs.length = 0) : widenR f more = (0, 0, 7) := by
  unfold widenR
  rw [if_pos h, within_inB', show inB more 0 1000 = true from by simp [inB, hd.1, hd.2], if_pos rfl, if_pos h0]
theorem widenGo_best {f : Fan} (h : fanErr f = 0) {more : Int} (hd : 0 ≤ more ∧ more ≤ 1000) (m : Nat) (hm : m + 1 ≤ f.gs.length) :
    ∃ k, k < m + 1 ∧ widenGo f more (m + 1) = ((k : Int), degL false (f.wide k more)) ∧ ∀ j, j < m + 1 → degL false (f.wide j more) ≤ degL false (f.wide k more) ∧ (degL false (f.wide j more) = degL false (f.wide k more) → k ≤ j) := by
  induction m with
  | zero =>
    have b := (degL_bd (wide_B h hd.1 hd.2 0 (by omega)) false).1
    refine ⟨0, by omega, ?_, fun j hj => ?_⟩
    · exact if_pos (show (-1 : Int) < degL false (f.wide 0 more) by omega)
    · obtain rfl : j = 0 := by omega
      exact ⟨Int.le_refl _, fun _ => Nat.le_refl _⟩
  | succ m ih =>
    obtain ⟨k, hk, e, hb⟩ := ih (by omega)
    have hs : widenGo f more (m + 1 + 1) = if (widenGo f more (m + 1)).2 < degL false (f.wide (m + 1) more) then (((m + 1 : Nat) : Int), degL false (f.wide (m + 1) more)) else widenGo f more (m + 1) := rfl
    rw [hs, e]
    dsimp only
    by_cases hlt : degL false (f.wide k more) < degL false (f.wide (m + 1) more)
    · refine ⟨m + 1, by omega, by rw [if_pos hlt], fun j hj => ?_⟩
      rcases Nat.lt_or_ge j (m + 1) with hj2 | hj2
      · have := hb j hj2
        exact ⟨by omega, fun e => by omega⟩
      · obtain rfl : j = m + 1 := by omega
        exact ⟨Int.le_refl _, fun _ => Nat.le_refl _⟩
    · refine ⟨k, by omega, by rw [if_neg hlt], fun j hj => ?_⟩
      rcases Nat.lt_or_ge j (m + 1) with hj2 | hj2
      · exact hb j hj2
      · obtain rfl : j = m + 1 := by omega
        exact ⟨by omega, fun _ => by omega⟩
theorem widen_some {f : Fan} (h : fanErr f = 0) {more : Int} (hd : 0 ≤ more ∧ more ≤ 1000) (h0 : 0 < f.gs.length) :
    ∃ k, k < f.gs.length ∧ widenR f more = ((k : Int), degL false (f.wide k more), 0) ∧ ∀ j, j < f.gs.length → degL false (f.wide j more) ≤ degL false (f.wide k more) ∧ (degL false (f.wide j more) = degL false (f.wide k more) → k ≤ j) := by
  obtain ⟨m, hm⟩ : ∃ m, f.gs.length = m + 1 := ⟨f.gs.length - 1, by omega⟩
  obtain ⟨k, hk, e, hb⟩ := widenGo_best h hd m (by omega)
  refine ⟨k, by omega, ?_, fun j hj => hb j (by omega)⟩
  unfold widenR
  rw [if_pos h, within_inB', show inB more 0 1000 = true from by simp [inB, hd.1, hd.2], if_pos rfl, if_neg (by omega), hm, e]
end Go.Proofs.Ytdekickmplkdiaa

/- Walks: copied with its capacity; what the law of what is enough holds. -/
namespace Go.Proofs.Ytdekickmplkdiaa
open Go.RowKit

set_option maxRecDepth 100000 in
set_option maxHeartbeats 4000000 in
theorem copied_cap (f : Fan) (A : Option Addr) (n c : Nat) (w : World) (h : Gaps w A n f.gs) (hn : n ≤ 1000) :
    Calls Try.prog 49 #[.agg (fanA f A n c)] w (CapRes w f n) := by
  obtain ⟨i0, hi, hz0, hz1, hz2⟩ := info_parts Try.infoGap
  have E0 := Lib.hid (Env2.start w 26 26 (fanA f A n c) #[.int .i64 0, .int .i64 0, .int .i64 0, .int .i64 0, .slice none 0 0]).drewd
  have HG := Lib.hid h
  clear h
  have HE := Lib.hid (fun W a1 a2 (ho : OwnG w.heap.size W a1 n f.gs) (hc : n ≤ a2) (hb : Below w.heap.size w W) => show CapRes w f n (.returned (.agg (fanA f a1 n a2))) W from ⟨a1, a2, rfl, ho, hc, hb⟩)
  generalize CapRes w f n = RR at *
  obtain ⟨fa, fb, fc, fd, gs⟩ := f
  simp only [fanA] at *
  go_enter Try.func49, Try.ntmps49
  go_wp2_with fail
  refine wp_region_untl (S := SFan w (.int .i64 fa) (.int .i64 fb) (.int .i64 fc) (.int .i64 fd) (.slice A n c)) [9] (by kernel_rfl) (fan_get E0.out.p) (fun _ => ?_)
  generalize (((w.alloc (.cells #[.int .i64 fa, .int .i64 fb, .int .i64 fc, .int .i64 fd, .slice A n c] 26)).alloc (.cells #[.int .i64 0, .int .i64 0, .int .i64 0, .int .i64 0, .slice none 0 0] 26)).drew) = wd at *
  refine untlTake (i := 0) 3 (v := ?v1) rfl (by kernel_rfl) (by kernel_rfl) (by kernel_rfl) (by kernel_rfl) (by kernel_rfl) (by kernel_rfl) (fun _ _ _ h => h) (Or.inl ⟨by rfl, ?y1⟩) (by assumption) ?r1
  case y1 => (intro w hSw; obtain ⟨g0, g1, g2, g3, g4⟩ := hSw; go_simp; try with_reducible rfl)
  refine untlTake (i := 1) 4 (v := ?v2) rfl (by kernel_rfl) (by kernel_rfl) (by kernel_rfl) (by kernel_rfl) (by kernel_rfl) (by kernel_rfl) (fun _ _ _ h => h) (Or.inl ⟨by rfl, ?y2⟩) (by assumption) ?r2
  case y2 => (intro w hSw; obtain ⟨g0, g1, g2, g3, g4⟩ := hSw; go_simp; try with_reducible rfl)
  refine untlTake (i := 2) 5 (v := ?v3) rfl (by kernel_rfl) (by kernel_rfl) (by kernel_rfl) (by kernel_rfl) (by kernel_rfl) (by kernel_rfl) (fun _ _ _ h => h) (Or.inl ⟨by rfl, ?y3⟩) (by assumption) ?r3
  case y3 => (intro w hSw; obtain ⟨g0, g1, g2, g3, g4⟩ := hSw; go_simp; try with_reducible rfl)
  refine untlTake (i := 3) 6 (v := ?v4) rfl (by kernel_rfl) (by kernel_rfl) (by kernel_rfl) (by kernel_rfl) (by kernel_rfl) (by kernel_rfl) (fun _ _ _ h => h) (Or.inl ⟨by rfl, ?y4⟩) (by assumption) ?r4
  case y4 => (intro w hSw; obtain ⟨g0, g1, g2, g3, g4⟩ := hSw; go_simp; try with_reducible rfl)
  refine untlTake (i := 5) 8 (v := ?v5) rfl (by kernel_rfl) (by kernel_rfl) (by kernel_rfl) (by kernel_rfl) (by kernel_rfl) (by kernel_rfl) (fun _ _ _ h => h) (Or.inl ⟨by rfl, ?y5⟩) (by assumption) ?r5
  case y5 => (intro w hSw; obtain ⟨g0, g1, g2, g3, g4⟩ := hSw; go_simp; try with_reducible rfl)
  refine untlTake (i := 6) 9 (v := ?v6) rfl (by kernel_rfl) (by kernel_rfl) (by kernel_rfl) (by kernel_rfl) (by kernel_rfl) (by kernel_rfl) (fun _ _ _ h => h) (Or.inl ⟨by rfl, ?y6⟩) (by assumption) ?r6
  case y6 => (intro w hSw; obtain ⟨g0, g1, g2, g3, g4⟩ := hSw; go_simp; try with_reducible rfl)
  simp only [Act.put, List.setIfInBounds_toArray, List.set_cons_zero, List.set_cons_succ]
  refine untlStep (i := 4) (by kernel_rfl) rfl (fun K4 hK4 => ?_)
  go_simp
  have E1 := Lib.hid (E0.out.alloc (.cells #[] 42))
  refine hK4.out _ _ (.inr (fan_get E1.out.p)) ?_
  generalize hV1 : wd.alloc (.cells #[] 42) = V1 at *
  clear hV1
  refine untlStep (i := 7) (by kernel_rfl) rfl (fun K7 hK7 => ?_)
  refine step_append_copyC rfl (.tmp 7) (.tmp 9) 24 rfl i0 _ 32 Try.underlying24 hi hz0 hz1 hz2 rfl _ (by rfl) A n c (by rfl) _ (HG.out.below E1.out.bel) (by unfold maxLen; omega) (by omega) ?_
  intro a1 a2 V2 h1 h2
  have E2 := Lib.hid (E1.out.below h2)
  have O2 := Lib.hid h1.1
  have C2 := Lib.hid h1.2
  have HZ := Lib.hid E1.out.q.lt
  clear h1 h2
  have s2 : SFan w (.int .i64 fa) (.int .i64 fb) (.int .i64 fc) (.int .i64 fd) (.slice A n c) V2 := fan_get E2.out.p
  refine hK7.out _ _ (.inr s2) ?_
  refine untlTake (i := 8) 11 (v := ?v7) rfl (by kernel_rfl) (by kernel_rfl) (by kernel_rfl) (by kernel_rfl) (by kernel_rfl) (by kernel_rfl) (fun _ _ _ h => h) (Or.inl ⟨by rfl, ?y7⟩) (by assumption) ?r7
  case y7 => (intro w hSw; obtain ⟨g0, g1, g2, g3, g4⟩ := hSw; go_simp; try with_reducible rfl)
  refine untlStep (i := 9) (by kernel_rfl) rfl (fun K9 hK9 => ?_)
  rw [if_pos (by rfl)]
  refine wp_store_rowN rfl _ _ _ rfl _ _ rfl rfl _ _ E2.out.q (by kernel_rfl) rfl (ones5v _ _ _ _ _ _ _) ?_
  have O3 := Lib.hid (O2.out.rowT E2.out.q #[.int .i64 fa, .int .i64 fb, .int .i64 fc, .int .i64 fd, .slice a1 n a2])
  have Q3 := Lib.hid (E2.out.q.setRow #[.int .i64 fa, .int .i64 fb, .int .i64 fc, .int .i64 fd, .slice a1 n a2])
  have B3 := Lib.hid (below_setR E2.out.bel (g := w.heap.size + 1) (Nat.le_succ _) #[.int .i64 fa, .int .i64 fb, .int .i64 fc, .int .i64 fd, .slice a1 n a2])
  refine hK9.out _ _ (.inl (by decide)) ?_
  refine untlDone (by kernel_rfl) ?_ _
  go_wp2_with fail
  exact bodyPost_ret (results_c rfl _ _ _ (w.heap.size + 1) _ _ _ rfl Q3.out Try.underlying26 (by kernel_rfl)) rfl (HE.out _ _ _ (O3.out.less (by have := HZ.out; omega)) C2.out B3.out)

theorem span2_get {W : World} {s : Nat} {ty : TypeId} {x y : Value} (h : Blk W s ty #[x, y]) : W.cell? ⟨s, 0, none⟩ = some x ∧ W.cell? ⟨s, 1, none⟩ = some y := ⟨h.cell 0, h.cell 1⟩
/-- A fan that is being made, over a world that is held. -/
structure LK (v W : World) (t : Nat) (cs : Array Value) : Prop where
  bel : Below v.heap.size v W
  q : Blk W t 26 cs
  lt : v.heap.size ≤ t
section
variable {v W W' : World} {cs : Array Value} {t : Nat}
theorem LK.below (h : LK v W t cs) (hb : Below W.heap.size W W') : LK v W' t cs := ⟨below_then h.bel hb, blk_keep hb h.q, h.lt⟩
theorem LK.alloc (h : LK v W t cs) (o : Obj) : LK v (W.alloc o) t cs := h.below (below_self W o)
theorem LK.drewd (h : LK v W t cs) : LK v W.drew t cs := ⟨h.bel.drew, h.q, h.lt⟩
theorem LK.grown (h : LK v W t cs) {base n size : Nat} {e : TypeId} {u : Value} {xs : List Value} (ho : W.ownsRow base e size u n xs) (h1 : e ≠ 26) (hb : v.heap.size ≤ base) (hg : W.grownBy W' u.ownBlock) : LK v W' t cs :=
  ⟨h.bel.grown hg h.bel.size (fun k e => Nat.le_trans hb (ho.lt k e.symm.symm).1), h.q.grown hg (own_blk_ne ho h.q h1), h.lt⟩
theorem LK.setQ (h : LK v W t cs) (i : Nat) (u : Value) : LK v (W.setCell ⟨t, i, none⟩ u) t (cs.setIfInBounds i u) :=
  ⟨h.bel.setCell (p := ⟨t, i, none⟩) h.lt u, h.q.set_ i u, h.lt⟩
theorem LK.start (hb : Below v.heap.size v W) (cs : Array Value) : LK v (W.alloc (.cells cs 26)) W.heap.size cs := ⟨hb.alloc hb.size _, Blk.new W _ _ rfl, hb.size⟩
end
theorem PO.start {v W : World} {f : Fan} {A : Option Addr} {n c : Nat} (hO : OwnG v.heap.size W A n f.gs) (hb : Below v.heap.size v W) : PO v (W.alloc (.cells (fanA f A n c) 26)) f A n c W.heap.size f.gs :=
  ⟨Blk.new W _ _ rfl, hb.alloc hb.size _, hO.alloc _, fun h0 g e => by
    obtain ⟨g', e', _, hR⟩ := hO.2 h0
    rw [e] at e'
    simp only [Option.some.injEq, Addr.mk.injEq, and_true] at e'
    have := hR.lt
    omega⟩
theorem PO.row {v W : World} {f : Fan} {n c t r : Nat} {cur : List Gap} (h : PO v W f (some ⟨r, 0, none⟩) n c t cur) (h0 : 0 < n) : RB W r 42 (flatG cur) := by
  obtain ⟨g, e, _, hR⟩ := h.o.2 h0
  simp only [Option.some.injEq, Addr.mk.injEq, and_true] at e
  rw [e]; exact hR
theorem PO.put2 {w W : World} {f : Fan} {n c t g i : Nat} {cur cur' : List Gap} {u u' : Value} (h : PO w W f (some ⟨g, 0, none⟩) n c t cur) (h0 : 0 < n) (hj : i + 1 < (flatG cur).length) (he : ((flatG cur).set i u).set (i + 1) u' = flatG cur') (hl : cur'.length = n) :
    PO w ((W.setCell ⟨g, i, none⟩ u).setCell ⟨g, i + 1, none⟩ u') f (some ⟨g, 0, none⟩) n c t cur' := by
  obtain ⟨g', e, hg, hR⟩ := h.o.2 h0
  simp only [Option.some.injEq, Addr.mk.injEq, and_true] at e
  subst e
  have hne : t ≠ g := fun e => h.ne h0 g rfl e.symm
  have R2 := (hR.set (i := i) (by omega) u).set (i := i + 1) (by rw [List.length_set]; exact hj) u'
  rw [he] at R2
  have hG := R2.gaps
  rw [hl] at hG
  exact ⟨(h.bx.far (p := ⟨g, i, none⟩) hne u).far (p := ⟨g, i + 1, none⟩) hne u', (h.b.setCell (p := ⟨g, i, none⟩) hg u).setCell (p := ⟨g, i + 1, none⟩) hg u', ⟨hG, fun _ => ⟨g, rfl, hg, R2⟩⟩, h.ne⟩
/-- What is looked at while a gap of a fan is widened. -/
def S49 (t r i : Nat) (x y z : Value) (W : World) : Prop := W.cell? ⟨t, 4, none⟩ = some x ∧ W.cell? ⟨r, i, none⟩ = some y ∧ W.cell? ⟨r, i + 1, none⟩ = some z
/-- What is looked at while a gap of a fan is stored. -/
def S34 (t : Nat) (x : Value) (W : World) : Prop := W.cell? ⟨t, 4, none⟩ = some x ∧ True
end Go.Proofs.Ytdekickmplkdiaa
