/- Walks: Alike, and an example of it. -/
import Derived.Test.YtllioljphpgfhaaGC
namespace Go.Proofs.Ytllioljphpgfhaa
open Go.RowKit

theorem within_cons (lo hi x : Int) (xs : List Int) : within lo hi (x :: xs) = true ↔ (lo ≤ x ∧ x ≤ hi) ∧ within lo hi xs = true := by
  simp [within, List.all_cons]
theorem within_mem {lo hi : Int} {xs : List Int} (h : within lo hi xs = true) : ∀ x ∈ xs, lo ≤ x ∧ x ≤ hi := fun x hx => by
  have := List.all_eq_true.1 h x hx
  simpa using this
theorem ok_of {g : Gd} (h : wrongB g = false) : g.Ok := by
  simp only [wrongB, Bool.or_eq_false_iff, Bool.not_eq_false'] at h
  have h1 := (within_cons _ _ _ _).1 h.1
  exact ⟨h1.1, within_mem h.2⟩
theorem gg_of {g : Gg} (h : ggOk g = true) : (0 ≤ g.sc ∧ g.sc ≤ 100) ∧ (0 ≤ g.ga ∧ g.ga ≤ 100) ∧ (0 ≤ g.wt ∧ g.wt ≤ 10000) ∧ (0 ≤ g.cu ∧ g.cu ≤ 500) := by
  simp only [ggOk, Bool.and_eq_true, within_cons] at h
  exact ⟨h.1.1, h.1.2.1, h.2.1.1, h.2.2.1⟩
theorem pair_ok {a b : Gd} {g : Gg} (h : guardsErr [a, b] g = 0) : a.Ok ∧ b.Ok ∧ a.n = b.n ∧ (1 ≤ a.n ∧ a.n ≤ 4) ∧ (0 ≤ g.sc ∧ g.sc ≤ 100) ∧ (0 ≤ g.ga ∧ g.ga ≤ 100) ∧ (0 ≤ g.wt ∧ g.wt ≤ 10000) ∧ (0 ≤ g.cu ∧ g.cu ≤ 500) := by
  unfold guardsErr at h
  split at h
  · omega
  rename_i h1
  split at h
  · omega
  rename_i h2
  split at h
  · omega
  rename_i h3
  simp only [List.any_cons, List.any_nil, Bool.or_false, Bool.or_eq_true, not_or, Bool.not_eq_true] at h1 h2
  simp only [Bool.not_eq_false] at h3
  obtain ⟨ha, hb⟩ := h1
  simp only [List.getD_cons_zero, oddB, Bool.or_eq_false_iff, Bool.not_eq_false', decide_eq_true_eq] at ha hb
  have q := (within_cons _ _ _ _).1 ha.2
  exact ⟨ok_of h2.1, ok_of h2.2, by omega, by omega, gg_of h3⟩
theorem guards_ok {a b : Gd} {g : Gg} (ha : a.Ok) (hb : b.Ok) (hn : a.n = b.n) (h1 : 1 ≤ a.n) (h4 : a.n ≤ 4) (hg : (0 ≤ g.sc ∧ g.sc ≤ 100) ∧ (0 ≤ g.ga ∧ g.ga ≤ 100) ∧ (0 ≤ g.wt ∧ g.wt ≤ 10000) ∧ (0 ≤ g.cu ∧ g.cu ≤ 500)) : guardsErr [a, b] g = 0 := by
  have w0 : ∀ lo hi : Int, within lo hi [] = true := fun _ _ => rfl
  have wx : ∀ {xs : List Int}, (∀ x ∈ xs, 0 ≤ x ∧ x ≤ 500) → within 0 500 xs = true := fun h => by
    unfold within
    rw [List.all_eq_true]
    intro x hx
    have := h x hx
    simp; omega
  have o1 : oddB a.n a = false := by
    simp only [oddB, Bool.or_eq_false_iff, Bool.not_eq_false', decide_eq_true_eq]
    exact ⟨trivial, (within_cons _ _ _ _).2 ⟨by omega, w0 _ _⟩⟩
  have o2 : oddB a.n b = false := by
    simp only [oddB, Bool.or_eq_false_iff, Bool.not_eq_false', decide_eq_true_eq]
    exact ⟨by omega, (within_cons _ _ _ _).2 ⟨by omega, w0 _ _⟩⟩
  have v1 : ∀ {g : Gd}, g.Ok → wrongB g = false := fun {g} h => by
    simp only [wrongB, Bool.or_eq_false_iff, Bool.not_eq_false']
    exact ⟨(within_cons _ _ _ _).2 ⟨h.1, w0 _ _⟩, wx h.2⟩
  have v3 : ggOk g = true := by
    simp only [ggOk, Bool.and_eq_true, within_cons]
    exact ⟨⟨hg.1, hg.2.1, w0 _ _⟩, ⟨hg.2.2.1, w0 _ _⟩, hg.2.2.2, w0 _ _⟩
  unfold guardsErr
  simp [o1, o2, v1 ha, v1 hb, v3]
/-- What Alike returns of two guards. -/
def alikeR (a b : Gd) (g : Gg) (er : Int) : Bool := if guardsErr [a, b] g = 0 then alikeB a b g er else false
def AlikeRes (w : World) (a b : Gd) (g : Gg) (e : Ending) (w' : World) : Prop := e = .returned (.tuple #[.bool (alikeR a b g (-2)), .bool (alikeR a b g 2), .int .i64 (guardsErr [a, b] g)]) ∧ Below w.heap.size w w'
theorem gds_two (w : World) (a b : Gd) (t : TypeId) {g : Nat} (hg : g = w.heap.size) (ha : a.At w) (hb : b.At w) : Gds (w.alloc (.cells #[.int .i64 a.w, .slice a.A a.n a.c, .int .i64 b.w, .slice b.A b.n b.c] t)) (some ⟨g, 0, none⟩) 2 [a, b] := by
  refine ⟨⟨rfl, fun _ => ⟨g, 0, rfl, by subst hg; simp, fun j u hu => ?_⟩⟩, fun g hg => ?_⟩
  · have hl : j < 4 := by have := (List.getElem?_eq_some_iff.1 hu).1; simpa [flatD_length] using this
    rw [(Blk.new w t #[.int .i64 a.w, .slice a.A a.n a.c, .int .i64 b.w, .slice b.A b.n b.c] hg).cell, ← hu]
    rcases (by omega : j = 0 ∨ j = 1 ∨ j = 2 ∨ j = 3) with rfl | rfl | rfl | rfl <;> rfl
  · simp only [List.mem_cons, List.not_mem_nil, or_false] at hg
    rcases hg with rfl | rfl
    · exact ha.below (below_self w _)
    · exact hb.below (below_self w _)
/-- The boxes of both guards and of the gauges. -/
structure E3 (w W : World) (c1 c2 c3 : Array Value) : Prop where
  p : Blk W w.heap.size 33 c1
  q : Blk W (w.heap.size + 1) 33 c2
  r : Blk W (w.heap.size + 2) 39 c3
  bel : Below w.heap.size w W
theorem E3.below {w W W' : World} {c1 c2 c3 : Array Value} (h : E3 w W c1 c2 c3) (hb : Below W.heap.size W W') : E3 w W' c1 c2 c3 := ⟨blk_keep hb h.p, blk_keep hb h.q, blk_keep hb h.r, below_then h.bel hb⟩
theorem E3.drewd {w W : World} {c1 c2 c3 : Array Value} (h : E3 w W c1 c2 c3) : E3 w W.drew c1 c2 c3 := ⟨h.p, h.q, h.r, h.bel.drew⟩
theorem E3.start (w : World) (c1 c2 c3 : Array Value) : E3 w (((w.alloc (.cells c1 33)).alloc (.cells c2 33)).alloc (.cells c3 39)) c1 c2 c3 :=
  ⟨((Blk.new w _ _ rfl).alloc _).alloc _, (Blk.new _ _ _ (by simp)).alloc _, Blk.new _ _ _ (by simp), below_alloc' (below_alloc' (below_self w _) _) _⟩
theorem E3.get {w W : World} {x y z t a b c d : Value} (h : E3 w W #[x, y] #[z, t] #[a, b, c, d]) : ((W.cell? ⟨w.heap.size, 0, none⟩ = some x ∧ W.cell? ⟨w.heap.size, 1, none⟩ = some y) ∧ W.cell? ⟨w.heap.size + 1, 0, none⟩ = some z ∧ W.cell? ⟨w.heap.size + 1, 1, none⟩ = some t) ∧ W.cell? ⟨w.heap.size + 2, 0, none⟩ = some a ∧ W.cell? ⟨w.heap.size + 2, 1, none⟩ = some b ∧ W.cell? ⟨w.heap.size + 2, 2, none⟩ = some c ∧ W.cell? ⟨w.heap.size + 2, 3, none⟩ = some d := ⟨⟨gd_get h.p, gd_get h.q⟩, gg_get h.r⟩

set_option maxRecDepth 100000 in
set_option maxHeartbeats 4000000 in
theorem Alike_any (a b : Gd) (g : Gg) (w : World) (ha : a.At w) (hb : b.At w) :
    Calls Try.prog 10 #[a.val, b.val, g.val] w (AlikeRes w a b g) := by
  have HAL := Lib.hid (fun (he : guardsErr [a, b] g = 0) er (h : er = -2 ∨ er = 2 ∨ er = -1) W (hw : Below w.heap.size w W) => alike_any a b g er W (ha.below hw) (hb.below hw) (Nat.le_of_eq (pair_ok he).2.2.1) (pair_ok he).1 (pair_ok he).2.1 (pair_ok he).2.2.2.2 h)
  have HGE := Lib.hid (fun W gg (hg : gg = W.heap.size) (hw : Below w.heap.size w W) => guardsError_any [a, b] g (some ⟨gg, 0, none⟩) 2 2 (W.alloc (.cells #[.int .i64 a.w, .slice a.A a.n a.c, .int .i64 b.w, .slice b.A b.n b.c] 33)) (gds_two W a b _ hg (ha.below hw) (hb.below hw)) (by decide))
  have E0 := Lib.hid (E3.start w #[.int .i64 a.w, .slice a.A a.n a.c] #[.int .i64 b.w, .slice b.A b.n b.c] #[.int .i64 g.sc, .int .i64 g.ga, .int .i64 g.wt, .int .i64 g.cu])
  have HR := Lib.hid (fun e w' => show AlikeRes w a b g e w' ↔ e = .returned (.tuple #[.bool (alikeR a b g (-2)), .bool (alikeR a b g 2), .int .i64 (guardsErr [a, b] g)]) ∧ Below w.heap.size w w' from Iff.rfl)
  have HR1 : Hid (∀ er, guardsErr [a, b] g = 0 → alikeR a b g er = alikeB a b g er) := fun er h => if_pos h
  have HR0 : Hid (∀ er, guardsErr [a, b] g ≠ 0 → alikeR a b g er = false) := fun er h => if_neg h
  clear ha hb
  generalize alikeR a b g = ar at *
  generalize guardsErr [a, b] g = E at *
  generalize hRR : AlikeRes w a b g = RR at *
  clear hRR
  generalize alikeB a b g = ab at *
  obtain ⟨aw, A, n, c, xs⟩ := a
  obtain ⟨bw, B, m, d, ys⟩ := b
  obtain ⟨sc, ga, wt, cu⟩ := g
  simp only [Gd.val, Gg.val] at *
  have e0 := E0.out.get
  go_enter Try.func10, Try.ntmps10
  go_wp2_with fail
  refine (HGE.out _ _ (by simp) E0.out.bel).mono ?_
  rintro e W1 ⟨rfl, b1⟩
  have E1 := Lib.hid (E0.out.below (below_then (below_self _ _) b1))
  clear b1 E0 e0 HGE
  by_cases hE : E = 0
  · subst hE
    have e1 := E1.out.get
    have A1 := Lib.hid (HAL.out rfl (-2) (by omega))
    have A2 := Lib.hid (HAL.out rfl 2 (by omega))
    clear HAL
    go_wp2_with fail
    go_region_held3 (fun W => ((W.cell? ⟨w.heap.size, 0, none⟩ = some (.int .i64 aw) ∧ W.cell? ⟨w.heap.size, 1, none⟩ = some (.slice A n c)) ∧ W.cell? ⟨w.heap.size + 1, 0, none⟩ = some (.int .i64 bw) ∧ W.cell? ⟨w.heap.size + 1, 1, none⟩ = some (.slice B m d)) ∧ W.cell? ⟨w.heap.size + 2, 0, none⟩ = some (.int .i64 sc) ∧ W.cell? ⟨w.heap.size + 2, 1, none⟩ = some (.int .i64 ga) ∧ W.cell? ⟨w.heap.size + 2, 2, none⟩ = some (.int .i64 wt) ∧ W.cell? ⟨w.heap.size + 2, 3, none⟩ = some (.int .i64 cu))
      (first | with_reducible exact E3.get E3'.out | with_reducible exact E3.get E2.out | with_reducible exact E3.get E1.out.drewd | with_reducible exact E3.get E1.out)
      (first | (go_at_call_of 16 (Value.int .i64 2); refine (A2.out _ E2.out.bel).mono ?_; rintro e W3 ⟨rfl, b3⟩; have E3' := Lib.hid (E2.out.below b3); clear b3) | (go_at_call 16; refine (A1.out _ E1.out.drewd.bel).mono ?_; rintro e W2 ⟨rfl, b2⟩; have E2 := Lib.hid (E1.out.drewd.below b2); clear b2))
    all_goals
      go_wp2_with fail
      go_ret3
      rw [HR.out, HR1.out _ trivial, HR1.out _ trivial]
      exact ⟨rfl, E3'.out.bel⟩
  · have hE2 : (E = 0) = False := by simp [hE]
    have hE3 : (E == 0) = false := by simp [hE]
    have hE4 : (E != 0) = true := by simp [hE]
    go_wp2_with fail
    go_ret3
    rw [HR.out, HR0.out _ hE, HR0.out _ hE]
    exact ⟨rfl, E1.out.bel⟩
end Go.Proofs.Ytllioljphpgfhaa
