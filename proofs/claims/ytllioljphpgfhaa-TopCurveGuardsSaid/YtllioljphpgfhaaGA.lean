/- Walks: guard's closures, guardsError. -/
import Derived.Test.YtllioljphpgfhaaRKb
namespace Go.Proofs.Ytllioljphpgfhaa
open Go.RowKit

/-- A guard: its weight and its curve, and where that lies. -/
structure Gd where
  w : Int
  A : Option Addr
  n : Nat
  c : Nat
  xs : List Int
def Gd.zero : Gd := ⟨0, none, 0, 0, []⟩
def Gd.cells (g : Gd) : List Value := [.int .i64 g.w, .slice g.A g.n g.c]
def Gd.val (g : Gd) : Value := .agg #[.int .i64 g.w, .slice g.A g.n g.c]
def Gd.At (g : Gd) (w : World) : Prop := Ints w g.A g.n g.xs ∧ g.n ≤ maxLen
theorem Gd.At.below {g : Gd} {w w' : World} (h : g.At w) (hb : Below w.heap.size w w') : g.At w' := ⟨h.1.below hb, h.2⟩
def flatD (xs : List Gd) : List Value := xs.flatMap Gd.cells
theorem flatD_length (xs : List Gd) : (flatD xs).length = xs.length * 2 := by
  unfold flatD; induction xs with
  | nil => rfl
  | cons a r ih => simp only [List.flatMap_cons, List.length_append, ih, List.length_cons, Gd.cells, List.length_nil]; omega
theorem flatD_at (xs : List Gd) (k : Nat) (h : k < xs.length) : (flatD xs)[k * 2]? = some (.int .i64 (xs[k]).w) ∧ (flatD xs)[k * 2 + 1]? = some (.slice (xs[k]).A (xs[k]).n (xs[k]).c) := by
  unfold flatD; induction xs generalizing k with
  | nil => simp at h
  | cons a r ih =>
    cases k with
    | zero => simp [Gd.cells]
    | succ m =>
      have := ih m (by simpa using h)
      rw [show (m + 1) * 2 = m * 2 + 2 from by omega]
      simpa [Gd.cells] using this
def Gds (w : World) (A : Option Addr) (n : Nat) (xs : List Gd) : Prop := Reads w 2 A n (flatD xs) ∧ ∀ g ∈ xs, g.At w
section
variable {w w' : World} {n k : Nat} {A : Option Addr} {xs : List Gd}
theorem Gds.len (h : Gds w A n xs) : xs.length = n := by have := h.1.1; rw [flatD_length] at this; omega
theorem Gds.below (h : Gds w A n xs) (hb : Below w.heap.size w w') : Gds w' A n xs := ⟨h.1.below hb, fun g hg => (h.2 g hg).below hb⟩
theorem Gds.at_ (h : Gds w A n xs) (hk : k < n) : ∃ b off, A = some ⟨b, off, none⟩ ∧ b < w.heap.size ∧ w.cell? ⟨b, off + k * 2, none⟩ = some (.int .i64 (xs.getD k Gd.zero).w) ∧ w.cell? ⟨b, off + k * 2 + 1, none⟩ = some (.slice (xs.getD k Gd.zero).A (xs.getD k Gd.zero).n (xs.getD k Gd.zero).c) ∧ (xs.getD k Gd.zero).At w := by
  obtain ⟨b, off, e, hb, hc⟩ := h.1.2 (by omega)
  have hl : k < xs.length := by rw [h.len]; exact hk
  have hx : xs.getD k Gd.zero = xs[k] := by simp [hl, List.getD]
  obtain ⟨f0, f1⟩ := flatD_at xs k hl
  rw [hx]
  exact ⟨b, off, e, hb, hc _ _ f0, by rw [Nat.add_assoc]; exact hc _ _ f1, h.2 _ (List.getElem_mem hl)⟩
end
def oddB (n0 : Nat) (g : Gd) : Bool := !(decide ((g.n : Int) = n0)) || !within 1 4 [(g.n : Int)]
def wrongB (g : Gd) : Bool := !within 1 10000 [g.w] || !within 0 500 g.xs

set_option maxHeartbeats 1000000 in
theorem wrongGd_any (g : Gd) (w : World) (h : g.At w) :
    Calls Try.prog 32 #[g.val] w fun e w' => e = .returned (.bool (wrongB g)) ∧ Below w.heap.size w w' := by
  have HE : Hid (wrongB g = (!within 1 10000 [g.w] || !within 0 500 g.xs)) := rfl
  generalize wrongB g = r at *
  obtain ⟨gw, A, n, c, xs⟩ := g
  simp only [Gd.val] at *
  have HW := Lib.hid (fun W (hb : Below w.heap.size w W) => within_any 0 500 A n c xs W (h.1.below hb) h.2)
  clear h
  have B1 := Lib.hid (below_self w (.cells #[.int .i64 gw, .slice A n c] 33))
  have P1 : Hid (Blk (w.alloc (.cells #[.int .i64 gw, .slice A n c] 33)) w.heap.size 33 #[.int .i64 gw, .slice A n c]) := Blk.new w _ _ rfl
  cases q1 : within 1 10000 [gw]
  · go_enter Try.func32, Try.ntmps32
    go_wp2_with (go_at_call 25; refine (within1 _ _ _ _ _ _ (by simp)).mono ?_; rintro e w' ⟨rfl, rfl⟩)
    go_ret
    exact ⟨ret_bool (by rw [HE.out, q1]; rfl), below_alloc' B1.out _⟩
  · go_enter Try.func32, Try.ntmps32
    go_wp2_with fail
    refine (within1 _ _ _ _ _ _ (by simp)).mono ?_
    rintro e w' ⟨rfl, rfl⟩
    rw [q1]
    have B2 := Lib.hid (below_alloc' B1.out (.cells #[.int .i64 gw] 3))
    have c2 := (P1.out.alloc (.cells #[.int .i64 gw] 3)).cell 1
    generalize (w.alloc (.cells #[.int .i64 gw, .slice A n c] 33)).alloc (.cells #[.int .i64 gw] 3) = W at *
    clear B1 P1
    go_wp2_with (go_at_call 25; refine (HW.out W B2.out).mono ?_; rintro e w' ⟨rfl, rfl⟩)
    go_ret
    exact ⟨ret_bool (by rw [HE.out, q1]; rfl), B2.out⟩

theorem Blk.drewd {w : World} {g : Nat} {t : TypeId} {cs : Array Value} (h : Blk w g t cs) : Blk w.drew g t cs := h
theorem within1d (lo hi x : Int) (t : TypeId) (g : Nat) (w : World) (hg : g = w.heap.size) : Calls Try.prog 25 #[.int .i64 lo, .int .i64 hi, .slice (some ⟨g, 0, none⟩) 1 1] (w.alloc (.cells #[.int .i64 x] t)).drew
    fun e w' => e = .returned (.bool (within lo hi [x])) ∧ (w.alloc (.cells #[.int .i64 x] t)).drew = w' := within_any lo hi _ 1 1 [x] _ (show Ints (w.alloc (.cells #[.int .i64 x] t)) _ 1 [x] from ints_new1 w x t hg) (by decide)
set_option maxRecDepth 100000 in
set_option maxHeartbeats 2000000 in
theorem oddGd_any (g : Gd) (B b off m cc : Nat) (g0 : Gd) (w : World) (hn : g.n ≤ maxLen) (hB : w.cell? ⟨B, 0, none⟩ = some (.slice (some ⟨b, off, none⟩) m cc)) (h0 : 0 < m) (h1 : w.cell? ⟨b, off + 1, none⟩ = some (.slice g0.A g0.n g0.c)) :
    Calls Try.prog 31 #[g.val, .pointer (some ⟨B, 0, none⟩)] w fun e w' => e = .returned (.bool (oddB g0.n g)) ∧ Below w.heap.size w w' := by
  have HE : Hid (oddB g0.n g = (!(decide ((g.n : Int) = g0.n)) || !within 1 4 [(g.n : Int)])) := rfl
  generalize oddB g0.n g = r at *
  obtain ⟨gw, A, n, c, xs⟩ := g
  obtain ⟨gw0, A0, n0, c0, xs0⟩ := g0
  simp only [Gd.val] at *
  have hbB := block_lt_of_cell hB
  have hb1 := block_lt_of_cell h1
  simp only at hbB hb1
  have HS := Lib.hid (fun W (hb : Below w.heap.size w W) => show W.cell? ⟨B, 0, none⟩ = some (.slice (some ⟨b, off, none⟩) m cc) ∧ W.cell? ⟨b, off + 1, none⟩ = some (.slice A0 n0 c0) from ⟨(hb.cell (p := ⟨B, 0, none⟩) hbB).trans hB, (hb.cell (p := ⟨b, off + 1, none⟩) hb1).trans h1⟩)
  clear hbB hb1 hB h1
  have hmI : ¬ ((m : Int) ≤ 0) := by omega
  have hm0 : (0 : Int) < m := by omega
  have B1 := Lib.hid (below_self w (.cells #[.int .i64 gw, .slice A n c] 33))
  have P1 : Hid (Blk (w.alloc (.cells #[.int .i64 gw, .slice A n c] 33)) w.heap.size 33 #[.int .i64 gw, .slice A n c]) := Blk.new w _ _ rfl
  have K1 := Lib.hid (fun W (hb : Below w.heap.size w W) (hp : Blk W w.heap.size 33 #[.int .i64 gw, .slice A n c]) => show (W.cell? ⟨w.heap.size, 0, none⟩ = some (.int .i64 gw) ∧ W.cell? ⟨w.heap.size, 1, none⟩ = some (.slice A n c)) ∧ W.cell? ⟨B, 0, none⟩ = some (.slice (some ⟨b, off, none⟩) m cc) ∧ W.cell? ⟨b, off + 1, none⟩ = some (.slice A0 n0 c0) from ⟨⟨hp.cell 0, hp.cell 1⟩, HS.out W hb⟩)
  have S1 := Lib.hid (K1.out _ B1.out.drew P1.out.drewd)
  have S2 := Lib.hid (K1.out _ (below_alloc' B1.out (.cells #[.int .i64 n] 3)).drew (P1.out.alloc (.cells #[.int .i64 n] 3)).drewd)
  by_cases hq : (n : Int) = n0
  · obtain rfl : n = n0 := by omega
    clear hq
    go_enter Try.func31, Try.ntmps31
    go_wp2_with fail
    go_region_held3 (fun W => (W.cell? ⟨w.heap.size, 0, none⟩ = some (.int .i64 gw) ∧ W.cell? ⟨w.heap.size, 1, none⟩ = some (.slice A n c)) ∧ W.cell? ⟨B, 0, none⟩ = some (.slice (some ⟨b, off, none⟩) m cc) ∧ W.cell? ⟨b, off + 1, none⟩ = some (.slice A0 n c0))
      (first | with_reducible exact S2.out | with_reducible exact S1.out)
      (first | (go_at_call 25; refine (within1d _ _ _ _ _ _ (by simp)).mono ?_; rintro e w' ⟨rfl, rfl⟩))
    all_goals
      go_wp2_with fail
      go_ret
      exact ⟨ret_bool (by rw [HE.out]; simp), (below_alloc' B1.out _).drew⟩
  · have hq6 : ((n : Int) != n0) = true := by simp; omega
    have hq7 : decide ((n : Int) = n0) = false := decide_eq_false hq
    have hq8 : decide (n = n0) = false := decide_eq_false (by omega)
    have hq2 : (n = n0) = False := by simp; omega
    have hq3 : ((n : Int) == n0) = false := by simp; omega
    have hq4 : (n == n0) = false := by simp; omega
    have hq5 : ((n : Int) = n0) = False := by simp; omega
    go_enter Try.func31, Try.ntmps31
    go_wp2_with fail
    refine wp_region_untl (S := (fun W => (W.cell? ⟨w.heap.size, 0, none⟩ = some (.int .i64 gw) ∧ W.cell? ⟨w.heap.size, 1, none⟩ = some (.slice A n c)) ∧ W.cell? ⟨B, 0, none⟩ = some (.slice (some ⟨b, off, none⟩) m cc) ∧ W.cell? ⟨b, off + 1, none⟩ = some (.slice A0 n0 c0))) [17] (by kernel_rfl) S1.out (fun _ => ?_)
    refine untlTake (i := 0) 4 (v := ?v1) rfl (by kernel_rfl) (by kernel_rfl) (by kernel_rfl) (by kernel_rfl) (by kernel_rfl) (by kernel_rfl) (fun _ _ _ h => h) (Or.inl ⟨by rfl, ?y1⟩) (by assumption) ?r1
    case y1 => (intro w hSw; obtain ⟨⟨g0, g1⟩, g2, g3⟩ := hSw; go_simp; try with_reducible rfl)
    refine untlTake (i := 1) 5 (v := ?v2) rfl (by kernel_rfl) (by kernel_rfl) (by kernel_rfl) (by kernel_rfl) (by kernel_rfl) (by kernel_rfl) (fun _ _ _ h => h) (Or.inl ⟨by rfl, ?y2⟩) (by assumption) ?r2
    case y2 => (intro w hSw; obtain ⟨⟨g0, g1⟩, g2, g3⟩ := hSw; go_simp; try with_reducible rfl)
    refine untlTake (i := 2) 6 (v := ?v3) rfl (by kernel_rfl) (by kernel_rfl) (by kernel_rfl) (by kernel_rfl) (by kernel_rfl) (by kernel_rfl) (fun _ _ _ h => h) (Or.inl ⟨by rfl, ?y3⟩) (by assumption) ?r3
    case y3 => (intro w hSw; obtain ⟨⟨g0, g1⟩, g2, g3⟩ := hSw; go_simp; try with_reducible rfl)
    simp only [Act.put, List.setIfInBounds_toArray, List.set_cons_zero, List.set_cons_succ]
    refine untlTake (i := 3) 7 (v := ?v4) rfl (by kernel_rfl) (by kernel_rfl) (by kernel_rfl) (by kernel_rfl) (by kernel_rfl) (by kernel_rfl) (fun _ _ _ h => h) (Or.inl ⟨by rfl, ?y4⟩) (by assumption) ?r4
    case y4 => (intro w hSw; obtain ⟨⟨g0, g1⟩, g2, g3⟩ := hSw; go_simp; try with_reducible rfl)
    refine untlTake (i := 4) 8 (v := ?v5) rfl (by kernel_rfl) (by kernel_rfl) (by kernel_rfl) (by kernel_rfl) (by kernel_rfl) (by kernel_rfl) (fun _ _ _ h => h) (Or.inl ⟨by rfl, ?y5⟩) (by assumption) ?r5
    case y5 => (intro w hSw; obtain ⟨⟨g0, g1⟩, g2, g3⟩ := hSw; go_simp; try with_reducible rfl)
    refine untlTake (i := 5) 9 (v := ?v6) rfl (by kernel_rfl) (by kernel_rfl) (by kernel_rfl) (by kernel_rfl) (by kernel_rfl) (by kernel_rfl) (fun _ _ _ h => h) (Or.inl ⟨by rfl, ?y6⟩) (by assumption) ?r6
    case y6 => (intro w hSw; obtain ⟨⟨g0, g1⟩, g2, g3⟩ := hSw; go_simp; try with_reducible rfl)
    simp only [Act.put, List.setIfInBounds_toArray, List.set_cons_zero, List.set_cons_succ]
    refine untlTake (i := 6) 10 (v := ?v7) rfl (by kernel_rfl) (by kernel_rfl) (by kernel_rfl) (by kernel_rfl) (by kernel_rfl) (by kernel_rfl) (fun _ _ _ h => h) (Or.inl ⟨by rfl, ?y7⟩) (by assumption) ?r7
    case y7 => (intro w hSw; obtain ⟨⟨g0, g1⟩, g2, g3⟩ := hSw; go_simp; try with_reducible rfl)
    refine untlTake (i := 7) 11 (v := ?v8) rfl (by kernel_rfl) (by kernel_rfl) (by kernel_rfl) (by kernel_rfl) (by kernel_rfl) (by kernel_rfl) (fun _ _ _ h => h) (Or.inl ⟨by rfl, ?y8⟩) (by assumption) ?r8
    case y8 => (intro w hSw; obtain ⟨⟨g0, g1⟩, g2, g3⟩ := hSw; go_simp; try with_reducible rfl)
    refine untlTake (i := 8) 12 (v := ?v9) rfl (by kernel_rfl) (by kernel_rfl) (by kernel_rfl) (by kernel_rfl) (by kernel_rfl) (by kernel_rfl) (fun _ _ _ h => h) (Or.inl ⟨by rfl, ?y9⟩) (by assumption) ?r9
    case y9 => (intro w hSw; obtain ⟨⟨g0, g1⟩, g2, g3⟩ := hSw; go_simp; try with_reducible rfl)
    simp only [Act.put, List.setIfInBounds_toArray, List.set_cons_zero, List.set_cons_succ]
    refine untlTake (i := 9) 13 (v := ?v10) rfl (by kernel_rfl) (by kernel_rfl) (by kernel_rfl) (by kernel_rfl) (by kernel_rfl) (by kernel_rfl) (fun _ _ _ h => h) (Or.inl ⟨by rfl, ?y10⟩) (by assumption) ?r10
    case y10 => (intro w hSw; obtain ⟨⟨g0, g1⟩, g2, g3⟩ := hSw; go_simp; try with_reducible rfl)
    simp only [Act.put, List.setIfInBounds_toArray, List.set_cons_zero, List.set_cons_succ]
    refine untlTake (i := 10) 14 (v := undef) rfl (by kernel_rfl) (by kernel_rfl) (by kernel_rfl) (by kernel_rfl) (by kernel_rfl) (by kernel_rfl) (fun _ _ _ h => h) (Or.inr ⟨by kernel_rfl, rfl⟩) (by assumption) ?r11
    refine untlTake (i := 11) 15 (v := undef) rfl (by kernel_rfl) (by kernel_rfl) (by kernel_rfl) (by kernel_rfl) (by kernel_rfl) (by kernel_rfl) (fun _ _ _ h => h) (Or.inr ⟨by kernel_rfl, rfl⟩) (by assumption) ?r12
    refine untlTake (i := 12) 16 (v := undef) rfl (by kernel_rfl) (by kernel_rfl) (by kernel_rfl) (by kernel_rfl) (by kernel_rfl) (by kernel_rfl) (fun _ _ _ h => h) (Or.inr ⟨by kernel_rfl, rfl⟩) (by assumption) ?r13
    refine untlTake (i := 13) 17 (v := undef) rfl (by kernel_rfl) (by kernel_rfl) (by kernel_rfl) (by kernel_rfl) (by kernel_rfl) (by kernel_rfl) (fun _ _ _ h => h) (Or.inr ⟨by kernel_rfl, rfl⟩) (by assumption) ?r14
    refine untlTake (i := 14) 18 (v := undef) rfl (by kernel_rfl) (by kernel_rfl) (by kernel_rfl) (by kernel_rfl) (by kernel_rfl) (by kernel_rfl) (fun _ _ _ h => h) (Or.inr ⟨by kernel_rfl, rfl⟩) (by assumption) ?r15
    refine untlTake (i := 15) 19 (v := undef) rfl (by kernel_rfl) (by kernel_rfl) (by kernel_rfl) (by kernel_rfl) (by kernel_rfl) (by kernel_rfl) (fun _ _ _ h => h) (Or.inr ⟨by kernel_rfl, rfl⟩) (by assumption) ?r16
    simp only [Act.put, List.setIfInBounds_toArray, List.set_cons_zero, List.set_cons_succ]
    refine untlTake (i := 16) 20 (v := ?v17) rfl (by kernel_rfl) (by kernel_rfl) (by kernel_rfl) (by kernel_rfl) (by kernel_rfl) (by kernel_rfl) (fun _ _ _ h => h) (Or.inl ⟨by rfl, ?y17⟩) (by assumption) ?r17
    case y17 => (intro w hSw; obtain ⟨⟨g0, g1⟩, g2, g3⟩ := hSw; go_simp; try with_reducible rfl)
    simp only [Act.put, List.setIfInBounds_toArray, List.set_cons_zero, List.set_cons_succ]
    refine untlStep (i := 17) (by kernel_rfl) rfl (fun K17 hK17 => ?_)
    go_simp
    refine hK17.out _ _ (.inl (by decide)) ?_
    refine untlDone (by kernel_rfl) ?_ _
    go_wp2_with fail
    go_ret
    exact ⟨ret_bool (by rw [HE.out, hq7]; rfl), B1.out.drew⟩
end Go.Proofs.Ytllioljphpgfhaa
