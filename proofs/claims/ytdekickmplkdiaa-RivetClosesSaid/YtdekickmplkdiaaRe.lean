/- Walks: opening, in degrees. -/
import Derived.Test.YtdekickmplkdiaaRd
namespace Go.Proofs.Ytdekickmplkdiaa
open Go.RowKit

def degF (num den : Int) : Int := min 360 (20340 * num / (355 * den))
set_option maxHeartbeats 400000 in
theorem inDegrees_any (num den : Int) (w : World) (h0 : 0 ≤ num) (h1 : num ≤ 1000000000) (h2 : 1 ≤ den) (h3 : den ≤ 25000000) :
    Calls Try.prog 95 #[.agg #[.int .i64 num, .int .i64 den]] w fun e w' => e = .returned (.int .i64 (degF num den)) ∧ Below w.heap.size w w' := by
  have B := Lib.hid (below_self w (.cells #[.int .i64 num, .int .i64 den] 77))
  have HD : Hid (degF num den = min 360 (20340 * num / (355 * den))) := rfl
  generalize degF num den = r at *
  have hq : 0 ≤ 20340 * num / (355 * den) ∧ 20340 * num / (355 * den) ≤ 20340 * num := ⟨Int.ediv_nonneg (by omega) (by omega), Int.ediv_le_self _ (by omega)⟩
  have hz : ¬ 355 * den = 0 := by omega
  by_cases hc : 20340 * num / (355 * den) < 360
  · have H : Hid (r = 20340 * num / (355 * den)) := by unfold Hid; rw [HD.out]; omega
    clear HD
    go_enter Try.func95, Try.ntmps95
    go_wp2
    go_ret
    exact ⟨ret_int H.out.symm, B.out⟩
  · have H : Hid (r = 360) := by unfold Hid; rw [HD.out]; omega
    clear HD
    go_enter Try.func95, Try.ntmps95
    go_wp2
    go_ret
    exact ⟨ret_int H.out.symm, B.out⟩

def openN (u : Bool) (f : Fan) : Int := (anglesF u f).sum
theorem open_bd {f : Fan} (h : FanB f) (u : Bool) : 0 ≤ openN u f ∧ openN u f ≤ 615000000 := by
  have hl := h.n
  have h2 : ∀ xs : List Int, (∀ v ∈ xs, 0 ≤ v ∧ v ≤ 15000000) → 0 ≤ xs.sum ∧ xs.sum ≤ xs.length * 15000000 := by
    intro xs
    induction xs with
    | nil => intro _; simp
    | cons a r ih =>
      intro hb
      have h1 := hb a (by simp)
      have h2 := ih (fun v hv => hb v (by simp [hv]))
      simp only [List.sum_cons, List.length_cons]; omega
  have h3 := h2 (anglesF u f) (angles_bd h u)
  have : (anglesF u f).length = f.gs.length := by simp [anglesF]
  unfold openN; omega
theorem own_ints {W : World} {base n : Nat} {t : TypeId} {v : Value} {xs : List Int} (h : W.ownsRow base t 1 v n (xs.map (Value.int .i64))) : ∃ A c, v = .slice A n c ∧ Ints W A n xs := by
  rcases Nat.eq_zero_or_pos n with rfl | hp
  · obtain ⟨A, c, rfl⟩ := own_slice h
    have := h.1
    exact ⟨A, c, rfl, ⟨by simpa using this, fun h => absurd h (by omega)⟩⟩
  · obtain ⟨g, c, rfl⟩ := own_form h hp
    exact ⟨_, c, rfl, ints_of_own h⟩
theorem Env2.set {w W : World} {t1 t2 : TypeId} {c1 c2 : Array Value} (h : Env2 w W t1 t2 c1 c2) {g : Nat} (hg : w.heap.size + 1 < g) (i : Nat) (u : Value) : Env2 w (W.setCell ⟨g, i, none⟩ u) t1 t2 c1 c2 :=
  ⟨h.p.far (p := ⟨g, i, none⟩) (by simp; omega) u, h.q.far (p := ⟨g, i, none⟩) (by simp; omega) u, h.bel.setCell (p := ⟨g, i, none⟩) (by show w.heap.size ≤ g; omega) u⟩

set_option maxRecDepth 100000 in
set_option maxHeartbeats 2000000 in
theorem opening_any (u : Bool) (f : Fan) (A : Option Addr) (n c : Nat) (w : World) (hf : FanB f) (h : Gaps w A n f.gs) :
    Calls Try.prog 70 #[.agg (endA u), .agg (fanA f A n c)] w fun e w' => e = .returned (.agg #[.int .i64 (openN u f), .int .i64 (partsL u f)]) ∧ Below w.heap.size w w' := by
  have hn : n ≤ 41 := by have := hf.n; rw [h.len] at this; exact this
  have E := Env2.start w 117 26 (endA u) (fanA f A n c)
  have E0 := Lib.hid (E.alloc (.cells #[.int .i64 0, .int .i64 0] 77))
  have R0 := Lib.hid (Blk.new ((w.alloc (.cells (endA u) 117)).alloc (.cells (fanA f A n c) 26)) 77 #[.int .i64 0, .int .i64 0] (g := w.heap.size + 2) (by simp))
  clear E
  have HA := Lib.hid (fun W (hb : Below w.heap.size w W) => angles_any u f A n c W hf (h.below hb))
  have HP := Lib.hid (fun W => parts_any u f A n c W hf)
  have HS := Lib.hid (fun (B : Option Addr) (d : Nat) (W : World) (hi : Ints W B (anglesF u f).length (anglesF u f)) => sum_any B _ d (anglesF u f) W hi (by simp only [anglesF, List.length_map]; have := hf.n; omega) (fun v hv => by have := angles_bd hf u v hv; omega))
  have HO : Hid (openN u f = (anglesF u f).sum) := rfl
  clear hf h
  unfold ListRes at HA
  generalize openN u f = r at *
  generalize partsL u f = d at *
  generalize anglesF u f = L at *
  obtain ⟨fa, fb, fc, fd, gs⟩ := f
  cases u <;> simp only [endA, fanA] at *
  · go_enter Try.func70, Try.ntmps70
    go_wp2_with fail
    go_region_held3 (fun W => W.cell? ⟨w.heap.size, 0, none⟩ = some (.func (.func 99) #[] #[]) ∧ W.cell? ⟨w.heap.size, 1, none⟩ = some (.func (.func 100) #[] #[]) ∧ W.cell? ⟨w.heap.size, 2, none⟩ = some (.func (.func 101) #[] #[]) ∧ W.cell? ⟨w.heap.size + 1, 0, none⟩ = some (.int .i64 fa) ∧ W.cell? ⟨w.heap.size + 1, 1, none⟩ = some (.int .i64 fb) ∧ W.cell? ⟨w.heap.size + 1, 2, none⟩ = some (.int .i64 fc) ∧ W.cell? ⟨w.heap.size + 1, 3, none⟩ = some (.int .i64 fd) ∧ W.cell? ⟨w.heap.size + 1, 4, none⟩ = some (.slice A n c))
      (first | with_reducible exact env_get E0.out.drewd | with_reducible exact env_get E1.out | with_reducible exact env_get E2.out | with_reducible exact env_get E3.out | with_reducible exact env_get ((E3.out.set Z3.out _ _).set Z3.out _ _) | trace_state)
      (first | (go_at_call 104; refine (HA.out _ E0.out.drewd.bel).mono ?_; rintro e W1 ⟨v1, rfl, hown, hb1⟩; obtain ⟨A1, c1, rfl, hi1⟩ := own_ints hown; have I1 := Lib.hid hi1; have E1 := Lib.hid (E0.out.drewd.below hb1); have R1 : Hid (Blk W1 (w.heap.size + 2) 77 #[.int .i64 0, .int .i64 0]) := (blk_keep hb1 R0.out : _); clear hb1 hown hi1) | (go_at_call 103; refine (HS.out _ _ _ I1.out).mono ?_; rintro e W2 ⟨rfl, hw2⟩; have E2 : Hid (Env2 w W2 _ _ _ _) := (by rw [hw2]; exact E1.out); have R2 : Hid (Blk W2 (w.heap.size + 2) 77 #[.int .i64 0, .int .i64 0]) := (by rw [hw2]; exact R1.out); clear hw2) | (go_at_call 105; refine (HP.out _).mono ?_; rintro e W3 ⟨rfl, hb3⟩; have E3 := Lib.hid (E2.out.below hb3); have R3 := Lib.hid (blk_keep hb3 R2.out); have y0 := R3.out.cell 0; have y1 := R3.out.cell 1; have f0 := R3.out.frozen 0; have f1 := R3.out.frozen 1; have Z3 := Lib.hid (show w.heap.size + 1 < w.heap.size + 1 + 1 from Nat.lt_succ_self _); clear hb3))
    all_goals
      go_wp2
      exact bodyPost_ret (results_c rfl _ _ _ (w.heap.size + 2) _ _ _ rfl ((R3.out.set_ 0 _).set_ 1 _) Try.underlying77 (by kernel_rfl)) rfl ⟨by rw [HO.out]; rfl, ((E3.out.set Z3.out _ _).set Z3.out _ _).bel⟩
  · go_enter Try.func70, Try.ntmps70
    go_wp2_with fail
    go_region_held3 (fun W => W.cell? ⟨w.heap.size, 0, none⟩ = some (.func (.func 100) #[] #[]) ∧ W.cell? ⟨w.heap.size, 1, none⟩ = some (.func (.func 99) #[] #[]) ∧ W.cell? ⟨w.heap.size, 2, none⟩ = some (.func (.func 106) #[] #[]) ∧ W.cell? ⟨w.heap.size + 1, 0, none⟩ = some (.int .i64 fa) ∧ W.cell? ⟨w.heap.size + 1, 1, none⟩ = some (.int .i64 fb) ∧ W.cell? ⟨w.heap.size + 1, 2, none⟩ = some (.int .i64 fc) ∧ W.cell? ⟨w.heap.size + 1, 3, none⟩ = some (.int .i64 fd) ∧ W.cell? ⟨w.heap.size + 1, 4, none⟩ = some (.slice A n c))
      (first | with_reducible exact env_get E0.out.drewd | with_reducible exact env_get E1.out | with_reducible exact env_get E2.out | with_reducible exact env_get E3.out | with_reducible exact env_get ((E3.out.set Z3.out _ _).set Z3.out _ _) | trace_state)
      (first | (go_at_call 104; refine (HA.out _ E0.out.drewd.bel).mono ?_; rintro e W1 ⟨v1, rfl, hown, hb1⟩; obtain ⟨A1, c1, rfl, hi1⟩ := own_ints hown; have I1 := Lib.hid hi1; have E1 := Lib.hid (E0.out.drewd.below hb1); have R1 : Hid (Blk W1 (w.heap.size + 2) 77 #[.int .i64 0, .int .i64 0]) := (blk_keep hb1 R0.out : _); clear hb1 hown hi1) | (go_at_call 103; refine (HS.out _ _ _ I1.out).mono ?_; rintro e W2 ⟨rfl, hw2⟩; have E2 : Hid (Env2 w W2 _ _ _ _) := (by rw [hw2]; exact E1.out); have R2 : Hid (Blk W2 (w.heap.size + 2) 77 #[.int .i64 0, .int .i64 0]) := (by rw [hw2]; exact R1.out); clear hw2) | (go_at_call 105; refine (HP.out _).mono ?_; rintro e W3 ⟨rfl, hb3⟩; have E3 := Lib.hid (E2.out.below hb3); have R3 := Lib.hid (blk_keep hb3 R2.out); have y0 := R3.out.cell 0; have y1 := R3.out.cell 1; have f0 := R3.out.frozen 0; have f1 := R3.out.frozen 1; have Z3 := Lib.hid (show w.heap.size + 1 < w.heap.size + 1 + 1 from Nat.lt_succ_self _); clear hb3))
    all_goals
      go_wp2
      exact bodyPost_ret (results_c rfl _ _ _ (w.heap.size + 2) _ _ _ rfl ((R3.out.set_ 0 _).set_ 1 _) Try.underlying77 (by kernel_rfl)) rfl ⟨by rw [HO.out]; rfl, ((E3.out.set Z3.out _ _).set Z3.out _ _).bel⟩
end Go.Proofs.Ytdekickmplkdiaa
