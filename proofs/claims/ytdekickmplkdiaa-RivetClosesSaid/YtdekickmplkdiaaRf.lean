/- Walks: surely, possibly, Check, Opens. -/
import Derived.Test.YtdekickmplkdiaaRe
namespace Go.Proofs.Ytdekickmplkdiaa
open Go.RowKit

theorem fan_get {W : World} {g : Nat} {fa fb fc fd sl : Value} (h : Blk W g 26 #[fa, fb, fc, fd, sl]) :
    W.cell? ⟨g, 0, none⟩ = some fa ∧ W.cell? ⟨g, 1, none⟩ = some fb ∧ W.cell? ⟨g, 2, none⟩ = some fc ∧ W.cell? ⟨g, 3, none⟩ = some fd ∧ W.cell? ⟨g, 4, none⟩ = some sl := ⟨h.cell 0, h.cell 1, h.cell 2, h.cell 3, h.cell 4⟩
/-- To how many degrees a fan opens at an end. -/
def degL (u : Bool) (f : Fan) : Int := degF (openN u f) (partsL u f)
theorem degF_bd {a b : Int} (h0 : 0 ≤ a) (h1 : 1 ≤ b) : 0 ≤ degF a b ∧ degF a b ≤ 360 := by
  have : 0 ≤ 20340 * a / (355 * b) := Int.ediv_nonneg (by omega) (by omega)
  unfold degF; omega
theorem degL_bd {f : Fan} (h : FanB f) (u : Bool) : 0 ≤ degL u f ∧ degL u f ≤ 360 := degF_bd (open_bd h u).1 (parts_bd h u).1

set_option maxRecDepth 100000 in
set_option maxHeartbeats 1000000 in
theorem surely_any (f : Fan) (A : Option Addr) (n c : Nat) (w : World) (hf : FanB f) (h : Gaps w A n f.gs) :
    Calls Try.prog 61 #[.agg (fanA f A n c)] w fun e w' => e = .returned (.int .i64 (degL false f)) ∧ Below w.heap.size w w' := by
  have B0 := ((below_self w (.cells (fanA f A n c) 26)).drew)
  have R0 : Hid (Blk (w.alloc (.cells (fanA f A n c) 26)).drew w.heap.size 26 (fanA f A n c)) := Blk.new w _ _ rfl
  have HA := Lib.hid (fun W (hb : Below w.heap.size w W) => opening_any false f A n c W hf (h.below hb))
  have HD := Lib.hid (fun W => inDegrees_any (openN false f) (partsL false f) W (open_bd hf false).1 (by have := (open_bd hf false).2; omega) (parts_bd hf false).1 (parts_bd hf false).2)
  have HO : Hid (degL false f = degF (openN false f) (partsL false f)) := rfl
  clear hf h
  generalize degL false f = z at *
  generalize openN false f = r at *
  generalize partsL false f = d at *
  have HE := Lib.hid leastEnd_any
  obtain ⟨fa, fb, fc, fd, gs⟩ := f
  have B0 := Lib.hid B0
  simp only [endA, fanA] at *
  go_enter Try.func61, Try.ntmps61
  go_wp2_with fail
  go_region_held3 (fun W => W.cell? ⟨w.heap.size, 0, none⟩ = some (.int .i64 fa) ∧ W.cell? ⟨w.heap.size, 1, none⟩ = some (.int .i64 fb) ∧ W.cell? ⟨w.heap.size, 2, none⟩ = some (.int .i64 fc) ∧ W.cell? ⟨w.heap.size, 3, none⟩ = some (.int .i64 fd) ∧ W.cell? ⟨w.heap.size, 4, none⟩ = some (.slice A n c))
    (first | with_reducible exact fan_get R0.out | with_reducible exact fan_get R1.out | with_reducible exact fan_get R2.out | with_reducible exact fan_get R3.out)
    (first | (go_at_call 69; refine (HE.out _).mono ?_; rintro e W1 ⟨rfl, hb1⟩; have R1 := Lib.hid (blk_keep hb1 R0.out); have B1 := Lib.hid (below_then B0.out hb1); clear hb1) | (go_at_call 70; refine (HA.out _ B1.out).mono ?_; rintro e W2 ⟨rfl, hb2⟩; have R2 := Lib.hid (blk_keep hb2 R1.out); have B2 := Lib.hid (below_then B1.out hb2); clear hb2) | (go_at_call 95; refine (HD.out _).mono ?_; rintro e W3 ⟨rfl, hb3⟩; have R3 := Lib.hid (blk_keep hb3 R2.out); have B3 := Lib.hid (below_then B2.out hb3); clear hb3))
  all_goals
    go_wp2
    go_ret
    exact ⟨ret_int HO.out.symm, B3.out⟩

set_option maxRecDepth 100000 in
set_option maxHeartbeats 1000000 in
theorem possibly_any (f : Fan) (A : Option Addr) (n c : Nat) (w : World) (hf : FanB f) (h : Gaps w A n f.gs) :
    Calls Try.prog 62 #[.agg (fanA f A n c)] w fun e w' => e = .returned (.int .i64 (degL true f)) ∧ Below w.heap.size w w' := by
  have B0 := ((below_self w (.cells (fanA f A n c) 26)).drew)
  have R0 : Hid (Blk (w.alloc (.cells (fanA f A n c) 26)).drew w.heap.size 26 (fanA f A n c)) := Blk.new w _ _ rfl
  have HA := Lib.hid (fun W (hb : Below w.heap.size w W) => opening_any true f A n c W hf (h.below hb))
  have HD := Lib.hid (fun W => inDegrees_any (openN true f) (partsL true f) W (open_bd hf true).1 (by have := (open_bd hf true).2; omega) (parts_bd hf true).1 (parts_bd hf true).2)
  have HO : Hid (degL true f = degF (openN true f) (partsL true f)) := rfl
  clear hf h
  generalize degL true f = z at *
  generalize openN true f = r at *
  generalize partsL true f = d at *
  have HE := Lib.hid mostEnd_any
  obtain ⟨fa, fb, fc, fd, gs⟩ := f
  have B0 := Lib.hid B0
  simp only [endA, fanA] at *
  go_enter Try.func62, Try.ntmps62
  go_wp2_with fail
  go_region_held3 (fun W => W.cell? ⟨w.heap.size, 0, none⟩ = some (.int .i64 fa) ∧ W.cell? ⟨w.heap.size, 1, none⟩ = some (.int .i64 fb) ∧ W.cell? ⟨w.heap.size, 2, none⟩ = some (.int .i64 fc) ∧ W.cell? ⟨w.heap.size, 3, none⟩ = some (.int .i64 fd) ∧ W.cell? ⟨w.heap.size, 4, none⟩ = some (.slice A n c))
    (first | with_reducible exact fan_get R0.out | with_reducible exact fan_get R1.out | with_reducible exact fan_get R2.out | with_reducible exact fan_get R3.out)
    (first | (go_at_call 71; refine (HE.out _).mono ?_; rintro e W1 ⟨rfl, hb1⟩; have R1 := Lib.hid (blk_keep hb1 R0.out); have B1 := Lib.hid (below_then B0.out hb1); clear hb1) | (go_at_call 70; refine (HA.out _ B1.out).mono ?_; rintro e W2 ⟨rfl, hb2⟩; have R2 := Lib.hid (blk_keep hb2 R1.out); have B2 := Lib.hid (below_then B1.out hb2); clear hb2) | (go_at_call 95; refine (HD.out _).mono ?_; rintro e W3 ⟨rfl, hb3⟩; have R3 := Lib.hid (blk_keep hb3 R2.out); have B3 := Lib.hid (below_then B2.out hb3); clear hb3))
  all_goals
    go_wp2
    go_ret
    exact ⟨ret_int HO.out.symm, B3.out⟩

theorem fanB_of {f : Fan} (h : fanErr f = 0) : FanB f ∧ (∀ g ∈ f.gs, g.lh ≤ 1000 ∧ g.fh ≤ 500) ∧ f.gs.length ≤ 40 := by
  unfold fanErr at h
  split at h
  · omega
  rename_i h1
  split at h
  · omega
  rename_i h2
  split at h
  · omega
  rename_i h3
  simp [headOk, validS] at h1
  have hg : ∀ g ∈ f.gs, 0 ≤ g.ll ∧ g.ll ≤ g.lh ∧ g.lh ≤ 1000 ∧ 0 ≤ g.fl ∧ g.fl ≤ g.fh ∧ g.fh ≤ 500 := by
    intro g hg
    have h4 : gapOk g = true := by
      cases hq : gapOk g
      · exact absurd (List.any_eq_true.2 ⟨g, hg, by rw [hq]; rfl⟩) h3
      · rfl
    simp [gapOk, validS] at h4
    omega
  exact ⟨⟨by omega, by omega, by omega, by omega, by omega, by omega, by omega, fun g h => by have := hg g h; omega⟩, fun g h => by have := hg g h; omega, by omega⟩

set_option maxHeartbeats 400000 in
theorem Check_any (f : Fan) (A : Option Addr) (n c : Nat) (w : World) (h : Gaps w A n f.gs) (hn : n ≤ maxLen) :
    Calls Try.prog 19 #[.agg (fanA f A n c)] w fun e w' => e = .returned (.int .i64 (fanErr f)) ∧ Below w.heap.size w w' := by
  have B0 := Lib.hid (below_self w (.cells (fanA f A n c) 26))
  have HF := Lib.hid (fun W (hb : Below w.heap.size w W) => fanError_any f A n c W (h.below hb) hn)
  clear h hn
  generalize fanErr f = r at *
  unfold fanA at *
  go_enter Try.func19, Try.ntmps19
  go_wp2_with (go_at_call 60; refine (HF.out _ B0.out).mono ?_; rintro e W1 ⟨rfl, hb1⟩)
  go_ret
  exact ⟨rfl, below_then B0.out hb1⟩

def opensL (f : Fan) : Int × Int := if fanErr f = 0 then (degL false f, degL true f) else (0, 0)
set_option maxRecDepth 100000 in
set_option maxHeartbeats 1000000 in
theorem Opens_any (f : Fan) (A : Option Addr) (n c : Nat) (w : World) (h : Gaps w A n f.gs) (hn : n ≤ maxLen) :
    Calls Try.prog 20 #[.agg (fanA f A n c)] w fun e w' => e = .returned (.tuple #[.agg #[.int .i64 (opensL f).1, .int .i64 (opensL f).2], .int .i64 (fanErr f)]) ∧ Below w.heap.size w w' := by
  have E0 := Lib.hid (Env2.start w 26 23 (fanA f A n c) #[.int .i64 0, .int .i64 0])
  have HF := Lib.hid (fun W (hb : Below w.heap.size w W) => fanError_any f A n c W (h.below hb) hn)
  by_cases hE : fanErr f = 0
  · have HS := Lib.hid (fun W (hb : Below w.heap.size w W) => surely_any f A n c W (fanB_of hE).1 (h.below hb))
    have HP := Lib.hid (fun W (hb : Below w.heap.size w W) => possibly_any f A n c W (fanB_of hE).1 (h.below hb))
    have HO : Hid (opensL f = (degL false f, degL true f)) := if_pos hE
    have HE := Lib.hid hE
    clear h hn hE
    generalize opensL f = z at *
    generalize degL false f = z1 at *
    generalize degL true f = z2 at *
    rw [HE.out] at HF ⊢
    obtain ⟨fa, fb, fc, fd, gs⟩ := f
    simp only [fanA] at *
    go_enter Try.func20, Try.ntmps20
    go_wp2_with fail
    refine (HF.out _ E0.out.bel).mono ?_
    rintro e W1 ⟨rfl, hb1⟩
    have E1 := Lib.hid (E0.out.below hb1)
    have E1d := Lib.hid E1.out.drewd
    clear hb1
    go_wp2_with fail
    go_region_held3 (fun W => W.cell? ⟨w.heap.size, 0, none⟩ = some (.int .i64 fa) ∧ W.cell? ⟨w.heap.size, 1, none⟩ = some (.int .i64 fb) ∧ W.cell? ⟨w.heap.size, 2, none⟩ = some (.int .i64 fc) ∧ W.cell? ⟨w.heap.size, 3, none⟩ = some (.int .i64 fd) ∧ W.cell? ⟨w.heap.size, 4, none⟩ = some (.slice A n c))
      (first | with_reducible exact fan_get E1d.out.p | with_reducible exact fan_get E2.out.p | with_reducible exact fan_get E3.out.p | with_reducible exact fan_get ((E3.out.p.far Z3.out _).far Z3.out _))
      (first | (go_at_call 61; refine (HS.out _ E1d.out.bel).mono ?_; rintro e W2 ⟨rfl, hb2⟩; have E2 := Lib.hid (E1d.out.below hb2); clear hb2) | (go_at_call 62; refine (HP.out _ E2.out.bel).mono ?_; rintro e W3 ⟨rfl, hb3⟩; have E3 := Lib.hid (E2.out.below hb3); have y0 := E3.out.q.cell 0; have y1 := E3.out.q.cell 1; have f0 := E3.out.q.frozen 0; have f1 := E3.out.q.frozen 1; have Z3 := Lib.hid (show w.heap.size ≠ w.heap.size + 1 from Nat.ne_of_lt (Nat.lt_succ_self _)); clear hb3))
    all_goals
      go_wp2
      exact bodyPost_ret (results_ct rfl _ _ _ (w.heap.size + 1) _ _ _ rfl ((E3.out.q.set_ 0 _).set_ 1 _) Try.underlying23 (by kernel_rfl)) rfl ⟨by rw [HO.out]; rfl, (E3.out.bel.setCell (p := ⟨w.heap.size + 1, 0, none⟩) (by simp) _).setCell (p := ⟨w.heap.size + 1, 1, none⟩) (by simp) _⟩
  · have HO : Hid (opensL f = (0, 0)) := if_neg hE
    have HE1 : decide (fanErr f = 0) = false := by simpa using hE
    have HE : ¬ fanErr f = 0 := hE
    clear h hn hE
    generalize opensL f = z at *
    obtain ⟨fa, fb, fc, fd, gs⟩ := f
    simp only [fanA] at *
    generalize fanErr ⟨fa, fb, fc, fd, gs⟩ = r at *
    go_enter Try.func20, Try.ntmps20
    go_wp2_with fail
    refine (HF.out _ E0.out.bel).mono ?_
    rintro e W1 ⟨rfl, hb1⟩
    have E1 := Lib.hid (E0.out.below hb1)
    have y0 := E1.out.q.cell 0
    have y1 := E1.out.q.cell 1
    have f0 := E1.out.q.frozen 0
    have f1 := E1.out.q.frozen 1
    clear hb1
    go_wp2
    exact bodyPost_ret (results_ct rfl _ _ _ (w.heap.size + 1) _ _ _ rfl ((E1.out.q.set_ 0 _).set_ 1 _) Try.underlying23 (by kernel_rfl)) rfl ⟨by rw [HO.out]; rfl, (E1.out.bel.setCell (p := ⟨w.heap.size + 1, 0, none⟩) (by simp) _).setCell (p := ⟨w.heap.size + 1, 1, none⟩) (by simp) _⟩
end Go.Proofs.Ytdekickmplkdiaa
