/- Walks: repeated, Sticks. -/
import Derived.Test.YtdekickmplkdiaaRm
import Derived.Test.YtdekickmplkdiaaRn
namespace Go.Proofs.Ytdekickmplkdiaa
open Go.RowKit

def Fan.rep (f : Fan) (k : Nat) : Fan := { f with gs := List.replicate k (f.gs.getD 0 Gap.zero) }
theorem rep_B {f : Fan} (h : fanErr f = 0) {k : Nat} (h1 : k ≤ 41) (h0 : 0 < f.gs.length) : FanB (f.rep k) := by
  obtain ⟨hf, hg, hl⟩ := fanB_of h
  refine ⟨hf.a1, hf.ab, hf.b5, hf.c1, hf.cd, hf.d5, by simpa [Fan.rep] using h1, fun g hq => ?_⟩
  rw [List.eq_of_mem_replicate hq]
  have e : f.gs.getD 0 Gap.zero = f.gs[0] := by simp [List.getD, h0]
  rw [e]
  exact hf.g _ (List.getElem_mem h0)
theorem gaps_first {w : World} {A : Option Addr} {n : Nat} {xs : List Gap} (h : Gaps w A n xs) (h0 : 0 < n) : Gaps w A 1 [xs.getD 0 Gap.zero] := by
  have hl := h.len
  obtain ⟨b, off, e, hb, hc⟩ := h.2 h0
  refine ⟨by simp [flatG, Gap.cells], fun _ => ⟨b, off, e, hb, fun j u hj => hc j u ?_⟩⟩
  have hj4 : j < 4 := by have := (List.getElem?_eq_some_iff.1 hj).1; simpa [flatG, Gap.cells] using this
  have e0 : xs.getD 0 Gap.zero = xs[0]'(by omega) := by simp [List.getD, show 0 < xs.length from by omega]
  have := flatG_at xs 0 j (by omega) hj4
  rw [show 0 * 4 + j = j from by omega] at this
  rw [this, ← e0]
  simpa [flatG] using hj

set_option maxRecDepth 100000 in
set_option maxHeartbeats 1000000 in
theorem repeated_any (f : Fan) (A : Option Addr) (n c k : Nat) (w : World) (h : Gaps w A n f.gs) (h0 : 0 < n) (hc : n ≤ c) (hk : k ≤ 1000) :
    Calls Try.prog 82 #[.agg (fanA f A n c), .int .i64 k] w (FanRes w (f.rep k) k) := by
  obtain ⟨b, off, rfl, _, _⟩ := h.2 h0
  have E0 := Lib.hid (Env2.start w 26 26 (fanA f (some ⟨b, off, none⟩) n c) #[.int .i64 0, .int .i64 0, .int .i64 0, .int .i64 0, .slice none 0 0])
  have HC := Lib.hid (fun W (hb : Below w.heap.size w W) => repeat_any (f.gs.getD 0 Gap.zero) b off c k W ((gaps_first h h0).below hb) hk)
  have HF : Hid (∀ A, fanA (f.rep k) A k k = #[.int .i64 f.a, .int .i64 f.b, .int .i64 f.c, .int .i64 f.d, .slice A k k]) := fun _ => rfl
  have HG : Hid ((f.rep k).gs = List.replicate k (f.gs.getD 0 Gap.zero)) := rfl
  have hc0 : (1 : Int) ≤ (c : Int) := by omega
  have hc1 : 1 ≤ c := by omega
  have HZ := E0.out.q.lt
  clear h h0 hc
  unfold FanRes
  unfold RepRes at HC
  generalize f.rep k = f2 at *
  obtain ⟨fa, fb, fc, fd, gs⟩ := f
  simp only [fanA] at *
  generalize gs.getD 0 Gap.zero = y at *
  go_enter Try.func82, Try.ntmps82
  go_wp2_with fail
  refine (HC.out _ E0.out.bel).mono ?_
  rintro e W1 ⟨g, rfl, hG, hg, hb1⟩
  have E1 := Lib.hid (E0.out.below hb1)
  have G1 := Lib.hid hG
  have p1 := fan_get E1.out.p
  have p2 := fan_get E1.out.q
  have pf := E1.out.p.frozen 4
  have q0 := E1.out.q.frozen 0; have q1 := E1.out.q.frozen 1; have q2 := E1.out.q.frozen 2; have q3 := E1.out.q.frozen 3; have q4 := E1.out.q.frozen 4
  have N1 : Hid (¬ g = w.heap.size) := by unfold Hid; omega
  have N2 : Hid (¬ g = w.heap.size + 1) := by unfold Hid; omega
  clear hb1 hG hg HZ
  go_wp2_with fail
  have hq : ¬ w.heap.size + 1 = w.heap.size := by omega
  refine bodyPost_ret (results_c rfl _ _ _ (w.heap.size + 1) _ _ _ rfl ((((((E1.out.q.far (p := ⟨w.heap.size, 4, none⟩) hq _).set_ 0 _).set_ 1 _).set_ 2 _).set_ 3 _).set_ 4 _) Try.underlying26 (by kernel_rfl)) rfl ⟨some ⟨g, 0, none⟩, k, ?_, ?_, ?_⟩
  · exact congrArg (fun a => Ending.returned (Value.agg a)) (HF.out (some ⟨g, 0, none⟩)).symm
  · rw [HG.out]
    rcases Nat.eq_zero_or_pos k with h0 | h0
    · exact ⟨G1.out.1, fun h => absurd h (by omega)⟩
    · obtain ⟨g', o', e, hb, hcc⟩ := G1.out.2 h0
      simp only [Option.some.injEq, Addr.mk.injEq, and_true] at e
      obtain ⟨rfl, rfl⟩ := e
      refine ⟨G1.out.1, fun _ => ⟨g, 0, rfl, by simp [World.size_setCell]; exact hb, fun j u hj => ?_⟩⟩
      have := hcc j u hj
      have n1 (o o' : Nat) : (⟨g, o, none⟩ : Addr) ≠ ⟨w.heap.size, o', none⟩ := fun h => N1.out (by simpa using congrArg Addr.block h)
      have n2 (o o' : Nat) : (⟨g, o, none⟩ : Addr) ≠ ⟨w.heap.size + 1, o', none⟩ := fun h => N2.out (by simpa using congrArg Addr.block h)
      rw [World.cell?_setCell_other _ _ _ _ (Ne.symm (n2 _ _)), World.cell?_setCell_other _ _ _ _ (Ne.symm (n2 _ _)), World.cell?_setCell_other _ _ _ _ (Ne.symm (n2 _ _)), World.cell?_setCell_other _ _ _ _ (Ne.symm (n2 _ _)), World.cell?_setCell_other _ _ _ _ (Ne.symm (n2 _ _)), World.cell?_setCell_other _ _ _ _ (Ne.symm (n1 _ _))]
      exact this
  · have b (o : Nat) : w.heap.size ≤ (⟨w.heap.size + 1, o, none⟩ : Addr).block := Nat.le_succ _
    exact (((((E1.out.bel.setCell (p := ⟨w.heap.size, 4, none⟩) (Nat.le_refl _) _).setCell (b 0) _).setCell (b 1) _).setCell (b 2) _).setCell (b 3) _).setCell (b 4) _

/-- So many gaps open so far. -/
def stickP (f : Fan) (d : Int) (k : Nat) : Bool := decide (d ≤ degL false (f.rep k))
def stickL (f : Fan) (d : Int) : Nat := searchL (stickP f d) 41
def stickR (f : Fan) (d : Int) : Int × Int :=
  if fanErr f = 0 then (if within 0 360 [d] = true then (if f.gs.length = 0 then (0, 7) else if 40 < stickL f d then (0, 7) else ((stickL f d : Int) + 1, 0)) else (0, 4)) else (0, fanErr f)

set_option maxRecDepth 100000 in
set_option maxHeartbeats 1000000 in
theorem stick1_any (f : Fan) (d : Int) (A : Option Addr) (n c : Nat) (w : World) (h : Gaps w A n f.gs) (h0 : 0 < n) (hc : n ≤ c) (hE : fanErr f = 0) (k : Nat) (W : World) (hk : k < 41) (hW : Env2 w W 26 3 (fanA f A n c) #[.int .i64 d]) :
    Calls Try.prog 81 #[.int .i64 k, .pointer (some ⟨w.heap.size, 0, none⟩), .pointer (some ⟨w.heap.size + 1, 0, none⟩)] W fun e W' => e = .returned (.bool (stickP f d k)) ∧ Env2 w W' 26 3 (fanA f A n c) #[.int .i64 d] := by
  have hl := h.len
  have HP := Lib.hid (fun X (hb : Below w.heap.size w X) => repeated_any f A n c k X (h.below hb) h0 hc (by omega))
  have HS := Lib.hid (fun A c X (hG : Gaps X A k (f.rep k).gs) => surely_any (f.rep k) A k c X (rep_B hE (by omega) (by omega)) hG)
  have HV : Hid (∀ A c, fanA (f.rep k) A k c = #[.int .i64 f.a, .int .i64 f.b, .int .i64 f.c, .int .i64 f.d, .slice A k c]) := fun _ _ => rfl
  have HO : Hid (stickP f d k = decide (d ≤ degL false (f.rep k))) := rfl
  have E0 := Lib.hid hW
  have E0d := Lib.hid hW.drewd
  clear hE hW hl hc
  unfold FanRes at HP
  generalize stickP f d k = r at *
  generalize f.rep k = f2 at *
  generalize degL false f2 = z at *
  obtain ⟨b, off, rfl, _, _⟩ := h.2 h0
  clear h h0
  obtain ⟨fa, fb, fc, fd, gs⟩ := f
  simp only [HV.out] at HP HS
  clear HV
  simp only [fanA] at *
  go_enter Try.func81, Try.ntmps81
  go_wp2_with fail
  go_region_held3 (fun W => W.cell? ⟨w.heap.size, 0, none⟩ = some (.int .i64 fa) ∧ W.cell? ⟨w.heap.size, 1, none⟩ = some (.int .i64 fb) ∧ W.cell? ⟨w.heap.size, 2, none⟩ = some (.int .i64 fc) ∧ W.cell? ⟨w.heap.size, 3, none⟩ = some (.int .i64 fd) ∧ W.cell? ⟨w.heap.size, 4, none⟩ = some (.slice (some ⟨b, off, none⟩) n c) ∧ W.cell? ⟨w.heap.size + 1, 0, none⟩ = some (.int .i64 d))
    (first | with_reducible exact fanD_get E0d.out | with_reducible exact fanD_get E0.out | with_reducible exact fanD_get E1.out | with_reducible exact fanD_get E2.out)
    (first | (go_at_call 82; refine (HP.out _ E0d.out.bel).mono ?_; rintro e W1 ⟨A1, c1, rfl, hG, hb1⟩; have G1 := Lib.hid hG; have E1 := Lib.hid (E0d.out.below hb1); clear hb1 hG) | (go_at_call 61; refine (HS.out _ _ _ G1.out).mono ?_; rintro e W2 ⟨rfl, hb2⟩; have E2 := Lib.hid (E1.out.below hb2); clear hb2))
  all_goals
    go_wp2
    go_ret
    exact ⟨ret_bool HO.out.symm, E2.out⟩

set_option maxRecDepth 100000 in
set_option maxHeartbeats 2000000 in
theorem Sticks_any (f : Fan) (d : Int) (A : Option Addr) (n c : Nat) (w : World) (h : Gaps w A n f.gs) (hc : n ≤ c) (hn : n ≤ maxLen) :
    Calls Try.prog 35 #[.agg (fanA f A n c), .int .i64 d] w fun e w' => e = .returned (.tuple #[.int .i64 (stickR f d).1, .int .i64 (stickR f d).2]) ∧ Below w.heap.size w w' := by
  have HF := Lib.hid (fun W (hb : Below w.heap.size w W) => fanError_any f A n c W (h.below hb) hn)
  have E0 := Lib.hid (Env2.start w 26 3 (fanA f A n c) #[.int .i64 d])
  have hl := h.len
  by_cases hE : fanErr f = 0
  · cases q1 : within 0 360 [d]
    · have HO : Hid (stickR f d = (0, 4)) := by unfold Hid stickR; rw [if_pos hE, q1]; rfl
      rw [hE] at HF
      clear h hn hE hl hc
      generalize stickR f d = r at *
      obtain ⟨fa, fb, fc, fd, gs⟩ := f
      simp only [fanA] at *
      go_enter Try.func35, Try.ntmps35
      go_wp2_with fail
      refine (HF.out _ E0.out.bel).mono ?_
      rintro e W1 ⟨rfl, hb1⟩
      have E1 := Lib.hid (E0.out.below hb1)
      have p1 := fanD_get E1.out
      clear hb1
      go_wp2_with (go_at_call 73; refine (within1 _ _ _ _ _ _ (by simp)).mono ?_; rintro e w' ⟨rfl, rfl⟩)
      go_ret2
      exact ⟨by rw [HO.out]; rfl, E1.out.bel.alloc E1.out.bel.size _⟩
    · by_cases hz0 : n = 0
      · have HO : Hid (stickR f d = (0, 7)) := by unfold Hid stickR; rw [if_pos hE, q1, if_pos rfl, hl, if_pos hz0]
        rw [hE] at HF
        clear h hn hE hl hc
        subst hz0
        generalize stickR f d = r at *
        obtain ⟨fa, fb, fc, fd, gs⟩ := f
        simp only [fanA] at *
        go_enter Try.func35, Try.ntmps35
        go_wp2_with fail
        refine (HF.out _ E0.out.bel).mono ?_
        rintro e W1 ⟨rfl, hb1⟩
        have E1 := Lib.hid (E0.out.below hb1)
        have p1 := fanD_get E1.out
        have p2 := fanD_get (E1.out.alloc (.cells #[.int .i64 d] 3))
        clear hb1
        go_wp2_with (go_at_call 73; refine (within1 _ _ _ _ _ _ (by simp)).mono ?_; rintro e w' ⟨rfl, rfl⟩)
        go_ret2
        exact ⟨by rw [HO.out]; rfl, E1.out.bel.alloc E1.out.bel.size _⟩
      · have hp : 0 < n := by omega
        have HS := Lib.hid (fun W (hW : Env2 w W 26 3 (fanA f A n c) #[.int .i64 d]) => SearchS_any (stickP f d) 41 (fun W => Env2 w W 26 3 (fanA f A n c) #[.int .i64 d]) (.pointer (some ⟨w.heap.size, 0, none⟩)) (.pointer (some ⟨w.heap.size + 1, 0, none⟩)) W (by omega) hW (fun k X hk hX => stick1_any f d A n c w h hp hc hE k X hk hX))
        have HO : Hid (stickR f d = if 40 < searchL (stickP f d) 41 then (0, 7) else ((searchL (stickP f d) 41 : Int) + 1, 0)) := by unfold Hid stickR; rw [if_pos hE, q1, if_pos rfl, hl, if_neg hz0]; rfl
        have hz1 : ((n : Int) == 0) = false := by simpa using hz0
        have hz2 : decide (n = 0) = false := by simpa using hz0
        rw [hE] at HF
        clear h hn hE hl hc
        generalize stickR f d = r at *
        generalize searchL (stickP f d) 41 = z at *
        obtain ⟨fa, fb, fc, fd, gs⟩ := f
        simp only [fanA] at *
        by_cases hz : 40 < z
        · have HO2 : Hid (r = (0, 7)) := by unfold Hid; rw [HO.out, if_pos hz]
          go_enter Try.func35, Try.ntmps35
          go_wp2_with fail
          refine (HF.out _ E0.out.bel).mono ?_
          rintro e W1 ⟨rfl, hb1⟩
          have E1 := Lib.hid (E0.out.below hb1)
          have E2 := Lib.hid (E1.out.alloc (.cells #[.int .i64 d] 3))
          have p1 := fanD_get E1.out
          have p2 := fanD_get E2.out
          clear hb1
          go_wp2_with (first | (go_at_call 73; refine (within1 _ _ _ _ _ _ (by simp)).mono ?_; rintro e w' ⟨rfl, rfl⟩) | (go_at_call 80; refine (HS.out _ E2.out).mono ?_; rintro e W3 ⟨rfl, hE3⟩))
          have E3 := Lib.hid hE3
          clear hE3
          go_ret2
          exact ⟨by rw [HO2.out]; rfl, E3.out.bel⟩
        · have HO2 : Hid (r = ((z : Int) + 1, 0)) := by unfold Hid; rw [HO.out, if_neg hz]
          go_enter Try.func35, Try.ntmps35
          go_wp2_with fail
          refine (HF.out _ E0.out.bel).mono ?_
          rintro e W1 ⟨rfl, hb1⟩
          have E1 := Lib.hid (E0.out.below hb1)
          have E2 := Lib.hid (E1.out.alloc (.cells #[.int .i64 d] 3))
          have p1 := fanD_get E1.out
          have p2 := fanD_get E2.out
          clear hb1
          go_wp2_with (first | (go_at_call 73; refine (within1 _ _ _ _ _ _ (by simp)).mono ?_; rintro e w' ⟨rfl, rfl⟩) | (go_at_call 80; refine (HS.out _ E2.out).mono ?_; rintro e W3 ⟨rfl, hE3⟩))
          have E3 := Lib.hid hE3
          clear hE3
          go_ret2
          exact ⟨by rw [HO2.out]; rfl, E3.out.bel⟩
  · have HO : Hid (stickR f d = (0, fanErr f)) := if_neg hE
    clear h hn hl hc
    generalize stickR f d = r at *
    generalize fanErr f = e0 at *
    unfold fanA at *
    go_enter Try.func35, Try.ntmps35
    go_wp2_with fail
    refine (HF.out _ E0.out.bel).mono ?_
    rintro e W1 ⟨rfl, hb1⟩
    have E1 := Lib.hid (E0.out.below hb1)
    have he1 : decide (e0 = 0) = false := by simpa using hE
    clear hb1
    go_wp2
    go_ret2
    exact ⟨by rw [HO.out]; rfl, E1.out.bel⟩
end Go.Proofs.Ytdekickmplkdiaa
