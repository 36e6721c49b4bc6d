/- Walks: the reference's Can. -/
import Derived.Test.YtdekickmplkdiaaUm
namespace Go.Proofs.Ytdekickmplkdiaa
open Go.RowKit

/-- Whether something can be seen if the gaps of a set are measured wrong. -/
def canB (f : Fan) (s : Int × Int) (L : List Int) : Bool := decide (degL false (f.some L) ≤ s.2) && decide (s.1 ≤ if 0 < L.length then 360 else degL true (f.some L))

set_option maxRecDepth 100000 in
set_option maxHeartbeats 4000000 in
theorem Can_any (f : Fan) (s1 s2 : Int) (L : List Int) (A B : Option Addr) (n c d : Nat) (w : World) (hf : FanB f) (h : Gaps w A n f.gs) (hn : n ≤ 40) (hB : Ints w B L.length L) (hL : L.length ≤ 1000) :
    Calls Try.prog 79 #[.agg (fanA f A n c), .agg #[.int .i64 s1, .int .i64 s2], .slice B L.length d] w fun e w' => e = .returned (.bool (canB f (s1, s2) L)) ∧ Below w.heap.size w w' := by
  have hl := h.len
  have E0 := Lib.hid (Env2.start w 26 23 (fanA f A n c) #[.int .i64 s1, .int .i64 s2])
  have HS := Lib.hid (fun W (hb : Below w.heap.size w W) => Some_any f L A B n c d W (h.below hb) hn (hB.below hb) hL)
  have HR := Lib.hid (fun A' m c' W (hG : Gaps W A' m (f.some L).gs) => RefOpens_any (f.some L) A' m c' W (some_B hf L) hG)
  have hgs : (f.some L).gs = someTo f.gs L n := by show someTo f.gs L f.gs.length = _; rw [hl]
  have HF : Hid (∀ A' m c', fanA (f.some L) A' m c' = fanA f A' m c') := fun _ _ _ => rfl
  simp only [HF.out, hgs] at HR
  unfold SomeRes at HS
  have HC : Hid (canB f (s1, s2) L = (decide (degL false (f.some L) ≤ s2) && decide (s1 ≤ if 0 < L.length then 360 else degL true (f.some L)))) := rfl
  clear h hB hf hgs HF hl
  generalize degL false (f.some L) = lo at *
  generalize degL true (f.some L) = hi at *
  generalize canB f (s1, s2) L = r at *
  generalize someTo f.gs L n = sg at *
  generalize L.length = l at *
  obtain ⟨fa, fb, fc, fd, gs⟩ := f
  simp only [fanA] at *
  have p0 := fan_get E0.out.p
  go_enter Try.func79, Try.ntmps79
  go_wp2_with fail
  refine (HS.out _ E0.out.bel).mono ?_
  rintro e w1 ⟨A', c', rfl, hG, b1⟩
  have E1 := Lib.hid (E0.out.below b1)
  have G1 := Lib.hid hG
  clear b1 hG p0 E0 HS
  go_wp2_with fail
  refine (HR.out _ _ _ _ G1.out).mono ?_
  rintro e w2 ⟨rfl, b2⟩
  have E2 := Lib.hid (E1.out.below b2)
  have S2 := Lib.hid (Blk.new w2 23 #[.int .i64 0, .int .i64 0] (g := w2.heap.size) rfl)
  have hz := E2.out.q.lt
  have E3 := Lib.hid ((E2.out.alloc (.cells #[.int .i64 0, .int .i64 0] 23)).setRowFar (g := w2.heap.size) (by omega) #[.int .i64 lo, .int .i64 hi])
  clear b2 E1 G1 HR
  go_wp2_with (refine wpList_store_row rfl 23 _ _ rfl w2.heap.size _ rfl rfl 23 _ S2.out (by kernel_rfl) rfl (by kernel_rfl) ?_; have S3 := Lib.hid (S2.out.setRow #[.int .i64 lo, .int .i64 hi]); clear S2; have r5 := pair_get E3.out.q; have g5 := pair_get S3.out)
  all_goals
    go_ret
    exact ⟨ret_bool (by rw [HC.out]; first | (rw [decide_eq_false (show ¬ lo ≤ s2 by omega)]; rfl) | (rw [decide_eq_true (show lo ≤ s2 by omega), Bool.true_and]; first | (rw [if_pos (by omega)]; done) | (rw [if_neg (by omega)]; done))), by first | exact E3.out.bel | exact E3.out.bel.setCell (p := ⟨w2.heap.size, 1, none⟩) (by show w.heap.size ≤ w2.heap.size; omega) _⟩
end Go.Proofs.Ytdekickmplkdiaa
