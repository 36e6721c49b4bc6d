/- Walks: the reference's Widest. -/
import Derived.Test.YtiflhimmieflpaaW56
namespace Go.Proofs.Ytiflhimmieflpaa
open Go.RowKit Go.Maps

set_option maxRecDepth 100000 in
set_option maxHeartbeats 4000000 in
theorem RefWidest_any (V : Vw) (s : Sw) (sticks : Int) (cnt : Nat → Int) (Wd : Nat) (w : World) (h3 : Wd ≤ 300) (hyes : ∀ X : Nat, 1 ≤ X → X ≤ Wd → sticks ≤ cnt X) (hno : ∀ X : Nat, Wd < X → X ≤ 300 → cnt X < sticks)
    (hM : ∀ X : Nat, 1 ≤ X → X ≤ 300 → ∀ W, Below w.heap.size w W → Calls Try.prog 37 #[V.val, (s.width X).val] W fun e w' => ∃ (A : Option Addr) (n c : Nat), e = .returned (.slice A n c) ∧ (n : Int) = cnt X ∧ Below W.heap.size W w') :
    Calls Try.prog 50 #[V.val, s.val, .int .i64 sticks] w fun e w' => e = .returned (.int .i64 Wd) ∧ Below w.heap.size w w' := by
  have HM := Lib.hid hM
  have HY := Lib.hid hyes
  have HN := Lib.hid hno
  have F0 := Lib.hid ((Blk.new w 46 #[.slice V.A V.n V.c, .slice V.A' V.n V.c', .slice V.K V.m V.d] rfl).alloc (.cells #[.int .i64 s.long, .int .i64 s.wide, .int .i64 s.kerf, .int .i64 s.across] 37))
  have G0 := Lib.hid (Blk.new (w.alloc (.cells #[.slice V.A V.n V.c, .slice V.A' V.n V.c', .slice V.K V.m V.d] 46)) 37 #[.int .i64 s.long, .int .i64 s.wide, .int .i64 s.kerf, .int .i64 s.across] (g := w.heap.size + 1) (by simp))
  have E0 : Hid (Below w.heap.size w ((w.alloc (.cells #[.slice V.A V.n V.c, .slice V.A' V.n V.c', .slice V.K V.m V.d] 46)).alloc (.cells #[.int .i64 s.long, .int .i64 s.wide, .int .i64 s.kerf, .int .i64 s.across] 37))) := below_alloc' (below_self _ _) _
  clear hM hyes hno
  unfold Vw.val Sw.val at *
  go_enter Try.func50, Try.ntmps50
  go_wp2_with fail
  generalize (w.alloc (.cells #[.slice V.A V.n V.c, .slice V.A' V.n V.c', .slice V.K V.m V.d] 46)).alloc (.cells #[.int .i64 s.long, .int .i64 s.wide, .int .i64 s.kerf, .int .i64 s.across] 37) = W0 at *
  go_loopw [7] (fun xv wr => ∃ (X : Nat) (y : Int), xv = .int .i64 X ∧ X ≤ 300 ∧ Wd ≤ X ∧ Blk wr w.heap.size 46 #[.slice V.A V.n V.c, .slice V.A' V.n V.c', .slice V.K V.m V.d] ∧ Blk wr (w.heap.size + 1) 37 #[.int .i64 s.long, .int .i64 y, .int .i64 s.kerf, .int .i64 s.across] ∧ Below w.heap.size w wr) (fun xv _ => (intOf xv).toNat)
  case atStart => exact ⟨300, _, rfl, Nat.le_refl _, h3, F0.out, G0.out, E0.out⟩
  case round =>
    obtain ⟨X, y, rfl, hX, hW, hf, hg, hb⟩ := hrel
    have HF := Lib.hid hf
    have HG := Lib.hid hg
    have HB := Lib.hid hb
    have fz := hg.frozen 1
    have g1 := hg.cell 1
    clear hf hg hb F0 G0 E0
    by_cases hpos : 0 < X
    · have hpos2 : (0 : Int) < (X : Int) := by omega
      have F1 := Lib.hid (HF.out.far (p := ⟨w.heap.size + 1, 1, none⟩) (by simp) (.int .i64 X))
      have G1 : Hid (Blk (wr.setCell ⟨w.heap.size + 1, 1, none⟩ (.int .i64 X)) (w.heap.size + 1) 37 #[.int .i64 s.long, .int .i64 X, .int .i64 s.kerf, .int .i64 s.across]) := HG.out.set_ 1 (.int .i64 X)
      have B1 := Lib.hid (HB.out.setCell (p := ⟨w.heap.size + 1, 1, none⟩) (by simp) (.int .i64 X))
      have HC := Lib.hid (HM.out X hpos hX _ B1.out)
      have f1 := F1.out.cell
      have gc := G1.out.cell
      have xa : IntKind.i64.wrap ((X : Int) - 1) = ((X - 1 : Nat) : Int) := by rw [IntWalk.i64_in _ (by omega)]; omega
      go_wp2_with fail
      refine HC.out.mono ?_
      rintro e w2 ⟨A, n, c, rfl, hn, b2⟩
      have F2 := Lib.hid (blk_keep b2 F1.out)
      have G2 := Lib.hid (blk_keep b2 G1.out)
      have B2 := Lib.hid (below_then B1.out b2)
      clear b2 HC f1 gc g1 fz
      by_cases hen : sticks ≤ (n : Int)
      · have hXW : X = Wd := by
          by_cases e : Wd < X
          · have := HN.out X e hX; omega
          · omega
        subst hXW
        clear hn
        go_wp2
        go_ret
        exact ⟨rfl, B2.out⟩
      · have hXW : Wd ≤ X - 1 := by
          by_cases e : X ≤ Wd
          · have := HY.out X hpos e; omega
          · omega
        clear hn
        go_wp2
        go_roundw
        case rel => exact ⟨X - 1, _, rfl, by omega, hXW, F2.out, G2.out, B2.out⟩
        case measure => simp [intOf]; omega
    · obtain rfl : X = 0 := by omega
      obtain rfl : Wd = 0 := by omega
      go_wp2
      go_ret
      exact ⟨rfl, HB.out⟩
end Go.Proofs.Ytiflhimmieflpaa
