/- Walks: the reference's Same, of equal blades. -/
import Derived.Test.YtiflhimmieflpaaW33
namespace Go.Proofs.Ytiflhimmieflpaa
open Go.RowKit Go.Maps

set_option maxRecDepth 100000 in
set_option maxHeartbeats 1000000 in
theorem RefSame_core (A A' K E E' F : Option Addr) (n c n' c' m d e1 e2 e3 : Nat) (bend : Int) (bot top : List (Int × Int)) (cr : List Crack) (w : World) (h1 : Pairs w A n bot) (h2 : Pairs w A' n' top) (h3 : Cracks w K m cr) (g1 : Pairs w E n bot) (g2 : Pairs w E' n' top) (g3 : Cracks w F m cr) (hn : n ≤ maxLen) (hn' : n' ≤ maxLen) (hm : m ≤ maxLen) :
    Calls Try.prog 23 #[.agg #[.slice A n c, .slice A' n' c', .int .i64 bend, .slice K m d], .agg #[.slice E n e1, .slice E' n' e2, .int .i64 bend, .slice F m e3]] w fun e w' => e = .returned (.bool true) ∧ Below w.heap.size w w' := by
  have E0 : Hid (Below w.heap.size w ((w.alloc (.cells #[.slice A n c, .slice A' n' c', .int .i64 bend, .slice K m d] 25)).alloc (.cells #[.slice E n e1, .slice E' n' e2, .int .i64 bend, .slice F m e3] 25))) := below_alloc' (below_self _ _) _
  have S1 := Lib.hid ((Blk.new w 25 #[.slice A n c, .slice A' n' c', .int .i64 bend, .slice K m d] rfl).alloc (.cells #[.slice E n e1, .slice E' n' e2, .int .i64 bend, .slice F m e3] 25))
  have S2 := Lib.hid (Blk.new (w.alloc (.cells #[.slice A n c, .slice A' n' c', .int .i64 bend, .slice K m d] 25)) 25 #[.slice E n e1, .slice E' n' e2, .int .i64 bend, .slice F m e3] (g := w.heap.size + 1) (by simp))
  have HC1 := Lib.hid (fun W (hb : Below w.heap.size w W) => RefSpans_eq A E n c e1 bot W (h1.below hb) (g1.below hb) hn)
  have HC2 := Lib.hid (fun W (hb : Below w.heap.size w W) => RefSpans_eq A' E' n' c' e2 top W (h2.below hb) (g2.below hb) hn')
  have K1 := Lib.hid h3
  have K2 := Lib.hid g3
  have hd2 : ((m : Int) != (m : Int)) = false := by simp
  have hb2 : (bend != bend) = false := by simp
  unfold maxLen at hm
  clear h1 h2 h3 g1 g2 g3 hn hn'
  go_enter Try.func23, Try.ntmps23
  go_wp2_with fail
  refine (HC1.out _ E0.out).mono ?_
  rintro e w1 ⟨rfl, b1⟩
  have D1 := Lib.hid (below_then E0.out b1)
  have T1 := Lib.hid (blk_keep b1 S1.out)
  have T2 := Lib.hid (blk_keep b1 S2.out)
  have t1 := T1.out.cell
  have t2 := T2.out.cell
  clear b1 HC1 S1 S2
  go_wp2_with fail
  refine (HC2.out _ D1.out).mono ?_
  rintro e w2 ⟨rfl, b2⟩
  have D2 := Lib.hid (below_then D1.out b2)
  have U1 := Lib.hid (blk_keep b2 T1.out)
  have U2 := Lib.hid (blk_keep b2 T2.out)
  have u1 := U1.out.cell
  have u2 := U2.out.cell
  clear b2 HC2 T1 T2 t1 t2 D1 E0
  go_wp2_with fail
  clear u1 u2
  go_loopw [5] (fun i wr => ∃ k : Nat, k ≤ m ∧ i = .int .i64 k ∧ Below w2.heap.size w2 wr) (fun i _ => m - (intOf i).toNat)
  case atStart => exact ⟨0, Nat.zero_le _, rfl, Below.refl _ _⟩
  case round =>
    obtain ⟨k, hk, rfl, hbel⟩ := hrel
    have Hbel := Lib.hid hbel
    have v1 := (blk_keep hbel U1.out).cell
    have v2 := (blk_keep hbel U2.out).cell
    by_cases hlt : k < m
    · obtain ⟨b, off, hA, hb, q0, q1, q2, q3, q4, q5⟩ := (K1.out.below (below_then D2.out hbel)).at_ hlt
      obtain ⟨b', off', hA', hb', p0, p1, p2, p3, p4, p5⟩ := (K2.out.below (below_then D2.out hbel)).at_ hlt
      subst hA hA'
      clear hbel
      generalize cr.getD k Crack.zero = x at *
      obtain ⟨x0, x1, x2, x3, x4, x5⟩ := x
      go_wp2_with fail
      go_quiet (fail)
      go_wp2
      go_roundw
      case rel => exact ⟨k + 1, by omega, by go_num, below_drewN Hbel.out _⟩
      case measure => simp [intOf]; omega
    · obtain rfl : k = m := by omega
      go_wp2
      go_ret
      exact ⟨rfl, below_then D2.out Hbel.out⟩
/-- Two blades that read alike. -/
structure Bl.Like (B B' : Bl) : Prop where
  n : B'.n = B.n
  n' : B'.n' = B.n'
  m : B'.m = B.m
  bend : B'.bend = B.bend
  bot : B'.bot = B.bot
  top : B'.top = B.top
  cr : B'.cr = B.cr
theorem RefSame_any (B B' : Bl) (w : World) (h : B.At w) (h' : B'.At w) (hl : B.Like B') : Calls Try.prog 23 #[B'.val, B.val] w fun e w' => e = .returned (.bool true) ∧ Below w.heap.size w w' := by
  obtain ⟨A, A', K, n, c, n', c', m, d, bend, bot, top, cr⟩ := B
  obtain ⟨E, E', F, k1, c2, k2, c3, k3, d2, bd, b2, t2, r2⟩ := B'
  obtain ⟨g1, g2, g3, g4, g5, g6, g7⟩ := hl
  dsimp only at g1 g2 g3 g4 g5 g6 g7
  subst g1 g2 g3 g4 g5 g6 g7
  exact RefSame_core E E' F A A' K k1 c2 k2 c3 k3 d2 c c' d bd b2 t2 r2 w h'.hb h'.ht h'.hk h.hb h.ht h.hk h.n1 h.n2 h.n3
end Go.Proofs.Ytiflhimmieflpaa
