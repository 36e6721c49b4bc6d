/- Walks: Compare. -/
import Derived.Test.YtdekickmplkdiaaRh
namespace Go.Proofs.Ytdekickmplkdiaa
open Go.RowKit

def moreE (x y : Fan) : Int := if fanErr x = 0 then fanErr y else fanErr x
def moreL (x y : Fan) : Int := if moreE x y = 0 then (if gtL x y = true then 1 else if gtL y x = true then 2 else 3) else 0

set_option maxRecDepth 100000 in
set_option maxHeartbeats 2000000 in
theorem Compare_any (x y : Fan) (A : Option Addr) (n c : Nat) (A' : Option Addr) (m c' : Nat) (w : World) (h : Gaps w A n x.gs) (h' : Gaps w A' m y.gs) (hn : n ≤ maxLen) (hm : m ≤ maxLen) :
    Calls Try.prog 26 #[.agg (fanA x A n c), .agg (fanA y A' m c')] w fun e w' => e = .returned (.tuple #[.int .i64 (moreL x y), .int .i64 (moreE x y)]) ∧ Below w.heap.size w w' := by
  have HX := Lib.hid (fun W (hb : Below w.heap.size w W) => fanError_any x A n c W (h.below hb) hn)
  have HY := Lib.hid (fun W (hb : Below w.heap.size w W) => fanError_any y A' m c' W (h'.below hb) hm)
  have HM1 : Hid (¬ fanErr x = 0 → moreE x y = fanErr x ∧ moreL x y = 0) := fun h => by unfold moreL moreE; rw [if_neg h]; exact ⟨rfl, if_neg h⟩
  have HM2 : Hid (fanErr x = 0 → ¬ fanErr y = 0 → moreE x y = fanErr y ∧ moreL x y = 0) := fun h h2 => by unfold moreL moreE; rw [if_pos h]; exact ⟨rfl, if_neg h2⟩
  have HM3 : Hid (fanErr x = 0 → fanErr y = 0 → moreE x y = 0 ∧ moreL x y = (if gtL x y = true then 1 else if gtL y x = true then 2 else 3)) := fun h h2 => by unfold moreL moreE; rw [if_pos h, h2]; exact ⟨rfl, if_pos rfl⟩
  have HG1 := Lib.hid (fun (hx : fanErr x = 0) (hy : fanErr y = 0) W (g : Nat) (hb : Below w.heap.size w W) hg => fart01_any x y A n c A' m c' g W (fanB_of hx).1 (fanB_of hy).1 (h.below hb) (h'.below hb) hg)
  have HG2 := Lib.hid (fun (hx : fanErr x = 0) (hy : fanErr y = 0) W (g : Nat) (hb : Below w.heap.size w W) hg => fart10_any x y A n c A' m c' g W (fanB_of hx).1 (fanB_of hy).1 (h.below hb) (h'.below hb) hg)
  clear h h' hn hm
  generalize moreE x y = me at *
  generalize moreL x y = mo at *
  generalize gtL x y = g1 at *
  generalize gtL y x = g2 at *
  generalize fanErr x = rx at *
  generalize fanErr y = ry at *
  obtain ⟨xa, xb, xc, xd, xs⟩ := x
  obtain ⟨ya, yb, yc, yd, ys⟩ := y
  simp only [fanA] at *
  go_enter Try.func26, Try.ntmps26
  go_wp2_with fail
  have B0 := Lib.hid (((below_self w (.cells #[.int .i64 xa, .int .i64 xb, .int .i64 xc, .int .i64 xd, .slice A n c] 26)).alloc (by simp) (.cells #[.int .i64 ya, .int .i64 yb, .int .i64 yc, .int .i64 yd, .slice A' m c'] 26)).alloc (by simp; omega) (.cells #[.int .i64 xa, .int .i64 xb, .int .i64 xc, .int .i64 xd, .slice A n c, .int .i64 ya, .int .i64 yb, .int .i64 yc, .int .i64 yd, .slice A' m c'] 112))
  have R0 := Lib.hid (Blk.new ((w.alloc (.cells #[.int .i64 xa, .int .i64 xb, .int .i64 xc, .int .i64 xd, .slice A n c] 26)).alloc (.cells #[.int .i64 ya, .int .i64 yb, .int .i64 yc, .int .i64 yd, .slice A' m c'] 26)) 112 #[.int .i64 xa, .int .i64 xb, .int .i64 xc, .int .i64 xd, .slice A n c, .int .i64 ya, .int .i64 yb, .int .i64 yc, .int .i64 yd, .slice A' m c'] (g := w.heap.size + 1 + 1) (by simp))
  go_loopw [15] (fun i wr => ∃ k : Nat, k ≤ 2 ∧ i = .int .i64 k ∧ (1 ≤ k → rx = 0) ∧ (2 ≤ k → ry = 0) ∧ Blk wr (w.heap.size + 1 + 1) 112 #[.int .i64 xa, .int .i64 xb, .int .i64 xc, .int .i64 xd, .slice A n c, .int .i64 ya, .int .i64 yb, .int .i64 yc, .int .i64 yd, .slice A' m c'] ∧ Below w.heap.size w wr) (fun i _ => 2 - (intOf i).toNat)
  case atStart => exact ⟨0, by omega, rfl, fun h => absurd h (by omega), fun h => absurd h (by omega), R0.out, B0.out⟩
  case round =>
    obtain ⟨k, hk, rfl, hk1, hk2, hR, hB⟩ := hrel
    have R2 := Lib.hid hR
    have B2 := Lib.hid hB
    clear hR hB R0 B0
    rcases (show k = 0 ∨ k = 1 ∨ k = 2 from by omega) with rfl | rfl | rfl
    · clear hk1 hk2 hk
      have hrun : ∀ W : World, (Instr.index 112 (.agg #[.int .i64 xa, .int .i64 xb, .int .i64 xc, .int .i64 xd, .slice A n c, .int .i64 ya, .int .i64 yb, .int .i64 yc, .int .i64 yd, .slice A' m c']) (.int .i64 0)).run Try.prog W = .ok (.agg #[.int .i64 xa, .int .i64 xb, .int .i64 xc, .int .i64 xd, .slice A n c]) W := fun W => by kernel_rfl
      by_cases he : rx = 0
      · have HE := Lib.hid he
        have HZ := HX
        rw [HE.out] at HZ
        clear he
        go_wp2_with fail
        refine (HZ.out _ (below_then B2.out (below_self _ _))).mono ?_
        rintro e W3 ⟨rfl, hb3⟩
        have R3 := Lib.hid (blk_keep hb3 (blk_keep (below_self wr (.cells #[.int .i64 xa, .int .i64 xb, .int .i64 xc, .int .i64 xd, .slice A n c] 26)) R2.out))
        have B3 := Lib.hid (below_then (below_then B2.out (below_self _ _)) hb3)
        clear hb3
        go_wp2
        go_roundw
        case rel => exact ⟨1, by omega, rfl, fun _ => HE.out, fun h => absurd h (by omega), R3.out, B3.out⟩
        case measure => simp [intOf]
      · have he1 : decide (rx = 0) = false := by simpa using he
        have HQ : Hid (me = rx ∧ mo = 0) := HM1.out he
        go_wp2_with fail
        refine (HX.out _ (below_then B2.out (below_self _ _))).mono ?_
        rintro e W3 ⟨rfl, hb3⟩
        have B3 := Lib.hid (below_then (below_then B2.out (below_self _ _)) hb3)
        clear hb3
        go_wp2
        go_ret2
        exact ⟨by rw [HQ.out.1, HQ.out.2]; rfl, B3.out⟩
    · have HK1 := Lib.hid (hk1 (by omega))
      clear hk1 hk2 hk
      have hrun : ∀ W : World, (Instr.index 112 (.agg #[.int .i64 xa, .int .i64 xb, .int .i64 xc, .int .i64 xd, .slice A n c, .int .i64 ya, .int .i64 yb, .int .i64 yc, .int .i64 yd, .slice A' m c']) (.int .i64 1)).run Try.prog W = .ok (.agg #[.int .i64 ya, .int .i64 yb, .int .i64 yc, .int .i64 yd, .slice A' m c']) W := fun W => by kernel_rfl
      by_cases he : ry = 0
      · have HE := Lib.hid he
        have HZ := HY
        rw [HE.out] at HZ
        clear he
        go_wp2_with fail
        refine (HZ.out _ (below_then B2.out (below_self _ _))).mono ?_
        rintro e W3 ⟨rfl, hb3⟩
        have R3 := Lib.hid (blk_keep hb3 (blk_keep (below_self wr (.cells #[.int .i64 ya, .int .i64 yb, .int .i64 yc, .int .i64 yd, .slice A' m c'] 26)) R2.out))
        have B3 := Lib.hid (below_then (below_then B2.out (below_self _ _)) hb3)
        clear hb3
        go_wp2
        go_roundw
        case rel => exact ⟨2, by omega, rfl, fun _ => HK1.out, fun _ => HE.out, R3.out, B3.out⟩
        case measure => simp [intOf]
      · have he1 : decide (ry = 0) = false := by simpa using he
        have HQ : Hid (me = ry ∧ mo = 0) := HM2.out HK1.out he
        go_wp2_with fail
        refine (HY.out _ (below_then B2.out (below_self _ _))).mono ?_
        rintro e W3 ⟨rfl, hb3⟩
        have B3 := Lib.hid (below_then (below_then B2.out (below_self _ _)) hb3)
        clear hb3
        go_wp2
        go_ret2
        exact ⟨by rw [HQ.out.1, HQ.out.2]; rfl, B3.out⟩
    · have HK1 := Lib.hid (hk1 (by omega))
      have HK2 := Lib.hid (hk2 (by omega))
      have C1 := Lib.hid (fun W hb hg => HG1.out HK1.out HK2.out W (w.heap.size + 1 + 1) hb hg)
      have C2 := Lib.hid (fun W hb hg => HG2.out HK1.out HK2.out W (w.heap.size + 1 + 1) hb hg)
      have HQ := Lib.hid (HM3.out HK1.out HK2.out)
      clear hk1 hk2 hk HG1 HG2
      cases g1
      · cases g2
        · go_wp2_with fail
          refine (C1.out _ B2.out R2.out).mono ?_
          rintro e W3 ⟨rfl, hb3⟩
          have B3 := Lib.hid (below_then B2.out hb3)
          have R3 := Lib.hid (blk_keep hb3 R2.out)
          clear hb3
          go_wp2_with fail
          refine (C2.out _ B3.out R3.out).mono ?_
          rintro e W4 ⟨rfl, hb4⟩
          have B4 := Lib.hid (below_then B3.out hb4)
          clear hb4
          go_wp2
          go_ret2
          exact ⟨by rw [HQ.out.1, HQ.out.2]; rfl, B4.out⟩
        · go_wp2_with fail
          refine (C1.out _ B2.out R2.out).mono ?_
          rintro e W3 ⟨rfl, hb3⟩
          have B3 := Lib.hid (below_then B2.out hb3)
          have R3 := Lib.hid (blk_keep hb3 R2.out)
          clear hb3
          go_wp2_with fail
          refine (C2.out _ B3.out R3.out).mono ?_
          rintro e W4 ⟨rfl, hb4⟩
          have B4 := Lib.hid (below_then B3.out hb4)
          clear hb4
          go_wp2
          go_ret2
          exact ⟨by rw [HQ.out.1, HQ.out.2]; rfl, B4.out⟩
      · go_wp2_with fail
        refine (C1.out _ B2.out R2.out).mono ?_
        rintro e W3 ⟨rfl, hb3⟩
        have B3 := Lib.hid (below_then B2.out hb3)
        clear hb3
        go_wp2
        go_ret2
        exact ⟨by rw [HQ.out.1, HQ.out.2]; rfl, B3.out⟩
end Go.Proofs.Ytdekickmplkdiaa
