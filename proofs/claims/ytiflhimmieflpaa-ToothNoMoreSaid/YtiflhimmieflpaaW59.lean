/- Walks: two sticks apart, of the reference and of the code. -/
import Derived.Test.YtiflhimmieflpaaW55
namespace Go.Proofs.Ytiflhimmieflpaa
open Go.RowKit Go.Maps

/-- Whether two sticks can lie in one layout. -/
def apartB (s : Sw) (px py qx qy : Int) : Bool := if px = qx then decide (s.wide + s.kerf ≤ max (py - qy) (qy - py)) else decide (s.long + s.across ≤ max (px - qx) (qx - px))
set_option maxHeartbeats 1000000 in
theorem RefApart_any (s : Sw) (px py qx qy : Int) (w : World) (hs : s.Ok) (h1 : SmallI px) (h2 : SmallI py) (h3 : SmallI qx) (h4 : SmallI qy) :
    Calls Try.prog 77 #[s.val, .agg #[.int .i64 px, .int .i64 py], .agg #[.int .i64 qx, .int .i64 qy]] w fun e w' => e = .returned (.bool (apartB s px py qx qy)) ∧ Below w.heap.size w w' := by
  unfold SmallI at *
  obtain ⟨l1, l2, w1, w2, k1, k2, a1, a2⟩ := hs
  have HD : Hid (apartB s px py qx qy = if px = qx then decide (s.wide + s.kerf ≤ max (py - qy) (qy - py)) else decide (s.long + s.across ≤ max (px - qx) (qx - px))) := rfl
  have B0 := Lib.hid (below_alloc' (below_alloc' (below_self w (.cells #[.int .i64 s.long, .int .i64 s.wide, .int .i64 s.kerf, .int .i64 s.across] 37)) (.cells #[.int .i64 px, .int .i64 py] 39)) (.cells #[.int .i64 qx, .int .i64 qy] 39))
  have e1 : IntKind.i64.wrap (py - qy) = py - qy := IntWalk.i64_in _ (by omega)
  have e2 : IntKind.i64.wrap (qy - py) = qy - py := IntWalk.i64_in _ (by omega)
  have e3 : IntKind.i64.wrap (px - qx) = px - qx := IntWalk.i64_in _ (by omega)
  have e4 : IntKind.i64.wrap (qx - px) = qx - px := IntWalk.i64_in _ (by omega)
  have e5 : IntKind.i64.wrap (s.wide + s.kerf) = s.wide + s.kerf := IntWalk.i64_in _ (by omega)
  have e6 : IntKind.i64.wrap (s.long + s.across) = s.long + s.across := IntWalk.i64_in _ (by omega)
  unfold Sw.val
  by_cases hx : px = qx
  · have hx2 : (px == qx) = true := by simpa using hx
    by_cases hm : py - qy < qy - py
    · have HE : Hid (apartB s px py qx qy = decide (s.wide + s.kerf ≤ qy - py)) := by unfold Hid; rw [HD.out, if_pos hx, show max (py - qy) (qy - py) = qy - py by omega]
      clear HD hx
      go_enter Try.func77, Try.ntmps77
      go_wp2
      go_ret
      exact ⟨ret_bool HE.out.symm, B0.out⟩
    · have HE : Hid (apartB s px py qx qy = decide (s.wide + s.kerf ≤ py - qy)) := by unfold Hid; rw [HD.out, if_pos hx, show max (py - qy) (qy - py) = py - qy by omega]
      clear HD hx
      go_enter Try.func77, Try.ntmps77
      go_wp2
      go_ret
      exact ⟨ret_bool HE.out.symm, B0.out⟩
  · have hx2 : (px == qx) = false := by simpa using hx
    by_cases hm : px - qx < qx - px
    · have HE : Hid (apartB s px py qx qy = decide (s.long + s.across ≤ qx - px)) := by unfold Hid; rw [HD.out, if_neg hx, show max (px - qx) (qx - px) = qx - px by omega]
      clear HD hx
      go_enter Try.func77, Try.ntmps77
      go_wp2
      go_ret
      exact ⟨ret_bool HE.out.symm, B0.out⟩
    · have HE : Hid (apartB s px py qx qy = decide (s.long + s.across ≤ px - qx)) := by unfold Hid; rw [HD.out, if_neg hx, show max (px - qx) (qx - px) = px - qx by omega]
      clear HD hx
      go_enter Try.func77, Try.ntmps77
      go_wp2
      go_ret
      exact ⟨ret_bool HE.out.symm, B0.out⟩
set_option maxHeartbeats 1000000 in
theorem apart_any (S : Sawing) (b b' : Addr) (n c c' : Nat) (K : Option Addr) (m d : Nat) (px py qx qy : Int) (w : World) (hs : SawBounds S) (h1 : SmallI px) (h2 : SmallI py) (h3 : SmallI qx) (h4 : SmallI qy) :
    Calls Try.prog 75 #[sawVal S b b' n c c' K m d, .agg #[.int .i64 px, .int .i64 py], .agg #[.int .i64 qx, .int .i64 qy]] w fun e w' => e = .returned (.bool (apartB ⟨S.long, S.wide, S.kerf, S.across⟩ px py qx qy)) ∧ Below w.heap.size w w' := by
  unfold SmallI at *
  obtain ⟨l1, l2, w1, w2, k1, k2, a1, a2, _, _, _⟩ := hs
  have HD : Hid (apartB ⟨S.long, S.wide, S.kerf, S.across⟩ px py qx qy = if px = qx then decide (S.wide + S.kerf ≤ max (py - qy) (qy - py)) else decide (S.long + S.across ≤ max (px - qx) (qx - px))) := rfl
  have B0 := Lib.hid (below_alloc' (below_alloc' (below_self w (.cells #[.int .i64 S.long, .int .i64 S.wide, .int .i64 S.kerf, .int .i64 S.across, .slice (some b) n c, .slice (some b') n c', .slice K m d] 120)) (.cells #[.int .i64 px, .int .i64 py] 39)) (.cells #[.int .i64 qx, .int .i64 qy] 39))
  have e1 : IntKind.i64.wrap (py - qy) = py - qy := IntWalk.i64_in _ (by omega)
  have e2 : IntKind.i64.wrap (qy - py) = qy - py := IntWalk.i64_in _ (by omega)
  have e3 : IntKind.i64.wrap (px - qx) = px - qx := IntWalk.i64_in _ (by omega)
  have e4 : IntKind.i64.wrap (qx - px) = qx - px := IntWalk.i64_in _ (by omega)
  have e5 : IntKind.i64.wrap (S.wide + S.kerf) = S.wide + S.kerf := IntWalk.i64_in _ (by omega)
  have e6 : IntKind.i64.wrap (S.long + S.across) = S.long + S.across := IntWalk.i64_in _ (by omega)
  unfold sawVal
  by_cases hx : px = qx
  · have hx2 : (px == qx) = true := by simpa using hx
    by_cases hm : py - qy < qy - py
    · have HE : Hid (apartB ⟨S.long, S.wide, S.kerf, S.across⟩ px py qx qy = decide (S.wide + S.kerf ≤ qy - py)) := by unfold Hid; rw [HD.out, if_pos hx, show max (py - qy) (qy - py) = qy - py by omega]
      clear HD hx
      go_enter Try.func75, Try.ntmps75
      go_wp2
      go_ret
      exact ⟨ret_bool HE.out.symm, B0.out⟩
    · have HE : Hid (apartB ⟨S.long, S.wide, S.kerf, S.across⟩ px py qx qy = decide (S.wide + S.kerf ≤ py - qy)) := by unfold Hid; rw [HD.out, if_pos hx, show max (py - qy) (qy - py) = py - qy by omega]
      clear HD hx
      go_enter Try.func75, Try.ntmps75
      go_wp2
      go_ret
      exact ⟨ret_bool HE.out.symm, B0.out⟩
  · have hx2 : (px == qx) = false := by simpa using hx
    by_cases hm : px - qx < qx - px
    · have HE : Hid (apartB ⟨S.long, S.wide, S.kerf, S.across⟩ px py qx qy = decide (S.long + S.across ≤ qx - px)) := by unfold Hid; rw [HD.out, if_neg hx, show max (px - qx) (qx - px) = qx - px by omega]
      clear HD hx
      go_enter Try.func75, Try.ntmps75
      go_wp2
      go_ret
      exact ⟨ret_bool HE.out.symm, B0.out⟩
    · have HE : Hid (apartB ⟨S.long, S.wide, S.kerf, S.across⟩ px py qx qy = decide (S.long + S.across ≤ px - qx)) := by unfold Hid; rw [HD.out, if_neg hx, show max (px - qx) (qx - px) = px - qx by omega]
      clear HD hx
      go_enter Try.func75, Try.ntmps75
      go_wp2
      go_ret
      exact ⟨ret_bool HE.out.symm, B0.out⟩
end Go.Proofs.Ytiflhimmieflpaa
