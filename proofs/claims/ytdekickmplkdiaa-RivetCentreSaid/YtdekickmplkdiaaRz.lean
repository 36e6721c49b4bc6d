/- Walks: Wrong. -/
import Derived.Test.YtdekickmplkdiaaRy
namespace Go.Proofs.Ytdekickmplkdiaa
open Go.RowKit

def wrongE (f : Fan) (s : Int × Int) : Int :=
  if fanErr f = 0 then (if validS 0 360 [s] = true then (if (decide (s.1 ≤ degL true f) && decide (degL false f ≤ s.2)) = true then 7 else if f.gs.length = 0 then 9 else 0) else 4) else fanErr f
def wrongL (f : Fan) (s : Int × Int) : List Int := if wrongE f s = 0 then fewestL f s.2 else []
def WrongRes (w : World) (L : List Int) (r : Int) (e : Ending) (w' : World) : Prop := ∃ v, e = .returned (.tuple #[v, .int .i64 r]) ∧ w'.ownsRow w.heap.size 3 1 v L.length (L.map (Value.int .i64)) ∧ Below w.heap.size w w'
theorem spn_get {W : World} {g : Nat} {x0 x1 : Value} (h : Blk W g 23 #[x0, x1]) : W.cell? ⟨g, 0, none⟩ = some x0 ∧ W.cell? ⟨g, 1, none⟩ = some x1 := ⟨h.cell 0, h.cell 1⟩
theorem opensL_ok {f : Fan} (h : fanErr f = 0) : opensL f = (degL false f, degL true f) := if_pos h

set_option maxRecDepth 100000 in
set_option maxHeartbeats 2000000 in
theorem Wrong_any (f : Fan) (s1 s2 : Int) (A : Option Addr) (n c : Nat) (w : World) (h : Gaps w A n f.gs) (hn : n ≤ maxLen) :
    Calls Try.prog 32 #[.agg (fanA f A n c), .agg #[.int .i64 s1, .int .i64 s2]] w (WrongRes w (wrongL f (s1, s2)) (wrongE f (s1, s2))) := by
  have hl := h.len
  have HO := Lib.hid (fun W (hb : Below w.heap.size w W) => Opens_any f A n c W (h.below hb) hn)
  have E0 := Lib.hid (Env2.start w 26 23 (fanA f A n c) #[.int .i64 s1, .int .i64 s2])
  have HL : Hid (wrongL f (s1, s2) = if wrongE f (s1, s2) = 0 then fewestL f s2 else []) := rfl
  have HE : Hid (wrongE f (s1, s2) = if fanErr f = 0 then (if validS 0 360 [(s1, s2)] = true then (if (decide (s1 ≤ degL true f) && decide (degL false f ≤ s2)) = true then 7 else if n = 0 then 9 else 0) else 4) else fanErr f) := by unfold Hid wrongE; rw [hl]
  have HW := Lib.hid (fun (hE : fanErr f = 0) (h0 : 0 < n) (hd : 0 ≤ s2) (hd2 : s2 ≤ 360) W (hb : Below w.heap.size w W) => fewest_any f s2 A n c W (fanB_of hE).1 (h.below hb) h0 hd hd2)
  have HOL := Lib.hid (opensL_ok (f := f))
  clear h hn hl
  unfold ListRes at HW
  generalize wrongL f (s1, s2) = L at *
  generalize wrongE f (s1, s2) = r at *
  generalize fewestL f s2 = FL at *
  generalize opensL f = op at *
  generalize degL false f = d1 at *
  generalize degL true f = d2 at *
  generalize fanErr f = e0 at *
  obtain ⟨fa, fb, fc, fd, gs⟩ := f
  obtain ⟨o1, o2⟩ := op
  simp only [fanA] at *
  by_cases hE : e0 = 0
  · have ho := HOL.out hE
    simp only [Prod.mk.injEq] at ho
    obtain ⟨rfl, rfl⟩ := ho
    subst hE
    cases q1 : validS 0 360 [(s1, s2)]
    · have hr : Hid (r = 4) := by unfold Hid; rw [HE.out, if_pos rfl, q1]; rfl
      have hL : Hid (L = []) := by unfold Hid; rw [HL.out, hr.out]; rfl
      go_enter Try.func32, Try.ntmps32
      go_wp2_with fail
      refine (HO.out _ E0.out.bel).mono ?_
      rintro e W1 ⟨rfl, hb1⟩
      have E1 := Lib.hid ((E0.out.below hb1).alloc (.cells #[.int .i64 o1, .int .i64 o2] 23))
      have p1 := spn_get E1.out.q
      have bx := Lib.hid (below_alloc' E1.out.bel (.cells #[.int .i64 s1, .int .i64 s2] 23))
      clear hb1
      go_wp2_with (go_at_call 76; refine (valid1 _ _ _ _ _ _ _ (by simp)).mono ?_; rintro e w3 ⟨rfl, hb3⟩)
      go_ret2
      exact ⟨_, by rw [hr.out]; rfl, by rw [hL.out]; exact World.ownsRow_nil _ _ _ _, bx.out.trans (hb3.mono (by have := E1.out.bel.size; simp at this ⊢; omega))⟩
    · have hs : 0 ≤ s1 ∧ s1 ≤ s2 ∧ s2 ≤ 360 := by simp [validS] at q1; omega
      obtain ⟨hs1, hs2, hs3⟩ := hs
      by_cases hc : s1 ≤ o2 ∧ o1 ≤ s2
      · have hr : Hid (r = 7) := by unfold Hid; rw [HE.out, if_pos rfl, q1, if_pos rfl, if_pos (by simp [hc])]
        have hL : Hid (L = []) := by unfold Hid; rw [HL.out, hr.out]; rfl
        obtain ⟨hc1, hc2⟩ := hc
        go_enter Try.func32, Try.ntmps32
        go_wp2_with fail
        refine (HO.out _ E0.out.bel).mono ?_
        rintro e W1 ⟨rfl, hb1⟩
        have E1 := Lib.hid ((E0.out.below hb1).alloc (.cells #[.int .i64 o1, .int .i64 o2] 23))
        have O1 := Lib.hid (Blk.new W1 23 #[.int .i64 o1, .int .i64 o2] rfl)
        have p1 := spn_get E1.out.q
        clear hb1
        go_wp2_with fail
        refine (valid1 _ _ _ _ _ _ _ (by simp)).mono ?_
        rintro e w3 ⟨rfl, hb3⟩
        have E3 : Hid (Env2 w w3 _ _ _ _) := Lib.hid ((E1.out.alloc (.cells #[.int .i64 s1, .int .i64 s2] 23)).below (hb3.mono (by simp)))
        have O3 := Lib.hid ((O1.out.alloc (.cells #[.int .i64 s1, .int .i64 s2] 23)).below hb3 (by simp <;> omega))
        have p3 := spn_get E3.out.q
        have o3 := spn_get O3.out
        clear hb3 p1
        go_wp2
        go_ret2
        exact ⟨_, by rw [hr.out]; rfl, by rw [hL.out]; exact World.ownsRow_nil _ _ _ _, E3.out.bel⟩
      · have hcc : (decide (s1 ≤ o2) && decide (o1 ≤ s2)) = false := by simp; omega
        by_cases hz : n = 0
        · have hr : Hid (r = 9) := by unfold Hid; rw [HE.out, if_pos rfl, q1, if_pos rfl, hcc, if_neg (by simp), if_pos hz]
          have hL : Hid (L = []) := by unfold Hid; rw [HL.out, hr.out]; rfl
          subst hz
          by_cases hc1 : s1 ≤ o2
          · have hc2 : ¬ o1 ≤ s2 := by omega
            go_enter Try.func32, Try.ntmps32
            go_wp2_with fail
            refine (HO.out _ E0.out.bel).mono ?_
            rintro e W1 ⟨rfl, hb1⟩
            have E1 := Lib.hid ((E0.out.below hb1).alloc (.cells #[.int .i64 o1, .int .i64 o2] 23))
            have O1 := Lib.hid (Blk.new W1 23 #[.int .i64 o1, .int .i64 o2] rfl)
            have p1 := spn_get E1.out.q
            clear hb1
            go_wp2_with fail
            refine (valid1 _ _ _ _ _ _ _ (by simp)).mono ?_
            rintro e w3 ⟨rfl, hb3⟩
            have E3 : Hid (Env2 w w3 _ _ _ _) := Lib.hid ((E1.out.alloc (.cells #[.int .i64 s1, .int .i64 s2] 23)).below (hb3.mono (by simp)))
            have O3 := Lib.hid ((O1.out.alloc (.cells #[.int .i64 s1, .int .i64 s2] 23)).below hb3 (by simp <;> omega))
            have p3 := spn_get E3.out.q
            have o3 := spn_get O3.out
            have f3 := fan_get E3.out.p
            clear hb3 p1
            go_wp2
            go_ret2
            exact ⟨_, by rw [hr.out]; rfl, by rw [hL.out]; exact World.ownsRow_nil _ _ _ _, E3.out.bel⟩
          · go_enter Try.func32, Try.ntmps32
            go_wp2_with fail
            refine (HO.out _ E0.out.bel).mono ?_
            rintro e W1 ⟨rfl, hb1⟩
            have E1 := Lib.hid ((E0.out.below hb1).alloc (.cells #[.int .i64 o1, .int .i64 o2] 23))
            have O1 := Lib.hid (Blk.new W1 23 #[.int .i64 o1, .int .i64 o2] rfl)
            have p1 := spn_get E1.out.q
            clear hb1
            go_wp2_with fail
            refine (valid1 _ _ _ _ _ _ _ (by simp)).mono ?_
            rintro e w3 ⟨rfl, hb3⟩
            have E3 : Hid (Env2 w w3 _ _ _ _) := Lib.hid ((E1.out.alloc (.cells #[.int .i64 s1, .int .i64 s2] 23)).below (hb3.mono (by simp)))
            have O3 := Lib.hid ((O1.out.alloc (.cells #[.int .i64 s1, .int .i64 s2] 23)).below hb3 (by simp <;> omega))
            have p3 := spn_get E3.out.q
            have o3 := spn_get O3.out
            have f3 := fan_get E3.out.p
            clear hb3 p1
            go_wp2
            go_ret2
            exact ⟨_, by rw [hr.out]; rfl, by rw [hL.out]; exact World.ownsRow_nil _ _ _ _, E3.out.bel⟩
        · have hr : Hid (r = 0) := by unfold Hid; rw [HE.out, if_pos rfl, q1, if_pos rfl, hcc, if_neg (by simp), if_neg hz]
          have hL : Hid (L = FL) := by unfold Hid; rw [HL.out, if_pos hr.out]
          have hp : 0 < n := by omega
          have C := Lib.hid (HW.out rfl hp (by omega) hs3)
          have hz1 : ((n : Int) == 0) = false := by simpa using hz
          have hz2 : decide (n = 0) = false := by simpa using hz
          by_cases hc1 : s1 ≤ o2
          · have hc2 : ¬ o1 ≤ s2 := by omega
            go_enter Try.func32, Try.ntmps32
            go_wp2_with fail
            refine (HO.out _ E0.out.bel).mono ?_
            rintro e W1 ⟨rfl, hb1⟩
            have E1 := Lib.hid ((E0.out.below hb1).alloc (.cells #[.int .i64 o1, .int .i64 o2] 23))
            have O1 := Lib.hid (Blk.new W1 23 #[.int .i64 o1, .int .i64 o2] rfl)
            have p1 := spn_get E1.out.q
            clear hb1
            go_wp2_with fail
            refine (valid1 _ _ _ _ _ _ _ (by simp)).mono ?_
            rintro e w3 ⟨rfl, hb3⟩
            have E3 : Hid (Env2 w w3 _ _ _ _) := Lib.hid ((E1.out.alloc (.cells #[.int .i64 s1, .int .i64 s2] 23)).below (hb3.mono (by simp)))
            have O3 := Lib.hid ((O1.out.alloc (.cells #[.int .i64 s1, .int .i64 s2] 23)).below hb3 (by simp <;> omega))
            have p3 := spn_get E3.out.q
            have o3 := spn_get O3.out
            have f3 := fan_get E3.out.p
            clear hb3 p1
            go_wp2_with fail
            refine (C.out _ E3.out.bel).mono ?_
            rintro e W5 ⟨v5, rfl, ho5, hb5⟩
            have O5 := Lib.hid ho5
            have B5 := Lib.hid (below_then E3.out.bel hb5)
            have Z5 := Lib.hid E3.out.bel.size
            clear ho5 hb5
            go_wp2
            go_ret2
            exact ⟨_, by rw [hr.out]; rfl, by rw [hL.out]; exact own_base O5.out Z5.out, B5.out⟩
          · go_enter Try.func32, Try.ntmps32
            go_wp2_with fail
            refine (HO.out _ E0.out.bel).mono ?_
            rintro e W1 ⟨rfl, hb1⟩
            have E1 := Lib.hid ((E0.out.below hb1).alloc (.cells #[.int .i64 o1, .int .i64 o2] 23))
            have O1 := Lib.hid (Blk.new W1 23 #[.int .i64 o1, .int .i64 o2] rfl)
            have p1 := spn_get E1.out.q
            clear hb1
            go_wp2_with fail
            refine (valid1 _ _ _ _ _ _ _ (by simp)).mono ?_
            rintro e w3 ⟨rfl, hb3⟩
            have E3 : Hid (Env2 w w3 _ _ _ _) := Lib.hid ((E1.out.alloc (.cells #[.int .i64 s1, .int .i64 s2] 23)).below (hb3.mono (by simp)))
            have O3 := Lib.hid ((O1.out.alloc (.cells #[.int .i64 s1, .int .i64 s2] 23)).below hb3 (by simp <;> omega))
            have p3 := spn_get E3.out.q
            have o3 := spn_get O3.out
            have f3 := fan_get E3.out.p
            clear hb3 p1
            go_wp2_with fail
            refine (C.out _ E3.out.bel).mono ?_
            rintro e W5 ⟨v5, rfl, ho5, hb5⟩
            have O5 := Lib.hid ho5
            have B5 := Lib.hid (below_then E3.out.bel hb5)
            have Z5 := Lib.hid E3.out.bel.size
            clear ho5 hb5
            go_wp2
            go_ret2
            exact ⟨_, by rw [hr.out]; rfl, by rw [hL.out]; exact own_base O5.out Z5.out, B5.out⟩
  · have hr : Hid (r = e0) := by unfold Hid; rw [HE.out, if_neg hE]
    have hL : Hid (L = []) := by unfold Hid; rw [HL.out, if_neg (by rw [hr.out]; exact hE)]
    have he1 : decide (e0 = 0) = false := by simpa using hE
    go_enter Try.func32, Try.ntmps32
    go_wp2_with fail
    refine (HO.out _ E0.out.bel).mono ?_
    rintro e W1 ⟨rfl, hb1⟩
    have E1 := Lib.hid ((E0.out.below hb1).alloc (.cells #[.int .i64 o1, .int .i64 o2] 23))
    clear hb1
    go_wp2
    go_ret2
    exact ⟨_, by rw [hr.out]; rfl, by rw [hL.out]; exact World.ownsRow_nil _ _ _ _, E1.out.bel⟩
end Go.Proofs.Ytdekickmplkdiaa
