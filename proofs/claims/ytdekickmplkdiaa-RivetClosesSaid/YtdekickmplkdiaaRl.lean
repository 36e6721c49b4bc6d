/- Walks: Widen. -/
import Derived.Test.YtdekickmplkdiaaRk
namespace Go.Proofs.Ytdekickmplkdiaa
open Go.RowKit

def widenGo (f : Fan) (more : Int) : Nat → Int × Int
  | 0 => (0, -1)
  | k + 1 => if (widenGo f more k).2 < degL false (f.wide k more) then ((k : Int), degL false (f.wide k more)) else widenGo f more k
def widenR (f : Fan) (more : Int) : Int × Int × Int :=
  if fanErr f = 0 then (if within 0 1000 [more] = true then (if f.gs.length = 0 then (0, 0, 7) else ((widenGo f more f.gs.length).1, (widenGo f more f.gs.length).2, 0)) else (0, 0, 4)) else (0, 0, fanErr f)
theorem wide_B {f : Fan} (h : fanErr f = 0) {more : Int} (h0 : 0 ≤ more) (h1 : more ≤ 1000) (k : Nat) (hk : k < f.gs.length) : FanB (f.wide k more) := by
  obtain ⟨hf, hg, hl⟩ := fanB_of h
  refine ⟨hf.a1, hf.ab, hf.b5, hf.c1, hf.cd, hf.d5, by simpa [Fan.wide] using hf.n, fun g hq => ?_⟩
  have e : f.gs.getD k Gap.zero = f.gs[k] := by simp [List.getD, hk]
  have hy := hf.g _ (List.getElem_mem hk)
  have hy2 := hg _ (List.getElem_mem hk)
  rcases List.mem_or_eq_of_mem_set hq with h2 | rfl
  · exact hf.g g h2
  · rw [e]; simp only; omega
theorem degL_lo {f : Fan} (h : FanB f) (u : Bool) : 0 ≤ degL u f := (degL_bd h u).1

set_option maxRecDepth 100000 in
set_option maxHeartbeats 2000000 in
theorem Widen_any (f : Fan) (more : Int) (A : Option Addr) (n c : Nat) (w : World) (h : Gaps w A n f.gs) (hn : n ≤ maxLen) :
    Calls Try.prog 28 #[.agg (fanA f A n c), .int .i64 more] w fun e w' => e = .returned (.tuple #[.int .i64 (widenR f more).1, .int .i64 (widenR f more).2.1, .int .i64 (widenR f more).2.2]) ∧ Below w.heap.size w w' := by
  have hl := h.len
  have HF := Lib.hid (fun W (hb : Below w.heap.size w W) => fanError_any f A n c W (h.below hb) hn)
  have B0 := Lib.hid (below_self w (.cells (fanA f A n c) 26))
  have R0 := Lib.hid (Blk.new w 26 (fanA f A n c) rfl)
  by_cases hE : fanErr f = 0
  · obtain ⟨hf, hg, hl40⟩ := fanB_of hE
    have HN : n ≤ 40 := by omega
    have HE := Lib.hid hE
    cases q1 : within 0 1000 [more]
    · have HO : Hid (widenR f more = (0, 0, 4)) := by unfold Hid widenR; rw [if_pos hE, q1]; rfl
      rw [hE] at HF
      clear h hn hl hf hg hl40 hE HE HN
      generalize widenR f more = r at *
      obtain ⟨fa, fb, fc, fd, gs⟩ := f
      simp only [fanA] at *
      go_enter Try.func28, Try.ntmps28
      go_wp2_with fail
      refine (HF.out _ B0.out).mono ?_
      rintro e W1 ⟨rfl, hb1⟩
      have B1 := Lib.hid (below_then B0.out hb1)
      clear hb1
      go_wp2_with (go_at_call 73; refine (within1 _ _ _ _ _ _ (by simp)).mono ?_; rintro e w' ⟨rfl, rfl⟩)
      go_ret3
      exact ⟨by rw [HO.out]; rfl, B1.out.alloc B1.out.size _⟩
    · by_cases hz : n = 0
      · have HO : Hid (widenR f more = (0, 0, 7)) := by unfold Hid widenR; rw [if_pos hE, q1, if_pos rfl, hl, if_pos hz]
        rw [hE] at HF
        clear h hn hl hf hg hl40 hE HE HN
        subst hz
        generalize widenR f more = r at *
        obtain ⟨fa, fb, fc, fd, gs⟩ := f
        simp only [fanA] at *
        go_enter Try.func28, Try.ntmps28
        go_wp2_with fail
        refine (HF.out _ B0.out).mono ?_
        rintro e W1 ⟨rfl, hb1⟩
        have B1 := Lib.hid (below_then B0.out hb1)
        have R1 := Lib.hid (blk_keep hb1 R0.out)
        have p1 := fan_get (R1.out.alloc (.cells #[.int .i64 more] 3))
        clear hb1
        go_wp2_with (go_at_call 73; refine (within1 _ _ _ _ _ _ (by simp)).mono ?_; rintro e w' ⟨rfl, rfl⟩)
        go_ret3
        exact ⟨by rw [HO.out]; rfl, B1.out.alloc B1.out.size _⟩
      · have HO : Hid (widenR f more = ((widenGo f more n).1, (widenGo f more n).2, 0)) := by unfold Hid widenR; rw [if_pos hE, q1, if_pos rfl, hl, if_neg hz]
        have hm : 0 ≤ more ∧ more ≤ 1000 := by simp [within] at q1; exact q1
        have HW := Lib.hid (fun k (hk : k < n) W (hb : Below w.heap.size w W) => widened_any f A n c k more W (h.below hb) hk (by omega) hm.1 hm.2 (fun g hq => by have := hf.g g hq; have := hg g hq; omega))
        have HS := Lib.hid (fun k (hk : k < n) A c W (hG : Gaps W A n (f.wide k more).gs) => surely_any (f.wide k more) A n c W (wide_B hE hm.1 hm.2 k (by omega)) hG)
        have HG := Lib.hid (fun k => show widenGo f more (k + 1) = if (widenGo f more k).2 < degL false (f.wide k more) then ((k : Int), degL false (f.wide k more)) else widenGo f more k from rfl)
        have HV : Hid (∀ A c k, fanA (f.wide k more) A n c = fanA f A n c) := fun _ _ _ => rfl
        have HG0 : Hid (widenGo f more 0 = (0, -1)) := rfl
        have HZ := Lib.hid hz
        have hz1 : ((n : Int) == 0) = false := by simpa using hz
        have hz2 : decide (n = 0) = false := by simpa using hz
        rw [hE] at HF
        unfold FanRes at HW
        clear h hn hl hf hg hl40 hE HE hm
        generalize widenR f more = r at *
        generalize widenGo f more = go at *
        have HV2 := Lib.hid (fun k A c => show fanA (f.wide k more) A n c = fanA f A n c from rfl)
        generalize hwide : (fun k => f.wide k more) = fw at *
        have hfw : ∀ k, f.wide k more = fw k := fun k => congrFun hwide k
        simp only [hfw] at HW HS HG HV HV2
        clear hwide hfw
        obtain ⟨fa, fb, fc, fd, gs⟩ := f
        simp only [HV.out] at HW HS
        clear HV HV2
        simp only [fanA] at *
        go_enter Try.func28, Try.ntmps28
        go_wp2_with fail
        refine (HF.out _ B0.out).mono ?_
        rintro e W1 ⟨rfl, hb1⟩
        have B1 := Lib.hid (below_alloc' (below_then B0.out hb1) (.cells #[.int .i64 more] 3))
        have R1 := Lib.hid ((blk_keep hb1 R0.out).alloc (.cells #[.int .i64 more] 3))
        have p1 := fan_get R1.out
        clear hb1
        go_wp2_with (go_at_call 73; refine (within1 _ _ _ _ _ _ (by simp)).mono ?_; rintro e w' ⟨rfl, rfl⟩)
        clear p1
        go_loopw [4, 5, 8, 9, 26] (fun a b _ _ i wr => ∃ k : Nat, k ≤ n ∧ i = .int .i64 k ∧ a = .int .i64 (go k).1 ∧ b = .int .i64 (go k).2 ∧ Blk wr w.heap.size 26 #[.int .i64 fa, .int .i64 fb, .int .i64 fc, .int .i64 fd, .slice A n c] ∧ Below w.heap.size w wr) (fun _ _ _ _ i _ => n - (intOf i).toNat)
        case atStart => exact ⟨0, Nat.zero_le _, rfl, by rw [HG0.out], by rw [HG0.out], R1.out, B1.out⟩
        case round =>
          obtain ⟨k, hk, rfl, rfl, rfl, hR, hB⟩ := hrel
          have R2 := Lib.hid hR
          have B2 := Lib.hid hB
          clear hR hB
          by_cases hlt : k < n
          · have C := Lib.hid (HW.out k hlt _ B2.out)
            have HS2 := Lib.hid (HS.out k hlt)
            have hgo := Lib.hid (HG.out k)
            have p2 := fan_get R2.out
            generalize fw k = f2 at *
            generalize degL false f2 = d at *
            generalize go k = y at *
            obtain ⟨ya, yb⟩ := y
            simp only at *
            by_cases hgt : yb < d
            · have hg2 : Hid (go (k + 1) = ((k : Int), d)) := by unfold Hid; rw [hgo.out, if_pos hgt]
              clear hgo
              go_wp2_with fail
              refine C.out.mono ?_
              rintro e W3 ⟨A3, c3, rfl, hG3, hb3⟩
              have C4 := Lib.hid (HS2.out A3 c3 W3 hG3)
              have R3 := Lib.hid (blk_keep hb3 R2.out)
              have B3 := Lib.hid (below_then B2.out hb3)
              clear hG3 hb3 p2
              go_wp2_with fail
              refine C4.out.mono ?_
              rintro e W4 ⟨rfl, hb4⟩
              have R4 := Lib.hid (blk_keep hb4 R3.out)
              have B4 := Lib.hid (below_then B3.out hb4)
              clear hb4
              go_wp2
              go_roundw
              case rel => exact ⟨k + 1, by omega, by go_num, by rw [hg2.out], by rw [hg2.out], R4.out, B4.out⟩
              case measure => simp [intOf]; omega
            · have hg2 : Hid (go (k + 1) = (ya, yb)) := by unfold Hid; rw [hgo.out, if_neg hgt]
              clear hgo
              go_wp2_with fail
              refine C.out.mono ?_
              rintro e W3 ⟨A3, c3, rfl, hG3, hb3⟩
              have C4 := Lib.hid (HS2.out A3 c3 W3 hG3)
              have R3 := Lib.hid (blk_keep hb3 R2.out)
              have B3 := Lib.hid (below_then B2.out hb3)
              clear hG3 hb3 p2
              go_wp2_with fail
              refine C4.out.mono ?_
              rintro e W4 ⟨rfl, hb4⟩
              have R4 := Lib.hid (blk_keep hb4 R3.out)
              have B4 := Lib.hid (below_then B3.out hb4)
              clear hb4
              go_wp2
              go_roundw
              case rel => exact ⟨k + 1, by omega, by go_num, by rw [hg2.out], by rw [hg2.out], R4.out, B4.out⟩
              case measure => simp [intOf]; omega
          · obtain rfl : k = n := by omega
            go_wp2
            go_ret3
            exact ⟨by rw [HO.out]; rfl, B2.out⟩
  · have HO : Hid (widenR f more = (0, 0, fanErr f)) := if_neg hE
    clear h hn hl
    generalize widenR f more = r at *
    generalize fanErr f = e0 at *
    unfold fanA at *
    go_enter Try.func28, Try.ntmps28
    go_wp2_with fail
    refine (HF.out _ B0.out).mono ?_
    rintro e W1 ⟨rfl, hb1⟩
    have B1 := Lib.hid (below_then B0.out hb1)
    have he1 : decide (e0 = 0) = false := by simpa using hE
    clear hb1
    go_wp2
    go_ret3
    exact ⟨by rw [HO.out]; rfl, B1.out⟩
end Go.Proofs.Ytdekickmplkdiaa
