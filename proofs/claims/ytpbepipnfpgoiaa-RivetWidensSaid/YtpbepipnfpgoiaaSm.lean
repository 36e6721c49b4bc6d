/- Walks: the reference's Widen. -/
import Derived.Test.YtpbepipnfpgoiaaSl
namespace Go.Proofs.Ytpbepipnfpgoiaa
open Go.RowKit

set_option maxRecDepth 100000 in
set_option maxHeartbeats 4000000 in
theorem RefWiden_any (f : Fan) (more : Int) (A : Option Addr) (n c : Nat) (w : World) (h : Gaps w A n f.gs) (hE : fanErr f = 0) (h0 : 0 ≤ more) (h1 : more ≤ 1000) :
    Calls Try.prog 30 #[.agg (fanA f A n c), .int .i64 more] w fun e w' => e = .returned (.tuple #[.int .i64 (widenGo f more n).1, .int .i64 (widenGo f more n).2]) ∧ Below w.heap.size w w' := by
  have hl := h.len
  obtain ⟨hf, hg, hn40⟩ := fanB_of hE
  have hgb : ∀ g ∈ f.gs, 0 ≤ g.ll ∧ g.ll ≤ 1000 ∧ 0 ≤ g.lh ∧ g.lh ≤ 1000 := fun g hq => by have := hf.g g hq; have := hg g hq; omega
  have B0 := Lib.hid (below_self w (.cells (fanA f A n c) 26))
  have R0 := Lib.hid (Blk.new w 26 (fanA f A n c) (g := w.heap.size) rfl)
  have HW := Lib.hid (fun k (hk : k < n) W (hb : Below w.heap.size w W) => RefWide_any f A n c k more W (h.below hb) hk (by omega) h0 h1 hgb)
  have HO := Lib.hid (fun k (hk : k < n) A' c' W (hG : Gaps W A' n (f.wide k more).gs) => RefOpens_any (f.wide k more) A' n c' W (wide_B hE h0 h1 k (by omega)) hG)
  unfold FanRes at HW
  have HF : Hid (∀ k A' c', fanA (f.wide k more) A' n c' = fanA f A' n c') := fun _ _ _ => rfl
  have HS : Hid (∀ k, widenGo f more (k + 1) = if (widenGo f more k).2 < degL false (f.wide k more) then ((k : Int), degL false (f.wide k more)) else widenGo f more k) := fun _ => rfl
  have HZ : Hid (widenGo f more 0 = (0, -1)) := rfl
  have hn : n ≤ 40 := by omega
  clear h hE hf hg hn40 hgb hl h0 h1
  generalize widenGo f more = go at *
  obtain ⟨fa, fb, fc, fd, gs⟩ := f
  simp only [fanA] at B0 R0
  simp only [show ∀ A' c', fanA ⟨fa, fb, fc, fd, gs⟩ A' n c' = #[.int .i64 fa, .int .i64 fb, .int .i64 fc, .int .i64 fd, .slice A' n c'] from fun _ _ => rfl] at HW HF ⊢
  simp only [HF.out] at HW HO
  clear HF
  go_enter Try.func30, Try.ntmps30
  go_wp2
  go_loopw [6, 7, 8, 9] (fun a b i _ wr => ∃ k : Nat, k ≤ n ∧ i = .int .i64 k ∧ a = .int .i64 (go k).1 ∧ b = .int .i64 (go k).2 ∧ Blk wr w.heap.size 26 #[.int .i64 fa, .int .i64 fb, .int .i64 fc, .int .i64 fd, .slice A n c] ∧ Below w.heap.size w wr) (fun _ _ i _ _ => n - (intOf i).toNat)
  case atStart => exact ⟨0, Nat.zero_le _, rfl, by rw [HZ.out], by rw [HZ.out], R0.out, B0.out⟩
  case round =>
    obtain ⟨k, hk, rfl, rfl, rfl, hR, hB⟩ := hrel
    have R1 := Lib.hid hR
    have B1 := Lib.hid hB
    have p1 := fan_get hR
    clear hR hB R0 B0
    by_cases hlt : k < n
    · have C1 := Lib.hid (HW.out k hlt _ B1.out)
      have C2 := Lib.hid (HO.out k hlt)
      have S1 := Lib.hid (HS.out k)
      clear HW HO HS HZ
      generalize degL false ((⟨fa, fb, fc, fd, gs⟩ : Fan).wide k more) = d1 at *
      generalize degL true ((⟨fa, fb, fc, fd, gs⟩ : Fan).wide k more) = d2 at *
      generalize ((⟨fa, fb, fc, fd, gs⟩ : Fan).wide k more) = f2 at *
      generalize hg1 : go (k + 1) = g1 at *
      have HG1 := Lib.hid hg1
      clear hg1
      generalize go k = g0 at *
      obtain ⟨a0, b0⟩ := g0
      simp only at *
      go_wp2_with fail
      refine C1.out.mono ?_
      rintro e w2 ⟨A2, c2, rfl, hG2, h2⟩
      have R2 := Lib.hid (blk_keep h2 R1.out)
      have B2 := Lib.hid (below_then B1.out h2)
      have C3 := Lib.hid (C2.out A2 c2 _ hG2)
      clear h2 hG2 R1 B1 C1 C2 p1
      go_wp2_with fail
      refine C3.out.mono ?_
      rintro e w3 ⟨rfl, h3⟩
      have R3 := Lib.hid (blk_keep h3 R2.out)
      have B3 := Lib.hid (below_then B2.out h3)
      clear h3 R2 B2 C3
      by_cases hq : b0 < d1
      · have H : Hid (g1 = ((k : Int), d1)) := by unfold Hid; rw [S1.out, if_pos hq]
        clear S1
        go_wp2_with fail
        change (_ : Act → World → Prop) (Act.put _ _ (Value.int .i64 d1)) w3
        go_wp2
        go_roundw
        case rel => exact ⟨k + 1, by omega, by go_num, by rw [HG1.out, H.out], by rw [HG1.out, H.out], R3.out, B3.out⟩
        case measure => simp [intOf]; omega
      · have H : Hid (g1 = (a0, b0)) := by unfold Hid; rw [S1.out, if_neg hq]
        clear S1
        go_wp2_with fail
        change (_ : Act → World → Prop) (Act.put _ _ (Value.int .i64 d1)) w3
        go_wp2
        go_roundw
        case rel => exact ⟨k + 1, by omega, by go_num, by rw [HG1.out, H.out], by rw [HG1.out, H.out], R3.out, B3.out⟩
        case measure => simp [intOf]; omega
    · obtain rfl : k = n := by omega
      go_wp2
      go_ret2
      exact ⟨rfl, B1.out⟩
end Go.Proofs.Ytpbepipnfpgoiaa
