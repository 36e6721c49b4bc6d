/- Walks: the reference's Curve. -/
import Derived.Test.YtiflhimmieflpaaW35
import Derived.Test.YtiflhimmieflpaaW38
namespace Go.Proofs.Ytiflhimmieflpaa
open Go.RowKit Go.Maps

theorem scan_succ (p : Nat → Bool) (h : Nat) : scanB p (h + 1) = if p h = true then (true, if (scanB p h).1 = true then (scanB p h).2.1 else (h : Int), (h : Int)) else scanB p h := rfl
def curTo (xs : List (Int × Int)) (bend : Int) (k : Nat) : List (Int × Int) := (List.range k).map fun i => (curB xs bend i).2
theorem curTo_succ (xs : List (Int × Int)) (bend : Int) (k : Nat) : curTo xs bend (k + 1) = curTo xs bend k ++ [(curB xs bend k).2] := by simp [curTo, List.range_succ]
theorem refCurve_all {xs : List (Int × Int)} {bend : Int} (h : ∀ i, i < xs.length → (curB xs bend i).1 = true) : refCurveL xs bend = curTo xs bend xs.length := by
  unfold refCurveL
  rw [if_pos (by rw [List.all_eq_true]; intro i hi; exact h i (List.mem_range.1 hi))]
  rfl
theorem refCurve_none {xs : List (Int × Int)} {bend : Int} {i : Nat} (hi : i < xs.length) (h : (curB xs bend i).1 = false) : refCurveL xs bend = [] := by
  unfold refCurveL
  rw [if_neg]
  intro hall
  rw [List.all_eq_true] at hall
  have := hall i (List.mem_range.2 hi)
  rw [h] at this
  cases this

theorem Turned_n (A : Option Addr) (n c : Nat) (xs : List (Int × Int)) (w : World) (h : Pairs w A n xs) (hn : n ≤ 1000) :
    Calls Try.prog 63 #[.slice A n c] w fun e w' => ∃ TA tc, e = .returned (.slice TA n tc) ∧ Pairs w' TA n xs.reverse ∧ Below w.heap.size w w' := by
  refine (Turned_any A n c xs w h hn).mono ?_
  rintro e w2 ⟨tv, rfl, hown, b2⟩
  have hl : xs.reverse.length = n := by rw [List.length_reverse, h.len]
  rw [hl] at hown
  obtain ⟨TA, tc, rfl⟩ := own_slice0 hown
  exact ⟨TA, tc, rfl, (reads_of_own hown).r, b2⟩
theorem Reach_n (A : Option Addr) (n c : Nat) (xs : List (Int × Int)) (bend : Int) (w : World) (h : Pairs w A n xs) (hn : n ≤ 1000) (hx : ∀ s ∈ xs, InR s) (b0 : 0 ≤ bend) (b3 : bend ≤ 300) :
    Calls Try.prog 62 #[.slice A n c, .int .i64 bend] w fun e w' => ∃ v gs, e = .returned v ∧ RowsB w' w.heap.size v n (reachB xs bend) gs ∧ Below w.heap.size w w' := by
  have hr := Reach_any A n c xs bend w h hn hx b0 b3
  unfold ReachRes at hr
  rw [h.len] at hr
  exact hr

set_option maxRecDepth 100000 in
set_option maxHeartbeats 4000000 in
theorem RefCurve_any (A : Option Addr) (n c : Nat) (xs : List (Int × Int)) (bend : Int) (w : World) (h : Pairs w A n xs) (hn : n ≤ 1000) (hx : ∀ s ∈ xs, InR s) (b0 : 0 ≤ bend) (b3 : bend ≤ 300) :
    Calls Try.prog 25 #[.slice A n c, .int .i64 bend] w (OwnPairs w (refCurveL xs bend)) := by
  obtain ⟨i0, hi, hz0, hz1, hz2⟩ := info_parts Try.infoSpan
  have hl := h.len
  have HL : Hid (xs.length = n) := hl
  have H := Lib.hid h
  have HXR : Hid (∀ s ∈ xs.reverse, InR s) := fun s hs => hx s (List.mem_reverse.1 hs)
  have HR1 := Lib.hid (Reach_n A n c xs bend w h hn hx b0 b3)
  have HT1 := Lib.hid (fun W (hb : Below w.heap.size w W) => Turned_n A n c xs W (h.below hb) hn)
  have HALL := Lib.hid (fun hh => refCurve_all (xs := xs) (bend := bend) hh)
  have HNONE := Lib.hid (fun i hi hh => refCurve_none (xs := xs) (bend := bend) (i := i) hi hh)
  rw [hl] at HALL HNONE
  clear h hl hx
  go_enter Try.func25, Try.ntmps25
  go_wp2_with fail
  refine HR1.out.mono ?_
  rintro e w1 ⟨lv, lgs, rfl, hrl, b1⟩
  have HT2 := Lib.hid (HT1.out w1 b1)
  have D1 := Lib.hid b1
  have HRL := Lib.hid hrl
  clear HT1 hrl b1 HR1
  go_wp2_with fail
  refine HT2.out.mono ?_
  rintro e w2 ⟨TA, tc, rfl, hP, b2⟩
  have D2 := Lib.hid (below_then D1.out b2)
  have HRL2 := Lib.hid (HRL.out.below b2)
  have HR2 := Lib.hid (Reach_n TA n tc xs.reverse bend w2 hP hn HXR.out b0 b3)
  clear hP b2 HT2 HRL D1
  go_wp2_with fail
  refine HR2.out.mono ?_
  rintro e w3 ⟨rv, rgs, rfl, hrr, b3'⟩
  have D3 := Lib.hid (below_then D2.out b3')
  have HRL := Lib.hid (HRL2.out.below b3')
  have HRR := Lib.hid hrr
  clear hrr b3' HR2 HRL2 D2
  have O0 := Lib.hid (own_empty w3 98 2 (g := w3.heap.size) rfl)
  have B0 := Lib.hid (below_self w3 (.cells #[] 98))
  go_wp2_with fail
  go_loopw [7, 8] (fun v i wr => ∃ k : Nat, k ≤ n ∧ i = .int .i64 k ∧ (∀ j, j < k → (curB xs bend j).1 = true) ∧ wr.ownsRow w3.heap.size 98 2 v k (flat2 (curTo xs bend k)) ∧ Below w3.heap.size w3 wr) (fun _ i _ => n - (intOf i).toNat)
  case atStart => exact ⟨0, Nat.zero_le _, rfl, fun j hj => absurd hj (by omega), O0.out, B0.out⟩
  case round =>
    obtain ⟨i, hik, rfl, hall, hown, hbel⟩ := hrel
    have Hall := Lib.hid hall
    have Hown := Lib.hid hown
    have Hbel := Lib.hid hbel
    obtain ⟨wo, rfl⟩ : ∃ wo : World, wo = wr := ⟨_, rfl⟩
    clear hall hown
    by_cases hlt : i < n
    · obtain ⟨q, hq⟩ : ∃ q, q + i + 1 = n := ⟨n - 1 - i, by omega⟩
      have hqn : q < n := by omega
      have HQ : Hid (n - 1 - i = q) := by unfold Hid; omega
      have k1 : ((n : Int) - 1 - (i : Int)).toNat = q := by omega
      have k2 : 0 ≤ (n : Int) - 1 - (i : Int) := by omega
      have k3 : (n : Int) - 1 - (i : Int) < n := by omega
      obtain ⟨lg, lcap, lb, hlv, l1, l2⟩ := (HRL.out.below hbel).at_ hlt
      obtain ⟨rg, rcap, rb, hrv, r1, r2⟩ := (HRR.out.below hbel).at_ hqn
      subst hlv hrv
      have L1 := Lib.hid (fun (W : World) (hW : Below wo.heap.size wo W) => (hW.cell (p := ⟨lg, i, none⟩) (lt_of_cell l1)).trans l1)
      have L2 := Lib.hid (fun (W : World) (hW : Below wo.heap.size wo W) k (hk : k ≤ 300) => (hW.cell (p := ⟨lb, k, none⟩) (lt_of_cell (l2 k hk))).trans (l2 k hk))
      have R1 := Lib.hid (fun (W : World) (hW : Below wo.heap.size wo W) => (hW.cell (p := ⟨rg, q, none⟩) (lt_of_cell r1)).trans r1)
      have R2 := Lib.hid (fun (W : World) (hW : Below wo.heap.size wo W) k (hk : k ≤ 300) => (hW.cell (p := ⟨rb, k, none⟩) (lt_of_cell (r2 k hk))).trans (r2 k hk))
      unfold rowV at L1 R1
      have G0 := Lib.hid (Blk.new wo 98 #[.int .i64 0, .int .i64 0] rfl)
      have G1 := Lib.hid (below_self wo (.cells #[.int .i64 0, .int .i64 0] 98))
      have HS := Lib.hid (fun k => scan_succ (bothB xs bend i) k)
      have HB : Hid (∀ k, bothB xs bend i k = (reachB xs bend i k && reachB xs.reverse bend q k)) := fun k => by unfold bothB; rw [HL.out, HQ.out]
      have Hq := Lib.hid hq
      clear hq l1 l2 r1 r2 hbel
      go_wp2_with fail
      go_loopw [10, 11] (fun f hv wr => ∃ h : Nat, h ≤ 301 ∧ hv = .int .i64 h ∧ f = .bool (scanB (bothB xs bend i) h).1 ∧ Blk wr wo.heap.size 98 #[.int .i64 (scanB (bothB xs bend i) h).2.1, .int .i64 (scanB (bothB xs bend i) h).2.2] ∧ Below wo.heap.size wo wr) (fun _ hv _ => (302 - intOf hv).toNat)
      case atStart => exact ⟨0, by omega, rfl, rfl, G0.out, G1.out⟩
      case round =>
        obtain ⟨h, hh, rfl, rfl, hblk, hbel2⟩ := hrel
        have Hbel2 := Lib.hid hbel2
        have Hblk := Lib.hid hblk
        by_cases hle : h < 301
        · have hle' : (h : Int) ≤ 300 := by omega
          have hs := Lib.hid (HS.out h)
          have hb := Lib.hid (HB.out h)
          have l1 := L1.out wr hbel2
          have l2 := L2.out wr hbel2 h (by omega)
          have r1 := R1.out wr hbel2
          have r2 := R2.out wr hbel2 h (by omega)
          generalize bothB xs bend i h = bb at *
          generalize reachB xs bend i h = a1 at *
          generalize reachB xs.reverse bend q h = a2 at *
          generalize hsc : scanB (bothB xs bend i) h = sc at *
          obtain ⟨f, lo, hi1⟩ := sc
          simp only at hblk
          have Hsc := Lib.hid hsc
          have s0 := hblk.cell 0
          have s1 := hblk.cell 1
          have f0 := hblk.frozen 0
          have f1 := hblk.frozen 1
          have X1 := Lib.hid (hblk.set_ 1 (.int .i64 h))
          have X2 := Lib.hid ((hblk.set_ 0 (.int .i64 h)).set_ 1 (.int .i64 h))
          have Y1 := Lib.hid (hbel2.setCell (p := ⟨wo.heap.size, 1, none⟩) (Nat.le_refl _) (.int .i64 h))
          have Y2 := Lib.hid ((hbel2.setCell (p := ⟨wo.heap.size, 0, none⟩) (Nat.le_refl _) (.int .i64 h)).setCell (p := ⟨wo.heap.size, 1, none⟩) (Nat.le_refl _) (.int .i64 h))
          clear hsc hblk hbel2
          cases a1
          · have HE : Hid (scanB (bothB xs bend i) (h + 1) = (f, lo, hi1)) := by unfold Hid; rw [hs.out, hb.out]; rfl
            clear r1 r2
            go_wp2
            go_roundw
            case rel => exact ⟨h + 1, by omega, by go_num, by rw [HE.out], by rw [HE.out]; exact Hblk.out, Hbel2.out⟩
            case measure => simp [intOf]; omega
          · cases a2
            · have HE : Hid (scanB (bothB xs bend i) (h + 1) = (f, lo, hi1)) := by unfold Hid; rw [hs.out, hb.out]; rfl
              go_wp2
              go_roundw
              case rel => exact ⟨h + 1, by omega, by go_num, by rw [HE.out], by rw [HE.out]; exact Hblk.out, Hbel2.out⟩
              case measure => simp [intOf]; omega
            · cases f
              · have HE : Hid (scanB (bothB xs bend i) (h + 1) = (true, (h : Int), (h : Int))) := by unfold Hid; rw [hs.out, hb.out]; rfl
                go_wp2
                go_roundw
                case rel => exact ⟨h + 1, by omega, by go_num, by rw [HE.out], by rw [HE.out]; exact X2.out, Y2.out⟩
                case measure => simp [intOf]; omega
              · have HE : Hid (scanB (bothB xs bend i) (h + 1) = (true, lo, (h : Int))) := by unfold Hid; rw [hs.out, hb.out]; rfl
                go_wp2
                go_roundw
                case rel => exact ⟨h + 1, by omega, by go_num, by rw [HE.out], by rw [HE.out]; exact X1.out, Y1.out⟩
                case measure => simp [intOf]; omega
        · obtain rfl : h = 301 := by omega
          have Hown2 := Lib.hid (ownsRow_below Hown.out hbel2)
          have Hbel4 := Lib.hid (below_then Hbel.out hbel2)
          have Hbel5 := Lib.hid (below_then D3.out Hbel4.out)
          have hsz := Hbel4.out.size
          have HC : Hid (curB xs bend i = scanB (bothB xs bend i) 301) := rfl
          have hle' : ¬ (301 : Int) ≤ 300 := by omega
          have HT := Lib.hid (curTo_succ xs bend i)
          generalize scanB (bothB xs bend i) 301 = sc at *
          obtain ⟨f, lo, hi1⟩ := sc
          simp only at hblk
          have Hblk := Lib.hid hblk
          have s0 := hblk.cell 0
          have s1 := hblk.cell 1
          clear hblk hbel2
          cases f
          · have HE := Lib.hid (HNONE.out i hlt (by rw [HC.out]))
            go_wp2
            go_ret
            exact ⟨_, rfl, by rw [HE.out]; exact World.ownsRow_nil _ _ _ _, Hbel5.out⟩
          · have Hnew := Lib.hid (cell_two_at wr (.int .i64 lo) (.int .i64 hi1) 98)
            go_wp2_with (at_builtin; refine wpList_append_own _ rfl _ _ 22 rfl w3.heap.size 98 i0 (.agg #[.int .i64 0, .int .i64 0]) 2 16 Try.underlying22 hi hz0 hz1 hz2 rfl (by decide) _ _ _ rfl (Hown2.out.alloc _) ⟨wr.heap.size, 0, none⟩ 1 1 [.int .i64 lo, .int .i64 hi1] rfl rfl Hnew.out ?c2 ?c3 ?c4 ?c5 ?_)
            case c2 => first | exact ⟨rfl, rfl⟩ | rfl | (intro u hu; simp only [List.mem_cons, List.not_mem_nil, or_false] at hu; rcases hu with rfl | rfl <;> rfl)
            case c3 => unfold maxLen; omega
            case c4 => omega
            case c5 => first | omega | (simp; omega)
            intro v' w4 hown4 hgrow _
            have B4 := Lib.hid ((Hbel4.out.alloc Hbel4.out.size _).grown hgrow (Nat.le_trans Hbel4.out.size (by simp)) (fun q hq => (Hown2.out.lt q hq).1))
            have hown5 : Hid (w4.ownsRow w3.heap.size 98 2 v' (i + 1) (flat2 (curTo xs bend (i + 1)))) := by
              unfold Hid; rw [HT.out, HC.out, flat2_append]; exact hown4
            have Hall2 : Hid (∀ j, j < i + 1 → (curB xs bend j).1 = true) := fun j hj => by
              by_cases e : j < i
              · exact Hall.out j e
              · obtain rfl : j = i := by omega
                rw [HC.out]
            clear hown4 hgrow
            go_wp2
            go_roundw
            case rel => exact ⟨i + 1, by omega, by go_num, Hall2.out, hown5.out, B4.out⟩
            case measure => simp [intOf]; omega
    · obtain rfl : i = n := by omega
      have HE := Lib.hid (HALL.out Hall.out)
      have HEL : Hid ((refCurveL xs bend).length = i) := by unfold Hid; rw [HE.out]; simp [curTo]
      clear hbel
      go_wp2
      go_ret
      exact ⟨_, rfl, by rw [HEL.out, HE.out]; exact own_base Hown.out D3.out.size, below_then D3.out Hbel.out⟩
end Go.Proofs.Ytiflhimmieflpaa
