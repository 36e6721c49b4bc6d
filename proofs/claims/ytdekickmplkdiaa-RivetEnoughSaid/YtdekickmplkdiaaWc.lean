/- Walks: the law of what is enough. -/
import Derived.Test.YtdekickmplkdiaaKl
import Derived.Test.YtdekickmplkdiaaKh
import Derived.Deep.CutRange
import Derived.Deep.CutBlock
namespace Go.Proofs.Ytdekickmplkdiaa
open Go.RowKit

/-- What is looked at while a gap is appended. -/
def S16 (t g b off : Nat) (x y ll lh fl fh : Value) (W : World) : Prop := (W.cell? ⟨t, 4, none⟩ = some x ∧ W.cell? ⟨g, 4, none⟩ = some y) ∧ W.cell? ⟨b, off, none⟩ = some ll ∧ W.cell? ⟨b, off + 1, none⟩ = some lh ∧ W.cell? ⟨b, off + 2, none⟩ = some fl ∧ W.cell? ⟨b, off + 3, none⟩ = some fh
/-- A proof under a structure, so that a walk can be parted. -/
structure Lk (p : Prop) : Prop where
  out : p
set_option maxRecDepth 100000 in
set_option maxHeartbeats 8000000 in
noncomputable def enough_1 (x : Fo) (wish b0 b1 : Int) (w : World) (h0 : Hid (x.At w)) (hw0 : Hid (0 ≤ wish ∧ wish ≤ 65535)) (hc0 : Hid (Byte b0)) (hc1 : Hid (Byte b1)) : PSigma fun G : Prop => Lk G → Calls Try.prog 15 #[.agg x.cells, .int .u16 wish, .agg #[.int .u8 b0, .int .u8 b1]] w fun e w' => e = .returned (.bool true) ∧ Below w.heap.size w w' := by
  apply PSigma.mk
  case snd =>
    intro kG
    have h := h0.out
    have hw := hw0.out
    have hb0 := hc0.out
    have hb1 := hc1.out
    obtain ⟨i0, hi, hz0, hz1, hz2⟩ := info_parts Try.infoGap
    have HK := Lib.hid (fun W => known_any W)
    unfold KnownRes at HK
    have HFAN := Lib.hid (fun W (hb : Below w.heap.size w W) => fan_any x W (h.below hb))
    have hroom := fun k hk => h.room2 (k := k) hk
    have herr := h.err
    have hlf : x.fan.gs.length = x.m := x.gsTo_len _
    have hn12 : x.m ≤ 12 := Nat.min_le_right _ _
    have P0 := fan5_get ((Blk.new w 86 x.cells rfl).alloc (.cells #[.int .u8 b0, .int .u8 b1] 83))
    have B0 := Lib.hid (below_alloc' (below_self w (.cells x.cells 86)) (.cells #[.int .u8 b0, .int .u8 b1] 83))
    have Y0 : Hid (Blk ((w.alloc (.cells x.cells 86)).alloc (.cells #[.int .u8 b0, .int .u8 b1] 83)) (w.heap.size + 1) 83 #[.int .u8 b0, .int .u8 b1]) := Lib.hid (Blk.new _ _ _ (by simp))
    clear h
    simp only [Fo.cells] at *
    generalize x.m = n at *
    generalize x.fan = f at *
    have hd : 0 ≤ wish.tmod 361 ∧ wish.tmod 361 ≤ 360 := by rw [Int.tmod_eq_emod_of_nonneg hw.1]; omega
    have ww : IntKind.i64.wrap wish = wish := IntWalk.i64_in _ (by omega)
    have wd : IntKind.i64.wrap (wish.tmod 361) = wish.tmod 361 := IntWalk.i64_in _ (by omega)
    generalize hdd : wish.tmod 361 = d at *
    unfold Byte at hb0 hb1
    have wb0 : IntKind.i64.wrap b0 = b0 := IntWalk.i64_in _ (by omega)
    have wb1 : IntKind.i64.wrap b1 = b1 := IntWalk.i64_in _ (by omega)
    -- contracts
    have HCF := Lib.hid (fun A c W (hG : Gaps W A n f.gs) => copied_cap f A n c W hG (by omega))
    have HSK := Lib.hid (fun A c W (hG : Gaps W A n f.gs) (hc : n ≤ c) => Sticks_any f d A n c W hG hc (by unfold maxLen; omega))
    have HPL := Lib.hid (fun A c W (hG : Gaps W A n f.gs) => Pleat_any f d A n c W hG (by unfold maxLen; omega))
    have HWI := Lib.hid (fun A c W (hG : Gaps W A n f.gs) => Widen_any f b0 A n c W hG (by unfold maxLen; omega))
    have HOR := Lib.hid (fun (k : Nat) (h0 : 0 < n) (hk : k ≤ 40) (A : Option Addr) (c : Nat) (W : World) (hG : Gaps W A k (List.replicate k (f.gs.getD 0 Gap.zero))) => by
      have r := rep_err herr (by omega) hk
      have q := Opens_any (f.rep k) A k c W hG (by unfold maxLen; omega)
      rw [opens_val r, r] at q
      exact q)
    have HOP := Lib.hid (fun (k : Nat) (hk : k ≤ 1000) (A : Option Addr) (c : Nat) (W : World) (hG : Gaps W A n (f.gs.map (Gap.leaf k))) => by
      have r := pleat_err herr (arc := k) (by omega) (by omega)
      have q := Opens_any (f.pleat k) A n c W hG (by unfold maxLen; omega)
      rw [opens_val r, r] at q
      exact q)
    have HOW := Lib.hid (fun (k : Nat) (hk : k < n) (A : Option Addr) (c : Nat) (W : World) (hG : Gaps W A n (f.wide k b0).gs) => by
      have r := wide_err herr (more := b0) (by omega) k (by omega) (by have := hroom k (by omega); omega)
      have q := Opens_any (f.wide k b0) A n c W hG (by unfold maxLen; omega)
      rw [opens_val r, r] at q
      exact q)
    have HF1 : Hid (∀ (k : Nat) A' m c', fanA (f.rep k) A' m c' = fanA f A' m c') := fun _ _ _ _ => rfl
    have HF2 : Hid (∀ (k : Int) A' m c', fanA (f.pleat k) A' m c' = fanA f A' m c') := fun _ _ _ _ => rfl
    have HF3 : Hid (∀ (k : Nat) A' m c', fanA (f.wide k b0) A' m c' = fanA f A' m c') := fun _ _ _ _ => rfl
    simp only [HF1.out] at HOR
    simp only [HF2.out] at HOP
    simp only [HF3.out] at HOW
    clear HF1 HF2 HF3
    -- what they answer
    have HS3 : Hid ((n = 0 ∧ (stickR f d).1 = 0 ∧ (stickR f d).2 = 7) ∨ (0 < n ∧ (stickR f d).1 = 0 ∧ (stickR f d).2 = 7 ∧ degL false (f.rep 40) < d) ∨ (0 < n ∧ ∃ k : Nat, k ≤ 40 ∧ (stickR f d).1 = (k : Int) + 1 ∧ (stickR f d).2 = 0 ∧ d ≤ degL false (f.rep k) ∧ ∀ j : Nat, j < k → degL false (f.rep j) < d)) := by
      rcases Nat.eq_zero_or_pos n with h0 | h0
      · rw [stick_none herr hd (by omega)]; exact Or.inl ⟨h0, rfl, rfl⟩
      · rcases stick_some herr hd (by omega) with ⟨e, q⟩ | ⟨k, hk, e, q1, q2⟩
        · rw [e]; exact Or.inr (Or.inl ⟨h0, rfl, rfl, q⟩)
        · rw [e]; exact Or.inr (Or.inr ⟨h0, k, hk, rfl, rfl, q1, q2⟩)
    have HP3 : Hid (((pleatR f d).1 = 0 ∧ (pleatR f d).2 = 7 ∧ degL false (f.pleat (1000 : Nat)) < d) ∨ (∃ k : Nat, k ≤ 1000 ∧ (pleatR f d).1 = (k : Int) ∧ (pleatR f d).2 = 0 ∧ d ≤ degL false (f.pleat k) ∧ ∀ j : Nat, j < k → degL false (f.pleat j) < d)) := by
      rcases pleat_some herr hd with ⟨e, q⟩ | ⟨k, hk, e, q1, q2⟩
      · rw [e]; exact Or.inl ⟨rfl, rfl, q⟩
      · rw [e]; exact Or.inr ⟨k, hk, rfl, rfl, q1, q2⟩
    have HW3 : Hid ((n = 0 ∧ (widenR f b0).1 = 0 ∧ (widenR f b0).2.1 = 0 ∧ (widenR f b0).2.2 = 7) ∨ (0 < n ∧ ∃ k : Nat, k < n ∧ (widenR f b0).1 = (k : Int) ∧ (widenR f b0).2.1 = degL false (f.wide k b0) ∧ (widenR f b0).2.2 = 0 ∧ ∀ j : Nat, j < n → degL false (f.wide j b0) ≤ degL false (f.wide k b0) ∧ (degL false (f.wide j b0) = degL false (f.wide k b0) → k ≤ j))) := by
      rcases Nat.eq_zero_or_pos n with h0 | h0
      · rw [widen_none herr (by omega) (by omega)]; exact Or.inl ⟨h0, rfl, rfl, rfl⟩
      · obtain ⟨k, hk, e, q⟩ := widen_some herr (more := b0) (by omega) (by omega)
        rw [e]; exact Or.inr ⟨h0, k, by omega, rfl, rfl, rfl, fun j hj => q j (by omega)⟩
    obtain ⟨R, hR⟩ : ∃ R : Nat → Int, ∀ k, degL false (f.rep k) = R k := ⟨_, fun _ => rfl⟩
    obtain ⟨R2, hR2⟩ : ∃ R : Nat → Int, ∀ k, degL true (f.rep k) = R k := ⟨_, fun _ => rfl⟩
    obtain ⟨Q, hQ⟩ : ∃ R : Nat → Int, ∀ k : Nat, degL false (f.pleat k) = R k := ⟨_, fun _ => rfl⟩
    obtain ⟨Q2, hQ2⟩ : ∃ R : Nat → Int, ∀ k : Nat, degL true (f.pleat k) = R k := ⟨_, fun _ => rfl⟩
    obtain ⟨V, hV⟩ : ∃ R : Nat → Int, ∀ k : Nat, degL false (f.wide k b0) = R k := ⟨_, fun _ => rfl⟩
    obtain ⟨V2, hV2⟩ : ∃ R : Nat → Int, ∀ k : Nat, degL true (f.wide k b0) = R k := ⟨_, fun _ => rfl⟩
    simp only [hR, hR2] at HOR HS3
    simp only [hQ, hQ2] at HOP HP3
    simp only [hV, hV2] at HOW HW3
    clear hR hR2 hQ hQ2 hV hV2
    obtain ⟨sn, hsn⟩ : ∃ z, (stickR f d).1 = z := ⟨_, rfl⟩
    obtain ⟨se, hse⟩ : ∃ z, (stickR f d).2 = z := ⟨_, rfl⟩
    obtain ⟨pn, hpn⟩ : ∃ z, (pleatR f d).1 = z := ⟨_, rfl⟩
    obtain ⟨pe, hpe⟩ : ∃ z, (pleatR f d).2 = z := ⟨_, rfl⟩
    obtain ⟨wg, hwg⟩ : ∃ z, (widenR f b0).1 = z := ⟨_, rfl⟩
    obtain ⟨wt, hwt⟩ : ∃ z, (widenR f b0).2.1 = z := ⟨_, rfl⟩
    obtain ⟨we, hwe⟩ : ∃ z, (widenR f b0).2.2 = z := ⟨_, rfl⟩
    rw [hsn, hse] at HS3
    rw [hpn, hpe] at HP3
    rw [hwg, hwt, hwe] at HW3
    simp only [hsn, hse] at HSK
    simp only [hpn, hpe] at HPL
    simp only [hwg, hwt, hwe] at HWI
    clear hsn hse hpn hpe hwg hwt hwe
    have HWL := Lib.hid (fun (k : Nat) (hk : k < n) => show flatG (f.wide k b0).gs = ((flatG f.gs).set (k * 4) (.int .i64 ((f.gs.getD k Gap.zero).ll + b0))).set (k * 4 + 1) (.int .i64 ((f.gs.getD k Gap.zero).lh + b0)) from (flatG_leaf f.gs k (by omega) _ _).symm)
    have HWN : Hid (∀ k : Nat, (f.wide k b0).gs.length = n) := fun k => by unfold Fan.wide; simpa using hlf
    have HGB := Lib.hid (fun k (hk : k < n) => (fanB_of herr).1.g _ (gap_getD_mem (gs := f.gs) (k := k) (by omega)))
    have HRM := Lib.hid (fun k (hk : k < n) => hroom k (by omega))
    have HPS := Lib.hid (fun (a : Int) (j : Nat) (hj : j < n) => plL_succ a j f.gs (by omega))
    have HPZ := Lib.hid (fun (a : Int) => plL_zero a f.gs)
    have HPA : Hid (∀ a : Int, plL a n f.gs = f.gs.map (Gap.leaf a)) := fun a => by rw [← hlf]; exact plL_all a f.gs
    have HPN : Hid (∀ (a : Int) (j : Nat), (plL a j f.gs).length = n) := fun a j => by rw [plL_length, hlf]
    have HLF := Lib.hid hlf
    have HSP := Lib.hid (fun a b W => lawSpan_any a b W)
    have HND := Lib.hid hd
    unfold CapRes at HCF
    unfold OwnRes at HFAN
    clear herr hroom hlf hd hw
    generalize hwd : f.wide = fw at *
    clear hwd
    obtain ⟨fa, fb, fc, fd, gs⟩ := f
    simp only [fanA] at *
    generalize hy : gs.getD 0 Gap.zero = y0 at HOR
    have HY := Lib.hid hy
    clear hy
    go_enter Try.func15, Try.ntmps15
    go_wp2_with fail
    refine (HFAN.out _ B0.out).mono ?_
    rintro e w1 ⟨A, c, rfl, hO, b1⟩
    have FB : Hid (Blk (w1.alloc (.cells #[.int .i64 fa, .int .i64 fb, .int .i64 fc, .int .i64 fd, .slice A n c] 26)) w1.heap.size 26 #[.int .i64 fa, .int .i64 fb, .int .i64 fc, .int .i64 fd, .slice A n c]) := Lib.hid (Blk.new _ _ _ rfl)
    have FG := Lib.hid (hO.1.below (below_self w1 (.cells #[.int .i64 fa, .int .i64 fb, .int .i64 fc, .int .i64 fd, .slice A n c] 26)))
    have FY := Lib.hid (blk_keep (below_self w1 (.cells #[.int .i64 fa, .int .i64 fb, .int .i64 fc, .int .i64 fd, .slice A n c] 26)) (blk_keep b1 Y0.out))
    have FW := Lib.hid (below_then (below_then B0.out b1) (below_self w1 (.cells #[.int .i64 fa, .int .i64 fb, .int .i64 fc, .int .i64 fd, .slice A n c] 26)))
    clear hO b1 B0 P0 Y0 HFAN
    go_wp2_with fail
    generalize w1.alloc (.cells #[.int .i64 fa, .int .i64 fb, .int .i64 fc, .int .i64 fd, .slice A n c] 26) = v at *
    generalize w1.heap.size = g at *
    have p2 := fan5_get FB.out
    go_wp2_with fail
    refine (HCF.out _ _ _ FG.out).mono ?_
    rintro e w2 ⟨A2, c2, rfl, hO, hc2, b2⟩
    have G2 := Lib.hid hO.1
    have B2 := Lib.hid b2
    have C2 := Lib.hid hc2
    clear hO b2 hc2 p2
    go_wp2_with fail
    refine (HSK.out _ _ _ G2.out C2.out).mono ?_
    rintro e w3 ⟨rfl, b3⟩
    have B3 := Lib.hid (below_then B2.out b3)
    clear b3 B2 C2 G2 HSK
    have p3 := fan5_get (blk_keep B3.out FB.out)
    go_upto_region 3 with fail
    go_cut [73] from 46 to 73 (fun s73 W => s73 = .bool false ∧ W = w3)
    case first =>
      rcases HS3.out with ⟨rfl, rfl, rfl⟩ | ⟨h0, rfl, rfl, _⟩ | ⟨h0, k, hk, rfl, rfl, _⟩
      · go_wp2_with fail
        go_meet
        exact ⟨rfl, rfl⟩
      · go_wp2_with fail
        go_meet
        exact ⟨rfl, rfl⟩
      · have hq1 : ¬ ((k : Int) + 1 < 1) := by omega
        have hq2 : ¬ ((k : Int) + 1 > 41) := by omega
        have hq2' : ¬ ((41 : Int) < (k : Int) + 1) := by omega
        have hq3 : ((n : Int) == 0) = false := by simp; omega
        have hq4 : ((n : Int) = 0) = False := by simp; omega
        have hq5 : (n = 0) = False := by simp; omega
        go_wp2_with fail
        go_meet
        exact ⟨rfl, rfl⟩
    case rest =>
      obtain ⟨rfl, rfl⟩ := hcut
      clear p3
      go_upto_block 0 with fail
      go_cut [6, 11, 12, 13, 14, 15, 16] from 74 to 133 (fun _ _ _ _ _ _ _ W => Below v.heap.size v W)
      case first =>
        rcases HS3.out with ⟨h0, z1, rfl⟩ | ⟨h0, z1, rfl, z2⟩ | ⟨h0, K, hK, z1, rfl, z2, z3⟩
        · subst h0
          clear HS3
          have hsn : Hid (sn = 0) := z1
          clear z1
          go_wp2_with fail
          go_loopw [11] (fun i wr => ∃ k : Nat, k ≤ 2 ∧ i = .int .i64 k ∧ Below v.heap.size v wr) (fun i _ => 2 - (intOf i).toNat)
          case atStart => exact ⟨0, Nat.zero_le _, rfl, B3.out⟩
          case round =>
            obtain ⟨k, hk, rfl, hBk⟩ := hrel
            have Bk := Lib.hid hBk
            clear hBk B3
            by_cases hlt : k < 2
            · obtain ⟨G, hG0, hG1⟩ : ∃ G : Int, (k = 0 → G = sn - 2) ∧ (k = 1 → G = sn - 1) := by
                rcases (by omega : k = 0 ∨ k = 1) with h | h
                · exact ⟨_, fun _ => rfl, fun e => by omega⟩
                · exact ⟨_, fun e => by omega, fun _ => rfl⟩
              have hrun : ∀ W : World, (Instr.index 101 (.agg #[Value.int .i64 (sn - 2), .int .i64 (sn - 1)]) (.int .i64 (k : Int))).run Try.prog W = .ok (.int .i64 G) W := fun W => by
                rcases (by omega : k = 0 ∨ k = 1) with h | h
                · rw [show (k : Int) = 0 by omega, show G = sn - 2 from hG0 h]; kernel_rfl
                · rw [show (k : Int) = 1 by omega, show G = sn - 1 from hG1 h]; kernel_rfl
              have ws1 : IntKind.i64.wrap (sn - 2) = sn - 2 := IntWalk.i64_in _ (by have := hsn.out; omega)
              have ws2 : IntKind.i64.wrap (sn - 1) = sn - 1 := IntWalk.i64_in _ (by have := hsn.out; omega)
              have p12 := fan5_get (blk_keep Bk.out FB.out)
              clear hG0 hG1
              go_wp2_with fail
              go_roundw
              case rel => exact ⟨k + 1, by omega, by go_num, Bk.out⟩
              case measure => simp [intOf]; omega
            · obtain rfl : k = 2 := by omega
              go_wp2_with fail
              go_meet
              exact Bk.out
        · clear HS3
          have hsn : Hid (sn = 0) := z1
          clear z1
          obtain ⟨bq, off, hA, _, q0, q1, q2, q3⟩ := FG.out.at_ h0
          rw [HY.out] at q0 q1 q2 q3
          simp only [Nat.zero_mul, Nat.add_zero] at q0 q1 q2 q3
          subst hA
          obtain ⟨ll, lh, fl, fh⟩ := y0
          simp only at q0 q1 q2 q3
          have q0 := Lib.hid q0
          have q1 := Lib.hid q1
          have q2 := Lib.hid q2
          have q3 := Lib.hid q3
          go_wp2_with fail
          go_loopw [11] (fun i wr => ∃ k : Nat, k ≤ 2 ∧ i = .int .i64 k ∧ Below v.heap.size v wr) (fun i _ => 2 - (intOf i).toNat)
          case atStart => exact ⟨0, Nat.zero_le _, rfl, B3.out⟩
          case round =>
            obtain ⟨k, hk, rfl, hBk⟩ := hrel
            have Bk := Lib.hid hBk
            clear hBk B3
            by_cases hlt : k < 2
            · obtain ⟨G, hG0, hG1⟩ : ∃ G : Int, (k = 0 → G = sn - 2) ∧ (k = 1 → G = sn - 1) := by
                rcases (by omega : k = 0 ∨ k = 1) with h | h
                · exact ⟨_, fun _ => rfl, fun e => by omega⟩
                · exact ⟨_, fun e => by omega, fun _ => rfl⟩
              have hrun : ∀ W : World, (Instr.index 101 (.agg #[Value.int .i64 (sn - 2), .int .i64 (sn - 1)]) (.int .i64 (k : Int))).run Try.prog W = .ok (.int .i64 G) W := fun W => by
                rcases (by omega : k = 0 ∨ k = 1) with h | h
                · rw [show (k : Int) = 0 by omega, show G = sn - 2 from hG0 h]; kernel_rfl
                · rw [show (k : Int) = 1 by omega, show G = sn - 1 from hG1 h]; kernel_rfl
              have ws1 : IntKind.i64.wrap (sn - 2) = sn - 2 := IntWalk.i64_in _ (by have := hsn.out; omega)
              have ws2 : IntKind.i64.wrap (sn - 1) = sn - 1 := IntWalk.i64_in _ (by have := hsn.out; omega)
              have hkk : ((k : Int) == 1) = true ∨ ((k : Int) == 1) = false := by cases ((k : Int) == 1) <;> simp
              have hq3 : ((n : Int) == 0) = false := by simp; omega
              have hq4 : ((n : Int) = 0) = False := by simp; omega
              have hq5 : (n = 0) = False := by simp; omega
              clear hG0 hG1
              obtain ⟨m, hm⟩ : ∃ m : Nat, m = 40 := ⟨_, rfl⟩
              have hmz : (40 : Int) = (m : Int) := by omega
              have h40 : Hid (R m < d) := by unfold Hid; rw [hm]; exact z2
              have hm40 : Hid (m ≤ 40) := Nat.le_of_eq hm
              have hmz := Lib.hid hmz
              clear z2 hm
              go_upto_region 11 with fail
              rw [hmz.out]
              clear hmz
              have p12 := fan5_get (blk_keep Bk.out FB.out)
              go_wp2_with fail
              have LK0 := Lib.hid (LK.start Bk.out #[.int .i64 fa, .int .i64 fb, .int .i64 fc, .int .i64 fd, .slice none 0 0])
              generalize hWt : wr.alloc (.cells #[.int .i64 fa, .int .i64 fb, .int .i64 fc, .int .i64 fd, .slice none 0 0] 26) = wt at *
              generalize wr.heap.size = t at *
              clear hWt p12 Bk
              go_wp2_with fail
              go_loopw [14] (fun i wr => ∃ (j : Nat) (A3 : Option Addr) (c3 : Nat), j ≤ m ∧ i = .int .i64 j ∧ wr.ownsRow v.heap.size 42 4 (.slice A3 j c3) j (flatG (List.replicate j ⟨ll, lh, fl, fh⟩)) ∧ LK v wr t #[.int .i64 fa, .int .i64 fb, .int .i64 fc, .int .i64 fd, .slice A3 j c3]) (fun i _ => m - (intOf i).toNat)
              case atStart => exact ⟨0, none, 0, Nat.zero_le _, rfl, World.ownsRow_nil _ _ _ _, LK0.out⟩
              case round =>
                obtain ⟨j, A3, c3, hj, rfl, hown, hq⟩ := hrel
                have OJ := Lib.hid hown
                have EJ := Lib.hid hq
                clear hown hq LK0
                by_cases hjm : j < m
                · have hjI : (j : Int) < m := by omega
                  go_wp2_with fail
                  have HS16 := Lib.hid (fun (W : World) (hE : LK v W t #[.int .i64 fa, .int .i64 fb, .int .i64 fc, .int .i64 fd, .slice A3 j c3]) => show S16 t g bq off (.slice A3 j c3) (.slice (some ⟨bq, off, none⟩) n c) (.int .i64 ll) (.int .i64 lh) (.int .i64 fl) (.int .i64 fh) W from ⟨⟨hE.q.cell 4, (blk_keep hE.bel FB.out).cell 4⟩, (hE.bel.cell (lt_of_cell q0.out)).trans q0.out, (hE.bel.cell (lt_of_cell q1.out)).trans q1.out, (hE.bel.cell (lt_of_cell q2.out)).trans q2.out, (hE.bel.cell (lt_of_cell q3.out)).trans q3.out⟩)
                  have E5 := Lib.hid EJ.out.drewd
                  have O5 : Hid (wr.drew.ownsRow v.heap.size 42 4 (.slice A3 j c3) j (flatG (List.replicate j ⟨ll, lh, fl, fh⟩))) := OJ.out
                  clear EJ OJ
                  refine wp_region_untl (S := S16 t g bq off (.slice A3 j c3) (.slice (some ⟨bq, off, none⟩) n c) (.int .i64 ll) (.int .i64 lh) (.int .i64 fl) (.int .i64 fh)) [9] (by kernel_rfl) (HS16.out _ E5.out) (fun s5 => ?_)
                  generalize wr.drew = v5 at *
                  refine untlTake (i := 0) 105 (v := ?v1) rfl (by kernel_rfl) (by kernel_rfl) (by kernel_rfl) (by kernel_rfl) (by kernel_rfl) (by kernel_rfl) (fun _ _ _ h => h) (Or.inl ⟨by kernel_rfl, ?y1⟩) (by assumption) ?r1
                  case y1 => (intro w hSw; obtain ⟨⟨g0, g1⟩, g2, g3, g4, g5⟩ := hSw; go_simp; try with_reducible rfl)
                  refine untlTake (i := 1) 106 (v := ?v2) rfl (by kernel_rfl) (by kernel_rfl) (by kernel_rfl) (by kernel_rfl) (by kernel_rfl) (by kernel_rfl) (fun _ _ _ h => h) (Or.inl ⟨by kernel_rfl, ?y2⟩) (by assumption) ?r2
                  case y2 => (intro w hSw; obtain ⟨⟨g0, g1⟩, g2, g3, g4, g5⟩ := hSw; go_simp; try with_reducible rfl)
                  refine untlTake (i := 2) 107 (v := ?v3) rfl (by kernel_rfl) (by kernel_rfl) (by kernel_rfl) (by kernel_rfl) (by kernel_rfl) (by kernel_rfl) (fun _ _ _ h => h) (Or.inl ⟨by kernel_rfl, ?y3⟩) (by assumption) ?r3
                  case y3 => (intro w hSw; obtain ⟨⟨g0, g1⟩, g2, g3, g4, g5⟩ := hSw; go_simp; try with_reducible rfl)
                  refine untlTake (i := 3) 108 (v := ?v4) rfl (by kernel_rfl) (by kernel_rfl) (by kernel_rfl) (by kernel_rfl) (by kernel_rfl) (by kernel_rfl) (fun _ _ _ h => h) (Or.inl ⟨by kernel_rfl, ?y4⟩) (by assumption) ?r4
                  case y4 => (intro w hSw; obtain ⟨⟨g0, g1⟩, g2, g3, g4, g5⟩ := hSw; go_simp; try with_reducible rfl)
                  refine untlTake (i := 4) 109 (v := ?v5) rfl (by kernel_rfl) (by kernel_rfl) (by kernel_rfl) (by kernel_rfl) (by kernel_rfl) (by kernel_rfl) (fun _ _ _ h => h) (Or.inl ⟨by kernel_rfl, ?y5⟩) (by assumption) ?r5
                  case y5 => (intro w hSw; obtain ⟨⟨g0, g1⟩, g2, g3, g4, g5⟩ := hSw; go_simp; try with_reducible rfl)
                  refine untlTake (i := 5) 110 (v := ?v6) rfl (by kernel_rfl) (by kernel_rfl) (by kernel_rfl) (by kernel_rfl) (by kernel_rfl) (by kernel_rfl) (fun _ _ _ h => h) (Or.inl ⟨by kernel_rfl, ?y6⟩) (by assumption) ?r6
                  case y6 => (intro w hSw; obtain ⟨⟨g0, g1⟩, g2, g3, g4, g5⟩ := hSw; go_simp; try with_reducible rfl)
                  simp only [Act.put, List.setIfInBounds_toArray, List.set_cons_zero, List.set_cons_succ]
                  refine untlStep (i := 6) (by kernel_rfl) rfl (fun K6 hK6 => ?_)
                  go_simp
                  have E6 := Lib.hid (E5.out.alloc (.cells #[.int .i64 ll, .int .i64 lh, .int .i64 fl, .int .i64 fh] 42))
                  have s6 := HS16.out _ E6.out
                  clear s5
                  refine hK6.out _ _ (.inr s6) ?_
                  refine untlStep (i := 7) (by kernel_rfl) rfl (fun K7 hK7 => ?_)
                  refine step_append_any rfl (.tmp 106) (.tmp 111) 24 rfl v.heap.size 42 i0 _ 4 32 Try.underlying24 hi hz0 hz1 hz2 rfl (by decide) (.slice A3 j c3) j (flatG (List.replicate j ⟨ll, lh, fl, fh⟩)) (by rfl) (ownsRow_below O5.out (below_self _ _)) (some ⟨v5.heap.size, 0, none⟩) 1 1 (by rfl) (Gap.cells ⟨ll, lh, fl, fh⟩) (rep_new v5 ⟨ll, lh, fl, fh⟩ _) (cells_one _) (by unfold maxLen; omega) (by omega) E6.out.bel.size ?_
                  intro u7 v7 hown hgrow
                  rw [flatG_rep] at hown
                  obtain ⟨A4, c4, rfl⟩ := own_slice hown
                  have E7 := Lib.hid (E6.out.grown (ownsRow_below O5.out (below_self _ _)) (by decide) (Nat.le_refl _) hgrow)
                  have O7 := Lib.hid hown
                  clear hown hgrow E6 s6 E5 O5
                  have s7 := HS16.out _ E7.out
                  refine hK7.out _ _ (.inr s7) ?_
                  refine untlTake (i := 8) 113 (v := ?v7) rfl (by kernel_rfl) (by kernel_rfl) (by kernel_rfl) (by kernel_rfl) (by kernel_rfl) (by kernel_rfl) (fun _ _ _ h => h) (Or.inl ⟨by kernel_rfl, ?y7⟩) (by assumption) ?r7
                  case y7 => (intro w hSw; obtain ⟨⟨g0, g1⟩, g2, g3, g4, g5⟩ := hSw; go_simp; try with_reducible rfl)
                  refine untlStep (i := 9) (by kernel_rfl) rfl (fun K9 hK9 => ?_)
                  rw [if_pos (by rfl)]
                  have f7 := E7.out.q.frozen 4
                  have y7 := E7.out.q.cell 4
                  go_simp
                  refine hK9.out _ _ (.inl (by decide)) ?_
                  refine untlDone (by kernel_rfl) ?_ _
                  have O9 := Lib.hid (own_setCell (i := 4) O7.out E7.out.q (by decide) (.slice A4 (j + 1) c4))
                  have E9 := Lib.hid (E7.out.setQ 4 (.slice A4 (j + 1) c4))
                  clear s7 f7 y7 E7 O7 HS16
                  go_wp2_with fail
                  go_roundw
                  case rel => exact ⟨j + 1, A4, c4, by omega, by go_num, O9.out, E9.out⟩
                  case measure => simp [intOf]; omega
                · obtain rfl : j = m := by omega
                  have hGk : Gaps wr A3 j (List.replicate j ⟨ll, lh, fl, fh⟩) := by
                    obtain ⟨A5, c5, e, ho⟩ := ownG_of OJ.out
                    simp only [Value.slice.injEq, true_and] at e
                    obtain ⟨rfl, rfl⟩ := e
                    exact ho.1
                  have p17 := fan5_get EJ.out.q
                  have CO := Lib.hid (HOR.out j h0 hm40.out A3 c3 wr hGk)
                  clear hGk OJ
                  go_wp2_with fail
                  refine CO.out.mono ?_
                  rintro e w17 ⟨rfl, b17⟩
                  have B17 := Lib.hid (below_then (below_then EJ.out.bel b17) (below_self w17 (.cells #[.int .i64 (R j), .int .i64 (R2 j)] 23)))
                  clear b17 EJ p17 CO
                  have s17 := span2_get (Blk.new w17 23 #[.int .i64 (R j), .int .i64 (R2 j)] rfl)
                  go_upto_region 18 with fail
                  have hge : ¬ R j ≥ d := by have := h40.out; omega
                  rcases hkk with hk1 | hk1
                  · go_wp2_with fail
                    go_roundw
                    case rel => exact ⟨k + 1, by omega, by go_num, B17.out⟩
                    case measure => simp [intOf]; omega
                  · go_wp2_with fail
                    go_roundw
                    case rel => exact ⟨k + 1, by omega, by go_num, B17.out⟩
                    case measure => simp [intOf]; omega
            · obtain rfl : k = 2 := by omega
              go_wp2_with fail
              go_meet
              exact Bk.out
        · clear HS3
          obtain ⟨bq, off, hA, _, q0, q1, q2, q3⟩ := FG.out.at_ h0
          rw [HY.out] at q0 q1 q2 q3
          simp only [Nat.zero_mul, Nat.add_zero] at q0 q1 q2 q3
          subst hA
          obtain ⟨ll, lh, fl, fh⟩ := y0
          simp only at q0 q1 q2 q3
          have q0 := Lib.hid q0
          have q1 := Lib.hid q1
          have q2 := Lib.hid q2
          have q3 := Lib.hid q3
          have HZ1 := Lib.hid z1
          have HZ2 := Lib.hid z2
          have HZ3 := Lib.hid z3
          have HKK := Lib.hid hK
          clear z1 z2 z3 hK
          go_wp2_with fail
          go_loopw [11] (fun i wr => ∃ k : Nat, k ≤ 2 ∧ i = .int .i64 k ∧ Below v.heap.size v wr) (fun i _ => 2 - (intOf i).toNat)
          case atStart => exact ⟨0, Nat.zero_le _, rfl, B3.out⟩
          case round =>
            obtain ⟨k, hk, rfl, hBk⟩ := hrel
            have Bk := Lib.hid hBk
            clear hBk B3
            by_cases hlt : k < 2
            · have z1 := HZ1.out
              have hK := HKK.out
              obtain ⟨G, hG0, hG1⟩ : ∃ G : Int, (k = 0 → G = sn - 2) ∧ (k = 1 → G = sn - 1) := by
                rcases (by omega : k = 0 ∨ k = 1) with h | h
                · exact ⟨_, fun _ => rfl, fun e => by omega⟩
                · exact ⟨_, fun e => by omega, fun _ => rfl⟩
              have hrun : ∀ W : World, (Instr.index 101 (.agg #[Value.int .i64 (sn - 2), .int .i64 (sn - 1)]) (.int .i64 (k : Int))).run Try.prog W = .ok (.int .i64 G) W := fun W => by
                rcases (by omega : k = 0 ∨ k = 1) with h | h
                · rw [show (k : Int) = 0 by omega, show G = sn - 2 from hG0 h]; kernel_rfl
                · rw [show (k : Int) = 1 by omega, show G = sn - 1 from hG1 h]; kernel_rfl
              have ws1 : IntKind.i64.wrap (sn - 2) = sn - 2 := IntWalk.i64_in _ (by have := z1; omega)
              have ws2 : IntKind.i64.wrap (sn - 1) = sn - 1 := IntWalk.i64_in _ (by have := z1; omega)
              have hq3 : ((n : Int) == 0) = false := by simp; omega
              have hq4 : ((n : Int) = 0) = False := by simp; omega
              have hq5 : (n = 0) = False := by simp; omega
              by_cases hG : G < 0
              · clear z1 hK
                have hG0 := Lib.hid hG0
                have hG1 := Lib.hid hG1
                go_wp2_with fail
                go_roundw
                case rel => exact ⟨k + 1, by omega, by go_num, Bk.out⟩
                case measure => simp [intOf]; omega
              · obtain ⟨m, rfl⟩ : ∃ m : Nat, G = (m : Int) := ⟨G.toNat, by omega⟩
                have hm40 : m ≤ 40 := by
                  rcases (by omega : k = 0 ∨ k = 1) with h | h
                  · have := hG0 h; omega
                  · have := hG1 h; omega
                have hR3 : (((k : Int) == 1) = true ∧ k = 1 ∧ R m ≥ d) ∨ (((k : Int) == 1) = false ∧ k = 0 ∧ ¬ R m ≥ d) := by
                  rcases (by omega : k = 0 ∨ k = 1) with h | h
                  · refine Or.inr ⟨by simp; omega, h, ?_⟩
                    have := hG0 h
                    have := HZ3.out m (by omega)
                    omega
                  · refine Or.inl ⟨by simp; omega, h, ?_⟩
                    have := hG1 h
                    obtain rfl : m = K := by omega
                    exact HZ2.out
                clear z1 hK hG0 hG1 HZ1 HZ2 HZ3 HKK
                have hm40 := Lib.hid hm40
                have hR3 := Lib.hid hR3
                have p12 := fan5_get (blk_keep Bk.out FB.out)
                go_wp2_with fail
                have LK0 := Lib.hid (LK.start Bk.out #[.int .i64 fa, .int .i64 fb, .int .i64 fc, .int .i64 fd, .slice none 0 0])
                generalize hWt : wr.alloc (.cells #[.int .i64 fa, .int .i64 fb, .int .i64 fc, .int .i64 fd, .slice none 0 0] 26) = wt at *
                generalize wr.heap.size = t at *
                clear hWt p12 Bk
                go_wp2_with fail
                go_loopw [14] (fun i wr => ∃ (j : Nat) (A3 : Option Addr) (c3 : Nat), j ≤ m ∧ i = .int .i64 j ∧ wr.ownsRow v.heap.size 42 4 (.slice A3 j c3) j (flatG (List.replicate j ⟨ll, lh, fl, fh⟩)) ∧ LK v wr t #[.int .i64 fa, .int .i64 fb, .int .i64 fc, .int .i64 fd, .slice A3 j c3]) (fun i _ => m - (intOf i).toNat)
                case atStart => exact ⟨0, none, 0, Nat.zero_le _, rfl, World.ownsRow_nil _ _ _ _, LK0.out⟩
                case round =>
                  obtain ⟨j, A3, c3, hj, rfl, hown, hq⟩ := hrel
                  have OJ := Lib.hid hown
                  have EJ := Lib.hid hq
                  clear hown hq LK0
                  by_cases hjm : j < m
                  · have hjI : (j : Int) < m := by omega
                    go_wp2_with fail
                    have HS16 := Lib.hid (fun (W : World) (hE : LK v W t #[.int .i64 fa, .int .i64 fb, .int .i64 fc, .int .i64 fd, .slice A3 j c3]) => show S16 t g bq off (.slice A3 j c3) (.slice (some ⟨bq, off, none⟩) n c) (.int .i64 ll) (.int .i64 lh) (.int .i64 fl) (.int .i64 fh) W from ⟨⟨hE.q.cell 4, (blk_keep hE.bel FB.out).cell 4⟩, (hE.bel.cell (lt_of_cell q0.out)).trans q0.out, (hE.bel.cell (lt_of_cell q1.out)).trans q1.out, (hE.bel.cell (lt_of_cell q2.out)).trans q2.out, (hE.bel.cell (lt_of_cell q3.out)).trans q3.out⟩)
                    have E5 := Lib.hid EJ.out.drewd
                    have O5 : Hid (wr.drew.ownsRow v.heap.size 42 4 (.slice A3 j c3) j (flatG (List.replicate j ⟨ll, lh, fl, fh⟩))) := OJ.out
                    clear EJ OJ
                    refine wp_region_untl (S := S16 t g bq off (.slice A3 j c3) (.slice (some ⟨bq, off, none⟩) n c) (.int .i64 ll) (.int .i64 lh) (.int .i64 fl) (.int .i64 fh)) [9] (by kernel_rfl) (HS16.out _ E5.out) (fun s5 => ?_)
                    generalize wr.drew = v5 at *
                    refine untlTake (i := 0) 105 (v := ?v8) rfl (by kernel_rfl) (by kernel_rfl) (by kernel_rfl) (by kernel_rfl) (by kernel_rfl) (by kernel_rfl) (fun _ _ _ h => h) (Or.inl ⟨by kernel_rfl, ?y8⟩) (by assumption) ?r8
                    case y8 => (intro w hSw; obtain ⟨⟨g0, g1⟩, g2, g3, g4, g5⟩ := hSw; go_simp; try with_reducible rfl)
                    refine untlTake (i := 1) 106 (v := ?v9) rfl (by kernel_rfl) (by kernel_rfl) (by kernel_rfl) (by kernel_rfl) (by kernel_rfl) (by kernel_rfl) (fun _ _ _ h => h) (Or.inl ⟨by kernel_rfl, ?y9⟩) (by assumption) ?r9
                    case y9 => (intro w hSw; obtain ⟨⟨g0, g1⟩, g2, g3, g4, g5⟩ := hSw; go_simp; try with_reducible rfl)
                    refine untlTake (i := 2) 107 (v := ?v10) rfl (by kernel_rfl) (by kernel_rfl) (by kernel_rfl) (by kernel_rfl) (by kernel_rfl) (by kernel_rfl) (fun _ _ _ h => h) (Or.inl ⟨by kernel_rfl, ?y10⟩) (by assumption) ?r10
                    case y10 => (intro w hSw; obtain ⟨⟨g0, g1⟩, g2, g3, g4, g5⟩ := hSw; go_simp; try with_reducible rfl)
                    refine untlTake (i := 3) 108 (v := ?v11) rfl (by kernel_rfl) (by kernel_rfl) (by kernel_rfl) (by kernel_rfl) (by kernel_rfl) (by kernel_rfl) (fun _ _ _ h => h) (Or.inl ⟨by kernel_rfl, ?y11⟩) (by assumption) ?r11
                    case y11 => (intro w hSw; obtain ⟨⟨g0, g1⟩, g2, g3, g4, g5⟩ := hSw; go_simp; try with_reducible rfl)
                    refine untlTake (i := 4) 109 (v := ?v12) rfl (by kernel_rfl) (by kernel_rfl) (by kernel_rfl) (by kernel_rfl) (by kernel_rfl) (by kernel_rfl) (fun _ _ _ h => h) (Or.inl ⟨by kernel_rfl, ?y12⟩) (by assumption) ?r12
                    case y12 => (intro w hSw; obtain ⟨⟨g0, g1⟩, g2, g3, g4, g5⟩ := hSw; go_simp; try with_reducible rfl)
                    refine untlTake (i := 5) 110 (v := ?v13) rfl (by kernel_rfl) (by kernel_rfl) (by kernel_rfl) (by kernel_rfl) (by kernel_rfl) (by kernel_rfl) (fun _ _ _ h => h) (Or.inl ⟨by kernel_rfl, ?y13⟩) (by assumption) ?r13
                    case y13 => (intro w hSw; obtain ⟨⟨g0, g1⟩, g2, g3, g4, g5⟩ := hSw; go_simp; try with_reducible rfl)
                    simp only [Act.put, List.setIfInBounds_toArray, List.set_cons_zero, List.set_cons_succ]
                    refine untlStep (i := 6) (by kernel_rfl) rfl (fun K6 hK6 => ?_)
                    go_simp
                    have E6 := Lib.hid (E5.out.alloc (.cells #[.int .i64 ll, .int .i64 lh, .int .i64 fl, .int .i64 fh] 42))
                    have s6 := HS16.out _ E6.out
                    clear s5
                    refine hK6.out _ _ (.inr s6) ?_
                    refine untlStep (i := 7) (by kernel_rfl) rfl (fun K7 hK7 => ?_)
                    refine step_append_any rfl (.tmp 106) (.tmp 111) 24 rfl v.heap.size 42 i0 _ 4 32 Try.underlying24 hi hz0 hz1 hz2 rfl (by decide) (.slice A3 j c3) j (flatG (List.replicate j ⟨ll, lh, fl, fh⟩)) (by rfl) (ownsRow_below O5.out (below_self _ _)) (some ⟨v5.heap.size, 0, none⟩) 1 1 (by rfl) (Gap.cells ⟨ll, lh, fl, fh⟩) (rep_new v5 ⟨ll, lh, fl, fh⟩ _) (cells_one _) (by unfold maxLen; omega) (by omega) E6.out.bel.size ?_
                    intro u7 v7 hown hgrow
                    rw [flatG_rep] at hown
                    obtain ⟨A4, c4, rfl⟩ := own_slice hown
                    have E7 := Lib.hid (E6.out.grown (ownsRow_below O5.out (below_self _ _)) (by decide) (Nat.le_refl _) hgrow)
                    have O7 := Lib.hid hown
                    clear hown hgrow E6 s6 E5 O5
                    have s7 := HS16.out _ E7.out
                    refine hK7.out _ _ (.inr s7) ?_
                    refine untlTake (i := 8) 113 (v := ?v14) rfl (by kernel_rfl) (by kernel_rfl) (by kernel_rfl) (by kernel_rfl) (by kernel_rfl) (by kernel_rfl) (fun _ _ _ h => h) (Or.inl ⟨by kernel_rfl, ?y14⟩) (by assumption) ?r14
                    case y14 => (intro w hSw; obtain ⟨⟨g0, g1⟩, g2, g3, g4, g5⟩ := hSw; go_simp; try with_reducible rfl)
                    refine untlStep (i := 9) (by kernel_rfl) rfl (fun K9 hK9 => ?_)
                    rw [if_pos (by rfl)]
                    have f7 := E7.out.q.frozen 4
                    have y7 := E7.out.q.cell 4
                    go_simp
                    refine hK9.out _ _ (.inl (by decide)) ?_
                    refine untlDone (by kernel_rfl) ?_ _
                    have O9 := Lib.hid (own_setCell (i := 4) O7.out E7.out.q (by decide) (.slice A4 (j + 1) c4))
                    have E9 := Lib.hid (E7.out.setQ 4 (.slice A4 (j + 1) c4))
                    clear s7 f7 y7 E7 O7 HS16
                    go_wp2_with fail
                    go_roundw
                    case rel => exact ⟨j + 1, A4, c4, by omega, by go_num, O9.out, E9.out⟩
                    case measure => simp [intOf]; omega
                  · obtain rfl : j = m := by omega
                    have hGk : Gaps wr A3 j (List.replicate j ⟨ll, lh, fl, fh⟩) := by
                      obtain ⟨A5, c5, e, ho⟩ := ownG_of OJ.out
                      simp only [Value.slice.injEq, true_and] at e
                      obtain ⟨rfl, rfl⟩ := e
                      exact ho.1
                    have p17 := fan5_get EJ.out.q
                    have CO := Lib.hid (HOR.out j h0 hm40.out A3 c3 wr hGk)
                    clear hGk OJ
                    go_wp2_with fail
                    refine CO.out.mono ?_
                    rintro e w17 ⟨rfl, b17⟩
                    have B17 := Lib.hid (below_then (below_then EJ.out.bel b17) (below_self w17 (.cells #[.int .i64 (R j), .int .i64 (R2 j)] 23)))
                    clear b17 EJ p17 CO
                    have s17 := span2_get (Blk.new w17 23 #[.int .i64 (R j), .int .i64 (R2 j)] rfl)
                    go_upto_region 18 with fail
                    rcases hR3.out with ⟨hk1, hk2, hge⟩ | ⟨hk1, hk2, hge⟩
                    · go_wp2_with fail
                      go_roundw
                      case rel => exact ⟨k + 1, by omega, by go_num, B17.out⟩
                      case measure => simp [intOf]; omega
                    · go_wp2_with fail
                      go_roundw
                      case rel => exact ⟨k + 1, by omega, by go_num, B17.out⟩
                      case measure => simp [intOf]; omega
            · obtain rfl : k = 2 := by omega
              go_wp2_with fail
              go_meet
              exact Bk.out
      case rest =>
        have B4 := Lib.hid hcut
        clear hcut B3 HS3 HOR HY
        rename_i zz0 zz1 zz2 zz3
        revert hb0 hb1 i0 hi hz0 hz1 hz2 HK n hn12 ww d hdd wd wb0 wb1 R R2 Q Q2 V V2 sn se pn pe HP3 wg wt we HW3 HSP HND fw HWN fa fb fc fd gs HCF HOP HPL HWI HGB HRM HPS HPZ HPA HPN HLF HOW HWL y0 zz0 w1 A c v FG FY FW g FB w2 A2 c2 zz1 u46 u47 u48 u49 u50 u51 u52 u53 u54 u55 u56 u57 u58 u59 u60 u61 u62 u63 u64 u65 u66 u67 u68 u69 u70 u71 u72 zz2 zz3 wc u6 u11 u12 u13 u14 u15 u16 u74 u75 u76 u77 u78 u79 u80 u81 u82 u83 u84 u85 u86 u87 u88 u89 u90 u91 u92 u93 u94 u95 u96 u97 u98 u99 u100 u101 u102 u103 u104 u105 u106 u107 u108 u109 u110 u111 u112 u113 u114 u115 u116 u117 u118 u119 u120 u121 u122 u123 u124 u125 u126 u127 u128 u129 u130 u131 u132 u133 B4
        exact kG.out
end Go.Proofs.Ytdekickmplkdiaa
