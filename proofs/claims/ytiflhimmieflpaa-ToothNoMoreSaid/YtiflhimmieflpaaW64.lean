/- Walks: the law ToothFaults, where it answers at once, or there is an error. -/
import Derived.Test.YtiflhimmieflpaaW63
namespace Go.Proofs.Ytiflhimmieflpaa
open Go.RowKit Go.Maps

theorem own_slice_le {w : World} {base n size : Nat} {t : TypeId} {v : Value} {xs : List Value} (h : w.ownsRow base t size v n xs) : ∃ A cap, v = .slice A n cap ∧ n ≤ cap := by
  rcases h.2 with ⟨rfl, rfl⟩ | ⟨g, cap, _, hv, _, _, hn, _⟩
  · exact ⟨none, 0, rfl, Nat.le_refl _⟩
  · exact ⟨_, _, hv, hn⟩
theorem first_or {n : Nat} (p : Nat → Bool) : (∃ k : Nat, k < n ∧ p k = true ∧ ∀ j, j < k → p j = false) ∨ ∀ j, j < n → p j = false := by
  induction n with
  | zero => exact .inr fun j hj => absurd hj (by omega)
  | succ n ih =>
    rcases ih with ⟨k, h1, h2, h3⟩ | h
    · exact .inl ⟨k, by omega, h2, h3⟩
    · cases e : p n
      · exact .inr fun j hj => by
          by_cases e2 : j = n
          · rw [e2]; exact e
          · exact h j (by omega)
      · exact .inl ⟨n, by omega, e, h⟩
theorem sound_sure {B : Bl} {s : Sw} {x : Nat} {TA TB K : Option Addr} {c c' d : Nat} (hs : s.Ok) (hc : B.cerr = 0) (y : Nat) : soundV (sureV B TA TB K c c' d) s x y = soundS (B.worst s) x y := by
  have h := fine_sure (TA := TA) (TB := TB) (K := K) (c := c) (c' := c') (d := d) (x := x) hs hc y
  have hw : (B.worst s).wide = s.wide := rfl
  unfold fineV at h
  rw [Bool.eq_iff_iff, h]
  unfold soundS noneOf
  rw [hw]
  simp only [Bool.and_eq_true, decide_eq_true_eq, List.all_eq_true, Bool.not_eq_true', and_assoc]
theorem wrong_sure {B : Bl} {s : Sw} {TA TB K : Option Addr} {c c' d : Nat} (hs : s.Ok) (hc : B.cerr = 0) {ps : List (Int × Int)} {k : Nat} (hk : k < ps.length) (hin : ∀ p ∈ ps, 0 ≤ p.1 ∧ p.1 + s.long ≤ B.n ∧ 0 ≤ p.2 ∧ p.2 ≤ 300) : wrongV (sureV B TA TB K c c' d) s ps k = wrongS (B.worst s) ps k := by
  have hm : ps.getD k (0, 0) ∈ ps := by
    have e : ps.getD k (0, 0) = ps[k] := by simp [List.getD, hk]
    rw [e]; exact List.getElem_mem _
  obtain ⟨y, hy⟩ := Int.eq_ofNat_of_zero_le (hin _ hm).2.2.1
  unfold wrongV wrongS
  rw [hy, sound_sure hs hc y]
  rfl

set_option maxRecDepth 100000 in
set_option maxHeartbeats 4000000 in
theorem tf_large (B : Bl) (s : Sw) (A : Option Addr) (n cp : Nat) (w : World) (hn : n ≤ maxLen) (hlg : largeB B.n B.n' B.m = true ∨ 420 < n) : Calls Try.prog 7 #[B.val, s.val, .slice A n cp] w (Yes w) := by
  unfold maxLen at hn
  have L0 := Lib.hid (LV.new w B s)
  have HLG := Lib.hid (fun W => large_any B W)
  have HKN := Lib.hid (fun W => known_any W)
  unfold Bl.val Sw.val at *
  go_enter Try.func7, Try.ntmps7
  have l0 := L0.out.get
  go_wp2_with fail
  refine (HLG.out _).mono ?_
  rintro e w1 ⟨rfl, b1⟩
  have L8 := Lib.hid (L0.out.below b1)
  clear b1 HLG L0 l0
  cases hl2 : largeB B.n B.n' B.m
  case true =>
    clear hlg hl2
    go_wp2_with fail
    refine (HKN.out _).mono ?_
    rintro e w9 ⟨rfl, b9⟩
    have D9 := Lib.hid (below_then L8.out.bel b9)
    clear b9 L8
    go_wp2
    go_ret
    exact ⟨rfl, D9.out⟩
  have h42 : 420 < n := by
    rcases hlg with e | e
    · rw [e] at hl2; exact absurd hl2 (by decide)
    · exact e
  have h43 : (420 : Int) < (n : Int) := by omega
  clear hlg hl2
  go_wp2_with fail
  refine (HKN.out _).mono ?_
  rintro e w9 ⟨rfl, b9⟩
  have D9 := Lib.hid (below_then L8.out.bel b9)
  clear b9 L8
  go_wp2
  go_ret
  exact ⟨rfl, D9.out⟩
set_option maxRecDepth 100000 in
set_option maxHeartbeats 4000000 in
theorem tf_err (B : Bl) (s : Sw) (A : Option Addr) (n cp : Nat) (ps : List (Int × Int)) (w : World) (h : B.At w) (hp : Pairs w A n ps) (hlg : largeB B.n B.n' B.m = false) (h42 : n ≤ 420) (herr : B.err s ≠ 0) : Calls Try.prog 7 #[B.val, s.val, .slice A n cp] w (Yes w) := by
  obtain ⟨i0, hi, hz0, hz1, hz2⟩ := info_parts Try.infoPlace
  have L0 := Lib.hid (LV.new w B s)
  have H := Lib.hid h
  have HLG := Lib.hid (fun W => large_any B W)
  have HKN := Lib.hid (fun W => known_any W)
  have HPS := Lib.hid (fun W (hb : Below w.heap.size w W) => hp.below hb)
  have hlen := hp.len
  have HFE : Hid (∀ B', B.Like B' → ∀ (W W' : World) (e : Ending), FaultRes W B' s n ps e W' → Below W.heap.size W W' ∧ e = .returned (.tuple #[.int .i64 0, .int .i64 (B.err s)])) := fun B' hl W W' e hf => by
    obtain ⟨hb, hf⟩ := hf
    rw [hl.err, hl.worst, hl.n] at hf
    refine ⟨hb, ?_⟩
    rcases hf with ⟨_, e⟩ | ⟨e, _⟩ | ⟨e, _⟩ | ⟨e, _⟩
    · exact e
    · exact absurd e herr
    · exact absurd e herr
    · exact absurd e herr
  have h43 : ¬ (420 : Int) < (n : Int) := by omega
  clear h hp
  unfold Bl.val Sw.val at *
  go_enter Try.func7, Try.ntmps7
  have l0 := L0.out.get
  go_wp2_with fail
  refine (HLG.out _).mono ?_
  rintro e w1 ⟨rfl, b1⟩
  have L1 := Lib.hid (L0.out.below b1)
  have l1 := L1.out.get
  clear b1 HLG L0 l0
  rw [hlg]
  obtain ⟨k1, k2, k3⟩ := large_no hlg
  have HOP := Lib.hid (fun W (hb : Below w.heap.size w W) => open_any B s W (H.out.below hb) (by omega) (by omega) (by omega))
  have HPL1 := Lib.hid (HOP.out _ L1.out.bel)
  clear hlg HOP
  unfold Bl.val Sw.val at *
  go_wp2_with fail
  refine HPL1.out.mono ?_
  rintro e w2 ⟨rfl, b2⟩
  have L2 := Lib.hid (L1.out.below b2)
  clear b2 HPL1 l1 L1
  have hE2 : (B.err s == 0) = false := by simpa using herr
  have hE3 : (B.err s == B.err s) = true := by simp
  generalize B.err s = E at *
  clear herr
  go_wp2_with fail
  obtain ⟨wb, rfl⟩ : ∃ wb : World, wb = w2 := ⟨_, rfl⟩
  go_loopw [7, 8] (fun ev iv wr => ev = .int .i64 E ∧ iv = .int .i64 0 ∧ LV w B s wr) (fun _ _ _ => 0)
  case atStart => exact ⟨rfl, rfl, L2.out⟩
  case round =>
    obtain ⟨rfl, rfl, hlv⟩ := hrel
    have LR := Lib.hid hlv
    clear hlv L2
    by_cases hn0 : 0 < n
    case pos =>
      have hn1 : (0 : Int) < (n : Int) := by omega
      have HCP := Lib.hid (RefCopy_any B _ (H.out.below LR.out.bel) (by omega) (by omega) (by omega))
      have lc := LR.out.get
      unfold Bl.val at *
      go_wp2_with fail
      refine HCP.out.mono ?_
      rintro e wc ⟨B', rfl, hlike, hat, bc⟩
      have LC := Lib.hid (LR.out.below bc)
      have HL := Lib.hid hlike
      have HA := Lib.hid hat
      clear bc HCP hlike hat lc LR
      have O0 := Lib.hid (own_empty wc 39 2 (g := wc.heap.size) rfl)
      have D0 := Lib.hid (below_self wc (.cells #[] 39))
      have HP2 := Lib.hid (HPS.out _ (below_then LC.out.bel D0.out))
      go_wp2_with (at_builtin; refine wpList_append_any rfl _ _ 54 rfl wc.heap.size 39 i0 (.agg #[.int .i64 0, .int .i64 0]) 2 16 Try.underlying54 hi hz0 hz1 hz2 rfl (by decide) _ _ _ rfl O0.out A n cp (flat2 ps) rfl HP2.out ?d2 ?d3 ?d4 ?d5 ?_)
      case d2 => intro u hu; simp only [flat2, List.mem_flatMap, List.mem_cons, List.not_mem_nil, or_false] at hu; obtain ⟨_, _, rfl | rfl⟩ := hu <;> rfl
      case d3 => unfold maxLen; omega
      case d4 => omega
      case d5 => exact D0.out.size
      intro v4 w4 hown4 hgrow
      have D4 := Lib.hid (D0.out.grown hgrow D0.out.size (fun q hq => (O0.out.lt q hq).1))
      have hown5 : w4.ownsRow wc.heap.size 39 2 v4 n (flat2 ps) := by simpa using hown4
      clear hown4 hgrow O0 D0 HP2
      obtain ⟨A4, c4, rfl, hc4⟩ := own_slice_le hown5
      have HPB : Hid (Pairs w4 A4 n ps) := (reads_of_own hown5).r
      have L4 := Lib.hid (LC.out.below D4.out)
      have HA4 := Lib.hid (HA.out.below D4.out)
      clear hown5 LC HA D4
      have E5 := Lib.hid (below_self w4 (.cells #[.slice B'.A B'.n B'.c, .slice B'.A' B'.n' B'.c', .int .i64 B'.bend, .slice B'.K B'.m B'.d] 25))
      have X5 := Lib.hid (Blk.new w4 25 #[.slice B'.A B'.n B'.c, .slice B'.A' B'.n' B'.c', .int .i64 B'.bend, .slice B'.K B'.m B'.d] rfl)
      have L5 := Lib.hid (L4.out.alloc (.cells #[.slice B'.A B'.n B'.c, .slice B'.A' B'.n' B'.c', .int .i64 B'.bend, .slice B'.K B'.m B'.d] 25))
      have HFT := Lib.hid (Fault_any B' s A4 n c4 ps _ (HA4.out.below E5.out) (Reads.below HPB.out E5.out) (by unfold maxLen; omega) hc4)
      have HSM := Lib.hid (fun W (hb : Below w4.heap.size w4 W) (hb2 : Below w.heap.size w W) => RefSame_any B B' W (H.out.below hb2) (HA4.out.below hb) HL.out)
      have HPP := Lib.hid (fun W (hb : Below w4.heap.size w4 W) (hb2 : Below w.heap.size w W) => RefPlaces_eq A4 A n c4 cp ps W (Reads.below HPB.out hb) (HPS.out W hb2) (by unfold maxLen; omega))
      clear hc4 L4 HPB HA4
      unfold Bl.val Sw.val at *
      have l5 := L5.out.get
      have x5 := X5.out.cell
      go_wp2_with fail
      refine HFT.out.mono ?_
      intro e w6 hft
      obtain ⟨b6, rfl⟩ := HFE.out B' HL.out _ _ _ hft
      have E6 := Lib.hid (below_then E5.out b6)
      have L6 := Lib.hid (L5.out.below b6)
      have X6 := Lib.hid (blk_keep b6 X5.out)
      have HSM6 := Lib.hid (HSM.out _ E6.out L6.out.bel)
      clear hft b6 HFT HFE HL l5 x5 L5 X5 E5 HSM
      have l6 := L6.out.get
      have x6 := X6.out.cell
      go_wp2_with fail
      refine HSM6.out.mono ?_
      rintro e w7 ⟨rfl, b7⟩
      have L7 := Lib.hid (L6.out.below b7)
      have E7 := Lib.hid (below_then E6.out b7)
      have HPP7 := Lib.hid (HPP.out _ E7.out L7.out.bel)
      have l7 := L7.out.get
      clear b7 HSM6 HPP l6 x6 L6 X6 E6
      go_wp2_with fail
      refine HPP7.out.mono ?_
      rintro e w8 ⟨rfl, b8⟩
      have L8 := Lib.hid (L7.out.below b8)
      clear b8 HPP7 l7 L7 E7
      go_wp2_with fail
      refine (HKN.out _).mono ?_
      rintro e w9 ⟨rfl, b9⟩
      have D9 := Lib.hid (below_then L8.out.bel b9)
      clear b9 L8
      go_wp2
      go_ret
      exact ⟨rfl, D9.out⟩
    case neg =>
      have hn1 : ¬ (0 : Int) < (n : Int) := by omega
      have HCP := Lib.hid (RefCopy_any B _ (H.out.below LR.out.bel) (by omega) (by omega) (by omega))
      have lc := LR.out.get
      unfold Bl.val at *
      go_wp2_with fail
      refine HCP.out.mono ?_
      rintro e wc ⟨B', rfl, hlike, hat, bc⟩
      have LC := Lib.hid (LR.out.below bc)
      have HL := Lib.hid hlike
      have HA := Lib.hid hat
      clear bc HCP hlike hat lc LR
      have O0 := Lib.hid (own_empty wc 39 2 (g := wc.heap.size) rfl)
      have D0 := Lib.hid (below_self wc (.cells #[] 39))
      have HP2 := Lib.hid (HPS.out _ (below_then LC.out.bel D0.out))
      go_wp2_with (at_builtin; refine wpList_append_any rfl _ _ 54 rfl wc.heap.size 39 i0 (.agg #[.int .i64 0, .int .i64 0]) 2 16 Try.underlying54 hi hz0 hz1 hz2 rfl (by decide) _ _ _ rfl O0.out A n cp (flat2 ps) rfl HP2.out ?d2 ?d3 ?d4 ?d5 ?_)
      case d2 => intro u hu; simp only [flat2, List.mem_flatMap, List.mem_cons, List.not_mem_nil, or_false] at hu; obtain ⟨_, _, rfl | rfl⟩ := hu <;> rfl
      case d3 => unfold maxLen; omega
      case d4 => omega
      case d5 => exact D0.out.size
      intro v4 w4 hown4 hgrow
      have D4 := Lib.hid (D0.out.grown hgrow D0.out.size (fun q hq => (O0.out.lt q hq).1))
      have hown5 : w4.ownsRow wc.heap.size 39 2 v4 n (flat2 ps) := by simpa using hown4
      clear hown4 hgrow O0 D0 HP2
      obtain ⟨A4, c4, rfl, hc4⟩ := own_slice_le hown5
      have HPB : Hid (Pairs w4 A4 n ps) := (reads_of_own hown5).r
      have L4 := Lib.hid (LC.out.below D4.out)
      have HA4 := Lib.hid (HA.out.below D4.out)
      clear hown5 LC HA D4
      have E5 := Lib.hid (below_self w4 (.cells #[.slice B'.A B'.n B'.c, .slice B'.A' B'.n' B'.c', .int .i64 B'.bend, .slice B'.K B'.m B'.d] 25))
      have X5 := Lib.hid (Blk.new w4 25 #[.slice B'.A B'.n B'.c, .slice B'.A' B'.n' B'.c', .int .i64 B'.bend, .slice B'.K B'.m B'.d] rfl)
      have L5 := Lib.hid (L4.out.alloc (.cells #[.slice B'.A B'.n B'.c, .slice B'.A' B'.n' B'.c', .int .i64 B'.bend, .slice B'.K B'.m B'.d] 25))
      have HFT := Lib.hid (Fault_any B' s A4 n c4 ps _ (HA4.out.below E5.out) (Reads.below HPB.out E5.out) (by unfold maxLen; omega) hc4)
      have HSM := Lib.hid (fun W (hb : Below w4.heap.size w4 W) (hb2 : Below w.heap.size w W) => RefSame_any B B' W (H.out.below hb2) (HA4.out.below hb) HL.out)
      have HPP := Lib.hid (fun W (hb : Below w4.heap.size w4 W) (hb2 : Below w.heap.size w W) => RefPlaces_eq A4 A n c4 cp ps W (Reads.below HPB.out hb) (HPS.out W hb2) (by unfold maxLen; omega))
      clear hc4 L4 HPB HA4
      unfold Bl.val Sw.val at *
      have l5 := L5.out.get
      have x5 := X5.out.cell
      go_wp2_with fail
      refine HFT.out.mono ?_
      intro e w6 hft
      obtain ⟨b6, rfl⟩ := HFE.out B' HL.out _ _ _ hft
      have E6 := Lib.hid (below_then E5.out b6)
      have L6 := Lib.hid (L5.out.below b6)
      have X6 := Lib.hid (blk_keep b6 X5.out)
      have HSM6 := Lib.hid (HSM.out _ E6.out L6.out.bel)
      clear hft b6 HFT HFE HL l5 x5 L5 X5 E5 HSM
      have l6 := L6.out.get
      have x6 := X6.out.cell
      go_wp2_with fail
      refine HSM6.out.mono ?_
      rintro e w7 ⟨rfl, b7⟩
      have L7 := Lib.hid (L6.out.below b7)
      have E7 := Lib.hid (below_then E6.out b7)
      have HPP7 := Lib.hid (HPP.out _ E7.out L7.out.bel)
      have l7 := L7.out.get
      clear b7 HSM6 HPP l6 x6 L6 X6 E6
      go_wp2_with fail
      refine HPP7.out.mono ?_
      rintro e w8 ⟨rfl, b8⟩
      have L8 := Lib.hid (L7.out.below b8)
      clear b8 HPP7 l7 L7 E7
      go_wp2_with fail
      refine (HKN.out _).mono ?_
      rintro e w9 ⟨rfl, b9⟩
      have D9 := Lib.hid (below_then L8.out.bel b9)
      clear b9 L8
      go_wp2
      go_ret
      exact ⟨rfl, D9.out⟩
end Go.Proofs.Ytiflhimmieflpaa
