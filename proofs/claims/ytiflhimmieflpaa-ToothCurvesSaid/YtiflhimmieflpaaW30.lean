/- Walks: the law's blade. -/
import Derived.Test.YtiflhimmieflpaaW29
import Derived.Deep.RegionLaw
namespace Go.Proofs.Ytiflhimmieflpaa
open Go.RowKit Go.Maps

theorem reads_of_blk {W : World} {g size n : Nat} {t : TypeId} {cs : Array Value} {xs : List Value} (h : Blk W g t cs) (hx : cs.toList = xs) (hl : xs.length = n * size) : Reads W size (some ⟨g, 0, none⟩) n xs := by
  subst hx
  refine ⟨hl, fun _ => ⟨g, 0, rfl, h.lt, fun j u hu => ?_⟩⟩
  rw [Nat.zero_add, h.cell j]
  simpa using hu
def botX : List (Int × Int) := [(0, 2), (0, 0), (1, 4), (0, 0), (0, 1), (3, 3)]
def topX : List (Int × Int) := [(30, 30), (30, 30), (20, 22), (30, 30), (30, 30), (30, 30)]
def crX : List Crack := [⟨4, 5, 10, 11, 12, 14⟩]
theorem top_same : ∀ j, j ≠ 4 → j ≠ 5 → j < 12 → (flat2 (List.replicate 6 ((30 : Int), (30 : Int))))[j]? = (flat2 topX)[j]?
  | 0, _, _, _ => rfl
  | 1, _, _, _ => rfl
  | 2, _, _, _ => rfl
  | 3, _, _, _ => rfl
  | 4, h, _, _ => absurd rfl h
  | 5, _, h, _ => absurd rfl h
  | 6, _, _, _ => rfl
  | 7, _, _, _ => rfl
  | 8, _, _, _ => rfl
  | 9, _, _, _ => rfl
  | 10, _, _, _ => rfl
  | 11, _, _, _ => rfl
  | j + 12, _, _, h => by omega
theorem top_mem {X : World} {vg : Nat} {t : TypeId} {cs : Array Value} (h : Blk X vg t cs) (hs : 12 ≤ cs.size) (ht : cs.toList.take (flat2 (List.replicate 6 ((30 : Int), (30 : Int)))).length = flat2 (List.replicate 6 (30, 30))) :
    Pairs ((X.setCell ⟨vg, 4, none⟩ (.int .i64 20)).setCell ⟨vg, 5, none⟩ (.int .i64 22)) (some ⟨vg, 0, none⟩) 6 topX := by
  have h2 := (h.set_ 4 (.int .i64 20)).set_ 5 (.int .i64 22)
  refine ⟨rfl, fun _ => ⟨vg, 0, rfl, h2.lt, fun j u hu => ?_⟩⟩
  rw [Nat.zero_add, h2.cell j, ← hu]
  have hj : j < 12 := by
    rcases Nat.lt_or_ge j 12 with q | q
    · exact q
    · rw [List.getElem?_eq_none (show (flat2 topX).length ≤ j from q)] at hu; simp at hu
  by_cases e5 : j = 5
  · subst e5
    rw [Array.getElem?_setIfInBounds_self_of_lt (by simp; omega)]
    rfl
  · rw [Array.getElem?_setIfInBounds_ne (fun e => e5 e.symm)]
    by_cases e4 : j = 4
    · subst e4
      rw [Array.getElem?_setIfInBounds_self_of_lt (by omega)]
      rfl
    · rw [Array.getElem?_setIfInBounds_ne (fun e => e4 e.symm), cs_at ht j hj]
      exact top_same j e4 e5 hj
def BladeRes (w : World) (e : Ending) (w' : World) : Prop :=
  ∃ B : Bl, e = .returned B.val ∧ B.At w' ∧ B.n = 6 ∧ B.n' = 6 ∧ B.m = 1 ∧ B.bend = 10 ∧ B.bot = botX ∧ B.top = topX ∧ B.cr = crX ∧ Below w.heap.size w w'

set_option maxRecDepth 100000 in
set_option maxHeartbeats 4000000 in
theorem blade_any (w : World) : Calls Try.prog 58 #[] w (BladeRes w) := by
  obtain ⟨i0, hi, hz0, hz1, hz2⟩ := info_parts Try.infoSpan
  have R0 := Lib.hid (Blk.new w 25 #[.slice none 0 0, .slice none 0 0, .int .i64 0, .slice none 0 0] (g := w.heap.size) rfl)
  have B0 := Lib.hid (below_self w (.cells #[.slice none 0 0, .slice none 0 0, .int .i64 0, .slice none 0 0] 25))
  have HS := Lib.hid (fun a b W => lawSpan_any a b W)
  go_enter Try.func58, Try.ntmps58
  go_wp2_with fail
  refine (HS.out _ _ _).mono ?_
  rintro e w1 ⟨rfl, h1⟩
  have B1 := Lib.hid (below_then B0.out h1)
  have Z1 := Lib.hid (blk_keep h1 R0.out)
  clear h1
  go_wp2_with fail
  refine (HS.out _ _ _).mono ?_
  rintro e w2 ⟨rfl, h2⟩
  have B2 := Lib.hid (below_then B1.out h2)
  have Z2 := Lib.hid (blk_keep h2 Z1.out)
  clear h2
  go_wp2_with fail
  refine (HS.out _ _ _).mono ?_
  rintro e w3 ⟨rfl, h3⟩
  have B3 := Lib.hid (below_then B2.out h3)
  have Z3 := Lib.hid (blk_keep h3 Z2.out)
  clear h3
  go_wp2_with fail
  refine (HS.out _ _ _).mono ?_
  rintro e w4 ⟨rfl, h4⟩
  have B4 := Lib.hid (below_then B3.out h4)
  have Z4 := Lib.hid (blk_keep h4 Z3.out)
  clear h4
  go_wp2_with fail
  refine (HS.out _ _ _).mono ?_
  rintro e w5 ⟨rfl, h5⟩
  have B5 := Lib.hid (below_then B4.out h5)
  have Z5 := Lib.hid (blk_keep h5 Z4.out)
  clear h5
  go_wp2_with fail
  refine (HS.out _ _ _).mono ?_
  rintro e w6 ⟨rfl, h6⟩
  have B6 := Lib.hid (below_then B5.out h6)
  have Z6 := Lib.hid (blk_keep h6 Z5.out)
  clear h6
  have P6 : Hid (Pairs (w6.alloc (.cells #[.int .i64 0, .int .i64 2, .int .i64 0, .int .i64 0, .int .i64 1, .int .i64 4, .int .i64 0, .int .i64 0, .int .i64 0, .int .i64 1, .int .i64 3, .int .i64 3] 98)) (some ⟨w6.heap.size, 0, none⟩) 6 botX) := reads_of_blk (Blk.new w6 _ _ rfl) rfl rfl
  have Z6' := Lib.hid (Z6.out.alloc (.cells #[.int .i64 0, .int .i64 2, .int .i64 0, .int .i64 0, .int .i64 1, .int .i64 4, .int .i64 0, .int .i64 0, .int .i64 0, .int .i64 1, .int .i64 3, .int .i64 3] 98))
  have B6' := Lib.hid (below_alloc' B6.out (.cells #[.int .i64 0, .int .i64 2, .int .i64 0, .int .i64 0, .int .i64 1, .int .i64 4, .int .i64 0, .int .i64 0, .int .i64 0, .int .i64 1, .int .i64 3, .int .i64 3] 98))
  go_wp2_with fail
  refine (HS.out _ _ _).mono ?_
  rintro e w7 ⟨rfl, h7⟩
  have B7 := Lib.hid (below_then B6'.out h7)
  have Z7 := Lib.hid (blk_keep h7 Z6'.out)
  have P7 := Lib.hid (Reads.below P6.out h7)
  clear h7
  go_wp2_with fail
  refine (HS.out _ _ _).mono ?_
  rintro e w8 ⟨rfl, h8⟩
  have B8 := Lib.hid (below_then B7.out h8)
  have Z8 := Lib.hid (blk_keep h8 Z7.out)
  have P8 := Lib.hid (Reads.below P7.out h8)
  clear h8
  go_wp2_with fail
  refine (HS.out _ _ _).mono ?_
  rintro e w9 ⟨rfl, h9⟩
  have B9 := Lib.hid (below_then B8.out h9)
  have P9 := Lib.hid (Reads.below P8.out h9)
  have Z9 := Lib.hid (blk_keep h9 Z8.out)
  have Hgb := Lib.hid Z6.out.lt
  have Hgk := Lib.hid Z9.out.lt
  clear h9 B1 B2 B3 B4 B5 B6 B6' B7 B8 P6 P7 P8 Z1 Z2 Z3 Z4 Z5 Z6 Z6' Z7 Z8 R0 B0
  have PA := Lib.hid (Reads.below P9.out (below_self w9 (.cells #[.int .i64 4, .int .i64 5, .int .i64 10, .int .i64 11, .int .i64 12, .int .i64 14] 111)))
  have BA := Lib.hid (below_alloc' B9.out (.cells #[.int .i64 4, .int .i64 5, .int .i64 10, .int .i64 11, .int .i64 12, .int .i64 14] 111))
  have CA : Hid (Cracks (w9.alloc (.cells #[.int .i64 4, .int .i64 5, .int .i64 10, .int .i64 11, .int .i64 12, .int .i64 14] 111)) (some ⟨w9.heap.size, 0, none⟩) 1 crX) := reads_of_blk (Blk.new w9 _ _ rfl) rfl rfl
  have ZA := Lib.hid (Z9.out.alloc (.cells #[.int .i64 4, .int .i64 5, .int .i64 10, .int .i64 11, .int .i64 12, .int .i64 14] 111))
  have TA := Lib.hid (Blk.new (w9.alloc (.cells #[.int .i64 4, .int .i64 5, .int .i64 10, .int .i64 11, .int .i64 12, .int .i64 14] 111)) 25 #[.slice (some ⟨w6.heap.size, 0, none⟩) 6 6, .slice none 0 0, .int .i64 10, .slice (some ⟨w9.heap.size, 0, none⟩) 1 1] (g := w9.heap.size + 1) (by simp))
  have YA : Hid (Below (w9.heap.size + 1) (w9.alloc (.cells #[.int .i64 4, .int .i64 5, .int .i64 10, .int .i64 11, .int .i64 12, .int .i64 14] 111)) ((w9.alloc (.cells #[.int .i64 4, .int .i64 5, .int .i64 10, .int .i64 11, .int .i64 12, .int .i64 14] 111)).alloc (.cells #[.slice (some ⟨w6.heap.size, 0, none⟩) 6 6, .slice none 0 0, .int .i64 10, .slice (some ⟨w9.heap.size, 0, none⟩) 1 1] 25))) := (Below.refl _ _).alloc (by simp) _
  have hw9 : w9.heap.size + 1 = (w9.alloc (.cells #[.int .i64 4, .int .i64 5, .int .i64 10, .int .i64 11, .int .i64 12, .int .i64 14] 111)).heap.size := by simp
  have Hw9 := Lib.hid hw9
  clear hw9 P9 Z9 B9
  go_wp2_with fail
  generalize w9.alloc (.cells #[.int .i64 4, .int .i64 5, .int .i64 10, .int .i64 11, .int .i64 12, .int .i64 14] 111) = WA at *
  generalize w6.heap.size = gb at *
  generalize hgk : w9.heap.size = gk at *
  clear hgk
  have Hgt : Hid (w.heap.size < gk + 1) := Nat.lt_succ_of_lt Hgk.out
  generalize hgt : gk + 1 = gt at *
  clear hgt
  have HR : Hid (∀ k, flat2 (List.replicate (k + 1) ((30 : Int), (30 : Int))) = flat2 (List.replicate k (30, 30)) ++ [.int .i64 30, .int .i64 30]) := fun k => by
    rw [List.replicate_succ', flat2_append]; rfl
  go_loopw [2] (fun i wr => ∃ (k : Nat) (v : Value), k ≤ 6 ∧ i = .int .i64 k ∧ Blk wr gt 25 #[.slice (some ⟨gb, 0, none⟩) 6 6, v, .int .i64 10, .slice (some ⟨gk, 0, none⟩) 1 1] ∧ wr.ownsRow gt 98 2 v k (flat2 (List.replicate k (30, 30))) ∧ Below gt WA wr) (fun i _ => 6 - (intOf i).toNat)
  case atStart => exact ⟨0, .slice none 0 0, by omega, rfl, TA.out, World.ownsRow_nil _ _ _ _, YA.out⟩
  case round =>
    obtain ⟨k, v, hk, rfl, hT, hown, hbel⟩ := hrel
    have HT : Hid (Blk wr.drew gt 25 #[.slice (some ⟨gb, 0, none⟩) 6 6, v, .int .i64 10, .slice (some ⟨gk, 0, none⟩) 1 1]) := hT
    have HO : Hid (wr.drew.ownsRow gt 98 2 v k (flat2 (List.replicate k (30, 30)))) := hown
    have HB := Lib.hid hbel.drew
    have tc := hT.cell
    clear hT hown hbel TA YA
    by_cases hlt : k < 6
    · have hr := Lib.hid (HR.out k)
      go_wp2_with fail
      go_region_law (first
        | (go_simp; go_at_call 57; refine (HS.out _ _ _).mono ?_; rintro e w10 ⟨rfl, h10⟩; have T6 := Lib.hid (blk_keep h10 HT.out); have O6 := Lib.hid (ownsRow_below HO.out h10); have t6 := T6.out.cell; have D6 := Lib.hid (HB.out.trans (h10.mono (Nat.le_of_lt HT.out.lt))); have T6a := Lib.hid (T6.out.alloc (.cells #[.int .i64 30, .int .i64 30] 98)); have O6a := Lib.hid (O6.out.alloc (.cells #[.int .i64 30, .int .i64 30] 98)); have D6a := Lib.hid (D6.out.alloc (Nat.le_of_lt T6.out.lt) (.cells #[.int .i64 30, .int .i64 30] 98)); have N6a := Lib.hid (cell_two_at w10 (.int .i64 30) (.int .i64 30) 98); have L6a := Lib.hid (Nat.le_of_lt T6a.out.lt); have z6 := T6.out.lt; clear h10)
        | (refine step_append_mine rfl (.tmp 21) (.tmp 23) 22 rfl gt 98 i0 (.agg #[.int .i64 0, .int .i64 0]) 2 16 Try.underlying22 hi hz0 hz1 hz2 rfl (by decide) _ k _ (by simp [Act.eval]) O6a.out ⟨w10.heap.size, 0, none⟩ 1 1 [.int .i64 30, .int .i64 30] (by simp [Act.eval]) rfl N6a.out (by intro u hu; simp only [List.mem_cons, List.not_mem_nil, or_false] at hu; rcases hu with rfl | rfl <;> rfl) (by unfold maxLen; omega) (by omega) L6a.out ?_; intro v' w11 hown11 hgrow; have T11 := Lib.hid (T6a.out.grown hgrow (own_blk_ne O6a.out T6a.out (by decide))); have t11 := T11.out.cell; have f11 := T11.out.frozen 1; have O11 := Lib.hid hown11; have D11 := Lib.hid (D6a.out.grown hgrow L6a.out (fun q hq => (O6a.out.lt q hq).1)); obtain ⟨vg, vcap, rfl⟩ := own_form hown11 (Nat.succ_pos k); clear hown11 hgrow))
      all_goals
        have T12 := Lib.hid (T11.out.set_ 1 (.slice (some ⟨vg, 0, none⟩) (k + 1) vcap))
        have O12 := Lib.hid (own_setCell O11.out T11.out (by decide) 1 (.slice (some ⟨vg, 0, none⟩) (k + 1) vcap))
        have D12 := Lib.hid (D11.out.setCell (p := ⟨gt, 1, none⟩) (Nat.le_refl _) (.slice (some ⟨vg, 0, none⟩) (k + 1) vcap))
        clear t11 f11
        go_wp2
        go_roundw
        case rel => exact ⟨k + 1, _, by omega, by go_num, T12.out, by rw [hr.out]; exact O12.out, D12.out⟩
        case measure => simp [intOf]; omega
    · obtain rfl : k = 6 := by omega
      obtain ⟨vg, vcap, rfl⟩ := own_form HO.out (by omega)
      obtain ⟨cs, hV, hv1, hv2, hv3, hv4, hv5⟩ := own_blk HO.out
      have hcs : 12 ≤ cs.size := by omega
      have HV := Lib.hid hV
      have Hv3 := Lib.hid hv3
      have Hcs := Lib.hid hcs
      have Hne : Hid (vg ≠ gt) := by
        have := own_blk_ne HO.out HT.out (by decide)
        intro e; subst e; simp [Value.ownBlock] at this
      have Hv5 := Lib.hid hv5
      have HC4 : Hid (cs[4]? = some (.int .i64 30) ∧ cs[5]? = some (.int .i64 30)) := ⟨(cs_at hv3 4 (by decide)).trans rfl, (cs_at hv3 5 (by decide)).trans rfl⟩
      clear hV hv1 hv2 hv3 hv4 hv5 hcs
      go_wp2_with fail
      go_region_law (first
        | (go_simp; go_at_call 57; refine (HS.out _ _ _).mono ?_; rintro e w10 ⟨rfl, h10⟩; have T6 := Lib.hid (blk_keep h10 HT.out); have V6 := Lib.hid (blk_keep h10 HV.out); have t6 := T6.out.cell; have D6 := Lib.hid (HB.out.trans (h10.mono (Nat.le_of_lt HT.out.lt))); have v4 := (V6.out.cell 4).trans HC4.out.1; have v5 := (V6.out.cell 5).trans HC4.out.2; have f4 := V6.out.frozen 4; have f5 := V6.out.frozen 5; clear h10))
      all_goals
        have HP := Lib.hid (top_mem V6.out Hcs.out Hv3.out)
        have T7 := Lib.hid ((T6.out.far (p := ⟨vg, 4, none⟩) (fun e => Hne.out e.symm) (.int .i64 20)).far (p := ⟨vg, 5, none⟩) (fun e => Hne.out e.symm) (.int .i64 22))
        have D7 := Lib.hid ((D6.out.setCell (p := ⟨vg, 4, none⟩) Hv5.out (.int .i64 20)).setCell (p := ⟨vg, 5, none⟩) Hv5.out (.int .i64 22))
        clear v4 v5 f4 f5 t6 T6 V6 D6
        generalize (w10.setCell ⟨vg, 4, none⟩ (.int .i64 20)).setCell ⟨vg, 5, none⟩ (.int .i64 22) = W7 at *
        have D8 : Hid (Below WA.heap.size WA W7) := by unfold Hid; rw [← Hw9.out]; exact D7.out
        have ZW := Lib.hid (ZA.out.below D7.out Hgt.out)
        have PW := Lib.hid (Reads.below PA.out D8.out)
        have CW := Lib.hid (Reads.below CA.out D8.out)
        have BW := Lib.hid (below_then BA.out D8.out)
        have t7 := T7.out.cell
        go_wp2_with (refine wpList_store_row rfl 25 _ _ rfl w.heap.size _ rfl rfl 25 _ ZW.out (by kernel_rfl) rfl (by kernel_rfl) ?_)
        exact bodyPost_ret (results_c rfl _ _ _ _ _ _ _ rfl (ZW.out.setRow _) Try.underlying25 (by kernel_rfl)) rfl ⟨⟨some ⟨gb, 0, none⟩, some ⟨vg, 0, none⟩, some ⟨gk, 0, none⟩, 6, 6, 6, vcap, 1, 1, 10, botX, topX, crX⟩, rfl, ⟨Reads.setRow_far PW.out (Nat.ne_of_lt Hgb.out) _, Reads.setRow_far HP.out (Nat.ne_of_lt (Nat.lt_of_lt_of_le Hgt.out Hv5.out)) _, Reads.setRow_far CW.out (Nat.ne_of_lt Hgk.out) _, (by unfold maxLen; omega : (6 : Nat) ≤ maxLen), (by unfold maxLen; omega : (6 : Nat) ≤ maxLen), (by unfold maxLen; omega : (1 : Nat) ≤ maxLen)⟩, rfl, rfl, rfl, rfl, rfl, rfl, rfl, below_setR BW.out (Nat.le_refl _) _⟩
end Go.Proofs.Ytiflhimmieflpaa
