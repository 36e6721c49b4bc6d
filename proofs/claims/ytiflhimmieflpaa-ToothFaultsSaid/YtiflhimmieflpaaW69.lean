/- Walks: the law ToothFaults. -/
import Derived.Test.YtiflhimmieflpaaW65
import Derived.Test.YtiflhimmieflpaaW67
import Derived.Test.YtiflhimmieflpaaW68
namespace Go.Proofs.Ytiflhimmieflpaa
open Go.RowKit Go.Maps

set_option maxRecDepth 100000 in
set_option maxHeartbeats 4000000 in
theorem tf_none (B : Bl) (s : Sw) (A : Option Addr) (n cp : Nat) (ps : List (Int × Int)) (w : World) (h : B.At w) (hp : Pairs w A n ps) (hlg : largeB B.n B.n' B.m = false) (h40 : n ≤ 400) (herr : B.err s = 0) (hin : holdsB B.n s.long ps = true) (h60 : n ≤ 60) (hf : ∀ j, j < n → wrongS (B.worst s) ps j = false) : Calls Try.prog 7 #[B.val, s.val, .slice A n cp] w (Yes w) := by
  obtain ⟨i0, hi, hz0, hz1, hz2⟩ := info_parts Try.infoPlace
  have L0 := Lib.hid (LV.new w B s)
  have H := Lib.hid h
  have HLG := Lib.hid (fun W => large_any B W)
  have HKN := Lib.hid (fun W => known_any W)
  have HPS := Lib.hid (fun W (hb : Below w.heap.size w W) => hp.below hb)
  have hlen := hp.len
  have HPC := Lib.hid (fun x y W (hb : Below w.heap.size w W) => place_any B s x y W (H.out.below hb) (by have := (large_no hlg).1; omega) (by have := (large_no hlg).2.1; omega) (by have := (large_no hlg).2.2; omega))
  have HPE : Hid (∀ x y, placeErr B s x y = if holdsB B.n s.long [(x, y)] = false then 2 else 0) := fun x y => by unfold placeErr; rw [if_neg (by simp [herr])]
  have HPR : Hid (∀ k, k < n → placeErr B s (ps.getD k (0, 0)).1 (ps.getD k (0, 0)).2 = 0) := fun k hk => by rw [HPE.out, holds_one (by omega) hin]; rfl
  obtain ⟨hce, hok, hso⟩ := err_ok herr
  have hce' : B.cerr = 0 := hce
  have HSU := Lib.hid (fun W (hb : Below w.heap.size w W) => Sure_any B W (H.out.below hb) hce')
  have HWS : Hid (∀ TA TB K c c' d (j : Nat), j < n → wrongV (sureV B TA TB K c c' d) s ps j = wrongS (B.worst s) ps j) := fun TA TB K c c' d j hj => wrong_sure hso hce' (by omega) (holds_all hin)
  have HRF : Hid (∀ TA TB K c c' d W, (sureV B TA TB K c c' d).At W → Below w.heap.size w W → Calls Try.prog 39 #[(sureV B TA TB K c c' d).val, s.val, .slice A n cp] W fun e w' => e = .returned (.int .i64 (-1)) ∧ Below W.heap.size W w') := fun TA TB K c c' d W hV hb => by
    refine (RefFault_any (sureV B TA TB K c c' d) s A n cp ps W hV hso (HPS.out W hb) (by unfold maxLen; omega) (holds_all hin)).mono ?_
    rintro e w' ⟨hb2, hr⟩
    refine ⟨?_, hb2⟩
    rcases hr with ⟨k, r1, r2, r3, e⟩ | ⟨_, e⟩
    · rw [HWS.out _ _ _ _ _ _ _ r1, hf k r1] at r2; exact absurd r2 (by decide)
    · exact e
  have HFE : Hid (∀ B', B.Like B' → ∀ (W W' : World) (e : Ending), FaultRes W B' s n ps e W' → Below W.heap.size W W' ∧ e = .returned (.tuple #[.int .i64 0, .int .i64 7])) := fun B' hl W W' e hx => by
    obtain ⟨hb, hx⟩ := hx
    rw [hl.err, hl.worst, hl.n] at hx
    refine ⟨hb, ?_⟩
    rcases hx with ⟨e, _⟩ | ⟨_, e, _⟩ | ⟨_, _, e, _⟩ | ⟨_, _, _, ⟨k, r1, r2, r3, e⟩ | ⟨_, e⟩⟩
    · exact absurd herr e
    · omega
    · rw [hin] at e; exact absurd e (by decide)
    · rw [hf k r1] at r2; exact absurd r2 (by decide)
    · exact e
  have h62 : ¬ (60 : Int) < (n : Int) := by omega
  clear HWS hf hce hok hso hce'
  have h43 : ¬ (420 : Int) < (n : Int) := by omega
  have h44 : ¬ (400 : Int) < (n : Int) := by omega
  clear h hp HPE hin
  unfold Bl.val Sw.val at *
  go_enter Try.func7, Try.ntmps7
  have l0 := L0.out.get
  go_wp2_with fail
  refine (HLG.out _).mono ?_
  rintro e w1 ⟨rfl, b1⟩
  have L1 := Lib.hid (L0.out.below b1)
  have l1 := L1.out.get
  clear b1 HLG L0 l0
  rw [hlg]
  obtain ⟨k1, k2, k3⟩ := large_no hlg
  have HOP := Lib.hid (fun W (hb : Below w.heap.size w W) => open_any B s W (H.out.below hb) (by omega) (by omega) (by omega))
  have HPL1 := Lib.hid (HOP.out _ L1.out.bel)
  clear hlg HOP
  unfold Bl.val Sw.val at *
  go_wp2_with fail
  refine HPL1.out.mono ?_
  rintro e w2 ⟨rfl, b2⟩
  have L2 := Lib.hid (L1.out.below b2)
  clear b2 HPL1 l1 L1
  rw [herr] at *
  clear herr
  go_wp2_with fail
  go_loopw [7, 8] (fun ev iv wr => ∃ k : Nat, k ≤ n ∧ iv = .int .i64 k ∧ LV w B s wr ∧ ev = .int .i64 0) (fun _ iv _ => n - (intOf iv).toNat)
  case atStart => exact ⟨0, Nat.zero_le _, rfl, L2.out, rfl⟩
  case round =>
    obtain ⟨k, hk, rfl, hlv, rfl⟩ := hrel
    have LR := Lib.hid hlv
    clear hlv L2
    by_cases hkn : k < n
    · have HP1 := Lib.hid (HPR.out k hkn)
      clear HRF HFE HSU
      obtain ⟨b, off, hA, hb, q0, q1⟩ := Pairs.at_ (HPS.out wr.drew LR.out.drewd.bel) hkn
      subst hA
      have RD := Lib.hid LR.out.drewd
      generalize (ps.getD k (0, 0)).1 = px at *
      generalize (ps.getD k (0, 0)).2 = py at *
      have KD : Hid ((fun W : World => ((W.cell? ⟨w.heap.size, 0, none⟩ = some (.slice B.A B.n B.c) ∧ W.cell? ⟨w.heap.size, 1, none⟩ = some (.slice B.A' B.n' B.c') ∧ W.cell? ⟨w.heap.size, 2, none⟩ = some (.int .i64 B.bend) ∧ W.cell? ⟨w.heap.size, 3, none⟩ = some (.slice B.K B.m B.d)) ∧
            W.cell? ⟨w.heap.size + 1, 0, none⟩ = some (.int .i64 s.long) ∧ W.cell? ⟨w.heap.size + 1, 1, none⟩ = some (.int .i64 s.wide) ∧ W.cell? ⟨w.heap.size + 1, 2, none⟩ = some (.int .i64 s.kerf) ∧ W.cell? ⟨w.heap.size + 1, 3, none⟩ = some (.int .i64 s.across)) ∧ W.cell? ⟨b, off + k * 2, none⟩ = some (.int .i64 px) ∧ W.cell? ⟨b, off + k * 2 + 1, none⟩ = some (.int .i64 py)) wr.drew) := ⟨RD.out.get, q0, q1⟩
      have HCL := Lib.hid (HPC.out px py _ RD.out.bel)
      rw [HP1.out] at HCL
      clear q0 q1
      go_upto_region 9 with (fail)
      go_region_held3 (fun W => ((W.cell? ⟨w.heap.size, 0, none⟩ = some (.slice B.A B.n B.c) ∧ W.cell? ⟨w.heap.size, 1, none⟩ = some (.slice B.A' B.n' B.c') ∧ W.cell? ⟨w.heap.size, 2, none⟩ = some (.int .i64 B.bend) ∧ W.cell? ⟨w.heap.size, 3, none⟩ = some (.slice B.K B.m B.d)) ∧
            W.cell? ⟨w.heap.size + 1, 0, none⟩ = some (.int .i64 s.long) ∧ W.cell? ⟨w.heap.size + 1, 1, none⟩ = some (.int .i64 s.wide) ∧ W.cell? ⟨w.heap.size + 1, 2, none⟩ = some (.int .i64 s.kerf) ∧ W.cell? ⟨w.heap.size + 1, 3, none⟩ = some (.int .i64 s.across)) ∧ W.cell? ⟨b, off + k * 2, none⟩ = some (.int .i64 px) ∧ W.cell? ⟨b, off + k * 2 + 1, none⟩ = some (.int .i64 py))
        (first | with_reducible exact KD.out | with_reducible exact KE.out)
        (first | (go_at_call 27; refine HCL.out.mono ?_; rintro e WP ⟨rfl, bP⟩; have RE := Lib.hid (RD.out.below bP); have KE := Lib.hid (And.intro RE.out.get (And.intro (cell_keep bP KD.out.2.1) (cell_keep bP KD.out.2.2))); clear bP))
      go_wp2
      go_roundw
      case rel => exact ⟨k + 1, by omega, by go_num, RE.out, rfl⟩
      case measure => simp [intOf]; omega
    · obtain rfl : n = k := by omega
      clear HPC HPR
      have HCP := Lib.hid (RefCopy_any B _ (H.out.below LR.out.bel) (by omega) (by omega) (by omega))
      have lc := LR.out.get
      unfold Bl.val at *
      go_wp2_with fail
      refine HCP.out.mono ?_
      rintro e wc ⟨B', rfl, hlike, hat, bc⟩
      have LC := Lib.hid (LR.out.below bc)
      have HL := Lib.hid hlike
      have HA := Lib.hid hat
      clear bc HCP hlike hat lc LR
      have O0 := Lib.hid (own_empty wc 39 2 (g := wc.heap.size) rfl)
      have D0 := Lib.hid (below_self wc (.cells #[] 39))
      have HP2 := Lib.hid (HPS.out _ (below_then LC.out.bel D0.out))
      go_wp2_with (at_builtin; refine wpList_append_any rfl _ _ 54 rfl wc.heap.size 39 i0 (.agg #[.int .i64 0, .int .i64 0]) 2 16 Try.underlying54 hi hz0 hz1 hz2 rfl (by decide) _ _ _ rfl O0.out A n cp (flat2 ps) rfl HP2.out ?d2 ?d3 ?d4 ?d5 ?_)
      case d2 => intro u hu; simp only [flat2, List.mem_flatMap, List.mem_cons, List.not_mem_nil, or_false] at hu; obtain ⟨_, _, rfl | rfl⟩ := hu <;> rfl
      case d3 => unfold maxLen; omega
      case d4 => omega
      case d5 => exact D0.out.size
      intro v4 w4 hown4 hgrow
      have D4 := Lib.hid (D0.out.grown hgrow D0.out.size (fun q hq => (O0.out.lt q hq).1))
      have hown5 : w4.ownsRow wc.heap.size 39 2 v4 n (flat2 ps) := by simpa using hown4
      clear hown4 hgrow O0 D0 HP2
      obtain ⟨A4, c4, rfl, hc4⟩ := own_slice_le hown5
      have HPB : Hid (Pairs w4 A4 n ps) := (reads_of_own hown5).r
      have L4 := Lib.hid (LC.out.below D4.out)
      have HA4 := Lib.hid (HA.out.below D4.out)
      clear hown5 LC HA D4
      have E5 := Lib.hid (below_self w4 (.cells #[.slice B'.A B'.n B'.c, .slice B'.A' B'.n' B'.c', .int .i64 B'.bend, .slice B'.K B'.m B'.d] 25))
      have X5 := Lib.hid (Blk.new w4 25 #[.slice B'.A B'.n B'.c, .slice B'.A' B'.n' B'.c', .int .i64 B'.bend, .slice B'.K B'.m B'.d] rfl)
      have L5 := Lib.hid (L4.out.alloc (.cells #[.slice B'.A B'.n B'.c, .slice B'.A' B'.n' B'.c', .int .i64 B'.bend, .slice B'.K B'.m B'.d] 25))
      have HFT := Lib.hid (Fault_any B' s A4 n c4 ps _ (HA4.out.below E5.out) (Reads.below HPB.out E5.out) (by unfold maxLen; omega) hc4)
      have HSM := Lib.hid (fun W (hb : Below w4.heap.size w4 W) (hb2 : Below w.heap.size w W) => RefSame_any B B' W (H.out.below hb2) (HA4.out.below hb) HL.out)
      have HPP := Lib.hid (fun W (hb : Below w4.heap.size w4 W) (hb2 : Below w.heap.size w W) => RefPlaces_eq A4 A n c4 cp ps W (Reads.below HPB.out hb) (HPS.out W hb2) (by unfold maxLen; omega))
      clear hc4 L4 HPB HA4
      unfold Bl.val Sw.val at *
      have l5 := L5.out.get
      have x5 := X5.out.cell
      go_wp2_with fail
      refine HFT.out.mono ?_
      intro e w6 hft
      obtain ⟨b6, rfl⟩ := HFE.out B' HL.out _ _ _ hft
      have E6 := Lib.hid (below_then E5.out b6)
      have L6 := Lib.hid (L5.out.below b6)
      have X6 := Lib.hid (blk_keep b6 X5.out)
      have HSM6 := Lib.hid (HSM.out _ E6.out L6.out.bel)
      clear hft b6 HFT HFE HL l5 x5 L5 X5 E5 HSM
      have l6 := L6.out.get
      have x6 := X6.out.cell
      go_wp2_with fail
      refine HSM6.out.mono ?_
      rintro e w7 ⟨rfl, b7⟩
      have L7 := Lib.hid (L6.out.below b7)
      have E7 := Lib.hid (below_then E6.out b7)
      have HPP7 := Lib.hid (HPP.out _ E7.out L7.out.bel)
      have l7 := L7.out.get
      clear b7 HSM6 HPP l6 x6 L6 X6 E6
      go_wp2_with fail
      refine HPP7.out.mono ?_
      rintro e w8 ⟨rfl, b8⟩
      have L8 := Lib.hid (L7.out.below b8)
      clear b8 HPP7 l7 L7 E7
      have LD := Lib.hid L8.out.drewd
      clear L8
      go_upto_region 17 with (fail)
      have l8 := LD.out.get
      go_region_held3 (fun W => ((W.cell? ⟨w.heap.size, 0, none⟩ = some (.slice B.A B.n B.c) ∧ W.cell? ⟨w.heap.size, 1, none⟩ = some (.slice B.A' B.n' B.c') ∧ W.cell? ⟨w.heap.size, 2, none⟩ = some (.int .i64 B.bend) ∧ W.cell? ⟨w.heap.size, 3, none⟩ = some (.slice B.K B.m B.d)) ∧
            W.cell? ⟨w.heap.size + 1, 0, none⟩ = some (.int .i64 s.long) ∧ W.cell? ⟨w.heap.size + 1, 1, none⟩ = some (.int .i64 s.wide) ∧ W.cell? ⟨w.heap.size + 1, 2, none⟩ = some (.int .i64 s.kerf) ∧ W.cell? ⟨w.heap.size + 1, 3, none⟩ = some (.int .i64 s.across)))
        (first | with_reducible exact LD.out.get | with_reducible exact LB.out.get | with_reducible exact LA.out.get)
        (first
          | (go_at_call 29; refine (HSU.out _ ?_).mono ?_; (with_reducible exact LD.out.bel); rintro e W6 ⟨TA, TB, K, q1, q2, q3, rfl, hV, b6⟩; have LA := Lib.hid (LD.out.below b6); have HV6 := Lib.hid hV; clear hV b6)
          | (go_at_call 39; refine (HRF.out _ _ _ _ _ _ _ HV6.out LA.out.bel).mono ?_; rintro e W7 ⟨rfl, b7⟩; have LB := Lib.hid (LA.out.below b7); clear b7))
      go_wp2_with fail
      refine (HKN.out _).mono ?_
      rintro e w9 ⟨rfl, b9⟩
      have D9 := Lib.hid (below_then LB.out.bel b9)
      clear b9 LB
      go_wp2
      go_ret
      exact ⟨rfl, D9.out⟩

theorem ToothFaults_any (B : Bl) (s : Sw) (A : Option Addr) (n cp : Nat) (ps : List (Int × Int)) (w : World) (h : B.At w) (hp : Pairs w A n ps) (hn : n ≤ maxLen) : Calls Try.prog 7 #[B.val, s.val, .slice A n cp] w (Yes w) := by
  by_cases hlg : largeB B.n B.n' B.m = true ∨ 420 < n
  · exact tf_large B s A n cp w hn hlg
  · have hl1 : largeB B.n B.n' B.m = false := by cases e : largeB B.n B.n' B.m with
      | true => exact absurd (.inl e) hlg
      | false => rfl
    have hl2 : n ≤ 420 := by
      rcases Nat.lt_or_ge 420 n with e | e
      · exact absurd (.inr e) hlg
      · exact e
    by_cases herr : B.err s = 0
    · by_cases h40 : 400 < n
      · exact tf_long B s A n cp ps w h hp hl1 hl2 herr h40
      · cases hh : holdsB B.n s.long ps with
        | false => exact tf_out B s A n cp ps w h hp hl1 (by omega) herr hh
        | true =>
          by_cases h60 : 60 < n
          · exact tf_many B s A n cp ps w h hp hl1 (by omega) herr hh h60
          · rcases first_or (n := n) (fun j => wrongS (B.worst s) ps j) with ⟨q, h1, h2, h3⟩ | h1
            · exact tf_found B s A n cp ps w h hp hl1 (by omega) herr hh (by omega) h1 h2 h3
            · exact tf_none B s A n cp ps w h hp hl1 (by omega) herr hh (by omega) h1
    · exact tf_err B s A n cp ps w h hp hl1 hl2 herr
end Go.Proofs.Ytiflhimmieflpaa
