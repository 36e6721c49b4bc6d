/- Walks: the law ToothPossibles. -/
import Derived.Test.YtiflhimmieflpaaW103
import Derived.Test.YtiflhimmieflpaaW51
namespace Go.Proofs.Ytiflhimmieflpaa
open Go.RowKit Go.Maps

theorem Bl.Like.bestX {B B' : Bl} (h : B.Like B') (s : Sw) (xs : List Int) : B'.bestX s xs = B.bestX s xs := by
  unfold Bl.bestX
  rw [h.bend, h.bot, h.top, h.cr]
theorem Bl.Like.possTo {B B' : Bl} (h : B.Like B') (s : Sw) (ls : List (List Int)) : possTo B' s ls = possTo B s ls := by
  unfold Go.Proofs.Ytiflhimmieflpaa.possTo
  congr 1
  funext a xs
  unfold possStep
  rw [h.bestX, h.n]
theorem Bl.Like.possB {B B' : Bl} (h : B.Like B') (s : Sw) (x : Nat) (y : Int) : possB B' s x y = possB B s x y := by
  unfold Go.Proofs.Ytiflhimmieflpaa.possB
  rw [h.cr]
  congr 1
  funext xs
  rw [h.bestX]
theorem possTo_len4 {B : Bl} {s : Sw} : ∀ (l : List (List Int)) (a : Int × List Int), a.2.length ≤ 4 → (∀ q ∈ l, q.length ≤ 4) → (l.foldl (possStep B s) a).2.length ≤ 4
  | [], a, h, _ => h
  | x :: l, a, h, hl => by
    refine possTo_len4 l _ ?_ fun q hq => hl q (by simp [hq])
    unfold possStep
    split
    · exact hl x (by simp)
    · exact h

set_option maxRecDepth 100000 in
set_option maxHeartbeats 4000000 in
theorem ToothPossibles_any (B : Bl) (s : Sw) (w : World) (h : B.At w) : Calls Try.prog 9 #[B.val, s.val] w (Yes w) := by
  have L0 := Lib.hid (LV.new w B s)
  have H := Lib.hid h
  have HLG := Lib.hid (fun W => large_any B W)
  have HKN := Lib.hid (fun W => known_any W)
  clear h
  unfold Bl.val Sw.val at *
  go_enter Try.func9, Try.ntmps9
  have l0 := L0.out.get
  go_wp2_with fail
  refine (HLG.out _).mono ?_
  rintro e w1 ⟨rfl, b1⟩
  have L1 := Lib.hid (L0.out.below b1)
  have l1 := L1.out.get
  clear b1 HLG L0 l0
  cases hlg : largeB B.n B.n' B.m
  case true =>
    clear hlg
    go_wp2_with fail
    refine (HKN.out _).mono ?_
    rintro e w2 ⟨rfl, b2⟩
    have D2 := Lib.hid (below_then L1.out.bel b2)
    clear b2
    go_wp2
    go_ret
    exact ⟨rfl, D2.out⟩
  obtain ⟨k1, k2, k3⟩ := large_no hlg
  clear hlg
  have HCP := Lib.hid (RefCopy_any B _ (H.out.below L1.out.bel) (by omega) (by omega) (by omega))
  have HPL := Lib.hid (fun W (hb : Below w.heap.size w W) => open_any B s W (H.out.below hb) (by omega) (by omega) (by omega))
  unfold Bl.val Sw.val at *
  go_wp2_with fail
  refine HCP.out.mono ?_
  rintro e w2 ⟨B', rfl, hlike, hat, b2⟩
  have L2 := Lib.hid (L1.out.below b2)
  have HL := Lib.hid hlike
  have HA := Lib.hid hat
  clear b2 HCP hlike hat l1 L1
  have E2 := Lib.hid (below_self w2 (.cells #[.slice B'.A B'.n B'.c, .slice B'.A' B'.n' B'.c', .int .i64 B'.bend, .slice B'.K B'.m B'.d] 25))
  have X2 := Lib.hid (Blk.new w2 25 #[.slice B'.A B'.n B'.c, .slice B'.A' B'.n' B'.c', .int .i64 B'.bend, .slice B'.K B'.m B'.d] rfl)
  have L2a := Lib.hid (L2.out.alloc (.cells #[.slice B'.A B'.n B'.c, .slice B'.A' B'.n' B'.c', .int .i64 B'.bend, .slice B'.K B'.m B'.d] 25))
  have HCK := Lib.hid (Possible_any B' s _ (HA.out.below E2.out))
  have HSM := Lib.hid (fun W (hb : Below w2.heap.size w2 W) (hb2 : Below w.heap.size w W) => RefSame_any B B' W (H.out.below hb2) (HA.out.below hb) HL.out)
  unfold Bl.val Sw.val at *
  have l2 := L2a.out.get
  have x2 := X2.out.cell
  go_wp2_with fail
  refine HCK.out.mono ?_
  rintro e w3 ⟨b3, hcs⟩
  rw [HL.out.err, HL.out.cr, HL.out.possTo] at hcs
  have E3 := Lib.hid (below_then E2.out b3)
  have L3 := Lib.hid (L2a.out.below b3)
  have X3 := Lib.hid (blk_keep b3 X2.out)
  have HSM3 := Lib.hid (HSM.out _ E3.out L3.out.bel)
  clear b3 E2 X2 L2a HCK l2 x2 HSM L2
  have l3 := L3.out.get
  have x3 := X3.out.cell
  rcases hcs with ⟨hE, rfl⟩ | ⟨herr, v, rfl, hown⟩
  · have hE2 : (B.err s != 0) = true := by simpa using hE
    have hE3 : (B.err s == B.err s) = true := by simp
    generalize B.err s = E at *
    clear hE
    go_wp2_with fail
    refine HSM3.out.mono ?_
    rintro e w4 ⟨rfl, b4⟩
    have L4 := Lib.hid (L3.out.below b4)
    have HPL4 := Lib.hid (HPL.out _ L4.out.bel)
    have l4 := L4.out.get
    clear b4 l3 L3 x3 X3 E3 HSM3 HPL
    go_wp2_with fail
    refine HPL4.out.mono ?_
    rintro e w5 ⟨rfl, b5⟩
    have L5 := Lib.hid (L4.out.below b5)
    clear b5 l4 L4 HPL4
    go_wp2_with fail
    refine (HKN.out _).mono ?_
    rintro e w6 ⟨rfl, b6⟩
    have D6 := Lib.hid (below_then L5.out.bel b6)
    clear b6 L5
    go_wp2
    go_ret
    exact ⟨rfl, D6.out⟩
  · obtain ⟨hce, hok, hso⟩ := err_ok herr
    have hce' : B.cerr = 0 := hce
    have HRP := Lib.hid (fun W (hb : Below w.heap.size w W) => RefPossible_any B s W (H.out.below hb) hce' hso)
    have HNC : Hid ((possTo B s (colsFrom B.cr [])).2.length ≤ 4) := possTo_len4 _ _ (by simp) (fun q hq => by rw [colsFrom_each _ _ _ hq, H.out.hk.len]; simp; exact hok.m4)
    obtain ⟨A, c, rfl⟩ := own_slice hown
    have HI : Hid (Ints w3 A (possTo B s (colsFrom B.cr [])).2.length (possTo B s (colsFrom B.cr [])).2) := (reads_of_own hown).r
    rw [herr] at HPL
    clear herr hce hok hso hce' hown
    unfold Bl.val Sw.val at *
    generalize possTo B s (colsFrom B.cr []) = P at *
    obtain ⟨pn, px⟩ := P
    dsimp only at *
    go_wp2_with fail
    refine HSM3.out.mono ?_
    rintro e w4 ⟨rfl, b4⟩
    have L4 := Lib.hid (L3.out.below b4)
    have HI4 := Lib.hid (Reads.below HI.out b4)
    have HPL4 := Lib.hid (HPL.out _ L4.out.bel)
    have l4 := L4.out.get
    clear b4 l3 L3 x3 X3 E3 HSM3 HPL HI
    go_wp2_with fail
    refine HPL4.out.mono ?_
    rintro e w5 ⟨rfl, b5⟩
    have L5 := Lib.hid (L4.out.below b5)
    have HI5 := Lib.hid (Reads.below HI4.out b5)
    have HRP5 := Lib.hid (HRP.out _ L5.out.bel)
    have l5 := L5.out.get
    clear b5 l4 L4 HPL4 HI4 HRP
    go_wp2_with fail
    refine HRP5.out.mono ?_
    rintro e w6 ⟨u, rfl, hrow, b6⟩
    obtain ⟨A2, c2, rfl, hin2, -⟩ := hrow
    have L6 := Lib.hid (L5.out.below b6)
    have HIN := Lib.hid (RefInts_eq A A2 px.length c c2 px w6 (Reads.below HI5.out b6) hin2 (by have := HNC.out; unfold maxLen; omega))
    have hb1 : (pn == pn) = true := by simp
    clear b6 HI5 hin2 L5 l5 HRP5
    go_wp2_with fail
    refine HIN.out.mono ?_
    rintro e w7 ⟨rfl, b7⟩
    have L7 := Lib.hid (L6.out.below b7)
    clear b7 L6 HIN
    go_wp2_with fail
    refine (HKN.out _).mono ?_
    rintro e w8 ⟨rfl, b8⟩
    have D8 := Lib.hid (below_then L7.out.bel b8)
    clear b8
    go_wp2
    go_ret
    exact ⟨rfl, D8.out⟩
end Go.Proofs.Ytiflhimmieflpaa
