/- Walks: the law ToothBlocks. -/
import Derived.Test.YtiflhimmieflpaaW47
namespace Go.Proofs.Ytiflhimmieflpaa
open Go.RowKit Go.Maps

/-- The boxes of a law of a blade and a saw. -/
structure LV (w : World) (B : Bl) (s : Sw) (W : World) : Prop where
  b : Blk W w.heap.size 25 #[.slice B.A B.n B.c, .slice B.A' B.n' B.c', .int .i64 B.bend, .slice B.K B.m B.d]
  s : Blk W (w.heap.size + 1) 37 #[.int .i64 s.long, .int .i64 s.wide, .int .i64 s.kerf, .int .i64 s.across]
  bel : Below w.heap.size w W
theorem LV.new (w : World) (B : Bl) (s : Sw) : LV w B s ((w.alloc (.cells #[.slice B.A B.n B.c, .slice B.A' B.n' B.c', .int .i64 B.bend, .slice B.K B.m B.d] 25)).alloc (.cells #[.int .i64 s.long, .int .i64 s.wide, .int .i64 s.kerf, .int .i64 s.across] 37)) :=
  ⟨(Blk.new w _ _ rfl).alloc _, Blk.new _ _ _ (by simp), below_alloc' (below_self _ _) _⟩
theorem LV.below {w W W' : World} {B : Bl} {s : Sw} (h : LV w B s W) (hb : Below W.heap.size W W') : LV w B s W' := ⟨blk_keep hb h.b, blk_keep hb h.s, below_then h.bel hb⟩
theorem LV.alloc {w W : World} {B : Bl} {s : Sw} (h : LV w B s W) (o : Obj) : LV w B s (W.alloc o) := h.below (below_self W o)
theorem LV.drewd {w W : World} {B : Bl} {s : Sw} (h : LV w B s W) : LV w B s W.drew := ⟨h.b, h.s, h.bel.drew⟩
theorem LV.get {w W : World} {B : Bl} {s : Sw} (h : LV w B s W) : (W.cell? ⟨w.heap.size, 0, none⟩ = some (.slice B.A B.n B.c) ∧ W.cell? ⟨w.heap.size, 1, none⟩ = some (.slice B.A' B.n' B.c') ∧ W.cell? ⟨w.heap.size, 2, none⟩ = some (.int .i64 B.bend) ∧ W.cell? ⟨w.heap.size, 3, none⟩ = some (.slice B.K B.m B.d)) ∧
    W.cell? ⟨w.heap.size + 1, 0, none⟩ = some (.int .i64 s.long) ∧ W.cell? ⟨w.heap.size + 1, 1, none⟩ = some (.int .i64 s.wide) ∧ W.cell? ⟨w.heap.size + 1, 2, none⟩ = some (.int .i64 s.kerf) ∧ W.cell? ⟨w.heap.size + 1, 3, none⟩ = some (.int .i64 s.across) :=
  ⟨⟨h.b.cell 0, h.b.cell 1, h.b.cell 2, h.b.cell 3⟩, h.s.cell 0, h.s.cell 1, h.s.cell 2, h.s.cell 3⟩
theorem Bl.Like.err {B B' : Bl} (h : B.Like B') (s : Sw) : B'.err s = B.err s := by unfold Bl.err; rw [h.n, h.n', h.m, h.bend, h.bot, h.top, h.cr]
theorem Bl.Like.worst {B B' : Bl} (h : B.Like B') (s : Sw) : B'.worst s = B.worst s := by unfold Bl.worst; rw [h.bend, h.bot, h.top, h.cr]
theorem block_cases {B B' : Bl} {s : Sw} {x : Int} {w w' : World} {e : Ending} (hl : B.Like B') (h : BlockTop w B' s x e w') : Below w.heap.size w w' ∧ ((∃ E, E ≠ 0 ∧ placeErr B s x 0 = E ∧ e = .returned (.tuple #[.slice none 0 0, .int .i64 E])) ∨
    (placeErr B s x 0 = 0 ∧ B.err s = 0 ∧ ∃ X : Nat, x = X ∧ (X : Int) + s.long ≤ B.n ∧ ∃ A c, e = .returned (.tuple #[.slice A (blockL (B.worst s) X).length c, .int .i64 0]) ∧ Ints w' A (blockL (B.worst s) X).length (blockL (B.worst s) X))) := by
  obtain ⟨hb, h⟩ := h
  refine ⟨hb, ?_⟩
  rw [hl.err, hl.worst, hl.n] at h
  rcases h with ⟨h1, rfl⟩ | ⟨h1, h2, rfl⟩ | ⟨h1, h2, v, rfl, hown⟩
  · exact .inl ⟨_, h1, by unfold placeErr; rw [if_pos h1], rfl⟩
  · exact .inl ⟨2, by decide, by unfold placeErr; rw [if_neg (by simp [h1]), if_pos h2], rfl⟩
  · obtain ⟨x0, x1⟩ := holds_in h2
    obtain ⟨X, rfl⟩ := Int.eq_ofNat_of_zero_le x0
    refine .inr ⟨by unfold placeErr; rw [if_neg (by simp [h1]), if_neg (by simp [h2])], h1, X, rfl, x1, ?_⟩
    rw [Int.toNat_natCast] at hown
    obtain ⟨A, c, rfl⟩ := own_slice hown
    exact ⟨A, c, rfl, (reads_of_own hown).r⟩

set_option maxRecDepth 100000 in
set_option maxHeartbeats 4000000 in
theorem ToothBlocks_any (B : Bl) (s : Sw) (x : Int) (w : World) (h : B.At w) : Calls Try.prog 5 #[B.val, s.val, .int .i64 x] w (Yes w) := by
  have L0 := Lib.hid (LV.new w B s)
  have H := Lib.hid h
  have HLG := Lib.hid (fun W => large_any B W)
  have HKN := Lib.hid (fun W => known_any W)
  clear h
  unfold Bl.val Sw.val at *
  go_enter Try.func5, Try.ntmps5
  have l0 := L0.out.get
  go_wp2_with fail
  refine (HLG.out _).mono ?_
  rintro e w1 ⟨rfl, b1⟩
  have L1 := Lib.hid (L0.out.below b1)
  have l1 := L1.out.get
  clear b1 HLG L0 l0
  cases hlg : largeB B.n B.n' B.m
  case true =>
    clear hlg
    go_wp2_with fail
    refine (HKN.out _).mono ?_
    rintro e w2 ⟨rfl, b2⟩
    have D2 := Lib.hid (below_then L1.out.bel b2)
    clear b2
    go_wp2
    go_ret
    exact ⟨rfl, D2.out⟩
  obtain ⟨k1, k2, k3⟩ := large_no hlg
  clear hlg
  have HCP := Lib.hid (RefCopy_any B _ (H.out.below L1.out.bel) (by omega) (by omega) (by omega))
  have HPL := Lib.hid (fun W (hb : Below w.heap.size w W) => place_any B s x 0 W (H.out.below hb) (by omega) (by omega) (by omega))
  unfold Bl.val Sw.val at *
  go_wp2_with fail
  refine HCP.out.mono ?_
  rintro e w2 ⟨B', rfl, hlike, hat, b2⟩
  have L2 := Lib.hid (L1.out.below b2)
  have HL := Lib.hid hlike
  have HA := Lib.hid hat
  clear b2 HCP hlike hat l1 L1
  have E2 := Lib.hid (below_self w2 (.cells #[.slice B'.A B'.n B'.c, .slice B'.A' B'.n' B'.c', .int .i64 B'.bend, .slice B'.K B'.m B'.d] 25))
  have X2 := Lib.hid (Blk.new w2 25 #[.slice B'.A B'.n B'.c, .slice B'.A' B'.n' B'.c', .int .i64 B'.bend, .slice B'.K B'.m B'.d] rfl)
  have L2a := Lib.hid (L2.out.alloc (.cells #[.slice B'.A B'.n B'.c, .slice B'.A' B'.n' B'.c', .int .i64 B'.bend, .slice B'.K B'.m B'.d] 25))
  have HCK := Lib.hid (Block_any B' s x _ (HA.out.below E2.out))
  have HSM := Lib.hid (fun W (hb : Below w2.heap.size w2 W) (hb2 : Below w.heap.size w W) => RefSame_any B B' W (H.out.below hb2) (HA.out.below hb) HL.out)
  unfold Bl.val Sw.val at *
  have l2 := L2a.out.get
  have x2 := X2.out.cell
  go_wp2_with fail
  refine HCK.out.mono ?_
  intro e w3 hbt
  obtain ⟨b3, hcs⟩ := block_cases HL.out hbt
  have E3 := Lib.hid (below_then E2.out b3)
  have L3 := Lib.hid (L2a.out.below b3)
  have X3 := Lib.hid (blk_keep b3 X2.out)
  have HSM3 := Lib.hid (HSM.out _ E3.out L3.out.bel)
  clear b3 E2 X2 L2a HCK hbt l2 x2 HSM L2
  have l3 := L3.out.get
  have x3 := X3.out.cell
  rcases hcs with ⟨E, hE, hpe, rfl⟩ | ⟨hpe, herr, X, hX, hxl, A, c, rfl, hI⟩
  · have hE2 : (E != 0) = true := by simpa using hE
    have hE3 : (E == E) = true := by simp
    rw [hpe] at HPL
    clear hE hpe
    go_wp2_with fail
    refine HSM3.out.mono ?_
    rintro e w4 ⟨rfl, b4⟩
    have L4 := Lib.hid (L3.out.below b4)
    have HPL4 := Lib.hid (HPL.out _ L4.out.bel)
    have l4 := L4.out.get
    clear b4 l3 L3 x3 X3 E3 HSM3 HPL
    go_wp2_with fail
    refine HPL4.out.mono ?_
    rintro e w5 ⟨rfl, b5⟩
    have L5 := Lib.hid (L4.out.below b5)
    clear b5 l4 L4 HPL4
    go_wp2_with fail
    refine (HKN.out _).mono ?_
    rintro e w6 ⟨rfl, b6⟩
    have D6 := Lib.hid (below_then L5.out.bel b6)
    clear b6 L5
    go_wp2
    go_ret
    exact ⟨rfl, D6.out⟩
  · subst hX
    obtain ⟨hce, hok, hso⟩ := err_ok herr
    have hce' : B.cerr = 0 := hce
    have HSU := Lib.hid (fun W (hb : Below w.heap.size w W) => Sure_any B W (H.out.below hb) hce')
    have HRI := room_in (worst_bounds hok hso) (show (B.worst s).bottom.length = B.n by show ((bentL B.bot B.bend).map (·.2)).length = B.n; rw [List.length_map, bentL_length, H.out.hb.len]) (show (B.worst s).top.length = B.n by show ((bentL B.top B.bend).map (·.1)).length = B.n; rw [List.length_map, bentL_length, H.out.ht.len, hok.nn]) hxl
    have HBR := Lib.hid (fun TA TB K c c' d => blockL_ref (B := B) (s := s) (x := X) (TA := TA) (TB := TB) (K := K) (c := c) (c' := c') (d := d) hso hce' HRI.1.1 HRI.2.2)
    have HRB := Lib.hid (fun TA TB K c c' d W (hV : (sureV B TA TB K c c' d).At W) => RefBlock_any (sureV B TA TB K c c' d) s X W hV hso hxl)
    have HI := Lib.hid hI
    have HLN : Hid ((blockL (B.worst s) X).length ≤ maxLen) := by
      have e := blockL_ref (B := B) (s := s) (x := X) (TA := none) (TB := none) (K := none) (c := 0) (c' := 0) (d := 0) hso hce' HRI.1.1 HRI.2.2
      have := gcount_le (fine := fineV (sureV B none none none 0 0 0) s X) (st := stV s) (by unfold stV; have := hso.w1; omega) 0
      unfold Hid
      rw [e]
      unfold refBlockL
      rw [List.length_map]
      unfold gcount at this
      unfold maxLen
      omega
    rw [hpe] at HPL
    clear hpe herr hce hok hso hce' HRI hxl hI
    generalize blockL (B.worst s) X = L at *
    unfold Bl.val Sw.val at *
    go_wp2_with fail
    refine HSM3.out.mono ?_
    rintro e w4 ⟨rfl, b4⟩
    have L4 := Lib.hid (L3.out.below b4)
    have HPL4 := Lib.hid (HPL.out _ L4.out.bel)
    have HI4 := Lib.hid (Reads.below HI.out b4)
    have l4 := L4.out.get
    clear b4 l3 L3 x3 X3 E3 HSM3 HPL HI
    go_wp2_with fail
    refine HPL4.out.mono ?_
    rintro e w5 ⟨rfl, b5⟩
    have L5 := Lib.hid (L4.out.below b5).drewd
    have HI5 : Hid (Ints w5.drew A L.length L) := Reads.below HI4.out b5.drew
    clear b5 l4 L4 HPL4 HI4
    go_upto_region 10 with (fail)
    have l5 := L5.out.get
    go_region_held3 (fun W => (W.cell? ⟨w.heap.size, 0, none⟩ = some (.slice B.A B.n B.c) ∧ W.cell? ⟨w.heap.size, 1, none⟩ = some (.slice B.A' B.n' B.c') ∧ W.cell? ⟨w.heap.size, 2, none⟩ = some (.int .i64 B.bend) ∧ W.cell? ⟨w.heap.size, 3, none⟩ = some (.slice B.K B.m B.d)) ∧
      W.cell? ⟨w.heap.size + 1, 0, none⟩ = some (.int .i64 s.long) ∧ W.cell? ⟨w.heap.size + 1, 1, none⟩ = some (.int .i64 s.wide) ∧ W.cell? ⟨w.heap.size + 1, 2, none⟩ = some (.int .i64 s.kerf) ∧ W.cell? ⟨w.heap.size + 1, 3, none⟩ = some (.int .i64 s.across))
      (first | with_reducible exact L5.out.get | with_reducible exact L9.out.get | with_reducible exact L8.out.get | with_reducible exact L7.out.get | with_reducible exact L6.out.get)
      (first
        | (go_at_call 29; refine (HSU.out _ ?_).mono ?_; (with_reducible exact L5.out.bel); rintro e W6 ⟨TA, TB, K, q1, q2, q3, rfl, hV, b6⟩; have L6 := Lib.hid (L5.out.below b6); have HV6 := Lib.hid hV; have HI6 := Lib.hid (Reads.below HI5.out b6); clear hV b6)
        | (go_at_call 33; refine (HRB.out _ _ _ _ _ _ _ HV6.out).mono ?_; rintro e W7 ⟨v, rfl, hown, b7⟩; have L7 := Lib.hid (L6.out.below b7); have HI7 := Lib.hid (Reads.below HI6.out b7); rw [← HBR.out] at hown; obtain ⟨A', c', rfl⟩ := own_slice hown; have HJ7 := Lib.hid (reads_of_own hown).r; clear hown b7)
        | (go_at_call 32; refine (RefInts_eq _ _ _ _ _ _ _ HI7.out HJ7.out HLN.out).mono ?_; rintro e W8 ⟨rfl, b8⟩; have L8 := Lib.hid (L7.out.below b8); clear b8)
        | (go_at_call 18; refine (HKN.out _).mono ?_; rintro e W9 ⟨rfl, b9⟩; have L9 := Lib.hid (L8.out.below b9); clear b9))
    go_wp2
    go_ret
    exact ⟨rfl, L9.out.bel⟩
end Go.Proofs.Ytiflhimmieflpaa
