/- Walks: the reference's Best. -/
import Derived.Test.YtiflhimmieflpaaW46
import Derived.Test.YtiflhimmieflpaaUntil
import Derived.Deep.AppendLies
namespace Go.Proofs.Ytiflhimmieflpaa
open Go.RowKit Go.Maps

def bestCrack (x : Int) (k : Crack) : Crack := ⟨x, x, k.fh, k.fh, k.tl, k.tl⟩
def bestCracks (xs : List Int) (cr : List Crack) : List Crack := List.zipWith bestCrack xs cr
theorem bestCracks_length (xs : List Int) (cr : List Crack) : (bestCracks xs cr).length = min xs.length cr.length := by simp [bestCracks]
theorem bestCracks_snoc (xs : List Int) (cr : List Crack) (k : Nat) (hx : k < xs.length) (hk : k < cr.length) : flat6 ((bestCracks xs cr).take (k + 1)) = flat6 ((bestCracks xs cr).take k) ++ [.int .i64 (xs.getD k 0), .int .i64 (xs.getD k 0), .int .i64 (cr.getD k Crack.zero).fh, .int .i64 (cr.getD k Crack.zero).fh, .int .i64 (cr.getD k Crack.zero).tl, .int .i64 (cr.getD k Crack.zero).tl] := by
  rw [flat6_snoc _ _ (by rw [bestCracks_length]; omega)]
  have : (bestCracks xs cr).getD k Crack.zero = bestCrack (xs.getD k 0) (cr.getD k Crack.zero) := by
    have e1 : xs[k]? = some xs[k] := List.getElem?_eq_getElem hx
    have e2 : cr[k]? = some cr[k] := List.getElem?_eq_getElem hk
    simp only [bestCracks, List.getD, List.getElem?_zipWith, e1, e2, Option.getD_some]
  rw [this]
  rfl
structure S2L (wc : World) (g : Nat) (v1 v2 : Value) (L : List Crack) (k : Nat) (sv : Value) (W : World) : Prop where
  gr : wc.grownBy W (some g)
  box : Blk W g 46 #[v1, v2, sv]
  os : W.ownsRow wc.heap.size 111 6 sv k (flat6 (L.take k))
theorem S2L.alloc {wc W : World} {g k : Nat} {v1 v2 sv : Value} {L : List Crack} (h : S2L wc g v1 v2 L k sv W) (o : Obj) : S2L wc g v1 v2 L k sv (W.alloc o) := ⟨grownBy_alloc h.gr o, h.box.alloc o, h.os.alloc o⟩
theorem S2L.appended {wc W W' : World} {g k : Nat} {v1 v2 sv sv' : Value} {L : List Crack} (h : S2L wc g v1 v2 L k sv W) (hg : W.grownBy W' sv.ownBlock) (ho : W'.ownsRow wc.heap.size 111 6 sv' (k + 1) (flat6 (L.take (k + 1)))) : S2L wc g v1 v2 L (k + 1) sv' (W'.setCell ⟨g, 2, none⟩ sv') := by
  have hb := h.box.grown hg (own_blk_ne h.os h.box (by decide))
  exact ⟨grown_set (grown_own h.gr h.os hg (Nat.le_refl _)) _, hb.set_ 2 sv', own_setCell ho hb (by decide) 2 sv'⟩
def S10L (g b o c : Nat) (sv : Value) (x y z : Int) (W : World) : Prop := W.cell? ⟨g, 2, none⟩ = some sv ∧ W.cell? ⟨b, o, none⟩ = some (.int .i64 x) ∧ W.cell? ⟨c, 3, none⟩ = some (.int .i64 y) ∧ W.cell? ⟨c, 4, none⟩ = some (.int .i64 z)
/-- What Best answers. -/
def refBestV (B : Bl) (xs : List Int) (TA TB K : Option Addr) (c c' d : Nat) : Vw := ⟨TA, TB, K, B.n, c, c', B.m, d, (bentL B.bot B.bend).map (·.1), (bentL B.top B.bend).map (·.2), bestCracks xs B.cr⟩

attribute [local go_sem ↓] Go.wp_at_zero Go.wp_at_succ
set_option maxRecDepth 100000 in
set_option maxHeartbeats 8000000 in
theorem RefBest_any (B : Bl) (X : Option Addr) (cx : Nat) (xs : List Int) (w : World) (h : B.At w) (hok : B.cerr = 0) (hxs : Ints w X B.m xs) :
    Calls Try.prog 70 #[B.val, .slice X B.m cx] w fun e w' => ∃ TA TB K c c' d, e = .returned (refBestV B xs TA TB K c c' d).val ∧ (refBestV B xs TA TB K c c' d).At w' ∧ Below w.heap.size w w' := by
  have hO := curveErr_ok hok
  have hE := cerr_bent hok
  have hnn := hO.nn
  have HC1 := Lib.hid (fun W (hb : Below w.heap.size w W) => RefCurve_ok B.A B.n B.c B.bot B.bend W (h.hb.below hb) (by have := hO.n2; omega) hO.bot hO.b0 hO.b3 hE.1)
  have HC2 := Lib.hid (fun W (hb : Below w.heap.size w W) => RefCurve_ok B.A' B.n' B.c' B.top B.bend W (h.ht.below hb) (by have := hO.n2; omega) hO.top hO.b0 hO.b3 hE.2)
  have HK := Lib.hid h.hk
  have HXS := Lib.hid hxs
  have HO := Lib.hid hO
  have HV : Hid (SV w B ((w.alloc (.cells #[.slice B.A B.n B.c, .slice B.A' B.n' B.c', .int .i64 B.bend, .slice B.K B.m B.d] 25)).alloc (.cells #[.slice none 0 0, .slice none 0 0, .slice none 0 0] 46))) :=
    ⟨(Blk.new w _ _ rfl).alloc _, Blk.new _ _ _ (by simp), below_alloc' (below_self _ _) _⟩
  have HN := Lib.hid hnn
  clear h hok hO hE hxs
  unfold Bl.val
  clear hnn
  go_enter Try.func70, Try.ntmps70
  go_upto_region 1 with (fail)
  go_cut [5, 6, 7] (fun s3 s4 s5 W => ∃ TA tc TB td g, s3 = .slice TA B.n tc ∧ s4 = .slice TB B.n' td ∧ s5 = .pointer (some ⟨g, 0, none⟩) ∧ SMid w B W g TA TB)
  case first =>
    have hz0 : ((w.alloc (.cells #[.slice B.A B.n B.c, .slice B.A' B.n' B.c', .int .i64 B.bend, .slice B.K B.m B.d] 25)).alloc (.cells #[.slice none 0 0, .slice none 0 0, .slice none 0 0] 46)).heap.size = w.heap.size + 1 + 1 := by simp
    have HZ := Lib.hid hz0
    have Hpos : Hid (0 < B.n) := by have := HO.out.n1; unfold Hid; omega
    have Hpos2 : Hid (0 < B.n') := by have := HO.out.n1; have := HN.out; unfold Hid; omega
    clear hz0
    generalize ((w.alloc (.cells #[.slice B.A B.n B.c, .slice B.A' B.n' B.c', .int .i64 B.bend, .slice B.K B.m B.d] 25)).alloc (.cells #[.slice none 0 0, .slice none 0 0, .slice none 0 0] 46)) = W0 at *
    have e0 := HV.out.drewd.get
    go_region_held3 (fun W' => W'.cell? ⟨w.heap.size, 0, none⟩ = some (.slice B.A B.n B.c) ∧ W'.cell? ⟨w.heap.size, 1, none⟩ = some (.slice B.A' B.n' B.c') ∧ W'.cell? ⟨w.heap.size, 2, none⟩ = some (.int .i64 B.bend)) (first | with_reducible exact HV.out.drewd.get | with_reducible exact (HV.out.allocd _).get | with_reducible exact (V2.out.set3 SB.out.g1 _ _ _).get | with_reducible exact V2.out.get | with_reducible exact (V2.out.alloc _).get | with_reducible exact V1.out.get | with_reducible exact (V1.out.alloc _).get)
      (first
        | (go_at_call_of 25 (Value.slice B.A B.n B.c); refine (HC1.out _ ?_).mono ?_; (first | with_reducible exact HV.out.drewd.bel | with_reducible exact (HV.out.allocd _).bel); rintro e W1 ⟨TA, tc, rfl, hT, b1⟩; (first | (with_reducible have V1 := Lib.hid (HV.out.drewd.below b1)) | (with_reducible have V1 := Lib.hid ((HV.out.allocd _).below b1))); have HB1 := Lib.hid b1; have HT1 := Lib.hid hT.r; obtain ⟨ta, tao, rfl, hta, _⟩ := hT.r.2 Hpos.out; have Hta := Lib.hid hta; have Hta2 := Lib.hid (hT.far Hpos.out ta tao rfl); clear hT b1 hta)
        | (go_at_call_of 25 (Value.slice B.A' B.n' B.c'); refine (HC2.out _ ?_).mono ?_; (first | with_reducible exact V1.out.bel | with_reducible exact (V1.out.alloc _).bel); rintro e W2 ⟨TB, td, rfl, hT, b2⟩; (first | (with_reducible have V2 := Lib.hid (V1.out.below b2); have HT3 := Lib.hid (Reads.below HT1.out b2)) | (with_reducible have V2 := Lib.hid ((V1.out.alloc _).below b2); have HT3 := Lib.hid (Reads.below (Reads.below HT1.out (below_self _ _)) b2))); have HT2 := Lib.hid hT.r; obtain ⟨tb, tbo, rfl, htb, _⟩ := hT.r.2 Hpos2.out; have Htb2 := Lib.hid (hT.far Hpos2.out tb tbo rfl); (first | (with_reducible have SB := Lib.hid (SBox.a HZ.out HB1.out b2 Hta2.out Htb2.out); obtain ⟨⟨z0, z1, z2⟩, f0, f1, f2⟩ := z3_get SB.out.box) | (with_reducible have SB := Lib.hid (SBox.b V1.out.z.lt b2 Hta.out Htb2.out); obtain ⟨⟨z0, z1, z2⟩, f0, f1, f2⟩ := z3_get SB.out.box) | skip); clear hT b2 htb))
    all_goals (go_wp2_with fail; go_meet)
    all_goals
      first
        | exact ⟨_, tc, _, td, _, rfl, rfl, rfl, V2.out.set3 SB.out.g1 _ _ _, SB.out.g1, z3_set SB.out.box, Reads.set3far HT3.out SB.out.na _ _ _, Reads.set3far HT2.out SB.out.nb _ _ _⟩
        | exact ⟨_, tc, _, td, _, rfl, rfl, rfl, V2.out.alloc _, V2.out.z.lt, Blk.new W2 _ _ rfl, Reads.below HT3.out (below_self _ _), Reads.below HT2.out (below_self _ _)⟩
  case rest =>
    obtain ⟨TA, tc, TB, td, g, rfl, rfl, rfl, hm⟩ := hcut
    have HM := Lib.hid hm
    have S10 : Hid (S1 wc g B.n ((bentL B.bot B.bend).map (·.1)) ((bentL B.top B.bend).map (·.2)) 0 (.slice none 0 0) (.slice none 0 0) wc) := ⟨World.grownBy.refl wc _, hm.box, World.ownsRow_nil _ _ _ _, World.ownsRow_nil _ _ _ _, .inl rfl⟩
    clear hm
    go_wp2_with fail
    go_loopw [8] (fun iv wr => ∃ (k : Nat) (v1 v2 : Value), k ≤ B.n ∧ iv = .int .i64 k ∧ S1 wc g B.n ((bentL B.bot B.bend).map (·.1)) ((bentL B.top B.bend).map (·.2)) k v1 v2 wr) (fun iv _ => B.n - (intOf iv).toNat)
    case atStart => exact ⟨0, _, _, Nat.zero_le _, rfl, S10.out⟩
    case round =>
      obtain ⟨k, v1, v2, hk, rfl, hs⟩ := hrel
      have HS := Lib.hid hs
      clear hs
      by_cases hlt : k < B.n
      · go_wp2_with fail
        refine wp_region_any (by kernel_rfl) ?_
        have hk1 : (k : Int) < (B.n : Int) := by omega
        have hk2 : (k : Int) < (B.n' : Int) := by have := HN.out; omega
        have hpos : 0 < B.n := by omega
        have h30 := HO.out.n2
        have hgl : g < wc.heap.size := HM.out.box.lt
        obtain ⟨ta, tao, rfl, hta, ca0, ca1⟩ := Pairs.at_ HM.out.pa hlt
        obtain ⟨tb, tbo, rfl, htb, cb0, cb1⟩ := Pairs.at_ HM.out.pb (show k < B.n' by have := HN.out; omega)
        have na := ne_of_box HM.out.box ⟨_, _, _, rfl⟩ ⟨_, _, _, rfl⟩ ⟨_, _, _, rfl⟩ ca0
        have nb := ne_of_box HM.out.box ⟨_, _, _, rfl⟩ ⟨_, _, _, rfl⟩ ⟨_, _, _, rfl⟩ cb1
        obtain ⟨X1, hX1⟩ : ∃ X1, Hid (X1 = ((bentL B.bot B.bend).getD k (0, 0)).1) := ⟨_, rfl⟩
        obtain ⟨X2, hX2⟩ : ∃ X2, Hid (X2 = ((bentL B.top B.bend).getD k (0, 0)).2) := ⟨_, rfl⟩
        obtain ⟨HL, hHL⟩ : ∃ HL, Hid (HL = (((bentL B.bot B.bend).map (·.1)).take k).map (Value.int .i64)) := ⟨_, rfl⟩
        obtain ⟨TL, hTL⟩ : ∃ TL, Hid (TL = (((bentL B.top B.bend).map (·.2)).take k).map (Value.int .i64)) := ⟨_, rfl⟩
        rw [← hX1.out] at ca0
        rw [← hX2.out] at cb1
        have LA : ∀ W, wc.grownBy W (some g) → W.cell? ⟨ta, tao + k * 2, none⟩ = some (.int .i64 X1) := fun W hW => (World.cell?_of_block (hW.block ta hta (fun e => na (by simpa using e)))).trans ca0
        have LB : ∀ W, wc.grownBy W (some g) → W.cell? ⟨tb, tbo + k * 2 + 1, none⟩ = some (.int .i64 X2) := fun W hW => (World.cell?_of_block (hW.block tb htb (fun e => nb (by simpa using e)))).trans cb1
        (refine wpAny_take (i := 0) (v := ?_) rfl (by kernel_rfl) (by kernel_rfl) (by kernel_rfl) (fun _ _ _ h => h) (Or.inl ⟨by rfl, ?_⟩) ?_; rotate_left; focus (intro w; go_simp; try with_reducible rfl))
        (refine wpAny_take (i := 2) (v := ?_) rfl (by kernel_rfl) (by kernel_rfl) (by kernel_rfl) (fun _ _ _ h => h) (Or.inl ⟨by rfl, ?_⟩) ?_; rotate_left; focus (intro w; go_simp; try with_reducible rfl))
        (refine wpAny_take (i := 3) (v := ?_) rfl (by kernel_rfl) (by kernel_rfl) (by kernel_rfl) (fun _ _ _ h => h) (Or.inl ⟨by rfl, ?_⟩) ?_; rotate_left; focus (intro w; go_simp; try with_reducible rfl))
        (refine wpAny_take (i := 4) (v := ?_) rfl (by kernel_rfl) (by kernel_rfl) (by kernel_rfl) (fun _ _ _ h => h) (Or.inl ⟨by rfl, ?_⟩) ?_; rotate_left; focus (intro w; go_simp; try with_reducible rfl))
        (refine wpAny_take (i := 5) (v := ?_) rfl (by kernel_rfl) (by kernel_rfl) (by kernel_rfl) (fun _ _ _ h => h) (Or.inl ⟨by rfl, ?_⟩) ?_; rotate_left; focus (intro w; go_simp; try with_reducible rfl))
        (refine wpAny_take (i := 9) (v := ?_) rfl (by kernel_rfl) (by kernel_rfl) (by kernel_rfl) (fun _ _ _ h => h) (Or.inl ⟨by rfl, ?_⟩) ?_; rotate_left; focus (intro w; go_simp; try with_reducible rfl))
        (refine wpAny_take (i := 11) (v := ?_) rfl (by kernel_rfl) (by kernel_rfl) (by kernel_rfl) (fun _ _ _ h => h) (Or.inl ⟨by rfl, ?_⟩) ?_; rotate_left; focus (intro w; go_simp; try with_reducible rfl))
        (refine wpAny_take (i := 12) (v := ?_) rfl (by kernel_rfl) (by kernel_rfl) (by kernel_rfl) (fun _ _ _ h => h) (Or.inl ⟨by rfl, ?_⟩) ?_; rotate_left; focus (intro w; go_simp; try with_reducible rfl))
        (refine wpAny_take (i := 13) (v := ?_) rfl (by kernel_rfl) (by kernel_rfl) (by kernel_rfl) (fun _ _ _ h => h) (Or.inl ⟨by rfl, ?_⟩) ?_; rotate_left; focus (intro w; go_simp; try with_reducible rfl))
        (refine wpAny_take (i := 14) (v := ?_) rfl (by kernel_rfl) (by kernel_rfl) (by kernel_rfl) (fun _ _ _ h => h) (Or.inl ⟨by rfl, ?_⟩) ?_; rotate_left; focus (intro w; go_simp; try with_reducible rfl))
        show wpAny _ _ _ _ _ _ _ wr.drew
        refine wpAny_tame0 [1, 6, 7, 8, 10, 15, 16, 17, 18, 19, 20, 21] (by decide) (by kernel_rfl) (J2L wc g v1 v2 (.slice none 0 0) k HL TL X1 X2) (by decide) (by kernel_rfl) (by decide) ?_ ?_ ?_
        · have hs := HS.out
          refine ⟨⟨⟨hs.gr.os, hs.gr.tape, hs.gr.output, hs.gr.size, hs.gr.block⟩, hgl, ?_, by simp, by simp, by simp, by simp, by simp, by simp, ?_, ?_, ?_, by simp, by simp⟩, by simp, by simp⟩
          · simp only [Bool.false_eq_true, if_false]; exact hs.box
          · simp only [Bool.false_eq_true, if_false]; rw [hHL.out]; exact hs.o1
          · simp only [Bool.false_eq_true, if_false]; rw [hTL.out]; exact hs.o2
          · simp only [Bool.false_eq_true, if_false]; exact hs.sep
        · intro i hi o ho L σ W hLi hW hC hJ
          generalize hA : allOf _ σ _ _ = A
          simp only [List.mem_cons, List.not_mem_nil, or_false] at hi
          rcases hi with rfl | rfl | rfl | rfl | rfl | rfl | rfl | rfl | rfl | rfl | rfl | rfl
          · obtain rfl := opAt ho rfl
            have e1 : A.tmps[28]?.getD undef = .pointer (some ⟨g, 0, none⟩) := by rw [← hA]; kernel_rfl
            have h8 : L 8 = false := hC.no hLi rfl rfl (by kernel_rfl)
            have h19 : L 19 = false := hC.no h8 rfl rfl (by kernel_rfl)
            have c1 := hJ.1.box.cell 0
            simp only [h19, Bool.false_eq_true, if_false, List.getElem?_toArray, List.getElem?_cons_zero] at c1
            go_simp
            exact hJ.up hJ.1.load1 (by simp) (by simp)
          · obtain rfl := opAt ho rfl
            have e1 : A.tmps[33]?.getD undef = .pointer (some ⟨ta, tao + k * 2, none⟩) := by rw [← hA]; kernel_rfl
            have c1 := LA W hJ.1.k
            go_simp
            exact hJ.up hJ.1.load6 (by simp) (by simp)
          · obtain rfl := opAt ho rfl
            have h6 : L 6 = true := hW.yes rfl (by kernel_rfl)
            have e1 : A.tmps[34]?.getD undef = .int .i64 X1 := by rw [← hJ.1.p6 h6, ← hA]; kernel_rfl
            go_simp
            exact hJ.up hJ.1.build7 (by simp) (by simp)
          · obtain rfl := opAt ho rfl
            have h1 : L 1 = true := hW.yes rfl (by kernel_rfl)
            have h7 : L 7 = true := hW.yes rfl (by kernel_rfl)
            have h17 : L 17 = false := hC.no hLi rfl rfl (by kernel_rfl)
            have h19 : L 19 = false := hC.no hLi rfl rfl (by kernel_rfl)
            have h21 : L 21 = false := hC.no h17 rfl rfl (by kernel_rfl)
            have e1 : A.tmps[29]?.getD undef = v1 := by rw [← hJ.1.p1 h1, ← hA]; kernel_rfl
            obtain ⟨q, hq, hb⟩ := hJ.1.p7 h7 hLi
            have e2 : A.tmps[35]?.getD undef = .slice (some ⟨q, 0, none⟩) 1 1 := by rw [← hq, ← hA]; kernel_rfl
            have o1 := hJ.1.o1
            rw [hLi] at o1
            simp only [Bool.false_eq_true, if_false] at o1
            obtain ⟨v', W', hrun, hown, hg, _, hat⟩ := run_append_own_at (P := Try.prog) W wc.heap.size 44 44 3 _ _ 1 8 rfl rfl rfl rfl rfl rfl (by decide) v1 k HL o1 ⟨q, 0, none⟩ 1 1 [.int .i64 X1] rfl (fun j u hj => by match j, hj with | 0, hj => exact (hb.cell 0).trans hj) (by simp [Value.oneCell']) (by simp only [maxLen]; omega) (by omega) hJ.1.k.size
            exact tame_append (.tmp 29) (.tmp 35) 44 rfl (by simpa [Act.eval] using e1) (by simpa [Act.eval] using e2) hrun (hJ.up (hJ.1.app8 hLi h17 h19 h21 hown hg hat) (by simp) (by simp))
          · obtain rfl := opAt ho rfl
            have e1 : A.tmps[37]?.getD undef = .pointer (some ⟨g, 1, none⟩) := by rw [← hA]; kernel_rfl
            have h17 : L 17 = false := hC.no hLi rfl rfl (by kernel_rfl)
            have h21 : L 21 = false := hC.no h17 rfl rfl (by kernel_rfl)
            have c1 := hJ.1.box.cell 1
            simp only [h21, Bool.false_eq_true, if_false, List.getElem?_toArray, List.getElem?_cons_zero, List.getElem?_cons_succ] at c1
            go_simp
            exact hJ.up hJ.1.load10 (by simp) (by simp)
          · obtain rfl := opAt ho rfl
            have e1 : A.tmps[42]?.getD undef = .pointer (some ⟨tb, tbo + k * 2 + 1, none⟩) := by rw [← hA]; kernel_rfl
            have c1 := LB W hJ.1.k
            go_simp
            exact hJ.up hJ.1.load15 (by simp) (by simp)
          · obtain rfl := opAt ho rfl
            have h15 : L 15 = true := hW.yes rfl (by kernel_rfl)
            have e1 : A.tmps[43]?.getD undef = .int .i64 X2 := by rw [← hJ.1.p15 h15, ← hA]; kernel_rfl
            go_simp
            exact hJ.up hJ.1.build16 (by simp) (by simp)
          · obtain rfl := opAt ho rfl
            have h8 : L 8 = true := hW.yes rfl (by kernel_rfl)
            have h10 : L 10 = true := hW.yes rfl (by kernel_rfl)
            have h16 : L 16 = true := hW.yes rfl (by kernel_rfl)
            have h19 : L 19 = false := hC.no hLi rfl rfl (by kernel_rfl)
            have h21 : L 21 = false := hC.no hLi rfl rfl (by kernel_rfl)
            have e1 : A.tmps[38]?.getD undef = v2 := by rw [← hJ.1.p10 h10, ← hA]; kernel_rfl
            obtain ⟨q, hq, hb, _⟩ := hJ.1.p16 h16 hLi
            have e2 : A.tmps[44]?.getD undef = .slice (some ⟨q, 0, none⟩) 1 1 := by rw [← hq, ← hA]; kernel_rfl
            have o2 := hJ.1.o2
            rw [hLi] at o2
            simp only [Bool.false_eq_true, if_false] at o2
            obtain ⟨v', W', hrun, hown, hg, _, hat⟩ := run_append_own_at (P := Try.prog) W wc.heap.size 44 44 3 _ _ 1 8 rfl rfl rfl rfl rfl rfl (by decide) v2 k TL o2 ⟨q, 0, none⟩ 1 1 [.int .i64 X2] rfl (fun j u hj => by match j, hj with | 0, hj => exact (hb.cell 0).trans hj) (by simp [Value.oneCell']) (by simp only [maxLen]; omega) (by omega) hJ.1.k.size
            exact tame_append (.tmp 38) (.tmp 44) 44 rfl (by simpa [Act.eval] using e1) (by simpa [Act.eval] using e2) hrun (hJ.up (hJ.1.app17 h8 hLi h19 h21 hown hg hat) (by simp) (by simp))
          · obtain rfl := opAt ho rfl
            have e1 : A.tmps[7]?.getD undef = .pointer (some ⟨g, 0, none⟩) := by rw [← hA]; kernel_rfl
            go_simp
            exact hJ.up (hJ.1.load18 _) (fun _ => rfl) (by simp)
          · obtain rfl := opAt ho rfl
            have h8 : L 8 = true := hW.yes rfl (by kernel_rfl)
            have h17 : L 17 = true := hW.yes rfl (by kernel_rfl)
            have h18 : L 18 = true := hW.yes rfl (by kernel_rfl)
            have e1 : A.tmps[46]?.getD undef = .pointer (some ⟨g, 0, none⟩) := by rw [← hJ.2.1 h18, ← hA]; kernel_rfl
            have e2 : A.tmps[36]?.getD undef = σ 8 := by rw [← hA]; kernel_rfl
            obtain ⟨q, cap, hq⟩ := hJ.1.c8 h8
            rw [hq] at e2
            have hs := hJ.1.sets19 h8 h17 undef
            rw [hq] at hs
            have f0 := hJ.1.box.frozen 0
            have c0 := hJ.1.box.cell 0
            go_simp
            exact hJ.up hs (by simp) (by simp)
          · obtain rfl := opAt ho rfl
            have e1 : A.tmps[7]?.getD undef = .pointer (some ⟨g, 0, none⟩) := by rw [← hA]; kernel_rfl
            go_simp
            exact hJ.up (hJ.1.load20 _) (by simp) (fun _ => rfl)
          · obtain rfl := opAt ho rfl
            have h17 : L 17 = true := hW.yes rfl (by kernel_rfl)
            have h8 : L 8 = true := hW.yes rfl (by kernel_rfl)
            have h20 : L 20 = true := hW.yes rfl (by kernel_rfl)
            have e1 : A.tmps[47]?.getD undef = .pointer (some ⟨g, 1, none⟩) := by rw [← hJ.2.2 h20, ← hA]; kernel_rfl
            have e2 : A.tmps[45]?.getD undef = σ 17 := by rw [← hA]; kernel_rfl
            obtain ⟨q, cap, hq⟩ := hJ.1.c17 h17
            rw [hq] at e2
            have hs := hJ.1.sets21 h8 h17 undef
            rw [hq] at hs
            have f0 := hJ.1.box.frozen 1
            have c0 := hJ.1.box.cell 1
            go_simp
            exact hJ.up hs (by simp) (by simp)
        · intro L σ W hL hJ
          have hJ1 := hJ.1
          have hs' : S1 wc g B.n ((bentL B.bot B.bend).map (·.1)) ((bentL B.top B.bend).map (·.2)) (k + 1) (σ 8) (σ 17) W := by
            have l8 := hL 8 (by simp)
            have l17 := hL 17 (by simp)
            have l19 := hL 19 (by simp)
            have l21 := hL 21 (by simp)
            have hbox := hJ1.box
            have ho1 := hJ1.o1
            have ho2 := hJ1.o2
            have hsep := hJ1.sep
            rw [l19, l21] at hbox
            rw [l8] at ho1
            rw [l17] at ho2
            rw [l8, l17] at hsep
            simp only [if_true] at hbox ho1 ho2 hsep
            have lb : (bentL B.bot B.bend).length = B.n := Pairs.len HM.out.pa
            have lt_ : (bentL B.top B.bend).length = B.n' := Pairs.len HM.out.pb
            have hnn := HN.out
            refine ⟨hJ1.k, hbox, ?_, ?_, hsep⟩
            · have e : (((bentL B.bot B.bend).map (·.1)).take (k + 1)).map (Value.int .i64) = HL ++ [.int .i64 X1] := by
                rw [hHL.out, hX1.out, List.take_succ_eq_append_getElem (by simp; omega), List.map_append]
                simp [List.getElem?_eq_getElem (show k < (bentL B.bot B.bend).length by omega)]
              rw [e]; exact ho1
            · have e : (((bentL B.top B.bend).map (·.2)).take (k + 1)).map (Value.int .i64) = TL ++ [.int .i64 X2] := by
                rw [hTL.out, hX2.out, List.take_succ_eq_append_getElem (by simp; omega), List.map_append]
                simp [List.getElem?_eq_getElem (show k < (bentL B.top B.bend).length by omega)]
              rw [e]; exact ho2
          clear hJ hJ1 hL
          simp only [allOf, dstOf]
          go_simp
          go_wp2
          go_roundw
          case rel => exact ⟨k + 1, _, _, by omega, by go_num, hs'⟩
          case measure => simp [intOf]; omega
      · obtain rfl : k = B.n := by omega
        have hs := HS.out
        have hl1 : ((bentL B.bot B.bend).map (·.1)).take B.n = (bentL B.bot B.bend).map (·.1) := List.take_of_length_le (by rw [List.length_map]; exact Nat.le_of_eq (Pairs.len HM.out.pa))
        have hl2 : ((bentL B.top B.bend).map (·.2)).take B.n = (bentL B.top B.bend).map (·.2) := List.take_of_length_le (by rw [List.length_map, ← HN.out]; exact Nat.le_of_eq (Pairs.len HM.out.pb))
        obtain ⟨wc2, rfl⟩ : ∃ wc2 : World, wc2 = wr := ⟨wr, rfl⟩
        have HV2 : Hid (SV w B wc2) := ⟨HM.out.v.b.grown hs.gr (by simp; have := HM.out.g1; omega), HM.out.v.z.grown hs.gr (by simp; have := HM.out.g1; omega), HM.out.v.bel.grown hs.gr (by have := HM.out.v.bel.size; omega) (fun q hq => by simp at hq; have := HM.out.g1; omega)⟩
        have hKn : ∀ q o, B.K = some ⟨q, o, none⟩ → 0 < B.m → q ≠ g := by
          intro q o e hm
          have hc := HK.out.below HM.out.v.bel
          obtain ⟨b, off, e2, _, c0, _⟩ := Cracks.at_ hc hm
          rw [e] at e2
          cases e2
          exact ne_of_box HM.out.box ⟨_, _, _, rfl⟩ ⟨_, _, _, rfl⟩ ⟨_, _, _, rfl⟩ c0
        have HKN := Lib.hid hKn
        have HK2 : Hid (Cracks wc2 B.K B.m B.cr) := Reads.grown (HK.out.below HM.out.v.bel) hs.gr (fun hm q o e => by simp; exact fun e2 => hKn q o e hm e2.symm)
        have HG1 := Lib.hid HM.out.g1
        have HS1 := Lib.hid hs
        have Hlen := Lib.hid HK.out.len
        have HPN : Hid (0 < B.n) := by have := HO.out.n1; unfold Hid; omega
        have HM4 := Lib.hid HO.out.m4
        have S20 : Hid (S2L wc2 g v1 v2 (bestCracks xs B.cr) 0 (.slice none 0 0) wc2) := ⟨World.grownBy.refl wc2 _, hs.box, World.ownsRow_nil _ _ _ _⟩
        obtain ⟨i0, hi, hz0, hz1, hz2⟩ := info_parts Try.infoCrack
        have HL1 := Lib.hid hl1
        have HL2 := Lib.hid hl2
        clear hs hKn HM S10 HS HK hl1 hl2
        go_wp2_with fail
        go_loopw [9] (fun iv wr => ∃ (k : Nat) (sv : Value), k ≤ B.m ∧ iv = .int .i64 k ∧ S2L wc2 g v1 v2 (bestCracks xs B.cr) k sv wr) (fun iv _ => B.m - (intOf iv).toNat)
        case atStart => exact ⟨0, _, Nat.zero_le _, rfl, S20.out⟩
        case round =>
          obtain ⟨k, sv, hk, rfl, hs⟩ := hrel
          have HS := Lib.hid hs
          have hb3 : wr.cell? ⟨w.heap.size, 3, none⟩ = some (.slice B.K B.m B.d) := (HV2.out.b.grown hs.gr (by simp; have := HG1.out; omega)).cell 3
          clear hs S20
          have hm4 := HM4.out
          by_cases hlt : k < B.m
          · obtain ⟨b, off, hKe, hb, hc0, hc1, hc2, hc3, hc4, hc5⟩ := Cracks.at_ (Reads.grown HK2.out HS.out.gr (fun hm q o e => by simp; exact fun e2 => HKN.out q o e hm e2.symm)) hlt
            obtain ⟨bx, ox, hXe, hbx, hx0⟩ := (HXS.out).at_ hlt
            rw [hKe] at hb3
            subst hXe
            clear hKe
            have HSN := Lib.hid (bestCracks_snoc xs B.cr k (by rw [HXS.out.len]; exact hlt) (by rw [Hlen.out]; exact hlt))
            generalize B.cr.getD k Crack.zero = y at *
            generalize xs.getD k 0 = x at *
            have HLT := Lib.hid hlt
            have hkm : (k : Int) < (B.m : Int) := by omega
            obtain ⟨SA, sc, rfl⟩ := own_slice HS.out.os
            have hxw : ∀ W, wc2.grownBy W (some g) → W.cell? ⟨bx, ox + k, none⟩ = some (.int .i64 x) := fun W hW => ((World.cell?_of_block (a := ⟨bx, ox + k, none⟩) (hW.block bx (Nat.lt_of_lt_of_le hbx HV2.out.bel.size) (fun e => by have := HG1.out; simp at e; omega))).trans (HV2.out.bel.cell (p := ⟨bx, ox + k, none⟩) hbx)).trans hx0
            have HSS : Hid (∀ W, Blk W g 46 #[v1, v2, .slice SA k sc] → wc2.grownBy W (some g) → Blk W wr.heap.size 111 #[.int .i64 y.cl, .int .i64 y.ch, .int .i64 y.fl, .int .i64 y.fh, .int .i64 y.tl, .int .i64 y.th] → S10L g bx (ox + k) wr.heap.size (.slice SA k sc) x y.fh y.tl W) := fun W h1 h2 h3 => ⟨h1.cell 2, hxw W h2, h3.cell 3, h3.cell 4⟩
            go_upto_region 10 with (fail)
            clear hx0 hxw hc0 hc1 hc2 hc3 hc4 hc5
            have M0 := Lib.hid (HS.out.alloc (.cells #[.int .i64 y.cl, .int .i64 y.ch, .int .i64 y.fl, .int .i64 y.fh, .int .i64 y.tl, .int .i64 y.th] 111))
            have C0 := Lib.hid (Blk.new wr 111 #[.int .i64 y.cl, .int .i64 y.ch, .int .i64 y.fl, .int .i64 y.fh, .int .i64 y.tl, .int .i64 y.th] (g := wr.heap.size) rfl)
            obtain ⟨wq, hwq⟩ : ∃ wq, wr.alloc (.cells #[.int .i64 y.cl, .int .i64 y.ch, .int .i64 y.fl, .int .i64 y.fh, .int .i64 y.tl, .int .i64 y.th] 111) = wq := ⟨_, rfl⟩
            rw [hwq] at M0 C0 ⊢
            have HWQ : Hid (wr.heap.size < wq.heap.size) := by rw [← hwq]; simp [Hid]
            clear hwq
            have D0 : Hid (Below wq.heap.size wq wq.drew) := (Below.refl _ _).drew
            have M1 : Hid (S2L wc2 g v1 v2 (bestCracks xs B.cr) k (.slice SA k sc) wq.drew) := ⟨⟨M0.out.gr.os, M0.out.gr.tape, M0.out.gr.output, M0.out.gr.size, M0.out.gr.block⟩, M0.out.box, M0.out.os⟩
            have C1 := Lib.hid (blk_keep D0.out C0.out)
            have S0 := HSS.out _ M1.out.box M1.out.gr C1.out
            refine wp_region_untl (S := S10L g bx (ox + k) wr.heap.size (.slice SA k sc) x y.fh y.tl) [29] (by kernel_rfl) S0 (fun _ => ?_)
            generalize wq.drew = wd at *
            refine untlTake (i := 0) 60 (v := ?v1) rfl (by kernel_rfl) (by kernel_rfl) (by kernel_rfl) (by kernel_rfl) (by kernel_rfl) (by kernel_rfl) (fun _ _ _ h => h) (Or.inl ⟨by rfl, ?y1⟩) (by assumption) ?r1
            case y1 => (intro w hSw; obtain ⟨g0, g1, g2, g3⟩ := hSw; go_simp; try with_reducible rfl)
            refine untlTake (i := 1) 61 (v := ?v2) rfl (by kernel_rfl) (by kernel_rfl) (by kernel_rfl) (by kernel_rfl) (by kernel_rfl) (by kernel_rfl) (fun _ _ _ h => h) (Or.inl ⟨by rfl, ?y2⟩) (by assumption) ?r2
            case y2 => (intro w hSw; obtain ⟨g0, g1, g2, g3⟩ := hSw; go_simp; try with_reducible rfl)
            refine untlTake (i := 2) 62 (v := ?v3) rfl (by kernel_rfl) (by kernel_rfl) (by kernel_rfl) (by kernel_rfl) (by kernel_rfl) (by kernel_rfl) (fun _ _ _ h => h) (Or.inl ⟨by rfl, ?y3⟩) (by assumption) ?r3
            case y3 => (intro w hSw; obtain ⟨g0, g1, g2, g3⟩ := hSw; go_simp; try with_reducible rfl)
            refine untlTake (i := 3) 63 (v := ?v4) rfl (by kernel_rfl) (by kernel_rfl) (by kernel_rfl) (by kernel_rfl) (by kernel_rfl) (by kernel_rfl) (fun _ _ _ h => h) (Or.inl ⟨by rfl, ?y4⟩) (by assumption) ?r4
            case y4 => (intro w hSw; obtain ⟨g0, g1, g2, g3⟩ := hSw; go_simp; try with_reducible rfl)
            refine untlTake (i := 4) 64 (v := ?v5) rfl (by kernel_rfl) (by kernel_rfl) (by kernel_rfl) (by kernel_rfl) (by kernel_rfl) (by kernel_rfl) (fun _ _ _ h => h) (Or.inl ⟨by rfl, ?y5⟩) (by assumption) ?r5
            case y5 => (intro w hSw; obtain ⟨g0, g1, g2, g3⟩ := hSw; go_simp; try with_reducible rfl)
            refine untlTake (i := 5) 65 (v := ?v6) rfl (by kernel_rfl) (by kernel_rfl) (by kernel_rfl) (by kernel_rfl) (by kernel_rfl) (by kernel_rfl) (fun _ _ _ h => h) (Or.inl ⟨by rfl, ?y6⟩) (by assumption) ?r6
            case y6 => (intro w hSw; obtain ⟨g0, g1, g2, g3⟩ := hSw; go_simp; try with_reducible rfl)
            refine untlTake (i := 6) 66 (v := ?v7) rfl (by kernel_rfl) (by kernel_rfl) (by kernel_rfl) (by kernel_rfl) (by kernel_rfl) (by kernel_rfl) (fun _ _ _ h => h) (Or.inl ⟨by rfl, ?y7⟩) (by assumption) ?r7
            case y7 => (intro w hSw; obtain ⟨g0, g1, g2, g3⟩ := hSw; go_simp; try with_reducible rfl)
            refine untlTake (i := 7) 67 (v := ?v8) rfl (by kernel_rfl) (by kernel_rfl) (by kernel_rfl) (by kernel_rfl) (by kernel_rfl) (by kernel_rfl) (fun _ _ _ h => h) (Or.inl ⟨by rfl, ?y8⟩) (by assumption) ?r8
            case y8 => (intro w hSw; obtain ⟨g0, g1, g2, g3⟩ := hSw; go_simp; try with_reducible rfl)
            refine untlTake (i := 8) 68 (v := ?v9) rfl (by kernel_rfl) (by kernel_rfl) (by kernel_rfl) (by kernel_rfl) (by kernel_rfl) (by kernel_rfl) (fun _ _ _ h => h) (Or.inl ⟨by rfl, ?y9⟩) (by assumption) ?r9
            case y9 => (intro w hSw; obtain ⟨g0, g1, g2, g3⟩ := hSw; go_simp; try with_reducible rfl)
            refine untlTake (i := 9) 69 (v := ?v10) rfl (by kernel_rfl) (by kernel_rfl) (by kernel_rfl) (by kernel_rfl) (by kernel_rfl) (by kernel_rfl) (fun _ _ _ h => h) (Or.inl ⟨by rfl, ?y10⟩) (by assumption) ?r10
            case y10 => (intro w hSw; obtain ⟨g0, g1, g2, g3⟩ := hSw; go_simp; try with_reducible rfl)
            refine untlTake (i := 10) 70 (v := ?v11) rfl (by kernel_rfl) (by kernel_rfl) (by kernel_rfl) (by kernel_rfl) (by kernel_rfl) (by kernel_rfl) (fun _ _ _ h => h) (Or.inl ⟨by rfl, ?y11⟩) (by assumption) ?r11
            case y11 => (intro w hSw; obtain ⟨g0, g1, g2, g3⟩ := hSw; go_simp; try with_reducible rfl)
            refine untlTake (i := 11) 71 (v := ?v12) rfl (by kernel_rfl) (by kernel_rfl) (by kernel_rfl) (by kernel_rfl) (by kernel_rfl) (by kernel_rfl) (fun _ _ _ h => h) (Or.inl ⟨by rfl, ?y12⟩) (by assumption) ?r12
            case y12 => (intro w hSw; obtain ⟨g0, g1, g2, g3⟩ := hSw; go_simp; try with_reducible rfl)
            refine untlTake (i := 12) 72 (v := ?v13) rfl (by kernel_rfl) (by kernel_rfl) (by kernel_rfl) (by kernel_rfl) (by kernel_rfl) (by kernel_rfl) (fun _ _ _ h => h) (Or.inl ⟨by rfl, ?y13⟩) (by assumption) ?r13
            case y13 => (intro w hSw; obtain ⟨g0, g1, g2, g3⟩ := hSw; go_simp; try with_reducible rfl)
            refine untlTake (i := 13) 73 (v := ?v14) rfl (by kernel_rfl) (by kernel_rfl) (by kernel_rfl) (by kernel_rfl) (by kernel_rfl) (by kernel_rfl) (fun _ _ _ h => h) (Or.inl ⟨by rfl, ?y14⟩) (by assumption) ?r14
            case y14 => (intro w hSw; obtain ⟨g0, g1, g2, g3⟩ := hSw; go_simp; try with_reducible rfl)
            refine untlTake (i := 14) 74 (v := ?v15) rfl (by kernel_rfl) (by kernel_rfl) (by kernel_rfl) (by kernel_rfl) (by kernel_rfl) (by kernel_rfl) (fun _ _ _ h => h) (Or.inl ⟨by rfl, ?y15⟩) (by assumption) ?r15
            case y15 => (intro w hSw; obtain ⟨g0, g1, g2, g3⟩ := hSw; go_simp; try with_reducible rfl)
            refine untlTake (i := 15) 75 (v := ?v16) rfl (by kernel_rfl) (by kernel_rfl) (by kernel_rfl) (by kernel_rfl) (by kernel_rfl) (by kernel_rfl) (fun _ _ _ h => h) (Or.inl ⟨by rfl, ?y16⟩) (by assumption) ?r16
            case y16 => (intro w hSw; obtain ⟨g0, g1, g2, g3⟩ := hSw; go_simp; try with_reducible rfl)
            refine untlTake (i := 16) 76 (v := ?v17) rfl (by kernel_rfl) (by kernel_rfl) (by kernel_rfl) (by kernel_rfl) (by kernel_rfl) (by kernel_rfl) (fun _ _ _ h => h) (Or.inl ⟨by rfl, ?y17⟩) (by assumption) ?r17
            case y17 => (intro w hSw; obtain ⟨g0, g1, g2, g3⟩ := hSw; go_simp; try with_reducible rfl)
            refine untlTake (i := 17) 77 (v := ?v18) rfl (by kernel_rfl) (by kernel_rfl) (by kernel_rfl) (by kernel_rfl) (by kernel_rfl) (by kernel_rfl) (fun _ _ _ h => h) (Or.inl ⟨by rfl, ?y18⟩) (by assumption) ?r18
            case y18 => (intro w hSw; obtain ⟨g0, g1, g2, g3⟩ := hSw; go_simp; try with_reducible rfl)
            refine untlTake (i := 18) 78 (v := ?v19) rfl (by kernel_rfl) (by kernel_rfl) (by kernel_rfl) (by kernel_rfl) (by kernel_rfl) (by kernel_rfl) (fun _ _ _ h => h) (Or.inl ⟨by rfl, ?y19⟩) (by assumption) ?r19
            case y19 => (intro w hSw; obtain ⟨g0, g1, g2, g3⟩ := hSw; go_simp; try with_reducible rfl)
            refine untlTake (i := 19) 79 (v := ?v20) rfl (by kernel_rfl) (by kernel_rfl) (by kernel_rfl) (by kernel_rfl) (by kernel_rfl) (by kernel_rfl) (fun _ _ _ h => h) (Or.inl ⟨by rfl, ?y20⟩) (by assumption) ?r20
            case y20 => (intro w hSw; obtain ⟨g0, g1, g2, g3⟩ := hSw; go_simp; try with_reducible rfl)
            refine untlTake (i := 20) 80 (v := ?v21) rfl (by kernel_rfl) (by kernel_rfl) (by kernel_rfl) (by kernel_rfl) (by kernel_rfl) (by kernel_rfl) (fun _ _ _ h => h) (Or.inl ⟨by rfl, ?y21⟩) (by assumption) ?r21
            case y21 => (intro w hSw; obtain ⟨g0, g1, g2, g3⟩ := hSw; go_simp; try with_reducible rfl)
            refine untlTake (i := 21) 81 (v := ?v22) rfl (by kernel_rfl) (by kernel_rfl) (by kernel_rfl) (by kernel_rfl) (by kernel_rfl) (by kernel_rfl) (fun _ _ _ h => h) (Or.inl ⟨by rfl, ?y22⟩) (by assumption) ?r22
            case y22 => (intro w hSw; obtain ⟨g0, g1, g2, g3⟩ := hSw; go_simp; try with_reducible rfl)
            refine untlTake (i := 22) 82 (v := ?v23) rfl (by kernel_rfl) (by kernel_rfl) (by kernel_rfl) (by kernel_rfl) (by kernel_rfl) (by kernel_rfl) (fun _ _ _ h => h) (Or.inl ⟨by rfl, ?y23⟩) (by assumption) ?r23
            case y23 => (intro w hSw; obtain ⟨g0, g1, g2, g3⟩ := hSw; go_simp; try with_reducible rfl)
            refine untlTake (i := 23) 83 (v := ?v24) rfl (by kernel_rfl) (by kernel_rfl) (by kernel_rfl) (by kernel_rfl) (by kernel_rfl) (by kernel_rfl) (fun _ _ _ h => h) (Or.inl ⟨by rfl, ?y24⟩) (by assumption) ?r24
            case y24 => (intro w hSw; obtain ⟨g0, g1, g2, g3⟩ := hSw; go_simp; try with_reducible rfl)
            refine untlTake (i := 24) 84 (v := ?v25) rfl (by kernel_rfl) (by kernel_rfl) (by kernel_rfl) (by kernel_rfl) (by kernel_rfl) (by kernel_rfl) (fun _ _ _ h => h) (Or.inl ⟨by rfl, ?y25⟩) (by assumption) ?r25
            case y25 => (intro w hSw; obtain ⟨g0, g1, g2, g3⟩ := hSw; go_simp; try with_reducible rfl)
            refine untlTake (i := 25) 85 (v := ?v26) rfl (by kernel_rfl) (by kernel_rfl) (by kernel_rfl) (by kernel_rfl) (by kernel_rfl) (by kernel_rfl) (fun _ _ _ h => h) (Or.inl ⟨by rfl, ?y26⟩) (by assumption) ?r26
            case y26 => (intro w hSw; obtain ⟨g0, g1, g2, g3⟩ := hSw; go_simp; try with_reducible rfl)
            simp only [Act.put, List.setIfInBounds_toArray, List.set_cons_zero, List.set_cons_succ]
            refine untlReady (rs := [26]) (by kernel_rfl) (by simp) ?_
            refine UReady.cons rfl (fun K1 hK1 => ?_) UReady.nil
            go_simp
            have M2 := Lib.hid (M1.out.alloc (.cells #[.int .i64 x, .int .i64 x, .int .i64 y.fh, .int .i64 y.fh, .int .i64 y.tl, .int .i64 y.tl] 111))
            have C2 := Lib.hid (C1.out.alloc (.cells #[.int .i64 x, .int .i64 x, .int .i64 y.fh, .int .i64 y.fh, .int .i64 y.tl, .int .i64 y.tl] 111))
            have N2 := Lib.hid (Blk.new wd 111 #[.int .i64 x, .int .i64 x, .int .i64 y.fh, .int .i64 y.fh, .int .i64 y.tl, .int .i64 y.tl] (g := wd.heap.size) rfl)
            refine hK1.out _ _ (.inr (HSS.out _ M2.out.box M2.out.gr C2.out)) ?_
            have HNE : Hid (wr.heap.size < wd.heap.size) := C1.out.lt
            generalize hW1 : wd.alloc (.cells #[.int .i64 x, .int .i64 x, .int .i64 y.fh, .int .i64 y.fh, .int .i64 y.tl, .int .i64 y.tl] 111) = W1 at *
            generalize wd.heap.size = gn at *
            clear hW1
            refine untlReady (rs := [27]) (by kernel_rfl) (by simp) ?_
            refine UReady.cons rfl (fun K2 hK2 => ?_) UReady.nil
            refine step_append_lies _ rfl (.tmp 61) (.tmp 86) 23 rfl wc2.heap.size 111 i0 _ 6 48 Try.underlying23 hi hz0 hz1 hz2 rfl (by decide) (.slice SA k sc) k _ (by rfl) M2.out.os ⟨gn, 0, none⟩ 1 1 [.int .i64 x, .int .i64 x, .int .i64 y.fh, .int .i64 y.fh, .int .i64 y.tl, .int .i64 y.tl] (by rfl) rfl (World.news_of_block N2.out) ?ca (by decide) ?cb ?cc ?cd W1.heap.size rfl ?_
            case ca => intro u hu; simp only [List.mem_cons, List.not_mem_nil, or_false] at hu; rcases hu with rfl | rfl | rfl | rfl | rfl | rfl <;> rfl
            case cb => have := HLT.out; unfold maxLen; omega
            case cc => have := HLT.out; omega
            case cd => exact M2.out.gr.size
            intro gv cv W2 hown hgrow hor hlt2
            have hown5 : Hid (W2.ownsRow wc2.heap.size 111 6 (.slice (some ⟨gv, 0, none⟩) (k + 1) cv) (k + 1) (flat6 ((bestCracks xs B.cr).take (k + 1)))) := by unfold Hid; rw [HSN.out]; exact hown
            have HN := Lib.hid (M2.out.appended hgrow hown5.out)
            have gg := M2.out.box.grown hgrow (own_blk_ne M2.out.os M2.out.box (by decide))
            have g6 := gg.cell 2
            have f6 := gg.frozen 2
            have Sx := HSS.out _ gg (grown_own M2.out.gr M2.out.os hgrow (Nat.le_refl _)) (C2.out.grown hgrow (fun e => by have := HS.out.os.lt _ e; omega))
            clear hown hgrow hor hlt2 gg
            refine hK2.out _ _ (.inr Sx) ?_
            refine untlTake (i := 28) 88 (v := ?v27) rfl (by kernel_rfl) (by kernel_rfl) (by kernel_rfl) (by kernel_rfl) (by kernel_rfl) (by kernel_rfl) (fun _ _ _ h => h) (Or.inl ⟨by rfl, ?y27⟩) (by assumption) ?r27
            case y27 => (intro w hSw; obtain ⟨g0, g1, g2, g3⟩ := hSw; go_simp; try with_reducible rfl)
            refine untlStep (i := 29) (by kernel_rfl) rfl (fun KE hKE => ?_)
            go_simp
            refine hKE.out _ _ (.inl (by decide)) ?_
            refine untlDone (by kernel_rfl) ?_ _
            go_wp2
            go_roundw
            case rel => exact ⟨k + 1, _, by have := HLT.out; omega, by go_num, HN.out⟩
            case measure => have := HLT.out; simp [intOf]; omega
          · obtain rfl : k = B.m := by omega
            have hs := HS.out
            have hos := hs.os
            rw [List.take_of_length_le (by rw [bestCracks_length, HXS.out.len, Hlen.out, Nat.min_self]; exact Nat.le_refl _)] at hos
            have h1 := HS1.out
            obtain ⟨g1, k1, rfl⟩ := own_form h1.o1 HPN.out
            obtain ⟨g2, k2, rfl⟩ := own_form h1.o2 HPN.out
            obtain ⟨SA, sc, rfl⟩ := own_slice hos
            have o1 := h1.o1.kept hs.gr (.inr (own_blk_ne h1.o1 h1.box (by decide)))
            have o2 := h1.o2.kept hs.gr (.inr (own_blk_ne h1.o2 h1.box (by decide)))
            have hz : Blk wr (w.heap.size + 1) 46 z3 := HV2.out.z.grown hs.gr (by simp; have := HG1.out; omega)
            have Hg : Hid (Blk wr g 46 #[.slice (some ⟨g1, 0, none⟩) B.n k1, .slice (some ⟨g2, 0, none⟩) B.n k2, .slice SA B.m sc]) := hs.box
            have Hr := Lib.hid hz
            have HF := Lib.hid (own_setRow o1 hz (by decide) #[.slice (some ⟨g1, 0, none⟩) B.n k1, .slice (some ⟨g2, 0, none⟩) B.n k2, .slice SA B.m sc])
            have HF2 := Lib.hid (own_setRow o2 hz (by decide) #[.slice (some ⟨g1, 0, none⟩) B.n k1, .slice (some ⟨g2, 0, none⟩) B.n k2, .slice SA B.m sc])
            have HF3 := Lib.hid (own_setRow hos hz (by decide) #[.slice (some ⟨g1, 0, none⟩) B.n k1, .slice (some ⟨g2, 0, none⟩) B.n k2, .slice SA B.m sc])
            have HB : Hid (Below w.heap.size w wr) := HV2.out.bel.grown hs.gr (by have := HV2.out.bel.size; omega) (fun q hq => by simp at hq; have := HG1.out; omega)
            have hn30 := HO.out.n2
            rw [HL1.out] at HF
            rw [HL2.out] at HF2
            clear hs hos h1 o1 o2 hz HS HS1
            go_wp2_with (first | (refine wpList_load_row rfl 46 _ rfl g rfl 46 _ _ _ Hg.out Try.underlying46 rfl (by kernel_rfl) ?_) | (refine wpList_store_row rfl 46 _ _ rfl (w.heap.size + 1) _ rfl rfl 46 _ Hr.out (by kernel_rfl) rfl (by kernel_rfl) ?_))
            exact bodyPost_ret (results_c rfl _ _ _ _ _ _ _ rfl (Hr.out.setRow _) Try.underlying46 (by kernel_rfl)) rfl ⟨some ⟨g1, 0, none⟩, some ⟨g2, 0, none⟩, SA, k1, k2, sc, rfl, ⟨ints_of_own HF.out, ints_of_own HF2.out, (reads_of_own HF3.out).r, by show B.n ≤ 1000; omega, by show B.m ≤ 1000; omega⟩, below_setR HB.out (by omega) _⟩
end Go.Proofs.Ytiflhimmieflpaa
