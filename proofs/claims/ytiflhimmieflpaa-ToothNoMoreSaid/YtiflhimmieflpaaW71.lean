/- Walks: the code's sounded. -/
import Derived.Test.YtiflhimmieflpaaW70
namespace Go.Proofs.Ytiflhimmieflpaa
open Go.RowKit Go.Maps

/-- An edge when a column was sounded. -/
def setLow (ys : List (Int × Int)) (x : Nat) (bend : Int) : List (Int × Int) := bentL (ys.set x ((ys.getD x (0, 0)).1, (ys.getD x (0, 0)).1)) bend
def setHigh (ys : List (Int × Int)) (x : Nat) (bend : Int) : List (Int × Int) := bentL (ys.set x ((ys.getD x (0, 0)).2, (ys.getD x (0, 0)).2)) bend
structure SdMid (w : World) (B : Bl) (v1 v2 : Value) (W : World) : Prop where
  box : Blk W w.heap.size 106 #[.slice B.A B.n B.c, .slice B.A' B.n' B.c', .int .i64 B.bend, .slice B.K B.m B.d, v1, v2]
  res : Blk W (w.heap.size + 1) 106 zero6
  bel : Below w.heap.size w W
theorem SdMid.below {w W W' : World} {B : Bl} {v1 v2 : Value} (h : SdMid w B v1 v2 W) (hb : Below W.heap.size W W') : SdMid w B v1 v2 W' := ⟨blk_keep hb h.box, blk_keep hb h.res, below_then h.bel hb⟩
theorem SdMid.drewd {w W : World} {B : Bl} {v1 v2 : Value} (h : SdMid w B v1 v2 W) : SdMid w B v1 v2 W.drew := ⟨h.box, h.res, h.bel.drew⟩
theorem SdMid.set4 {w W : World} {B : Bl} {v1 v2 : Value} (h : SdMid w B v1 v2 W) (u : Value) : SdMid w B u v2 (W.setCell ⟨w.heap.size, 4, none⟩ u) :=
  ⟨h.box.set_ 4 _, h.res.far (p := ⟨w.heap.size, 4, none⟩) (by simp) _, h.bel.setCell (p := ⟨w.heap.size, 4, none⟩) (Nat.le_refl _) _⟩
theorem SdMid.set5 {w W : World} {B : Bl} {v1 v2 : Value} (h : SdMid w B v1 v2 W) (u : Value) : SdMid w B v1 u (W.setCell ⟨w.heap.size, 5, none⟩ u) :=
  ⟨h.box.set_ 5 _, h.res.far (p := ⟨w.heap.size, 5, none⟩) (by simp) _, h.bel.setCell (p := ⟨w.heap.size, 5, none⟩) (Nat.le_refl _) _⟩

set_option maxRecDepth 100000 in
set_option maxHeartbeats 4000000 in
theorem sounded_any (B : Bl) (g cap g' cap' x : Nat) (YB YT : List (Int × Int)) (w : World) (hB : B.Ok) (P : Pairs w (some ⟨g, 0, none⟩) B.n YB) (P' : Pairs w (some ⟨g', 0, none⟩) B.n YT) (hx : x < B.n) (hb : ∀ s ∈ YB, InR s) (ht : ∀ s ∈ YT, InR s)
    (fb : (YB.getD 0 (0, 0)).1 ≤ (YB.getD 0 (0, 0)).2) (ft : (YT.getD 0 (0, 0)).1 ≤ (YT.getD 0 (0, 0)).2)
    (ob : bentOk (YB.set x ((YB.getD x (0, 0)).1, (YB.getD x (0, 0)).1)) B.bend = true) (ot : bentOk (YT.set x ((YT.getD x (0, 0)).2, (YT.getD x (0, 0)).2)) B.bend = true) :
    Calls Try.prog 86 #[B.curved g cap g' cap', .int .i64 x] w fun e w' => ∃ q dq q' dq', e = .returned (B.curved q dq q' dq') ∧ Pairs w' (some ⟨q, 0, none⟩) B.n (setLow YB x B.bend) ∧ Pairs w' (some ⟨q', 0, none⟩) B.n (setHigh YT x B.bend) ∧ Below w.heap.size w w' := by
  have hxb : YB.getD x (0, 0) ∈ YB := by
    have e : YB.getD x (0, 0) = YB[x]'(by have := P.len; omega) := by simp [List.getD, show x < YB.length by have := P.len; omega]
    rw [e]; exact List.getElem_mem _
  have hxt : YT.getD x (0, 0) ∈ YT := by
    have e : YT.getD x (0, 0) = YT[x]'(by have := P'.len; omega) := by simp [List.getD, show x < YT.length by have := P'.len; omega]
    rw [e]; exact List.getElem_mem _
  obtain ⟨i1, i2, _, _⟩ := hb _ hxb
  obtain ⟨_, _, i3, i4⟩ := ht _ hxt
  have n2 := hB.n2
  obtain ⟨b0, b3⟩ : 0 ≤ B.bend ∧ B.bend ≤ 300 := ⟨hB.b0, hB.b3⟩
  have HF1 := Lib.hid (fun W (hW : Below w.heap.size w W) => found_any g 0 B.n cap x YB (YB.getD x (0, 0)).1 B.bend W (P.below hW) hx (by omega) hb i1 i2 b0 b3 fb ob)
  have HF2 := Lib.hid (fun W (hW : Below w.heap.size w W) => found_any g' 0 B.n cap' x YT (YT.getD x (0, 0)).2 B.bend W (P'.below hW) hx (by omega) ht i3 i4 b0 b3 ft ot)
  have HSL : Hid (setLow YB x B.bend = bentL (YB.set x ((YB.getD x (0, 0)).1, (YB.getD x (0, 0)).1)) B.bend) := rfl
  have HSH : Hid (setHigh YT x B.bend = bentL (YT.set x ((YT.getD x (0, 0)).2, (YT.getD x (0, 0)).2)) B.bend) := rfl
  have HC1 : Hid (∀ W, Below w.heap.size w W → W.cell? ⟨g, x * 2, none⟩ = some (.int .i64 (YB.getD x (0, 0)).1)) := fun W hW => by
    obtain ⟨b, o, hA, _, q0, _⟩ := Pairs.at_ (P.below hW) hx
    simp only [Option.some.injEq, Addr.mk.injEq, and_true] at hA
    obtain ⟨rfl, rfl⟩ := hA
    rwa [Nat.zero_add] at q0
  have HC2 : Hid (∀ W, Below w.heap.size w W → W.cell? ⟨g', x * 2 + 1, none⟩ = some (.int .i64 (YT.getD x (0, 0)).2)) := fun W hW => by
    obtain ⟨b, o, hA, _, _, q1⟩ := Pairs.at_ (P'.below hW) hx
    simp only [Option.some.injEq, Addr.mk.injEq, and_true] at hA
    obtain ⟨rfl, rfl⟩ := hA
    rwa [Nat.zero_add] at q1
  have M0 : Hid (SdMid w B (.slice (some ⟨g, 0, none⟩) B.n cap) (.slice (some ⟨g', 0, none⟩) B.n cap') ((w.alloc (.cells #[.slice B.A B.n B.c, .slice B.A' B.n' B.c', .int .i64 B.bend, .slice B.K B.m B.d, .slice (some ⟨g, 0, none⟩) B.n cap, .slice (some ⟨g', 0, none⟩) B.n cap'] 106)).alloc (.cells zero6 106))) :=
    ⟨(Blk.new w _ _ rfl).alloc _, Blk.new _ _ _ (by simp), below_alloc' (below_self _ _) _⟩
  have hx2 : (x : Int) < (B.n : Int) := by omega
  clear P P' hb ht fb ft ob ot hxb hxt i1 i2 i3 i4 n2 b0 b3 hB
  generalize (YB.getD x (0, 0)).1 = lo at *
  generalize (YT.getD x (0, 0)).2 = hi at *
  unfold Bl.curved
  go_enter Try.func86, Try.ntmps86
  go_wp2_with fail
  generalize ((w.alloc (.cells #[.slice B.A B.n B.c, .slice B.A' B.n' B.c', .int .i64 B.bend, .slice B.K B.m B.d, .slice (some ⟨g, 0, none⟩) B.n cap, .slice (some ⟨g', 0, none⟩) B.n cap'] 106)).alloc (.cells zero6 106)) = W0 at *
  go_cut [] (fun W => ∃ q dq, SdMid w B (.slice (some ⟨q, 0, none⟩) B.n dq) (.slice (some ⟨g', 0, none⟩) B.n cap') W ∧ Pairs W (some ⟨q, 0, none⟩) B.n (setLow YB x B.bend) ∧ w.heap.size + 1 < q)
  case first =>
    have D0 := Lib.hid M0.out.drewd
    have hz := D0.out.res.lt
    have c0 := M0.out.box.cell
    have q0 := HC1.out _ M0.out.bel
    clear M0 HC1 HC2 HF2 HSH
    go_region_law (first
      | (go_simp; go_at_call 109; refine (HF1.out _ D0.out.bel).mono ?_; rintro e W5 ⟨q, dq, rfl, hq, hqg, b5⟩; have M5 := Lib.hid (D0.out.below b5); have HQ5 := Lib.hid hq; have HG5 : Hid (w.heap.size + 1 < q) := Nat.lt_of_lt_of_le hz hqg; have c5 := M5.out.box.cell; have f5 := M5.out.box.frozen 4; clear b5 hq hqg))
    all_goals (go_wp2_with fail; go_meet)
    all_goals exact ⟨q, dq, M5.out.set4 _, by rw [HSL.out]; exact Reads.setCell_far HQ5.out (p := ⟨w.heap.size, 4, none⟩) (by have := HG5.out; simp; omega) _, HG5.out⟩
  case rest =>
    obtain ⟨q, dq, hm, hq, hqg⟩ := hcut
    have M1 := Lib.hid hm
    have HQ1 := Lib.hid hq
    have HG1 := Lib.hid hqg
    clear hm hq hqg M0 HC1 HF1 HSL
    go_upto_region 2 with (fail)
    go_cut [] (fun W => ∃ q dq q' dq', SdMid w B (.slice (some ⟨q, 0, none⟩) B.n dq) (.slice (some ⟨q', 0, none⟩) B.n dq') W ∧ Pairs W (some ⟨q, 0, none⟩) B.n (setLow YB x B.bend) ∧ Pairs W (some ⟨q', 0, none⟩) B.n (setHigh YT x B.bend) ∧ w.heap.size + 1 < q ∧ w.heap.size + 1 < q')
    case first =>
      have D0 := Lib.hid M1.out.drewd
      have hz := D0.out.res.lt
      have c0 := M1.out.box.cell
      have q0 := HC2.out _ M1.out.bel
      clear HC2
      go_region_law (first
        | (go_simp; go_at_call 109; refine (HF2.out _ D0.out.bel).mono ?_; rintro e W5 ⟨q', dq', rfl, hq, hqg, b5⟩; have M5 := Lib.hid (D0.out.below b5); have HQ5 := Lib.hid hq; have HQ6 := Lib.hid (Reads.below (Reads.below HQ1.out (Below.refl _ _).drew) b5); have HG5 : Hid (w.heap.size + 1 < q') := Nat.lt_of_lt_of_le hz hqg; have c5 := M5.out.box.cell; have f5 := M5.out.box.frozen 5; clear b5 hq hqg))
      all_goals (go_wp2_with fail; go_meet)
      all_goals exact ⟨q, dq, q', dq', M5.out.set5 _, Reads.setCell_far HQ6.out (p := ⟨w.heap.size, 5, none⟩) (by have := HG1.out; simp; omega) _, by rw [HSH.out]; exact Reads.setCell_far HQ5.out (p := ⟨w.heap.size, 5, none⟩) (by have := HG5.out; simp; omega) _, HG1.out, HG5.out⟩
    case rest =>
      obtain ⟨q, dq, q', dq', hm, hq, hq', hqg, hqg'⟩ := hcut
      have M2 := Lib.hid hm
      have HQ2 := Lib.hid hq
      have HQ3 := Lib.hid hq'
      have HG2 := Lib.hid hqg
      have HG3 := Lib.hid hqg'
      have c2 := M2.out.box.cell
      have z2 := M2.out.box.lt
      clear hm hq hq' hqg hqg' M1 HQ1 HG1 HC2 HF2 HSH
      go_wp2_with (refine wpList_store_row rfl 106 _ _ rfl (w.heap.size + 1) _ rfl rfl 106 _ M2.out.res (by kernel_rfl) rfl (by kernel_rfl) ?_)
      exact bodyPost_ret (results_c rfl _ _ _ _ _ _ _ rfl (M2.out.res.setRow _) Try.underlying106 (by kernel_rfl)) rfl ⟨q, dq, q', dq', rfl, Reads.setRow_far HQ2.out (by have := HG2.out; omega) _, Reads.setRow_far HQ3.out (by have := HG3.out; omega) _, below_setR M2.out.bel (by omega) _⟩
end Go.Proofs.Ytiflhimmieflpaa
