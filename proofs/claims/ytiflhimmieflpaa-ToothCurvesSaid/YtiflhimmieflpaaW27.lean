/- Walks: Widest. -/
import Derived.Test.YtiflhimmieflpaaW26
namespace Go.Proofs.Ytiflhimmieflpaa
open Go.RowKit Go.Maps

def Sw.width (s : Sw) (x : Int) : Sw := ⟨s.long, x, s.kerf, s.across⟩
theorem Sw.Ok.width {s : Sw} (h : s.Ok) {x : Int} (h1 : 1 ≤ x) (h2 : x ≤ 300) : (s.width x).Ok := ⟨h.l1, h.l2, h1, h2, h.k1, h.k2, h.a1, h.a2⟩
/-- Fewer sticks than were asked for, with k + 1 as the width. -/
def fewP (B : Bl) (s : Sw) (sticks : Int) (k : Nat) : Bool := decide (countL (B.worst (s.width ((k : Int) + 1))) B.n < sticks)
def widestL (B : Bl) (s : Sw) (sticks : Int) : Nat := searchL (fewP B s sticks) 300

/-- What the closure finds and leaves. -/
structure WEnv (w : World) (B : Bl) (s : Sw) (sticks : Int) (g cap g' cap' q : Nat) (W : World) : Prop where
  saw : ∃ wide, Blk W (w.heap.size + 1) 37 #[.int .i64 s.long, .int .i64 wide, .int .i64 s.kerf, .int .i64 s.across]
  cur : Blk W q 106 #[.slice B.A B.n B.c, .slice B.A' B.n' B.c', .int .i64 B.bend, .slice B.K B.m B.d, .slice (some ⟨g, 0, none⟩) B.n cap, .slice (some ⟨g', 0, none⟩) B.n cap']
  num : Blk W (w.heap.size + 2) 3 #[.int .i64 sticks]
  p : Pairs W (some ⟨g, 0, none⟩) B.n (bentL B.bot B.bend)
  p' : Pairs W (some ⟨g', 0, none⟩) B.n (bentL B.top B.bend)
  bel : Below w.heap.size w W
theorem WEnv.below {w W W' : World} {B : Bl} {s : Sw} {sticks : Int} {g cap g' cap' q : Nat} (h : WEnv w B s sticks g cap g' cap' q W) (hb : Below W.heap.size W W') : WEnv w B s sticks g cap g' cap' q W' :=
  ⟨h.saw.imp fun _ hx => blk_keep hb hx, blk_keep hb h.cur, blk_keep hb h.num, h.p.below hb, h.p'.below hb, below_then h.bel hb⟩

set_option maxRecDepth 100000 in
set_option maxHeartbeats 2000000 in
theorem widest1_any (B : Bl) (s : Sw) (sticks : Int) (g cap g' cap' q : Nat) (w : World) (hB : B.Ok) (hs : s.Ok) (hat : B.At w) (hq : w.heap.size + 2 < q) (hg : w.heap.size + 2 < g) (hg' : w.heap.size + 2 < g') (k : Nat) (W : World) (hk : k < 300) (h : WEnv w B s sticks g cap g' cap' q W) :
    Calls Try.prog 90 #[.int .i64 k, .pointer (some ⟨w.heap.size + 1, 0, none⟩), .pointer (some ⟨q, 0, none⟩), .pointer (some ⟨w.heap.size + 2, 0, none⟩)] W
      fun e W' => e = .returned (.bool (fewP B s sticks k)) ∧ WEnv w B s sticks g cap g' cap' q W' := by
  obtain ⟨wide, hsaw⟩ := h.saw
  have s0 := hsaw.cell
  have f0 := hsaw.frozen 1
  have hsw := hs.width (x := (k : Int) + 1) (by omega) (by omega)
  have hF : Hid (fewP B s sticks k = decide (countL (B.worst (s.width ((k : Int) + 1))) B.n < sticks)) := rfl
  have S1 : Hid (Blk (W.setCell ⟨w.heap.size + 1, 1, none⟩ (.int .i64 ((k : Int) + 1))) (w.heap.size + 1) 37 #[.int .i64 s.long, .int .i64 ((k : Int) + 1), .int .i64 s.kerf, .int .i64 s.across]) := hsaw.set_ 1 _
  have HE : Hid (WEnv w B s sticks g cap g' cap' q (W.setCell ⟨w.heap.size + 1, 1, none⟩ (.int .i64 ((k : Int) + 1))).drew) :=
    ⟨⟨_, S1.out⟩, h.cur.far (p := ⟨w.heap.size + 1, 1, none⟩) (by simp; omega) _, h.num.far (p := ⟨w.heap.size + 1, 1, none⟩) (by simp) _, Reads.setCell_far h.p (p := ⟨w.heap.size + 1, 1, none⟩) (by simp; omega) _, Reads.setCell_far h.p' (p := ⟨w.heap.size + 1, 1, none⟩) (by simp; omega) _, (h.bel.setCell (p := ⟨w.heap.size + 1, 1, none⟩) (by simp) _).drew⟩
  have HWT := Lib.hid (fun X (he : WEnv w B s sticks g cap g' cap' q X) => worst_top B (s.width ((k : Int) + 1)) g cap g' cap' X hB he.p he.p' (hat.below he.bel).hk)
  have HLT := Lib.hid (fun b o b' o' c c' K d X => count_top B (B.worst (s.width ((k : Int) + 1))) b o b' o' c c' K B.m d X hB (worst_bounds hB hsw) hB.m4)
  unfold Bl.curved Sw.val Sw.width at HWT
  unfold Sw.width at HLT hF
  have k1 : IntKind.i64.wrap ((k : Int) + 1) = (k : Int) + 1 := IntWalk.i64_in _ (by omega)
  clear hsaw h hsw hB hs hat hg hg' hq
  go_enter Try.func90, Try.ntmps90
  go_wp2_with fail
  clear s0 f0
  generalize W.setCell ⟨w.heap.size + 1, 1, none⟩ (.int .i64 ((k : Int) + 1)) = W1 at *
  have c1 := S1.out.cell
  have c2 := HE.out.cur.cell
  have c3 := HE.out.num.cell
  go_region_with (first
    | (go_at_call 66; refine (HWT.out _ HE.out).mono ?_; rintro e w6 ⟨hb6, bb, oo, bb', oo', cc, cc', KK, dd, rfl, hs, hc, hc', hm⟩; have HL6 := Lib.hid (HLT.out bb oo bb' oo' cc cc' KK dd _ hs hc hc' hm); have HE6 := Lib.hid (HE.out.below hb6); have c6 := HE6.out.num.cell; clear hs hc hc' hm hb6)
    | (go_at_call 83; refine HL6.out.mono ?_; rintro e w7 ⟨rfl, hb7⟩; have HE7 := Lib.hid (HE6.out.below hb7); have c7 := HE7.out.num.cell; clear hb7))
  all_goals go_wp2
  all_goals go_ret
  all_goals exact ⟨ret_bool hF.out.symm, HE7.out⟩
end Go.Proofs.Ytiflhimmieflpaa
