/- Walks: Block. -/
import Derived.Test.YtiflhimmieflpaaW20
namespace Go.Proofs.Ytiflhimmieflpaa
open Go.RowKit Go.Maps

def BlockTop (w : World) (B : Bl) (s : Sw) (x : Int) (e : Ending) (w' : World) : Prop :=
  Below w.heap.size w w' ∧ ((B.err s ≠ 0 ∧ e = .returned (.tuple #[.slice none 0 0, .int .i64 (B.err s)])) ∨
    (B.err s = 0 ∧ holdsB B.n s.long [(x, 0)] = false ∧ e = .returned (.tuple #[.slice none 0 0, .int .i64 2])) ∨
    (B.err s = 0 ∧ holdsB B.n s.long [(x, 0)] = true ∧ ∃ v, e = .returned (.tuple #[v, .int .i64 0]) ∧ w'.ownsRow w.heap.size 3 1 v (blockL (B.worst s) x.toNat).length ((blockL (B.worst s) x.toNat).map (Value.int .i64))))
theorem holds_in {n : Nat} {long x : Int} (h : holdsB n long [(x, 0)] = true) : 0 ≤ x ∧ x + long ≤ n := by
  simp only [holdsB, noneOf, placeOk, within, List.all_cons, List.all_nil, Bool.and_true, Bool.not_not, Bool.and_eq_true, decide_eq_true_eq] at h
  omega

set_option maxRecDepth 100000 in
set_option maxHeartbeats 2000000 in
theorem Block_any (B : Bl) (s : Sw) (x : Int) (w : World) (h : B.At w) : Calls Try.prog 31 #[B.val, s.val, .int .i64 x] w (BlockTop w B s x) := by
  have E0 : Hid (Below w.heap.size w ((w.alloc (.cells #[.slice B.A B.n B.c, .slice B.A' B.n' B.c', .int .i64 B.bend, .slice B.K B.m B.d] 25)).alloc (.cells #[.int .i64 s.long, .int .i64 s.wide, .int .i64 s.kerf, .int .i64 s.across] 37))) := below_alloc' (below_self _ _) _
  have S0 := Lib.hid (Blk.new (w.alloc (.cells #[.slice B.A B.n B.c, .slice B.A' B.n' B.c', .int .i64 B.bend, .slice B.K B.m B.d] 25)) 37 #[.int .i64 s.long, .int .i64 s.wide, .int .i64 s.kerf, .int .i64 s.across] (g := w.heap.size + 1) (by simp))
  have HC := Lib.hid (ready_top B s _ (h.below E0.out))
  have HK := Lib.hid h
  clear h
  unfold Bl.val Sw.val at *
  go_enter Try.func31, Try.ntmps31
  go_wp2_with fail
  refine HC.out.mono ?_
  rintro e w2 ⟨hb2, ⟨herr, rfl⟩ | ⟨hok, g, cap, g', cap', rfl, P, P', -⟩⟩
  · have B2 := Lib.hid (below_then E0.out hb2)
    have Herr := Lib.hid herr
    have hz : (B.err s == 0) = false := by simpa using herr
    have hz2 : (B.err s != 0) = true := by simpa using herr
    clear hb2 herr HC
    unfold zeroCurved
    go_wp2
    go_ret2
    exact ⟨below_alloc' B2.out _, .inl ⟨Herr.out, rfl⟩⟩
  · have B2 := Lib.hid (below_then E0.out hb2)
    have S2 := Lib.hid (blk_keep hb2 S0.out)
    have Hok := Lib.hid (err_ok hok)
    have hP := Lib.hid P
    have hP' := Lib.hid P'
    have s2 := S2.out.cell
    have hz := S2.out.lt
    have HWT := Lib.hid (fun W (hb : Below w2.heap.size w2 W) => worst_top B s g cap g' cap' W Hok.out.2.1 (hP.out.below hb) (hP'.out.below hb) (HK.out.below (below_then B2.out hb)).hk)
    have HLT := Lib.hid (fun b o b' o' c c' K d (k : Nat) W hs hc hc' hm hx => block_any (B.worst s) b o b' o' B.n c c' K B.m d k W hs hc hc' hm (worst_bounds Hok.out.2.1 Hok.out.2.2) hx Hok.out.2.1.n2 Hok.out.2.1.m4)
    have Hok0 := Lib.hid hok
    have E3 := Lib.hid ((below_self w2 (.cells #[.slice B.A B.n B.c, .slice B.A' B.n' B.c', .int .i64 B.bend, .slice B.K B.m B.d, .slice (some ⟨g, 0, none⟩) B.n cap, .slice (some ⟨g', 0, none⟩) B.n cap'] 106)).alloc (by simp) (.cells #[.int .i64 x, .int .i64 0] 39))
    have C3 := Lib.hid ((Blk.new w2 106 #[.slice B.A B.n B.c, .slice B.A' B.n' B.c', .int .i64 B.bend, .slice B.K B.m B.d, .slice (some ⟨g, 0, none⟩) B.n cap, .slice (some ⟨g', 0, none⟩) B.n cap'] (g := w2.heap.size) rfl).alloc (.cells #[.int .i64 x, .int .i64 0] 39))
    have S3 := Lib.hid ((S2.out.alloc (.cells #[.slice B.A B.n B.c, .slice B.A' B.n' B.c', .int .i64 B.bend, .slice B.K B.m B.d, .slice (some ⟨g, 0, none⟩) B.n cap, .slice (some ⟨g', 0, none⟩) B.n cap'] 106)).alloc (.cells #[.int .i64 x, .int .i64 0] 39))
    have HH := Lib.hid (holds_any B s g cap g' cap' _ 1 1 [(x, 0)] _ Hok.out.2.1 Hok.out.2.2 (pairs_new1 (w2.alloc (.cells #[.slice B.A B.n B.c, .slice B.A' B.n' B.c', .int .i64 B.bend, .slice B.K B.m B.d, .slice (some ⟨g, 0, none⟩) B.n cap, .slice (some ⟨g', 0, none⟩) B.n cap'] 106)) x 0 39 (g := w2.heap.size + 1) (by simp)) (by decide))
    clear hb2 hok P P' HC
    unfold Bl.curved Sw.val at HWT HH
    unfold Bl.curved
    go_wp2_with fail
    refine HH.out.mono ?_
    rintro e w3 ⟨rfl, hb3⟩
    have B3 := Lib.hid (E3.out.trans (hb3.mono E3.out.size))
    have C3' := Lib.hid (blk_keep hb3 C3.out)
    have S3' := Lib.hid (blk_keep hb3 S3.out)
    have c3 := C3'.out.cell
    have s3 := S3'.out.cell
    clear hb3 HH E3 C3 S3 s2 hz
    cases hx : holdsB B.n s.long [(x, 0)]
    · have Hx := Lib.hid hx
      clear hx
      go_wp2
      go_ret2
      exact ⟨below_then B2.out B3.out, .inr (.inl ⟨Hok0.out, Hx.out, rfl⟩)⟩
    · have Hx := Lib.hid hx
      obtain ⟨k, rfl⟩ := Int.eq_ofNat_of_zero_le (holds_in hx).1
      have hxl := Lib.hid (holds_in hx).2
      clear hx
      go_wp2_with fail
      refine (HWT.out _ B3.out).mono ?_
      rintro e w4 ⟨hb4, b, o, b', o', c, c', K, d, rfl, hs, hc, hc', hm⟩
      have B4 := Lib.hid (below_then (below_then B2.out B3.out) hb4)
      have HL3 := Lib.hid (HLT.out b o b' o' c c' K d k _ hs hc hc' hm hxl.out)
      clear hb4 hs hc hc' hm HWT HLT c3 s3 hxl
      go_wp2_with fail
      refine HL3.out.mono ?_
      rintro e w5 ⟨v, rfl, hown, hb5⟩
      have HO := Lib.hid (own_base hown B4.out.size)
      have B5 := Lib.hid (below_then B4.out hb5)
      clear hown hb5
      go_wp2
      go_ret2
      exact ⟨B5.out, .inr (.inr ⟨Hok0.out, Hx.out, v, rfl, HO.out⟩)⟩
end Go.Proofs.Ytiflhimmieflpaa
