/- Walks: the reference's Saw; the law's open and place. -/
import Derived.Test.YtiflhimmieflpaaW42
namespace Go.Proofs.Ytiflhimmieflpaa
open Go.RowKit Go.Maps

def refSawB (s : Sw) : Bool := inB s.long 1 30 && inB s.wide 1 300 && inB s.kerf 0 50 && inB s.across 0 50
theorem refSaw_eq (s : Sw) : refSawB s = sawOk s.long s.wide s.kerf s.across := by
  unfold refSawB sawOk
  rw [inB_within, inB_within, inB_within, inB_within]
  simp [within, Bool.and_assoc]
theorem In_val {n a b : Int} {r : Bool} (h : inB n a b = r) (W : World) : Calls Try.prog 49 #[.int .i64 n, .int .i64 a, .int .i64 b] W fun e w' => e = .returned (.bool r) ∧ W = w' :=
  (RefIn_any n a b W).mono fun _ _ ⟨he, hb⟩ => ⟨by rw [he, h], hb⟩
set_option maxHeartbeats 1000000 in
theorem RefSaw_any (s : Sw) (w : World) : Calls Try.prog 73 #[s.val] w fun e w' => e = .returned (.bool (sawOk s.long s.wide s.kerf s.across)) ∧ Below w.heap.size w w' := by
  rw [← refSaw_eq]
  have HD : Hid (refSawB s = (inB s.long 1 30 && inB s.wide 1 300 && inB s.kerf 0 50 && inB s.across 0 50)) := rfl
  have B0 := Lib.hid (below_self w (.cells #[.int .i64 s.long, .int .i64 s.wide, .int .i64 s.kerf, .int .i64 s.across] 37))
  unfold Sw.val
  cases h1 : inB s.long 1 30
  · have HE : Hid (refSawB s = false) := by unfold Hid; rw [HD.out, h1]; rfl
    have V1 := Lib.hid (In_val h1)
    clear HD h1
    go_enter Try.func73, Try.ntmps73
    go_wp2_with fail
    refine (V1.out _).mono ?_
    rintro e w' ⟨rfl, rfl⟩
    go_wp2
    go_ret
    exact ⟨ret_bool HE.out.symm, B0.out⟩
  cases h2 : inB s.wide 1 300
  · have HE : Hid (refSawB s = false) := by unfold Hid; rw [HD.out, h1, h2]; rfl
    have V1 := Lib.hid (In_val h1)
    have V2 := Lib.hid (In_val h2)
    clear HD h1 h2
    go_enter Try.func73, Try.ntmps73
    go_wp2_with fail
    refine (V1.out _).mono ?_
    rintro e w' ⟨rfl, rfl⟩
    go_wp2_with fail
    refine (V2.out _).mono ?_
    rintro e w' ⟨rfl, rfl⟩
    go_wp2
    go_ret
    exact ⟨ret_bool HE.out.symm, B0.out⟩
  cases h3 : inB s.kerf 0 50
  · have HE : Hid (refSawB s = false) := by unfold Hid; rw [HD.out, h1, h2, h3]; rfl
    have V1 := Lib.hid (In_val h1)
    have V2 := Lib.hid (In_val h2)
    have V3 := Lib.hid (In_val h3)
    clear HD h1 h2 h3
    go_enter Try.func73, Try.ntmps73
    go_wp2_with fail
    refine (V1.out _).mono ?_
    rintro e w' ⟨rfl, rfl⟩
    go_wp2_with fail
    refine (V2.out _).mono ?_
    rintro e w' ⟨rfl, rfl⟩
    go_wp2_with fail
    refine (V3.out _).mono ?_
    rintro e w' ⟨rfl, rfl⟩
    go_wp2
    go_ret
    exact ⟨ret_bool HE.out.symm, B0.out⟩
  have HE : Hid (refSawB s = inB s.across 0 50) := by unfold Hid; rw [HD.out, h1, h2, h3]; simp
  have V1 := Lib.hid (In_val h1)
  have V2 := Lib.hid (In_val h2)
  have V3 := Lib.hid (In_val h3)
  have V4 := Lib.hid (In_val (show inB s.across 0 50 = inB s.across 0 50 from rfl))
  clear HD h1 h2 h3
  go_enter Try.func73, Try.ntmps73
  go_wp2_with fail
  refine (V1.out _).mono ?_
  rintro e w' ⟨rfl, rfl⟩
  go_wp2_with fail
  refine (V2.out _).mono ?_
  rintro e w' ⟨rfl, rfl⟩
  go_wp2_with fail
  refine (V3.out _).mono ?_
  rintro e w' ⟨rfl, rfl⟩
  go_wp2_with fail
  refine (V4.out _).mono ?_
  rintro e w' ⟨rfl, rfl⟩
  go_wp2
  go_ret
  exact ⟨ret_bool HE.out.symm, B0.out⟩

theorem err_split (B : Bl) (s : Sw) : B.err s = if B.cerr ≠ 0 then B.cerr else if sawOk s.long s.wide s.kerf s.across = false then 3 else 0 := by
  unfold Bl.err readyErr Bl.cerr
  split
  · rfl
  · split
    · rfl
    · simp
set_option maxHeartbeats 1000000 in
theorem open_any (B : Bl) (s : Sw) (w : World) (h : B.At w) (hn : B.n ≤ 1000) (hn' : B.n' ≤ 1000) (hm : B.m ≤ 1000) : Calls Try.prog 35 #[B.val, s.val] w fun e w' => e = .returned (.int .i64 (B.err s)) ∧ Below w.heap.size w w' := by
  have HD := Lib.hid (err_split B s)
  have E0 : Hid (Below w.heap.size w ((w.alloc (.cells #[.slice B.A B.n B.c, .slice B.A' B.n' B.c', .int .i64 B.bend, .slice B.K B.m B.d] 25)).alloc (.cells #[.int .i64 s.long, .int .i64 s.wide, .int .i64 s.kerf, .int .i64 s.across] 37))) := below_alloc' (below_self _ _) _
  have S0 := Lib.hid (Blk.new (w.alloc (.cells #[.slice B.A B.n B.c, .slice B.A' B.n' B.c', .int .i64 B.bend, .slice B.K B.m B.d] 25)) 37 #[.int .i64 s.long, .int .i64 s.wide, .int .i64 s.kerf, .int .i64 s.across] (g := w.heap.size + 1) (by simp))
  have HC := Lib.hid (RefCheck_any B _ (h.below E0.out) hn hn' hm)
  have HS := Lib.hid (fun W => RefSaw_any s W)
  clear h
  unfold Bl.val Sw.val at *
  go_enter Try.func35, Try.ntmps35
  go_wp2_with fail
  refine HC.out.mono ?_
  rintro e w1 ⟨rfl, b1⟩
  have D1 := Lib.hid (below_then E0.out b1)
  have S1 := Lib.hid (blk_keep b1 S0.out)
  have s1 := S1.out.cell
  clear b1 HC E0 S0
  by_cases hc : B.cerr = 0
  · have HE : Hid (B.err s = if sawOk s.long s.wide s.kerf s.across = false then 3 else 0) := by unfold Hid; rw [HD.out, if_neg (by simpa using hc)]
    have hz : (B.cerr != 0) = false := by simp [hc]
    generalize B.cerr = E at *
    clear HD hc
    go_wp2_with fail
    refine (HS.out _).mono ?_
    rintro e w2 ⟨rfl, b2⟩
    have D2 := Lib.hid (below_then D1.out b2)
    clear b2 HS s1
    cases hs : sawOk s.long s.wide s.kerf s.across
    · have HF : Hid (B.err s = 3) := by unfold Hid; rw [HE.out, if_pos hs]
      clear hs HE
      go_wp2
      go_ret
      exact ⟨ret_int HF.out.symm, D2.out⟩
    · have HF : Hid (B.err s = 0) := by unfold Hid; rw [HE.out, if_neg (by rw [hs]; simp)]
      clear hs HE
      go_wp2
      go_ret
      exact ⟨ret_int HF.out.symm, D2.out⟩
  · have HE : Hid (B.err s = B.cerr) := by unfold Hid; rw [HD.out, if_pos hc]
    have hz : (B.cerr != 0) = true := by simpa using hc
    generalize B.cerr = E at *
    clear HD hc
    go_wp2
    go_ret
    exact ⟨ret_int HE.out.symm, D1.out⟩

def placeErr (B : Bl) (s : Sw) (x y : Int) : Int := if B.err s ≠ 0 then B.err s else if holdsB B.n s.long [(x, y)] = false then 2 else 0
theorem holds_in2 (n long x y : Int) : holdsB n long [(x, y)] = (inB x 0 (n - long) && inB y 0 300) := by
  simp [holdsB, noneOf, placeOk, inB_within]
set_option maxHeartbeats 1000000 in
theorem place_any (B : Bl) (s : Sw) (x y : Int) (w : World) (h : B.At w) (hn : B.n ≤ 1000) (hn' : B.n' ≤ 1000) (hm : B.m ≤ 1000) : Calls Try.prog 27 #[B.val, s.val, .agg #[.int .i64 x, .int .i64 y]] w fun e w' => e = .returned (.int .i64 (placeErr B s x y)) ∧ Below w.heap.size w w' := by
  have HD : Hid (placeErr B s x y = if B.err s ≠ 0 then B.err s else if holdsB B.n s.long [(x, y)] = false then 2 else 0) := rfl
  have E0 : Hid (Below w.heap.size w (((w.alloc (.cells #[.slice B.A B.n B.c, .slice B.A' B.n' B.c', .int .i64 B.bend, .slice B.K B.m B.d] 25)).alloc (.cells #[.int .i64 s.long, .int .i64 s.wide, .int .i64 s.kerf, .int .i64 s.across] 37)).alloc (.cells #[.int .i64 x, .int .i64 y] 39))) := below_alloc' (below_alloc' (below_self _ _) _) _
  have A0 := Lib.hid (((Blk.new w 25 #[.slice B.A B.n B.c, .slice B.A' B.n' B.c', .int .i64 B.bend, .slice B.K B.m B.d] rfl).alloc (.cells #[.int .i64 s.long, .int .i64 s.wide, .int .i64 s.kerf, .int .i64 s.across] 37)).alloc (.cells #[.int .i64 x, .int .i64 y] 39))
  have S0 := Lib.hid ((Blk.new (w.alloc (.cells #[.slice B.A B.n B.c, .slice B.A' B.n' B.c', .int .i64 B.bend, .slice B.K B.m B.d] 25)) 37 #[.int .i64 s.long, .int .i64 s.wide, .int .i64 s.kerf, .int .i64 s.across] (g := w.heap.size + 1) (by simp)).alloc (.cells #[.int .i64 x, .int .i64 y] 39))
  have P0 := Lib.hid (Blk.new ((w.alloc (.cells #[.slice B.A B.n B.c, .slice B.A' B.n' B.c', .int .i64 B.bend, .slice B.K B.m B.d] 25)).alloc (.cells #[.int .i64 s.long, .int .i64 s.wide, .int .i64 s.kerf, .int .i64 s.across] 37)) 39 #[.int .i64 x, .int .i64 y] (g := w.heap.size + 1 + 1) (by simp))
  have HC := Lib.hid (open_any B s _ (h.below E0.out) hn hn' hm)
  have HH := Lib.hid (holds_in2 B.n s.long x y)
  clear h
  unfold Bl.val Sw.val at *
  go_enter Try.func27, Try.ntmps27
  go_wp2_with fail
  refine HC.out.mono ?_
  rintro e w1 ⟨rfl, b1⟩
  have D1 := Lib.hid (below_then E0.out b1)
  have A1 := Lib.hid (blk_keep b1 A0.out)
  have S1 := Lib.hid (blk_keep b1 S0.out)
  have P1 := Lib.hid (blk_keep b1 P0.out)
  have a1 := A1.out.cell
  have s1 := S1.out.cell
  have p1 := P1.out.cell
  clear b1 HC E0 S0 A0 P0
  by_cases hc : B.err s = 0
  · have hs := (err_ok hc).2.2
    have l1 := hs.l1
    have l2 := hs.l2
    have HE : Hid (placeErr B s x y = if (inB x 0 (B.n - s.long) && inB y 0 300) = false then 2 else 0) := by unfold Hid; rw [HD.out, if_neg (by simpa using hc), HH.out]
    have hz : (B.err s != 0) = false := by simp [hc]
    have hx := Lib.hid (fun W => In_val (show inB x 0 (B.n - s.long) = inB x 0 (B.n - s.long) from rfl) W)
    generalize B.err s = E at *
    clear HD hc HH hs
    cases q1 : inB x 0 (B.n - s.long)
    · have V1 := Lib.hid (In_val q1)
      have HF : Hid (placeErr B s x y = 2) := by unfold Hid; rw [HE.out, q1]; rfl
      clear q1 HE hx
      go_wp2_with fail
      refine (V1.out _).mono ?_
      rintro e w2 ⟨rfl, rfl⟩
      go_wp2
      go_ret
      exact ⟨ret_int HF.out.symm, D1.out⟩
    · have V1 := Lib.hid (In_val q1)
      cases q2 : inB y 0 300
      · have V2 := Lib.hid (In_val q2)
        have HF : Hid (placeErr B s x y = 2) := by unfold Hid; rw [HE.out, q1, q2]; rfl
        clear q1 q2 HE hx
        go_wp2_with fail
        refine (V1.out _).mono ?_
        rintro e w2 ⟨rfl, rfl⟩
        go_wp2_with fail
        refine (V2.out _).mono ?_
        rintro e w2 ⟨rfl, rfl⟩
        go_wp2
        go_ret
        exact ⟨ret_int HF.out.symm, D1.out⟩
      · have V2 := Lib.hid (In_val q2)
        have HF : Hid (placeErr B s x y = 0) := by unfold Hid; rw [HE.out, q1, q2]; rfl
        clear q1 q2 HE hx
        go_wp2_with fail
        refine (V1.out _).mono ?_
        rintro e w2 ⟨rfl, rfl⟩
        go_wp2_with fail
        refine (V2.out _).mono ?_
        rintro e w2 ⟨rfl, rfl⟩
        go_wp2
        go_ret
        exact ⟨ret_int HF.out.symm, D1.out⟩
  · have HE : Hid (placeErr B s x y = B.err s) := by unfold Hid; rw [HD.out, if_pos hc]
    have hz : (B.err s != 0) = true := by simpa using hc
    generalize B.err s = E at *
    clear HD hc HH
    go_wp2
    go_ret
    exact ⟨ret_int HE.out.symm, D1.out⟩
end Go.Proofs.Ytiflhimmieflpaa
