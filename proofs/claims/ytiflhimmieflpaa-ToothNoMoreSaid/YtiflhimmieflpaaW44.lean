/- Walks: the reference's Sound. -/
import Derived.Test.YtiflhimmieflpaaW43
import Derived.Test.YtiflhimmieflpaaGrd
namespace Go.Proofs.Ytiflhimmieflpaa
open Go.RowKit Go.Maps

/-- A blade as it is seen. -/
structure Vw where
  A : Option Addr
  A' : Option Addr
  K : Option Addr
  n : Nat
  c : Nat
  c' : Nat
  m : Nat
  d : Nat
  bot : List Int
  top : List Int
  sp : List Crack
def Vw.val (V : Vw) : Value := .agg #[.slice V.A V.n V.c, .slice V.A' V.n V.c', .slice V.K V.m V.d]
structure Vw.At (V : Vw) (w : World) : Prop where
  hb : Ints w V.A V.n V.bot
  ht : Ints w V.A' V.n V.top
  hk : Cracks w V.K V.m V.sp
  n1 : V.n ≤ 1000
  m1 : V.m ≤ 1000
theorem Vw.At.below {V : Vw} {w W : World} (h : V.At w) (hb : Below w.heap.size w W) : V.At W := ⟨h.hb.below hb, h.ht.below hb, h.hk.below hb, h.n1, h.m1⟩
/-- Whether a crack spoils a stick in a column. -/
def spoilV (i y wide : Int) (c : Crack) : Bool := inB i c.cl c.ch && decide (y < c.tl) && decide (c.fl < y + wide)
def colSound (V : Vw) (wide y : Int) (i : Nat) : Bool := !decide (y < V.bot.getD i 0) && !decide (V.top.getD i 0 < y + wide) && noneOf (spoilV i y wide) V.sp
def soundTo (V : Vw) (wide y : Int) (x k : Nat) : Bool := (List.range k).all fun j => colSound V wide y (x + j)
def soundV (V : Vw) (s : Sw) (x : Nat) (y : Int) : Bool := soundTo V s.wide y x s.long.toNat
theorem soundTo_succ (V : Vw) (wide y : Int) (x k : Nat) : soundTo V wide y x (k + 1) = (soundTo V wide y x k && colSound V wide y (x + k)) := by simp [soundTo, List.range_succ]
theorem soundTo_no {V : Vw} {wide y : Int} {x k n : Nat} (hk : k < n) (h : colSound V wide y (x + k) = false) : soundTo V wide y x n = false := by
  unfold soundTo; rw [List.all_eq_false]; exact ⟨k, List.mem_range.2 hk, by rw [h]; simp⟩

set_option maxRecDepth 100000 in
set_option maxHeartbeats 4000000 in
theorem Sound_any (V : Vw) (s : Sw) (x : Nat) (y : Int) (w : World) (h : V.At w) (hs : s.Ok) (hx : (x : Int) + s.long ≤ V.n) (y0 : 0 ≤ y) (y3 : y ≤ 300) :
    Calls Try.prog 28 #[V.val, s.val, .agg #[.int .i64 x, .int .i64 y]] w fun e w' => e = .returned (.bool (soundV V s x y)) ∧ Below w.heap.size w w' := by
  obtain ⟨l, hl⟩ := Int.eq_ofNat_of_zero_le (show 0 ≤ s.long by have := hs.l1; omega)
  have l1 := hs.l1
  have l2 := hs.l2
  have w1 := hs.w1
  have w2 := hs.w2
  have HD : Hid (soundV V s x y = soundTo V s.wide y x l) := by unfold Hid soundV; rw [hl]; rfl
  have HNO := Lib.hid (fun k (hk : k < l) hh => soundTo_no (V := V) (wide := s.wide) (y := y) (x := x) (k := k) (n := l) hk hh)
  have HSU := Lib.hid (fun k => soundTo_succ V s.wide y x k)
  have n1 := h.n1
  have m1 := h.m1
  have HV := Lib.hid h
  have hsl : (V.sp.length = V.m) := h.hk.len
  have HSL := Lib.hid hsl
  rw [hl] at hx l1 l2
  have HVA := Lib.hid (((Blk.new w 46 #[.slice V.A V.n V.c, .slice V.A' V.n V.c', .slice V.K V.m V.d] rfl).alloc (.cells #[.int .i64 l, .int .i64 s.wide, .int .i64 s.kerf, .int .i64 s.across] 37)).alloc (.cells #[.int .i64 x, .int .i64 y] 39))
  have HSA := Lib.hid ((Blk.new (w.alloc (.cells #[.slice V.A V.n V.c, .slice V.A' V.n V.c', .slice V.K V.m V.d] 46)) 37 #[.int .i64 l, .int .i64 s.wide, .int .i64 s.kerf, .int .i64 s.across] (g := w.heap.size + 1) (by simp)).alloc (.cells #[.int .i64 x, .int .i64 y] 39))
  have HPA := Lib.hid (Blk.new ((w.alloc (.cells #[.slice V.A V.n V.c, .slice V.A' V.n V.c', .slice V.K V.m V.d] 46)).alloc (.cells #[.int .i64 l, .int .i64 s.wide, .int .i64 s.kerf, .int .i64 s.across] 37)) 39 #[.int .i64 x, .int .i64 y] (g := w.heap.size + 1 + 1) (by simp))
  have E0 : Hid (Below w.heap.size w (((w.alloc (.cells #[.slice V.A V.n V.c, .slice V.A' V.n V.c', .slice V.K V.m V.d] 46)).alloc (.cells #[.int .i64 l, .int .i64 s.wide, .int .i64 s.kerf, .int .i64 s.across] 37)).alloc (.cells #[.int .i64 x, .int .i64 y] 39))) := below_alloc' (below_alloc' (below_self _ _) _) _
  unfold Vw.val Sw.val
  rw [hl]
  clear h hs hl hsl
  go_enter Try.func28, Try.ntmps28
  go_wp2_with fail
  generalize ((w.alloc (.cells #[.slice V.A V.n V.c, .slice V.A' V.n V.c', .slice V.K V.m V.d] 46)).alloc (.cells #[.int .i64 l, .int .i64 s.wide, .int .i64 s.kerf, .int .i64 s.across] 37)).alloc (.cells #[.int .i64 x, .int .i64 y] 39) = wa at *
  go_loopw [7] (fun iv wr => ∃ k i : Nat, k ≤ l ∧ i = x + k ∧ iv = .int .i64 i ∧ soundTo V s.wide y x k = true ∧ Below wa.heap.size wa wr) (fun iv _ => x + l - (intOf iv).toNat)
  case atStart => exact ⟨0, x, Nat.zero_le _, rfl, rfl, rfl, Below.refl _ _⟩
  case round =>
    obtain ⟨k, i, hk, hi, rfl, hst, hbel⟩ := hrel
    have Hst := Lib.hid hst
    have Hbel := Lib.hid hbel
    have VA := Lib.hid (blk_keep hbel HVA.out)
    have SA := Lib.hid (blk_keep hbel HSA.out)
    have PA := Lib.hid (blk_keep hbel HPA.out)
    have va := VA.out.cell
    have sa := SA.out.cell
    have pa := PA.out.cell
    have Hi := Lib.hid hi
    clear hst
    by_cases hlt : k < l
    · have hin : i < V.n := by omega
      have hil : (i : Int) < (x : Int) + (l : Int) := by omega
      have hat := HV.out.below (below_then E0.out hbel)
      obtain ⟨b, off, hA, hb, q0⟩ := hat.hb.at_ hin
      obtain ⟨b', off', hA', hb', q1⟩ := hat.ht.at_ hin
      have HCS : Hid (colSound V s.wide y (x + k) = (!decide (y < V.bot.getD i 0) && !decide (V.top.getD i 0 < y + s.wide) && noneOf (spoilV i y s.wide) V.sp)) := by unfold Hid; rw [hi]; rfl
      have HN := Lib.hid (HNO.out k hlt)
      have HS := Lib.hid (HSU.out k)
      rw [hA, hA'] at va
      clear hbel hat hA hA' hi
      generalize V.bot.getD i 0 = bo at *
      generalize V.top.getD i 0 = tp at *
      by_cases c1 : y < bo
      · have HF : Hid (soundV V s x y = false) := by unfold Hid; rw [HD.out]; exact HN.out (by rw [HCS.out]; simp [c1])
        have hc1 : decide (y < bo) = true := by simpa using c1
        go_wp2_with fail
        go_quiet (fail)
        go_wp2
        go_ret
        exact ⟨ret_bool HF.out.symm, below_drewN (below_then E0.out Hbel.out) _⟩
      · have hc1 : decide (y < bo) = false := by simpa using c1
        by_cases c2 : tp < y + s.wide
        · have HF : Hid (soundV V s x y = false) := by unfold Hid; rw [HD.out]; exact HN.out (by rw [HCS.out]; simp [c2])
          have hc2 : decide (tp < y + s.wide) = true := by simpa using c2
          go_wp2_with fail
          go_quiet (fail)
          go_wp2
          go_ret
          exact ⟨ret_bool HF.out.symm, below_drewN (below_then E0.out Hbel.out) _⟩
        · have hc2 : decide (tp < y + s.wide) = false := by simpa using c2
          have HC2 : Hid (colSound V s.wide y (x + k) = noneOf (spoilV i y s.wide) V.sp) := by unfold Hid; rw [HCS.out]; simp [c1, c2]
          go_wp2_with fail
          go_quiet (fail)
          clear va sa pa q0 q1 hc1 hc2 c1 c2 HCS
          have VB : Hid (Blk (wr.drewN nq) w.heap.size 46 #[.slice V.A V.n V.c, .slice V.A' V.n V.c', .slice V.K V.m V.d]) := VA.out
          have SB : Hid (Blk (wr.drewN nq) (w.heap.size + 1) 37 #[.int .i64 l, .int .i64 s.wide, .int .i64 s.kerf, .int .i64 s.across]) := SA.out
          have PB : Hid (Blk (wr.drewN nq) (w.heap.size + 1 + 1) 39 #[.int .i64 x, .int .i64 y]) := PA.out
          have BB := Lib.hid (below_drewN Hbel.out nq)
          clear VA SA PA Hbel
          generalize wr.drewN nq = wq at *
          have vb := VB.out.cell
          have HN1 := Lib.hid (fun j (hj : j < V.m) hh => noneOf_no (p := spoilV i y s.wide) (xs := V.sp) (k := j) Crack.zero (by rw [HSL.out]; exact hj) hh)
          have HN2 := Lib.hid (fun j (hj : j < V.m) => noneOf_succ (p := spoilV i y s.wide) (xs := V.sp) (k := j) Crack.zero (by rw [HSL.out]; exact hj))
          have HT : Hid (V.sp.take V.m = V.sp) := by unfold Hid; rw [List.take_of_length_le (by rw [HSL.out]; exact Nat.le_refl _)]
          go_wp2_with fail
          clear vb
          go_loopw [8] (fun jv wr => ∃ j : Nat, j ≤ V.m ∧ jv = .int .i64 j ∧ noneOf (spoilV i y s.wide) (V.sp.take j) = true ∧ Below wq.heap.size wq wr) (fun jv _ => V.m - (intOf jv).toNat)
          case atStart => exact ⟨0, Nat.zero_le _, rfl, rfl, Below.refl _ _⟩
          case round =>
            obtain ⟨j, hj, rfl, hno, hbel⟩ := hrel
            have Hno := Lib.hid hno
            have Hbel := Lib.hid hbel
            have VC := Lib.hid (blk_keep hbel VB.out)
            have SC := Lib.hid (blk_keep hbel SB.out)
            have PC := Lib.hid (blk_keep hbel PB.out)
            have vc := VC.out.cell
            have sc := SC.out.cell
            have pc := PC.out.cell
            have z1 := VC.out.lt
            have z2 := SC.out.lt
            have z3 := PC.out.lt
            clear hno
            by_cases hjm : j < V.m
            · obtain ⟨kb, ko, hK, hkb, q0, q1, q2, q3, q4, q5⟩ := (HV.out.hk.below (below_then (below_then E0.out BB.out) hbel)).at_ hjm
              have hn1 := Lib.hid (HN1.out j hjm)
              have hn2 := Lib.hid (HN2.out j hjm)
              rw [hK] at vc
              have hK2 := Lib.hid hK
              generalize V.sp.getD j Crack.zero = cr at *
              obtain ⟨cl, ch, fl, fh, tl, th⟩ := cr
              simp only at q0 q1 q2 q3 q4 q5
              have HSP : Hid (spoilV i y s.wide ⟨cl, ch, fl, fh, tl, th⟩ = (inB i cl ch && decide (y < tl) && decide (fl < y + s.wide))) := rfl
              have EB := Lib.hid (below_alloc' Hbel.out (.cells #[.int .i64 cl, .int .i64 ch, .int .i64 fl, .int .i64 fh, .int .i64 tl, .int .i64 th] 111))
              clear hbel hK
              cases p1 : inB i cl ch
              · have hn3 : Hid (noneOf (spoilV i y s.wide) (V.sp.take (j + 1)) = true) := by unfold Hid; rw [hn2.out, Hno.out, HSP.out, p1]; rfl
                have V1 := Lib.hid (In_val p1)
                clear p1
                go_wp2_with fail
                refine (V1.out _).mono ?_
                rintro e w2 ⟨rfl, rfl⟩
                go_wp2
                go_roundw
                case rel => exact ⟨j + 1, by omega, by go_num, hn3.out, EB.out⟩
                case measure => simp [intOf]; omega
              · have V1 := Lib.hid (In_val p1)
                by_cases p2 : y < tl
                · by_cases p3 : fl < y + s.wide
                  · have HF : Hid (soundV V s x y = false) := by
                      unfold Hid; rw [HD.out]
                      exact HN.out (by rw [HC2.out]; exact hn1.out (by rw [HSP.out, p1]; simp [p2, p3]))
                    clear p1
                    go_wp2_with fail
                    refine (V1.out _).mono ?_
                    rintro e w2 ⟨rfl, rfl⟩
                    go_wp2
                    go_ret
                    exact ⟨ret_bool HF.out.symm, below_then (below_then E0.out BB.out) EB.out⟩
                  · have hn3 : Hid (noneOf (spoilV i y s.wide) (V.sp.take (j + 1)) = true) := by unfold Hid; rw [hn2.out, Hno.out, HSP.out, p1]; simp [p3]
                    clear p1
                    go_wp2_with fail
                    refine (V1.out _).mono ?_
                    rintro e w2 ⟨rfl, rfl⟩
                    go_wp2
                    go_roundw
                    case rel => exact ⟨j + 1, by omega, by go_num, hn3.out, EB.out⟩
                    case measure => simp [intOf]; omega
                · have hn3 : Hid (noneOf (spoilV i y s.wide) (V.sp.take (j + 1)) = true) := by unfold Hid; rw [hn2.out, Hno.out, HSP.out, p1]; simp [p2]
                  clear p1
                  go_wp2_with fail
                  refine (V1.out _).mono ?_
                  rintro e w2 ⟨rfl, rfl⟩
                  go_wp2
                  go_roundw
                  case rel => exact ⟨j + 1, by omega, by go_num, hn3.out, EB.out⟩
                  case measure => simp [intOf]; omega
            · obtain rfl : j = V.m := by omega
              have HS2 : Hid (soundTo V s.wide y x (k + 1) = true) := by unfold Hid; rw [HS.out, Hst.out, HC2.out]; rw [HT.out] at Hno; rw [Hno.out]; rfl
              have HBE := Lib.hid (below_then BB.out hbel)
              clear hbel
              go_wp2
              go_roundw
              case rel => exact ⟨k + 1, i + 1, by omega, by have := Hi.out; omega, by go_num, HS2.out, HBE.out⟩
              case measure => have := Hi.out; simp [intOf]; omega
    · obtain rfl : k = l := by omega
      have hil : ¬ ((i : Int) < (x : Int) + (k : Int)) := by omega
      have HF : Hid (soundV V s x y = true) := by unfold Hid; rw [HD.out]; exact Hst.out
      have HB := Lib.hid (below_then E0.out hbel)
      clear hbel hi
      go_wp2
      go_ret
      exact ⟨ret_bool HF.out.symm, HB.out⟩
end Go.Proofs.Ytiflhimmieflpaa
