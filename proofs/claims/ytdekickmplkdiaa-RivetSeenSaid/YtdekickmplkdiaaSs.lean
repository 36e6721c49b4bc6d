/- Walks: the reference's Copy, with its capacity; the law of Sticks. -/
import Derived.Test.YtdekickmplkdiaaSr
import Derived.Test.YtdekickmplkdiaaSq
namespace Go.Proofs.Ytdekickmplkdiaa
open Go.RowKit

theorem run_append_copyC {P : Program} (w : World) (t ty : TypeId) (i : TypeInfo) (z : Value) (bytes : Nat) (ht : P.underlying t = some (.slice 42)) (hi : P.info? 42 = some i) (hz : i.zero = some z) (hs : i.size = 4) (hby : i.bytes = bytes) (hzs : z.cells.size = 4)
    (g : Nat) (A : Option Addr) (n c : Nat) (xs : List Gap) (hr : Gaps w A n xs) (hn : n ≤ maxLen) (hb : n * bytes ≤ 140737488355328) :
    ∃ A' c' w', (Builtin.append_ #[t, t] ty #[.slice (some ⟨g, 0, none⟩) 0 0, .slice A n c]).run P w = .ok (.slice A' n c') w' ∧ (OwnG w.heap.size w' A' n xs ∧ n ≤ c') ∧ Below w.heap.size w w' := by
  rcases Nat.eq_zero_or_pos n with rfl | hpos
  · have hx : xs = [] := List.eq_nil_of_length_eq_zero hr.len
    subst hx
    refine ⟨some ⟨g, 0, none⟩, 0, w, ?_, ⟨⟨⟨by simp [flatG], fun h => absurd h (by omega)⟩, fun h => absurd h (by omega)⟩, Nat.zero_le _⟩, Below.refl _ _⟩
    cases A with
    | none => simp [Builtin.append_, run_underlying ht, sizeOf, typeInfo, hi, Builtin.lenOf, Builtin.firstCells, storeCells]
    | some ad => simp [Builtin.append_, run_underlying ht, sizeOf, typeInfo, hi, Builtin.lenOf, Builtin.firstCells, storeCells, loadCells, loadCellsFrom]
  · obtain ⟨b, o, rfl, hlt, hc⟩ := hr.2 hpos
    obtain ⟨v', w', hrun, hown, hgr⟩ := run_append_arg_grows (P := P) w t ty 42 i z 4 bytes ht hi hz hs hby hzs (by decide) ⟨g, 0, none⟩ 0 0 [] (by simp) (by simp) ⟨b, o, none⟩ n c (flatG xs) hr.1 (fun j u hu => by rw [addr_add]; exact hc j u hu) (by omega) (by omega) (by rw [Nat.zero_add]; exact hb)
    simp only [Nat.zero_add, List.nil_append] at hown
    obtain ⟨g', c', rfl⟩ := own_form hown hpos
    have hcap := (own_cap hown).1
    obtain ⟨A2, c2, e, ho⟩ := ownG_of hown
    simp only [Value.slice.injEq, true_and] at e
    obtain ⟨rfl, rfl⟩ := e
    exact ⟨_, _, w', hrun, ⟨ho, hcap⟩, grown_none hgr⟩
theorem step_append_copyC {P : Program} {ops : Array Oper} {o : Oper} {a : Act} {w : World} {K : Act → World → Prop} {Q : Exit → Act → World → Prop} {E : Prop}
    (hg : o.guard = none) (s x : Operand) (t : TypeId) (hop : o.op = Op.call { callee := Callee.builtin Builtin.append, args := #[s, x], argTypes := #[t, t] })
    (i : TypeInfo) (z : Value) (bytes : Nat) (ht : P.underlying t = some (.slice 42)) (hi : P.info? 42 = some i) (hz : i.zero = some z) (hsz : i.size = 4) (hby : i.bytes = bytes) (hzs : z.cells.size = 4)
    (g : Nat) (hs : a.eval s = .slice (some ⟨g, 0, none⟩) 0 0) (A : Option Addr) (n c : Nat) (hx : a.eval x = .slice A n c) (xs : List Gap) (hr : Gaps w A n xs) (hn : n ≤ maxLen) (hb : n * bytes ≤ 140737488355328)
    (hK : ∀ A' c' w', OwnG w.heap.size w' A' n xs ∧ n ≤ c' → Below w.heap.size w w' → K (a.put o.dst (.slice A' n c')) w') :
    if Region.wanted o (yielded ops a.tmps) = true then Oper.wp P o a w K Q else E := by
  have hw : Region.wanted o (yielded ops a.tmps) = true := by simp [Region.wanted, hg]
  rw [if_pos hw]
  obtain ⟨A', c', w', hrun, h1, h2⟩ := run_append_copyC (P := P) w t o.type i z bytes ht hi hz hsz hby hzs g A n c xs hr hn hb
  unfold Oper.wp
  simp [execOp, hop, resolve, invoke, builtin, hs, hx, hrun, Result.andThen]
  exact hK A' c' w' h1 h2
def CapRes (w : World) (f : Fan) (n : Nat) (e : Ending) (w' : World) : Prop := ∃ A c, e = .returned (.agg (fanA f A n c)) ∧ OwnG w.heap.size w' A n f.gs ∧ n ≤ c ∧ Below w.heap.size w w'
theorem copy_endC {w W : World} {f : Fan} {n : Nat} {a1 : Option Addr} {a2 : Nat} {c1 c2 : Array Value} {t1 t2 : TypeId} (h : Env2 w W t1 t2 c1 c2) (qa : OwnG (w.heap.size + 1 + 1) W a1 n f.gs) (qc : n ≤ a2) :
    CapRes w f n (.returned (.agg (fanA f a1 n a2))) (((((W.setCell ⟨w.heap.size + 1, 0, none⟩ (.int .i64 f.a)).setCell ⟨w.heap.size + 1, 1, none⟩ (.int .i64 f.b)).setCell ⟨w.heap.size + 1, 2, none⟩ (.int .i64 f.c)).setCell ⟨w.heap.size + 1, 3, none⟩ (.int .i64 f.d)).setCell ⟨w.heap.size + 1, 4, none⟩ (.slice a1 n a2)) :=
  ⟨a1, a2, rfl, (qa.set5 (Nat.lt_succ_self _) _ _ _ _ _).less (by omega), qc,
    ((((h.bel.setCell (p := ⟨w.heap.size + 1, 0, none⟩) (by simp) _).setCell (p := ⟨w.heap.size + 1, 1, none⟩) (by simp) _).setCell (p := ⟨w.heap.size + 1, 2, none⟩) (by simp) _).setCell (p := ⟨w.heap.size + 1, 3, none⟩) (by simp) _).setCell (p := ⟨w.heap.size + 1, 4, none⟩) (by simp) _⟩
section
attribute [local go_sem ↓] Go.wp_at_zero Go.wp_at_succ
set_option maxRecDepth 100000 in
set_option maxHeartbeats 8000000 in
theorem RefCopy_cap (f : Fan) (A : Option Addr) (n c : Nat) (w : World) (h : Gaps w A n f.gs) (hn : n ≤ 1000) :
    Calls Try.prog 18 #[.agg (fanA f A n c)] w (CapRes w f n) := by
  obtain ⟨i0, hi, hz0, hz1, hz2⟩ := info_parts Try.infoGap
  have HW := Lib.hid (Env2.start w 26 26 (fanA f A n c) #[.int .i64 0, .int .i64 0, .int .i64 0, .int .i64 0, .slice none 0 0]).drewd
  have HG := Lib.hid h
  have HE := Lib.hid (fun (W : World) (a1 : Option Addr) (a2 : Nat) (c1 c2 : Array Value) (hE : Env2 w W 26 26 c1 c2) hq => copy_endC (f := f) (n := n) (a1 := a1) (a2 := a2) hE hq)
  clear h
  generalize CapRes w f n = RR at *
  obtain ⟨fa, fb, fc, fd, gs⟩ := f
  simp only [fanA] at *
  go_enter Try.func18, Try.ntmps18
  go_wp2_with fail
  go_region_held3 (fun W => W.cell? ⟨w.heap.size, 0, none⟩ = some (.int .i64 fa) ∧ W.cell? ⟨w.heap.size, 1, none⟩ = some (.int .i64 fb) ∧ W.cell? ⟨w.heap.size, 2, none⟩ = some (.int .i64 fc) ∧ W.cell? ⟨w.heap.size, 3, none⟩ = some (.int .i64 fd) ∧ W.cell? ⟨w.heap.size, 4, none⟩ = some (.slice A n c))
    (first | with_reducible exact fan_set HW.out _ _ _ _ _ | exact fan_get HW.out.p | exact fan_get (HW.out.alloc _).p)
    (first
    | (refine step_append_copyC rfl (.tmp 7) (.tmp 9) 24 rfl i0 _ 32 Try.underlying24 hi hz0 hz1 hz2 rfl _ (by rfl) A n c (by rfl) _ (by first | exact HG.out.below HW.out.bel | exact HG.out.below (HW.out.alloc _).bel) (by have := hn; unfold maxLen; omega) (by have := hn; omega) ?_; intro a1 a2 x1 h1 h2; have E1 := Lib.hid (Env2.below (by first | exact HW.out | exact (HW.out.alloc _)) h2); have Qa := Lib.hid (OwnG.less h1.1 (by first | exact HW.out.q.lt | exact (HW.out.alloc _).q.lt)); have Qc := Lib.hid h1.2; clear HW h1 h2; have HW := E1; clear E1; obtain ⟨⟨z0, z1, z2, z3, z4⟩, f0, f1, f2, f3, f4⟩ := fan_row HW.out))
  all_goals
    clear z0 z1 z2 z3 z4 f0 f1 f2 f3 f4
    go_wp2
    exact bodyPost_ret (results_c rfl _ _ _ _ _ _ _ rfl (((((HW.out.q.set_ 0 _).set_ 1 _).set_ 2 _).set_ 3 _).set_ 4 _) Try.underlying26 (by kernel_rfl)) rfl (HE.out _ _ _ _ _ HW.out Qa.out Qc.out)
end
set_option maxRecDepth 100000 in
set_option maxHeartbeats 4000000 in
theorem RivetSticks_any (f : Fan) (A : Option Addr) (n c : Nat) (d : Int) (w : World) (h : Gaps w A n f.gs) (hn : n ≤ maxLen) :
    Calls Try.prog 8 #[.agg (fanA f A n c), .int .i64 d] w fun e w' => e = .returned (.bool true) ∧ Below w.heap.size w w' := by
  have L0 := Lib.hid (LA.start w f A n c)
  have HK := Lib.hid (fun W => known_any W)
  unfold KnownRes at HK
  have HN := Lib.hid hn
  have hn2 := hn
  unfold maxLen at hn2
  have hl := h.len
  by_cases h50 : 50 < n
  · clear h hn HN hl
    obtain ⟨fa, fb, fc, fd, gs⟩ := f
    simp only [fanA] at *
    go_enter Try.func8, Try.ntmps8
    go_wp2_with fail
    refine (HK.out _).mono ?_
    rintro e w1 ⟨rfl, b1⟩
    go_wp2
    go_ret
    exact ⟨rfl, below_then L0.out.bel b1⟩
  have HC := Lib.hid (fun W (hb : Below w.heap.size w W) => RefCopy_cap f A n c W (h.below hb) (by omega))
  unfold CapRes at HC
  have H2 := Lib.hid (fun A' c' W (hG : Gaps W A' n f.gs) (hc : n ≤ c') => Sticks_any f d A' n c' W hG hc HN.out)
  have H3 := Lib.hid (fun W (hb : Below w.heap.size w W) => RefCheck_any f A n c W (h.below hb) HN.out)
  have H4 := Lib.hid (fun A' c' W (hG : Gaps W A' n f.gs) (hb : Below w.heap.size w W) => RefSame_any f A' A n c' c W hG (h.below hb) HN.out)
  have H6 := Lib.hid (fun W => degree_any d W)
  have H5 := Lib.hid (fun (hE : fanErr f = 0) (h0 : 0 < n) W (hb : Below w.heap.size w W) => RefSticks_any f d A n c W (h.below hb) hE h0)
  have HR : Hid (stickR f d = if fanErr f = 0 then (if inB d 0 360 = true then (if n = 0 then (0, 7) else if 40 < stickL f d then (0, 7) else ((stickL f d : Int) + 1, 0)) else (0, 4)) else (0, fanErr f)) := by
    unfold Hid stickR; rw [within_inB', hl]
  clear h hn HN hl
  generalize stickR f d = t at *
  generalize fanErr f = r at *
  generalize stickL f d = pl at *
  generalize inB d 0 360 = ib at *
  obtain ⟨t1, t3⟩ := t
  obtain ⟨fa, fb, fc, fd, gs⟩ := f
  simp only [fanA] at HC H2 H3 H4 H5 ⊢
  have p0 := fan_get L0.out.b
  go_enter Try.func8, Try.ntmps8
  go_wp2_with fail
  refine (HC.out _ L0.out.bel).mono ?_
  rintro e w1 ⟨A', c', rfl, hG, hcc, b1⟩
  have CC := Lib.hid hcc
  clear hcc
  have L1 := Lib.hid (L0.out.below b1)
  have G1 := Lib.hid hG.1
  have S1 := Lib.hid (Blk.new w1 26 #[.int .i64 0, .int .i64 0, .int .i64 0, .int .i64 0, .slice none 0 0] (g := w1.heap.size) rfl)
  clear b1 hG p0 L0 HC
  go_wp2_with (refine wpList_store_row rfl 26 _ _ rfl w1.heap.size _ rfl rfl 26 _ S1.out (by kernel_rfl) rfl (by kernel_rfl) ?_; have L2 := Lib.hid (LB.start (c' := c') L1.out G1.out #[.int .i64 0, .int .i64 0, .int .i64 0, .int .i64 0, .slice none 0 0]); simp only [fanA] at L2; have p2 := fan_get L2.out.b; clear L1 G1 S1)
  refine (H2.out _ _ _ L2.out.r CC.out).mono ?_
  rintro e w4 ⟨rfl, b4⟩
  have L4 := Lib.hid (L2.out.below b4)
  have p4 := fan_get L4.out.a.b
  have q4 := fan_get L4.out.b
  clear b4 p2 L2 H2
  generalize w1.heap.size = g at *
  go_wp2_with fail
  refine (H4.out _ _ _ L4.out.r L4.out.a.bel).mono ?_
  rintro e w6 ⟨rfl, b6⟩
  have L6 := Lib.hid (L4.out.below b6)
  have p6 := fan_get L6.out.a.b
  clear b6 p4 q4 L4 H4
  go_wp2_with fail
  refine (H3.out _ L6.out.a.bel).mono ?_
  rintro e w7 ⟨rfl, b7⟩
  have L7 := Lib.hid (L6.out.below b7)
  have p7 := fan_get L7.out.a.b
  clear b7 p6 L6 H3
  by_cases hE : r = 0
  · subst hE
    have HR1 : Hid ((t1, t3) = if ib = true then (if n = 0 then (0, 7) else if 40 < pl then (0, 7) else ((pl : Int) + 1, 0)) else (0, 4)) := by unfold Hid; rw [HR.out, if_pos rfl]
    clear HR
    cases ib
    · have hR := HR1.out
      rw [if_neg (by simp)] at hR
      simp only [Prod.mk.injEq] at hR
      obtain ⟨rfl, rfl⟩ := hR
      clear HR1 H5
      go_wp2_with fail
      refine (H6.out _).mono ?_
      rintro e w8 ⟨rfl, rfl⟩
      go_wp2_with fail
      refine (HK.out _).mono ?_
      rintro e w9 ⟨rfl, b9⟩
      go_wp2
      go_ret
      exact ⟨rfl, below_then L7.out.a.bel b9⟩
    · have hR := HR1.out
      rw [if_pos rfl] at hR
      clear HR1
      by_cases hz0 : n = 0
      · rw [if_pos hz0] at hR
        simp only [Prod.mk.injEq] at hR
        obtain ⟨rfl, rfl⟩ := hR
        subst hz0
        clear H5
        go_wp2_with fail
        refine (H6.out _).mono ?_
        rintro e w8 ⟨rfl, rfl⟩
        go_wp2_with fail
        refine (HK.out _).mono ?_
        rintro e w9 ⟨rfl, b9⟩
        go_wp2
        go_ret
        exact ⟨rfl, below_then L7.out.a.bel b9⟩
      · rw [if_neg hz0] at hR
        have H7 := Lib.hid (fun W hb => H5.out (by first | rfl | trivial) (by omega) W hb)
        have hz1 : (0 : Int) < (n : Int) := by omega
        clear H5
        by_cases hz : 40 < pl
        · rw [if_pos hz] at hR H7
          simp only [Prod.mk.injEq] at hR
          obtain ⟨rfl, rfl⟩ := hR
          go_wp2_with fail
          refine (H6.out _).mono ?_
          rintro e w8 ⟨rfl, rfl⟩
          go_wp2_with fail
          refine (H7.out _ L7.out.a.bel).mono ?_
          rintro e w8 ⟨rfl, b8⟩
          have L8 := Lib.hid (L7.out.below b8)
          clear b8 L7 p7 H7
          go_wp2_with fail
          refine (HK.out _).mono ?_
          rintro e w9 ⟨rfl, b9⟩
          go_wp2
          go_ret
          exact ⟨rfl, below_then L8.out.a.bel b9⟩
        · rw [if_neg hz] at hR H7
          simp only [Prod.mk.injEq] at hR
          obtain ⟨rfl, rfl⟩ := hR
          have hx1 : (((pl : Int) + 1) == ((pl : Int) + 1)) = true := by simp
          have hx2 : (0 : Int) < (pl : Int) + 1 := by omega
          go_wp2_with fail
          refine (H6.out _).mono ?_
          rintro e w8 ⟨rfl, rfl⟩
          go_wp2_with fail
          refine (H7.out _ L7.out.a.bel).mono ?_
          rintro e w8 ⟨rfl, b8⟩
          have L8 := Lib.hid (L7.out.below b8)
          clear b8 L7 p7 H7
          go_wp2_with fail
          refine (HK.out _).mono ?_
          rintro e w9 ⟨rfl, b9⟩
          go_wp2
          go_ret
          exact ⟨rfl, below_then L8.out.a.bel b9⟩
  · have hR := HR.out
    rw [if_neg hE] at hR
    simp only [Prod.mk.injEq] at hR
    obtain ⟨rfl, rfl⟩ := hR
    clear HR H5 H6
    have hr0 : (t3 == 0) = false := by simpa using hE
    have hr1 : (t3 != 0) = true := by simpa using hE
    have hr3 : (t3 == t3) = true := by simp
    go_wp2_with fail
    refine (HK.out _).mono ?_
    rintro e w9 ⟨rfl, b9⟩
    go_wp2
    go_ret
    exact ⟨rfl, below_then L7.out.a.bel b9⟩
end Go.Proofs.Ytdekickmplkdiaa
