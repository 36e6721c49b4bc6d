/- Walks: the law's own; the law Closes. -/
import Derived.Test.YtdekickmplkdiaaUd
import Derived.Test.YtdekickmplkdiaaKh
namespace Go.Proofs.Ytdekickmplkdiaa
open Go.RowKit

theorem wpList_append_copy {P : Program} {ops : Array Oper} {rest : List Oper} {o : Oper} {a : Act} {w : World} {Q : Exit → Act → World → Prop} (hgd : o.guard = none) (s x : Operand) (t : TypeId)
    (ho : o.op = .call { callee := .builtin .append, args := #[s, x], argTypes := #[t, t] })
    (e : TypeId) (i : TypeInfo) (z : Value) (size bytes : Nat) (ht : P.underlying t = some (.slice e)) (hi : P.info? e = some i) (hz : i.zero = some z) (hsz : i.size = size) (hby : i.bytes = bytes) (hzs : z.cells.size = size) (h0 : 0 < size)
    (g : Nat) (hs : a.eval s = .slice (some ⟨g, 0, none⟩) 0 0) (A : Option Addr) (n c : Nat) (hx : a.eval x = .slice A n c) (xs : List Value) (hr : Reads w size A n xs) (hn : n ≤ maxLen) (hb : n * bytes ≤ 140737488355328)
    (h : ∀ A' c' w', NR w.heap.size w' size A' n xs → Below w.heap.size w w' → wpList P ops Q rest (a.put o.dst (.slice A' n c')) w') : wpList P ops Q (o :: rest) a w := by
  refine wpList_plain hgd fun K hK => ?_
  obtain ⟨A', c', w', hrun, h1, h2⟩ := run_append_copy (P := P) w t o.type e i z size bytes ht hi hz hsz hby hzs h0 g A n c xs hr hn hb
  unfold Oper.wp
  simp [execOp, ho, resolve, invoke, builtin, hs, hx, hrun, Result.andThen]
  exact hK _ _ (h A' c' w' h1 h2)
def OwnSRes (w : World) (l : List Stk) (n : Nat) (e : Ending) (w' : World) : Prop := ∃ A c, e = .returned (.slice A n c) ∧ Stks w' A n l ∧ Below w.heap.size w w'
set_option maxRecDepth 100000 in
set_option maxHeartbeats 1000000 in
theorem LawOwn_any (l : List Stk) (A : Option Addr) (n c : Nat) (w : World) (h : Stks w A n l) (hn : n ≤ 1000) :
    Calls Try.prog 39 #[.slice A n c] w (OwnSRes w l n) := by
  obtain ⟨i0, hi, hz0, hz1, hz2⟩ := info_parts Try.infoStk
  have B0 := Lib.hid (below_self w (.cells #[] 106))
  have HG := Lib.hid (h.below B0.out)
  clear h
  go_enter Try.func39, Try.ntmps39
  go_wp2_with (at_builtin; refine wpList_append_copy rfl _ _ 64 rfl 106 i0 _ 5 40 Try.underlying64 hi hz0 hz1 hz2 rfl (by decide) _ (by rfl) A n c (by rfl) _ HG.out (by unfold maxLen; omega) (by omega) ?_; intro A' c' w2 hR hb; have R2 := Lib.hid hR; have B2 := Lib.hid (below_then B0.out hb); clear hR hb)
  go_ret
  exact ⟨A', c', rfl, R2.out.r, B2.out⟩

/-- Two boxes that are filled at once. -/
structure T2 (W0 W : World) (t : TypeId) (c1 c2 : Array Value) : Prop where
  p : Blk W W0.heap.size t c1
  q : Blk W (W0.heap.size + 1) t c2
  bel : Below W0.heap.size W0 W
theorem T2.below {W0 W W' : World} {t : TypeId} {c1 c2 : Array Value} (h : T2 W0 W t c1 c2) (hb : Below W.heap.size W W') : T2 W0 W' t c1 c2 := ⟨blk_keep hb h.p, blk_keep hb h.q, below_then h.bel hb⟩
theorem T2.one (W0 : World) (t : TypeId) (z1 z2 c1 : Array Value) : T2 W0 (((W0.alloc (.cells z1 t)).alloc (.cells z2 t)).setRow W0.heap.size c1) t c1 z2 :=
  ⟨((Blk.new W0 t z1 rfl).alloc _).setRow _, (Blk.new _ t z2 (by simp)).setRow_far (Nat.succ_ne_self _) _, below_setR (below_alloc' (below_self W0 _) _) (Nat.le_refl _) _⟩
theorem T2.two {W0 W : World} {t : TypeId} {c1 z2 : Array Value} (h : T2 W0 W t c1 z2) (c2 : Array Value) : T2 W0 (W.setRow (W0.heap.size + 1) c2) t c1 c2 :=
  ⟨h.p.setRow_far (Nat.succ_ne_self _).symm _, h.q.setRow _, below_setR h.bel (Nat.le_succ _) _⟩
theorem span_valid (x y : Int) : validS 0 5000 [(x, y)] = spanB (x, y) 0 5000 := by
  rw [Bool.eq_iff_iff]
  simp only [spanB, inB, validS, List.all_cons, List.all_nil, Bool.and_eq_true, decide_eq_true_eq, Bool.and_true]
  omega
/-- What the law Closes holds. -/
structure LZ (w W : World) (x y : Int) (l : List Stk) (A' : Option Addr) (n g : Nat) (c1 c2 : Array Value) : Prop where
  b : Blk W w.heap.size 23 #[.int .i64 x, .int .i64 y]
  i : Stks W A' n l
  p : Blk W g 23 c1
  q : Blk W (g + 1) 23 c2
  bel : Below w.heap.size w W
theorem LZ.below {w W W' : World} {x y : Int} {l : List Stk} {A' : Option Addr} {n g : Nat} {c1 c2 : Array Value} (h : LZ w W x y l A' n g c1 c2) (hb : Below W.heap.size W W') : LZ w W' x y l A' n g c1 c2 :=
  ⟨blk_keep hb h.b, h.i.below hb, blk_keep hb h.p, blk_keep hb h.q, below_then h.bel hb⟩
theorem LZ.get {w W : World} {x y : Int} {l : List Stk} {A' : Option Addr} {n g : Nat} {a1 a2 a3 a4 : Value} (h : LZ w W x y l A' n g #[a1, a2] #[a3, a4]) : W.cell? ⟨w.heap.size, 0, none⟩ = some (.int .i64 x) ∧ W.cell? ⟨w.heap.size, 1, none⟩ = some (.int .i64 y) ∧ W.cell? ⟨g, 0, none⟩ = some a1 ∧ W.cell? ⟨g, 1, none⟩ = some a2 ∧ W.cell? ⟨g + 1, 0, none⟩ = some a3 ∧ W.cell? ⟨g + 1, 1, none⟩ = some a4 :=
  ⟨h.b.cell 0, h.b.cell 1, h.p.cell 0, h.p.cell 1, h.q.cell 0, h.q.cell 1⟩

set_option maxRecDepth 100000 in
set_option maxHeartbeats 4000000 in
theorem RivetCloses_any (l : List Stk) (x y : Int) (A : Option Addr) (n c : Nat) (w : World) (h : Stks w A n l) (hn : n ≤ maxLen) :
    Calls Try.prog 10 #[.slice A n c, .agg #[.int .i64 x, .int .i64 y]] w fun e w' => e = .returned (.bool true) ∧ Below w.heap.size w w' := by
  have B0 := Lib.hid (below_self w (.cells #[.int .i64 x, .int .i64 y] 23))
  have R0 := Lib.hid (Blk.new w 23 #[.int .i64 x, .int .i64 y] (g := w.heap.size) rfl)
  have HK := Lib.hid (fun W => known_any W)
  unfold KnownRes at HK
  have HN := Lib.hid hn
  have hn2 := hn
  unfold maxLen at hn2
  by_cases h50 : 20 < n
  · clear h hn HN R0
    go_enter Try.func10, Try.ntmps10
    go_wp2_with fail
    refine (HK.out _).mono ?_
    rintro e w1 ⟨rfl, b1⟩
    go_wp2
    go_ret
    exact ⟨rfl, below_then B0.out b1⟩
  have HC := Lib.hid (fun W (hb : Below w.heap.size w W) => LawOwn_any l A n c W (h.below hb) (by omega))
  unfold OwnSRes at HC
  have H1 := Lib.hid (fun A' c' W (hG : Stks W A' n l) => Closed_any l A' n c' W hG HN.out)
  have H2 := Lib.hid (fun A' c' W (hG : Stks W A' n l) => Holds_any l x y A' n c' W hG HN.out)
  have H3 := Lib.hid (fun W (hb : Below w.heap.size w W) => RefClosed_any l A n c W (h.below hb) HN.out)
  have H4 := Lib.hid (fun A' c' W (hG : Stks W A' n l) (hb : Below w.heap.size w W) => RefEqual_any l A' A n c' c W hG (h.below hb) HN.out)
  have H6 := Lib.hid (fun W => RefSpan_any x y 0 5000 W)
  by_cases hE : stkErr l = 0
  · have hs := stkB_of hE
    have H5 := Lib.hid (fun W (hb : Below w.heap.size w W) => RefSums_any l A n c W hs (h.below hb))
    have HO : Hid (∀ z, closeE l z = z) := fun z => if_pos hE
    have HO2 : Hid (∀ b, holdsB l (x, y) b = if spanB (x, y) 0 5000 = true then b else false) := fun b => by
      unfold holdsB holdsE; rw [if_pos hE, span_valid]; cases spanB (x, y) 0 5000 <;> rfl
    have HO3 : Hid (holdsE l (x, y) = if spanB (x, y) 0 5000 = true then 0 else 4) := by unfold Hid holdsE; rw [if_pos hE, span_valid]
    simp only [HO.out, hE] at H1 H3
    simp only [HO2.out, HO3.out] at H2
    clear h hn HN hE HO HO2 HO3 hs
    generalize sumLo false l = a1 at *
    generalize sumHi false l = a2 at *
    generalize sumLo true l = a3 at *
    generalize sumHi true l = a4 at *
    have z1 : (a1 == a1) = true := by simp
    have z2 : (a2 == a2) = true := by simp
    have z3 : (a3 == a3) = true := by simp
    have z4 : (a4 == a4) = true := by simp
    cases q : spanB (x, y) 0 5000
    · simp only [q, Bool.false_eq_true, if_false] at H2 H6
      clear q
      go_enter Try.func10, Try.ntmps10
      go_wp2_with fail
      refine (HC.out _ B0.out).mono ?_
      rintro e w1 ⟨A', c', rfl, hG, b1⟩
      have B1 := Lib.hid (below_then B0.out b1)
      have R1 := Lib.hid (blk_keep b1 R0.out)
      have G1 := Lib.hid hG
      clear hG b1
      go_wp2_with fail
      refine (H1.out _ _ _ G1.out).mono ?_
      rintro e w2 ⟨rfl, b2⟩
      have B2 := Lib.hid (below_then B1.out b2)
      have R2 := Lib.hid (blk_keep b2 R1.out)
      have G2 := Lib.hid (G1.out.below b2)
      have P2 := Lib.hid (Blk.new w2 23 #[.int .i64 0, .int .i64 0] (g := w2.heap.size) rfl |>.alloc (.cells #[.int .i64 0, .int .i64 0] 23))
      have T3 := Lib.hid (T2.one w2 23 #[.int .i64 0, .int .i64 0] #[.int .i64 0, .int .i64 0] #[.int .i64 a1, .int .i64 a2])
      have T4 := Lib.hid (T3.out.two #[.int .i64 a3, .int .i64 a4])
      have L4 : Hid (LZ w _ x y l A' n w2.heap.size _ _) := Lib.hid ⟨blk_keep T4.out.bel R2.out, G2.out.below T4.out.bel, T4.out.p, T4.out.q, below_then B2.out T4.out.bel⟩
      clear b2 R1 G1 B1
      go_wp2_with (first | (refine wpList_store_row rfl 23 _ _ rfl w2.heap.size _ rfl rfl 23 _ P2.out (by kernel_rfl) rfl (by kernel_rfl) ?_) | (refine wpList_store_row rfl 23 _ _ rfl (w2.heap.size + 1) _ rfl rfl 23 _ T3.out.q (by kernel_rfl) rfl (by kernel_rfl) ?_; have p4 := L4.out.get))
      refine (H2.out _ _ _ L4.out.i).mono ?_
      rintro e w5 ⟨rfl, b5⟩
      have L5 := Lib.hid (L4.out.below b5)
      generalize w2.heap.size = g at *
      clear b5 p4 P2 T3 T4 L4 B2 R2 G2
      go_wp2_with fail
      refine (H3.out _ L5.out.bel).mono ?_
      rintro e w6 ⟨rfl, b6⟩
      have L6 := Lib.hid (L5.out.below b6)
      clear b6 L5
      go_wp2_with fail
      refine (H4.out _ _ _ L6.out.i L6.out.bel).mono ?_
      rintro e w7 ⟨rfl, b7⟩
      have L7 := Lib.hid (L6.out.below b7)
      have p7 := L7.out.get
      clear b7 L6
      go_wp2_with fail
      refine (H5.out _ L7.out.bel).mono ?_
      rintro e w8 ⟨rfl, b8⟩
      have L8 := Lib.hid (L7.out.below b8)
      have P8 := Lib.hid (Blk.new w8 23 #[.int .i64 0, .int .i64 0] (g := w8.heap.size) rfl |>.alloc (.cells #[.int .i64 0, .int .i64 0] 23))
      have T8 := Lib.hid (T2.one w8 23 #[.int .i64 0, .int .i64 0] #[.int .i64 0, .int .i64 0] #[.int .i64 a1, .int .i64 a2])
      have T9 := Lib.hid (T8.out.two #[.int .i64 a3, .int .i64 a4])
      have L9 := Lib.hid (L8.out.below T9.out.bel)
      clear b8 p7 L7
      go_wp2_with (first | (refine wpList_store_row rfl 23 _ _ rfl w8.heap.size _ rfl rfl 23 _ P8.out (by kernel_rfl) rfl (by kernel_rfl) ?_) | (refine wpList_store_row rfl 23 _ _ rfl (w8.heap.size + 1) _ rfl rfl 23 _ T8.out.q (by kernel_rfl) rfl (by kernel_rfl) ?_; have p9 := L9.out.get; have q9 := pair_get T9.out.p; have r9 := pair_get T9.out.q))
      refine (H6.out _).mono ?_
      rintro e w10 ⟨rfl, b10⟩
      have L10 := Lib.hid (L9.out.below b10)
      have T10 := Lib.hid (T9.out.below b10)
      have p10 := L10.out.get
      have q10 := pair_get T10.out.q
      clear b10 p9 q9 r9 P8 T8 T9 L9 L8
      go_wp2_with fail
      refine (HK.out _).mono ?_
      rintro e w9 ⟨rfl, b9⟩
      go_wp2
      go_ret
      exact ⟨rfl, below_then L10.out.bel b9⟩
    · simp only [q, if_true] at H2 H6
      clear q
      have z5 : (decide (a4 ≤ x) == decide (a4 ≤ x)) = true := by simp
      have z6 : (decide (a3 ≤ y) == decide (a3 ≤ y)) = true := by simp
      go_enter Try.func10, Try.ntmps10
      go_wp2_with fail
      refine (HC.out _ B0.out).mono ?_
      rintro e w1 ⟨A', c', rfl, hG, b1⟩
      have B1 := Lib.hid (below_then B0.out b1)
      have R1 := Lib.hid (blk_keep b1 R0.out)
      have G1 := Lib.hid hG
      clear hG b1
      go_wp2_with fail
      refine (H1.out _ _ _ G1.out).mono ?_
      rintro e w2 ⟨rfl, b2⟩
      have B2 := Lib.hid (below_then B1.out b2)
      have R2 := Lib.hid (blk_keep b2 R1.out)
      have G2 := Lib.hid (G1.out.below b2)
      have P2 := Lib.hid (Blk.new w2 23 #[.int .i64 0, .int .i64 0] (g := w2.heap.size) rfl |>.alloc (.cells #[.int .i64 0, .int .i64 0] 23))
      have T3 := Lib.hid (T2.one w2 23 #[.int .i64 0, .int .i64 0] #[.int .i64 0, .int .i64 0] #[.int .i64 a1, .int .i64 a2])
      have T4 := Lib.hid (T3.out.two #[.int .i64 a3, .int .i64 a4])
      have L4 : Hid (LZ w _ x y l A' n w2.heap.size _ _) := Lib.hid ⟨blk_keep T4.out.bel R2.out, G2.out.below T4.out.bel, T4.out.p, T4.out.q, below_then B2.out T4.out.bel⟩
      clear b2 R1 G1 B1
      go_wp2_with (first | (refine wpList_store_row rfl 23 _ _ rfl w2.heap.size _ rfl rfl 23 _ P2.out (by kernel_rfl) rfl (by kernel_rfl) ?_) | (refine wpList_store_row rfl 23 _ _ rfl (w2.heap.size + 1) _ rfl rfl 23 _ T3.out.q (by kernel_rfl) rfl (by kernel_rfl) ?_; have p4 := L4.out.get))
      refine (H2.out _ _ _ L4.out.i).mono ?_
      rintro e w5 ⟨rfl, b5⟩
      have L5 := Lib.hid (L4.out.below b5)
      generalize w2.heap.size = g at *
      clear b5 p4 P2 T3 T4 L4 B2 R2 G2
      go_wp2_with fail
      refine (H3.out _ L5.out.bel).mono ?_
      rintro e w6 ⟨rfl, b6⟩
      have L6 := Lib.hid (L5.out.below b6)
      clear b6 L5
      go_wp2_with fail
      refine (H4.out _ _ _ L6.out.i L6.out.bel).mono ?_
      rintro e w7 ⟨rfl, b7⟩
      have L7 := Lib.hid (L6.out.below b7)
      have p7 := L7.out.get
      clear b7 L6
      go_wp2_with fail
      refine (H5.out _ L7.out.bel).mono ?_
      rintro e w8 ⟨rfl, b8⟩
      have L8 := Lib.hid (L7.out.below b8)
      have P8 := Lib.hid (Blk.new w8 23 #[.int .i64 0, .int .i64 0] (g := w8.heap.size) rfl |>.alloc (.cells #[.int .i64 0, .int .i64 0] 23))
      have T8 := Lib.hid (T2.one w8 23 #[.int .i64 0, .int .i64 0] #[.int .i64 0, .int .i64 0] #[.int .i64 a1, .int .i64 a2])
      have T9 := Lib.hid (T8.out.two #[.int .i64 a3, .int .i64 a4])
      have L9 := Lib.hid (L8.out.below T9.out.bel)
      clear b8 p7 L7
      go_wp2_with (first | (refine wpList_store_row rfl 23 _ _ rfl w8.heap.size _ rfl rfl 23 _ P8.out (by kernel_rfl) rfl (by kernel_rfl) ?_) | (refine wpList_store_row rfl 23 _ _ rfl (w8.heap.size + 1) _ rfl rfl 23 _ T8.out.q (by kernel_rfl) rfl (by kernel_rfl) ?_; have p9 := L9.out.get; have q9 := pair_get T9.out.p; have r9 := pair_get T9.out.q))
      refine (H6.out _).mono ?_
      rintro e w10 ⟨rfl, b10⟩
      have L10 := Lib.hid (L9.out.below b10)
      have T10 := Lib.hid (T9.out.below b10)
      have p10 := L10.out.get
      have q10 := pair_get T10.out.q
      clear b10 p9 q9 r9 P8 T8 T9 L9 L8
      go_wp2_with fail
      refine (HK.out _).mono ?_
      rintro e w9 ⟨rfl, b9⟩
      go_wp2
      go_ret
      exact ⟨rfl, below_then L10.out.bel b9⟩
  · have HO : Hid (∀ z, closeE l z = 0) := fun z => if_neg hE
    have HO3 : Hid (holdsE l (x, y) = stkErr l) := if_neg hE
    have HO2 : Hid (∀ b, holdsB l (x, y) b = false) := fun b => by unfold holdsB; rw [HO3.out, if_neg hE]
    simp only [HO.out] at H1
    simp only [HO2.out, HO3.out] at H2
    have hr0 : (stkErr l != 0) = true := by simpa using hE
    have hr1 : (stkErr l == 0) = false := by simpa using hE
    have hr2 : (stkErr l == stkErr l) = true := by simp
    have hr3 : (stkErr l != stkErr l) = false := by simp
    clear h hn HN HO HO2 HO3
    generalize stkErr l = r at *
    go_enter Try.func10, Try.ntmps10
    go_wp2_with fail
    refine (HC.out _ B0.out).mono ?_
    rintro e w1 ⟨A', c', rfl, hG, b1⟩
    have B1 := Lib.hid (below_then B0.out b1)
    have R1 := Lib.hid (blk_keep b1 R0.out)
    have G1 := Lib.hid hG
    clear hG b1
    go_wp2_with fail
    refine (H1.out _ _ _ G1.out).mono ?_
    rintro e w2 ⟨rfl, b2⟩
    have B2 := Lib.hid (below_then B1.out b2)
    have R2 := Lib.hid (blk_keep b2 R1.out)
    have G2 := Lib.hid (G1.out.below b2)
    have P2 := Lib.hid (Blk.new w2 23 #[.int .i64 0, .int .i64 0] (g := w2.heap.size) rfl |>.alloc (.cells #[.int .i64 0, .int .i64 0] 23))
    have T3 := Lib.hid (T2.one w2 23 #[.int .i64 0, .int .i64 0] #[.int .i64 0, .int .i64 0] #[.int .i64 0, .int .i64 0])
    have T4 := Lib.hid (T3.out.two #[.int .i64 0, .int .i64 0])
    have L4 : Hid (LZ w _ x y l A' n w2.heap.size _ _) := Lib.hid ⟨blk_keep T4.out.bel R2.out, G2.out.below T4.out.bel, T4.out.p, T4.out.q, below_then B2.out T4.out.bel⟩
    clear b2 R1 G1 B1
    go_wp2_with (first | (refine wpList_store_row rfl 23 _ _ rfl w2.heap.size _ rfl rfl 23 _ P2.out (by kernel_rfl) rfl (by kernel_rfl) ?_) | (refine wpList_store_row rfl 23 _ _ rfl (w2.heap.size + 1) _ rfl rfl 23 _ T3.out.q (by kernel_rfl) rfl (by kernel_rfl) ?_; have p4 := L4.out.get))
    refine (H2.out _ _ _ L4.out.i).mono ?_
    rintro e w5 ⟨rfl, b5⟩
    have L5 := Lib.hid (L4.out.below b5)
    generalize w2.heap.size = g at *
    clear b5 p4 P2 T3 T4 L4 B2 R2 G2
    go_wp2_with fail
    refine (H3.out _ L5.out.bel).mono ?_
    rintro e w6 ⟨rfl, b6⟩
    have L6 := Lib.hid (L5.out.below b6)
    clear b6 L5
    go_wp2_with fail
    refine (H4.out _ _ _ L6.out.i L6.out.bel).mono ?_
    rintro e w7 ⟨rfl, b7⟩
    have L7 := Lib.hid (L6.out.below b7)
    have p7 := L7.out.get
    clear b7 L6
    go_wp2_with fail
    refine (HK.out _).mono ?_
    rintro e w9 ⟨rfl, b9⟩
    go_wp2
    go_ret
    exact ⟨rfl, below_then L7.out.bel b9⟩
end Go.Proofs.Ytdekickmplkdiaa
