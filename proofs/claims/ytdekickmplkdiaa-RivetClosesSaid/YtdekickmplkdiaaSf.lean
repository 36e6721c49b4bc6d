/- Walks: known: the law's look at the document's examples. -/
import Derived.Test.YtdekickmplkdiaaSa
import Derived.Test.YtdekickmplkdiaaRm
import Derived.Test.YtdekickmplkdiaaRl
import Derived.Deep.DrawnRows
namespace Go.Proofs.Ytdekickmplkdiaa
open Go.RowKit

def exA (g : Nat) : Array Value := fanA exF (some ⟨g, 0, none⟩) 2 2
theorem fan_ex (w : World) : Calls Try.prog 58 #[] w fun e w' => ∃ g, e = .returned (.agg (exA g)) ∧ Gaps w' (some ⟨g, 0, none⟩) 2 exF.gs ∧ Below w.heap.size w w' := lawFan_any w
theorem opens_ex {g : Nat} (w : World) (h : Gaps w (some ⟨g, 0, none⟩) 2 exF.gs) : Calls Try.prog 20 #[.agg (exA g)] w fun e w' => e = .returned (.tuple #[.agg #[.int .i64 16, .int .i64 19], .int .i64 0]) ∧ Below w.heap.size w w' :=
  (Opens_any exF _ 2 2 w h (by decide)).mono fun _ _ ⟨he, hb⟩ => ⟨by rw [he, ex_opens, ex_err], hb⟩
theorem stops_ex {g : Nat} (w : World) (h : Gaps w (some ⟨g, 0, none⟩) 2 exF.gs) : Calls Try.prog 24 #[.agg (exA g)] w fun e w' => ∃ l c, e = .returned (.tuple #[.slice (some ⟨l, 0, none⟩) 2 c, .int .i64 0]) ∧ Ints w' (some ⟨l, 0, none⟩) 2 [1, 3] ∧ Below w.heap.size w w' := by
  refine (Stops_any exF _ 2 2 w h (by decide)).mono ?_
  rintro e w' ⟨v, rfl, ho, hb⟩
  rw [ex_stops] at ho
  obtain ⟨l, c, rfl⟩ := own_form ho (by decide)
  rw [ex_err]
  exact ⟨l, c, rfl, ints_of_own ho, hb⟩
theorem widen_ex {g : Nat} (w : World) (h : Gaps w (some ⟨g, 0, none⟩) 2 exF.gs) : Calls Try.prog 28 #[.agg (exA g), .int .i64 100] w fun e w' => e = .returned (.tuple #[.int .i64 0, .int .i64 18, .int .i64 0]) ∧ Below w.heap.size w w' :=
  (Widen_any exF 100 _ 2 2 w h (by decide)).mono fun _ _ ⟨he, hb⟩ => ⟨by rw [he, ex_widen], hb⟩
theorem wrong_ex {g : Nat} (w : World) (h : Gaps w (some ⟨g, 0, none⟩) 2 exF.gs) : Calls Try.prog 32 #[.agg (exA g), .agg #[.int .i64 10, .int .i64 14]] w fun e w' => ∃ l c, e = .returned (.tuple #[.slice (some ⟨l, 0, none⟩) 1 c, .int .i64 0]) ∧ Ints w' (some ⟨l, 0, none⟩) 1 [0] ∧ Below w.heap.size w w' := by
  refine (Wrong_any exF 10 14 _ 2 2 w h (by decide)).mono ?_
  rintro e w' ⟨v, rfl, ho, hb⟩
  rw [ex_wrongL] at ho
  obtain ⟨l, c, rfl⟩ := own_form ho (by decide)
  rw [ex_wrongE]
  exact ⟨l, c, rfl, ints_of_own ho, hb⟩
theorem sticks_ex {g : Nat} (w : World) (h : Gaps w (some ⟨g, 0, none⟩) 2 exF.gs) : Calls Try.prog 35 #[.agg (exA g), .int .i64 45] w fun e w' => e = .returned (.tuple #[.int .i64 5, .int .i64 0]) ∧ Below w.heap.size w w' :=
  (Sticks_any exF 45 _ 2 2 w h (by decide) (by decide)).mono fun _ _ ⟨he, hb⟩ => ⟨by rw [he, ex_stick], hb⟩
theorem pleat_ex {g : Nat} (w : World) (h : Gaps w (some ⟨g, 0, none⟩) 2 exF.gs) : Calls Try.prog 37 #[.agg (exA g), .int .i64 18] w fun e w' => e = .returned (.tuple #[.int .i64 235, .int .i64 0]) ∧ Below w.heap.size w w' :=
  (Pleat_any exF 18 _ 2 2 w h (by decide)).mono fun _ _ ⟨he, hb⟩ => ⟨by rw [he, ex_pleat], hb⟩
theorem bal_ex (g : Nat) (w : World) (h : Stks w (some ⟨g, 0, none⟩) 2 exT) : Calls Try.prog 46 #[.slice (some ⟨g, 0, none⟩) 2 2] w fun e w' => e = .returned (.tuple #[.agg #[.int .i64 80, .int .i64 1], .agg #[.int .i64 650, .int .i64 7], .int .i64 0]) ∧ Below w.heap.size w w' :=
  (Balance_any exT _ 2 2 w h (by decide)).mono fun _ _ ⟨he, hb⟩ => ⟨by rw [he, ex_bal], hb⟩
def exTc : Array Value := #[.int .i64 100, .int .i64 120, .int .i64 1, .int .i64 1, .int .i64 50, .int .i64 30, .int .i64 40, .int .i64 1, .int .i64 1, .int .i64 200]
theorem exT_new (w : World) : Stks (w.alloc (.cells exTc 106)) (some ⟨w.heap.size, 0, none⟩) 2 exT := reads_of_blk (Blk.new w _ _ rfl) rfl rfl
theorem ints_two (w : World) (a b : Int) (t : TypeId) : Ints (w.alloc (.cells #[.int .i64 a, .int .i64 b] t)) (some ⟨w.heap.size, 0, none⟩) 2 [a, b] := reads_of_blk (Blk.new w _ _ rfl) rfl rfl
theorem ints_one (w : World) (a : Int) (t : TypeId) : Ints (w.alloc (.cells #[.int .i64 a] t)) (some ⟨w.heap.size, 0, none⟩) 1 [a] := reads_of_blk (Blk.new w _ _ rfl) rfl rfl
theorem RefInts_eq (A A' : Option Addr) (n c c' : Nat) (xs : List Int) (w : World) (h : Ints w A n xs) (h' : Ints w A' n xs) (hn : n ≤ maxLen) :
    Calls Try.prog 34 #[.slice A n c, .slice A' n c'] w fun e w' => e = .returned (.bool true) ∧ Below w.heap.size w w' :=
  (RefInts_any A A' n n c c' xs xs w h h' hn).mono fun _ _ ⟨he, hb⟩ => ⟨by rw [he]; simp [intsB, eqTo], hb⟩
theorem RefStops_eq (A A' : Option Addr) (n c c' : Nat) (xs : List Int) (w : World) (h : Ints w A n xs) (h' : Ints w A' n xs) (hn : n ≤ maxLen) :
    Calls Try.prog 59 #[.slice A n c, .slice A' n c'] w fun e w' => e = .returned (.bool true) ∧ Below w.heap.size w w' :=
  (RefStops_any A A' n n c c' xs xs w h h' hn).mono fun _ _ ⟨he, hb⟩ => ⟨by rw [he]; simp [intsB, eqTo], hb⟩

/-- What known has found ahead of its last statements. -/
structure K1 (w W : World) (s l : Nat) : Prop where
  sp : Blk W s 23 #[.int .i64 16, .int .i64 19]
  hl : Ints W (some ⟨l, 0, none⟩) 2 [1, 3]
  bel : Below w.heap.size w W
theorem K1.below {w W W' : World} {s l : Nat} (h : K1 w W s l) (hb : Below W.heap.size W W') : K1 w W' s l := ⟨blk_keep hb h.sp, h.hl.below hb, below_then h.bel hb⟩
structure K2 (w W : World) (s l x : Nat) : Prop where
  k : K1 w W s l
  hx : Ints W (some ⟨x, 0, none⟩) 1 [0]
theorem K2.below {w W W' : World} {s l x : Nat} (h : K2 w W s l x) (hb : Below W.heap.size W W') : K2 w W' s l x := ⟨h.k.below hb, h.hx.below hb⟩
theorem K2.alloc {w W : World} {s l x : Nat} (h : K2 w W s l x) (o : Obj) : K2 w (W.alloc o) s l x := h.below (below_self W o)
theorem K2.drewd {w W : World} {s l x : Nat} (h : K2 w W s l x) : K2 w W.drew s l x := ⟨⟨h.k.sp, h.k.hl, h.k.bel.drew⟩, h.hx⟩
structure K3 (w W : World) (s l x r r' : Nat) : Prop where
  k : K2 w W s l x
  h1 : Blk W r 77 #[.int .i64 80, .int .i64 1]
  h2 : Blk W r' 77 #[.int .i64 650, .int .i64 7]
theorem K3.below {w W W' : World} {s l x r r' : Nat} (h : K3 w W s l x r r') (hb : Below W.heap.size W W') : K3 w W' s l x r r' := ⟨h.k.below hb, blk_keep hb h.h1, blk_keep hb h.h2⟩
theorem K3.alloc {w W : World} {s l x r r' : Nat} (h : K3 w W s l x r r') (o : Obj) : K3 w (W.alloc o) s l x r r' := h.below (below_self W o)
theorem K3.drewd {w W : World} {s l x r r' : Nat} (h : K3 w W s l x r r') : K3 w W.drew s l x r r' := ⟨h.k.drewd, h.h1, h.h2⟩
theorem K3.s {w W : World} {s l x r r' : Nat} (h : K3 w W s l x r r') : W.cell? ⟨s, 0, none⟩ = some (.int .i64 16) ∧ W.cell? ⟨s, 1, none⟩ = some (.int .i64 19) ∧ W.cell? ⟨r, 0, none⟩ = some (.int .i64 80) ∧ W.cell? ⟨r, 1, none⟩ = some (.int .i64 1) ∧ W.cell? ⟨r', 0, none⟩ = some (.int .i64 650) ∧ W.cell? ⟨r', 1, none⟩ = some (.int .i64 7) :=
  ⟨h.k.k.sp.cell 0, h.k.k.sp.cell 1, h.h1.cell 0, h.h1.cell 1, h.h2.cell 0, h.h2.cell 1⟩
def KnownRes (w : World) (e : Ending) (w' : World) : Prop := e = .returned (.bool true) ∧ Below w.heap.size w w'

attribute [local go_sem ↓] Go.wp_at_zero Go.wp_at_succ
set_option maxRecDepth 100000 in
set_option maxHeartbeats 8000000 in
theorem known_any (w : World) : Calls Try.prog 17 #[] w (KnownRes w) := by
  have HF := Lib.hid (fun W => fan_ex W)
  have HP := Lib.hid (fun a b W => lawSpan_any a b W)
  go_enter Try.func17, Try.ntmps17
  go_wp2_with fail
  refine (HF.out _).mono ?_
  rintro e w1 ⟨g1, rfl, hg, b1⟩
  have D1 := Lib.hid b1
  have C1 := Lib.hid (opens_ex _ hg)
  clear hg b1
  go_wp2_with fail
  refine C1.out.mono ?_
  rintro e w2 ⟨rfl, b2⟩
  have D2 := Lib.hid (below_then D1.out b2)
  have S2 := Lib.hid (Blk.new w2 23 #[.int .i64 0, .int .i64 0] (g := w2.heap.size) rfl)
  clear b2 D1 C1
  go_wp2_with (refine wpList_store_row rfl 23 _ _ rfl w2.heap.size _ rfl rfl 23 _ S2.out (by kernel_rfl) rfl (by kernel_rfl) ?_)
  have S3 := Lib.hid (S2.out.setRow #[.int .i64 16, .int .i64 19])
  have D3 := Lib.hid (below_setR (below_alloc' D2.out (.cells #[.int .i64 0, .int .i64 0] 23)) (g := w2.heap.size) D2.out.size #[.int .i64 16, .int .i64 19])
  clear D2 S2
  generalize w2.heap.size = s at *
  generalize (w2.alloc (.cells #[.int .i64 0, .int .i64 0] 23)).setRow s #[.int .i64 16, .int .i64 19] = w3 at *
  go_wp2_with fail
  refine (HF.out _).mono ?_
  rintro e w4 ⟨g2, rfl, hg, b4⟩
  have D4 := Lib.hid (below_then D3.out b4)
  have S4 := Lib.hid (blk_keep b4 S3.out)
  have C4 := Lib.hid (stops_ex _ hg)
  clear hg b4 D3 S3
  go_wp2_with fail
  refine C4.out.mono ?_
  rintro e w5 ⟨l, lc, rfl, hl, b5⟩
  have K5 : Hid (K1 w w5 s l) := ⟨blk_keep b5 S4.out, hl, below_then D4.out b5⟩
  clear hl b5 D4 S4 C4
  go_wp2_with fail
  refine (HF.out _).mono ?_
  rintro e w6 ⟨g6, rfl, hg, b6⟩
  have K6 := Lib.hid (K5.out.below b6)
  have G6 := Lib.hid hg
  clear hg b6 K5
  have C6 := Lib.hid (widen_ex _ G6.out)
  go_wp2_with fail
  refine C6.out.mono ?_
  rintro e w7 ⟨rfl, b7⟩
  have K7 := Lib.hid (K6.out.below b7)
  clear b7 K6
  clear C6 G6
  go_wp2_with fail
  refine (HF.out _).mono ?_
  rintro e w8 ⟨g8, rfl, hg, b8⟩
  have K8 := Lib.hid (K7.out.below b8)
  have G8 := Lib.hid hg
  clear hg b8 K7
  go_wp2_with fail
  refine (HP.out _ _ _).mono ?_
  rintro e w9 ⟨rfl, b9⟩
  have K9 := Lib.hid (K8.out.below b9)
  have C9 := Lib.hid (wrong_ex _ (G8.out.below b9))
  clear b9 K8 G8
  go_wp2_with fail
  refine C9.out.mono ?_
  rintro e w10 ⟨x, xc, rfl, hx, b10⟩
  have K10 : Hid (K2 w w10 s l x) := ⟨K9.out.below b10, hx⟩
  clear hx b10 K9 C9
  go_wp2_with fail
  refine (HF.out _).mono ?_
  rintro e w11 ⟨g11, rfl, hg, b11⟩
  have K11 := Lib.hid (K10.out.below b11)
  have G11 := Lib.hid hg
  clear hg b11 K10
  have C11 := Lib.hid (sticks_ex _ G11.out)
  go_wp2_with fail
  refine C11.out.mono ?_
  rintro e w12 ⟨rfl, b12⟩
  have K12 := Lib.hid (K11.out.below b12)
  clear b12 K11
  clear C11 G11
  go_wp2_with fail
  refine (HF.out _).mono ?_
  rintro e w13 ⟨g13, rfl, hg, b13⟩
  have K13 := Lib.hid (K12.out.below b13)
  have G13 := Lib.hid hg
  clear hg b13 K12
  have C13 := Lib.hid (pleat_ex _ G13.out)
  go_wp2_with fail
  refine C13.out.mono ?_
  rintro e w14 ⟨rfl, b14⟩
  have K14 := Lib.hid (K13.out.below b14)
  clear b14 K13
  clear C13 G13
  go_wp2_with fail
  refine (HP.out _ _ _).mono ?_
  rintro e w15 ⟨rfl, b15⟩
  have K15 := Lib.hid (K14.out.below b15)
  clear b15 K14
  go_wp2_with fail
  refine (HP.out _ _ _).mono ?_
  rintro e w16 ⟨rfl, b16⟩
  have K16 := Lib.hid (K15.out.below b16)
  clear b16 K15
  go_wp2_with fail
  refine (HP.out _ _ _).mono ?_
  rintro e w17 ⟨rfl, b17⟩
  have K17 := Lib.hid (K16.out.below b17)
  clear b17 K16
  go_wp2_with fail
  refine (HP.out _ _ _).mono ?_
  rintro e w18 ⟨rfl, b18⟩
  have K18 := Lib.hid (K17.out.below b18)
  clear b18 K17
  have T18 := Lib.hid (bal_ex _ _ (exT_new w18))
  have K19 := Lib.hid (K18.out.alloc (.cells exTc 106))
  unfold exTc at T18 K19
  clear K18 HF
  go_wp2_with fail
  refine T18.out.mono ?_
  rintro e w20 ⟨rfl, b20⟩
  have K20 := Lib.hid (K19.out.below b20)
  clear b20 K19 T18
  have B21 := Lib.hid (below_alloc' (below_self w20 (.cells #[.int .i64 0, .int .i64 0] 77)) (.cells #[.int .i64 0, .int .i64 0] 77))
  have R1 := Lib.hid ((Blk.new w20 77 #[.int .i64 0, .int .i64 0] (g := w20.heap.size) rfl).alloc (.cells #[.int .i64 0, .int .i64 0] 77))
  have R2 := Lib.hid (Blk.new (w20.alloc (.cells #[.int .i64 0, .int .i64 0] 77)) 77 #[.int .i64 0, .int .i64 0] (g := w20.heap.size + 1) (by simp))
  go_wp2_with (first
    | (refine wpList_store_row rfl 77 _ _ rfl w20.heap.size _ rfl rfl 77 _ R1.out (by kernel_rfl) rfl (by kernel_rfl) ?_; have R3 := Lib.hid (R1.out.setRow #[.int .i64 80, .int .i64 1]); have R4 := Lib.hid (R2.out.setRow_far (Nat.succ_ne_self _) #[.int .i64 80, .int .i64 1]); have B22 := Lib.hid (below_setR B21.out (g := w20.heap.size) (Nat.le_refl _) #[.int .i64 80, .int .i64 1]); clear R1 R2 B21)
    | (refine wpList_store_row rfl 77 _ _ rfl (w20.heap.size + 1) _ rfl rfl 77 _ R4.out (by kernel_rfl) rfl (by kernel_rfl) ?_; have R5 := Lib.hid (R4.out.setRow #[.int .i64 650, .int .i64 7]); have R6 := Lib.hid (R3.out.setRow_far (Nat.succ_ne_self _).symm #[.int .i64 650, .int .i64 7]); have B23 := Lib.hid (below_setR B22.out (g := w20.heap.size + 1) (Nat.le_succ _) #[.int .i64 650, .int .i64 7]); have Hk := Lib.hid (K3.drewd ⟨K20.out.below B23.out, R6.out, R5.out⟩); clear R3 R4 R5 R6 B22 B23 K20))
  generalize ((((w20.alloc (.cells #[.int .i64 0, .int .i64 0] 77)).alloc (.cells #[.int .i64 0, .int .i64 0] 77)).setRow w20.heap.size #[.int .i64 80, .int .i64 1]).setRow (w20.heap.size + 1) #[.int .i64 650, .int .i64 7]) = w23 at *
  generalize w20.heap.size + 1 = r' at *
  generalize w20.heap.size = r at *
  go_region_held3 (fun W => W.cell? ⟨s, 0, none⟩ = some (.int .i64 16) ∧ W.cell? ⟨s, 1, none⟩ = some (.int .i64 19) ∧ W.cell? ⟨r, 0, none⟩ = some (.int .i64 80) ∧ W.cell? ⟨r, 1, none⟩ = some (.int .i64 1) ∧ W.cell? ⟨r', 0, none⟩ = some (.int .i64 650) ∧ W.cell? ⟨r', 1, none⟩ = some (.int .i64 7))
    (first | exact Hk.out.s | exact (Hk.out.alloc _).s)
    (first
    | (go_at_call 53; refine (HP.out _ _ _).mono ?_; rintro e x1 ⟨rfl, h1⟩; have G1 := Lib.hid (Hk.out.below h1); clear Hk h1; have Hk := G1; clear G1)
    | (go_at_call 59; with_reducible refine (RefStops_eq _ _ 2 _ _ _ _ (Hk.out.alloc _).k.k.hl (ints_two _ _ _ _) (by decide)).mono ?_; rintro e x1 ⟨rfl, h1⟩; have G1 := Lib.hid ((Hk.out.alloc _).below h1); clear Hk h1; have Hk := G1; clear G1)
    | (go_at_call 34; with_reducible refine (RefInts_eq _ _ 1 _ _ _ _ (Hk.out.alloc _).k.hx (ints_one _ _ _) (by decide)).mono ?_; rintro e x1 ⟨rfl, h1⟩; have G1 := Lib.hid ((Hk.out.alloc _).below h1); clear Hk h1; have Hk := G1; clear G1))
  all_goals
    go_wp2
    go_ret
    exact ⟨rfl, Hk.out.k.k.bel⟩
end Go.Proofs.Ytdekickmplkdiaa
