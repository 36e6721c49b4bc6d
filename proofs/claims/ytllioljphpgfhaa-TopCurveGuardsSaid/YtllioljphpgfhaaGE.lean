/- Walks: the law's guards, spans, and its example. -/
import Derived.Test.YtllioljphpgfhaaGD
namespace Go.Proofs.Ytllioljphpgfhaa
open Go.RowKit

theorem Try.infoInt : (Try.prog.info? 3).map (fun i => (i.zero, i.size, i.bytes)) = some (some (.int .i64 0), 1, 8) := by kernel_rfl
theorem oakSpan_any (a b : Int) (w : World) : Calls Try.prog 7 #[.int .i64 a, .int .i64 b] w fun e w' => e = .returned (.agg #[.int .i64 a, .int .i64 b]) ∧ Below w.heap.size w w' := by
  have R := Lib.hid (Blk.new w 36 #[.int .i64 0, .int .i64 0] (g := w.heap.size) rfl)
  have B := Lib.hid (below_self w (.cells #[.int .i64 0, .int .i64 0] 36))
  go_enter Try.func7, Try.ntmps7
  go_wp2_with (refine wpList_store_row rfl 36 _ _ rfl w.heap.size _ rfl rfl 36 _ R.out (by kernel_rfl) rfl (by kernel_rfl) ?_)
  exact bodyPost_ret (results_c rfl _ _ _ _ _ _ _ rfl (R.out.setRow _) Try.underlying36 (by kernel_rfl)) rfl ⟨rfl, below_setR B.out (Nat.le_refl _) _⟩
theorem own_nil {W : World} {g base : Nat} {t : TypeId} {size : Nat} (hg : base ≤ g) (hB : Blk W g t #[]) : W.ownsRow base t size (.slice (some ⟨g, 0, none⟩) 0 0) 0 [] :=
  ⟨by simp, Or.inr ⟨g, 0, #[], rfl, hg, hB, Nat.le_refl _, Nat.zero_le _, by simp, by simp⟩⟩
def GuardRes (w : World) (wt : Int) (n : Nat) (xs : List Int) (e : Ending) (w' : World) : Prop := ∃ A c, e = .returned (.agg #[.int .i64 wt, .slice A n c]) ∧ w'.ownsRow w.heap.size 3 1 (.slice A n c) n (xs.map (Value.int .i64)) ∧ Below w.heap.size w w'
theorem own_setRowA {w : World} {base : Nat} {e t : TypeId} {size n g : Nat} {v : Value} {xs : List Value} {cs : Array Value} (h : w.ownsRow base e size v n xs) (hg : Blk w g t cs) (hne : e ≠ t) (cs' : Array Value) : (w.setRow g cs').ownsRow base e size v n xs :=
  h.kept (row := some g) ⟨rfl, rfl, rfl, by simp, fun k _ hk => setRow_other w g k cs' (fun e => hk (by rw [e]))⟩ (by have := own_blk_ne h hg hne; right; exact this)
theorem ints_one (xs : List Int) : ∀ u ∈ xs.map (Value.int .i64), u.oneCell' = true := by
  intro u hu
  obtain ⟨x, _, rfl⟩ := List.mem_map.1 hu
  rfl
set_option maxRecDepth 100000 in
set_option maxHeartbeats 4000000 in
theorem oakGuard_any (wt : Int) (A : Option Addr) (n c : Nat) (xs : List Int) (w : World) (h : Ints w A n xs) (hn : n ≤ 1000) :
    Calls Try.prog 6 #[.int .i64 wt, .slice A n c] w (GuardRes w wt n xs) := by
  obtain ⟨i0, hi, hz0, hz1, hz2⟩ := info_parts Try.infoInt
  have HG := Lib.hid (fun W (hb : Below w.heap.size w W) => h.below hb)
  have hlen := h.len
  have R0 := Lib.hid (Blk.new w 33 #[.int .i64 0, .slice none 0 0] (g := w.heap.size) rfl)
  have B0 := Lib.hid (below_self w (.cells #[.int .i64 0, .slice none 0 0] 33))
  have HE := Lib.hid (fun W a1 a2 (ho : W.ownsRow w.heap.size 3 1 (.slice a1 n a2) n (xs.map (Value.int .i64))) (hb : Below w.heap.size w W) => show GuardRes w wt n xs (.returned (.agg #[.int .i64 wt, .slice a1 n a2])) W from ⟨a1, a2, rfl, ho, hb⟩)
  generalize GuardRes w wt n xs = RR at *
  clear h
  have HL := Lib.hid hlen
  clear hlen
  go_enter Try.func6, Try.ntmps6
  have R1 := Lib.hid (R0.out.alloc (.cells #[] 3))
  have B1 := Lib.hid (below_alloc' B0.out (.cells #[] 3))
  have N1 := Lib.hid (Blk.new (w.alloc (.cells #[.int .i64 0, .slice none 0 0] 33)) 3 #[] (g := w.heap.size + 1) (by simp))
  go_wp2_with (at_builtin; refine wpList_append_any rfl _ _ 31 rfl w.heap.size 3 i0 (.int .i64 0) 1 8 Try.underlying31 hi hz0 hz1 hz2 rfl (by decide) (.slice (some ⟨w.heap.size + 1, 0, none⟩) 0 0) 0 [] rfl (own_nil (Nat.le_succ _) N1.out) A n c (xs.map (Value.int .i64)) rfl (HG.out _ B1.out) (ints_one xs) (by unfold maxLen; omega) (by omega) B1.out.size ?_)
  intro u W2 hown hgrow
  obtain ⟨A2, c2, rfl⟩ := own_slice hown
  have HO0 : (w.alloc (.cells #[.int .i64 0, .slice none 0 0] 33)).alloc (.cells #[] 3) = (w.alloc (.cells #[.int .i64 0, .slice none 0 0] 33)).alloc (.cells #[] 3) := rfl
  clear HO0
  have R2 := Lib.hid (R1.out.grown hgrow (by simp [Value.ownBlock]))
  have B2 := Lib.hid (B1.out.grown hgrow B1.out.size (fun k e => by simp [Value.ownBlock] at e; omega))
  have O2 := Lib.hid hown
  clear hown hgrow N1 B1 R1 HG
  go_wp2_with (refine wpList_store_row rfl 33 _ _ rfl w.heap.size _ rfl rfl 33 _ R2.out (by kernel_rfl) rfl (by kernel_rfl) ?_)
  exact bodyPost_ret (results_c rfl _ _ _ w.heap.size _ _ _ rfl (R2.out.setRow _) Try.underlying33 (by kernel_rfl)) rfl (HE.out _ _ _ (own_setRowA O2.out R2.out (by decide) _) (below_setR B2.out (Nat.le_refl _) _))

theorem ints_own {w : World} {base n c : Nat} {A : Option Addr} {xs : List Int} (h : w.ownsRow base 3 1 (.slice A n c) n (xs.map (Value.int .i64))) : Ints w A n xs := by
  refine ⟨h.1, fun hn => ?_⟩
  obtain ⟨g, cap, e⟩ := own_form h hn
  simp only [Value.slice.injEq, true_and] at e
  obtain ⟨rfl, rfl⟩ := e
  refine ⟨g, 0, rfl, (h.lt g rfl).2, fun j u hj => ?_⟩
  have hjl : j < n * 1 := by have := (List.getElem?_eq_some_iff.1 hj).1; have := h.1; omega
  rw [Nat.zero_add, h.cellAt j hjl, hj]
theorem ints_f1 (w : World) (x : Int) (t : TypeId) : Ints (w.alloc (.cells #[.int .i64 x] t)) (some ⟨w.heap.size, 0, none⟩) 1 [x] := ints_new1 w x t rfl
theorem ints_e1 (w : World) (x : Int) (t : TypeId) : Ints (w.alloc (.cells #[.int .i64 x] t)).drew (some ⟨w.heap.size, 0, none⟩) 1 [x] := ints_new1 w x t rfl
theorem ints_e2 (w : World) (x : Int) (t : TypeId) (o : Obj) : Ints ((w.alloc (.cells #[.int .i64 x] t)).alloc o).drew (some ⟨w.heap.size, 0, none⟩) 1 [x] := show Ints ((w.alloc (.cells #[.int .i64 x] t)).alloc o) _ 1 [x] from (ints_new1 w x t rfl).below (below_self _ _)
theorem ints_e3 (w : World) (x : Int) (t : TypeId) (o : Obj) : Ints ((w.alloc o).alloc (.cells #[.int .i64 x] t)).drew (some ⟨w.heap.size + 1, 0, none⟩) 1 [x] := ints_new1 (w.alloc o) x t (by simp)
theorem alike1 (x y p q g1 g2 g3 g4 : Int) (A B : Option Addr) (c d : Nat) (W : World) (hA : Ints W A 1 [p]) (hB : Ints W B 1 [q]) :
    Calls Try.prog 10 #[.agg #[.int .i64 x, .slice A 1 c], .agg #[.int .i64 y, .slice B 1 d], .agg #[.int .i64 g1, .int .i64 g2, .int .i64 g3, .int .i64 g4]] W
      fun e w' => e = .returned (.tuple #[.bool (alikeR ⟨x, A, 1, c, [p]⟩ ⟨y, B, 1, d, [q]⟩ ⟨g1, g2, g3, g4⟩ (-2)), .bool (alikeR ⟨x, A, 1, c, [p]⟩ ⟨y, B, 1, d, [q]⟩ ⟨g1, g2, g3, g4⟩ 2), .int .i64 (guardsErr [⟨x, A, 1, c, [p]⟩, ⟨y, B, 1, d, [q]⟩] ⟨g1, g2, g3, g4⟩)]) ∧ Below W.heap.size W w' :=
  Alike_any ⟨x, A, 1, c, [p]⟩ ⟨y, B, 1, d, [q]⟩ ⟨g1, g2, g3, g4⟩ W ⟨hA, show 1 ≤ maxLen from by decide⟩ ⟨hB, show 1 ≤ maxLen from by decide⟩
def gauge06 : Gg := ⟨1, 0, 5, 4⟩
theorem ex06 (A A' : Option Addr) (c c' : Nat) :
    alikeR ⟨100, A, 1, c, [20]⟩ ⟨103, A', 1, c', [22]⟩ ⟨1, 0, 5, 4⟩ (-2) = true ∧ alikeR ⟨100, A, 1, c, [20]⟩ ⟨103, A', 1, c', [22]⟩ ⟨1, 0, 5, 4⟩ 2 = true ∧ guardsErr [⟨100, A, 1, c, [20]⟩, ⟨103, A', 1, c', [22]⟩] ⟨1, 0, 5, 4⟩ = 0 ∧
    alikeR ⟨100, A, 1, c, [20]⟩ ⟨104, A', 1, c', [24]⟩ ⟨1, 0, 5, 4⟩ (-2) = false ∧ alikeR ⟨100, A, 1, c, [20]⟩ ⟨104, A', 1, c', [24]⟩ ⟨1, 0, 5, 4⟩ 2 = true ∧ guardsErr [⟨100, A, 1, c, [20]⟩, ⟨104, A', 1, c', [24]⟩] ⟨1, 0, 5, 4⟩ = 0 :=
  ⟨by kernel_rfl, by kernel_rfl, by kernel_rfl, by kernel_rfl, by kernel_rfl, by kernel_rfl⟩
set_option maxRecDepth 100000 in
set_option maxHeartbeats 8000000 in
theorem known06_any (w : World) : Calls Try.prog 11 #[] w fun e w' => e = .returned (.bool true) ∧ Below w.heap.size w w' := by
  have B0 := Lib.hid (below_self w (.cells #[.int .i64 1, .int .i64 0, .int .i64 5, .int .i64 4] 39))
  have P0 := Lib.hid (Blk.new w 39 #[.int .i64 1, .int .i64 0, .int .i64 5, .int .i64 4] (g := w.heap.size) rfl)
  have HOG := Lib.hid (fun wt x A W (h : Ints W A 1 [x]) => oakGuard_any wt A 1 1 [x] W h (by decide))
  unfold GuardRes at HOG
  have HA1 : Hid (∀ A B c d W, Ints W A 1 [20] → Ints W B 1 [22] → Calls Try.prog 10 #[.agg #[.int .i64 100, .slice A 1 c], .agg #[.int .i64 103, .slice B 1 d], .agg #[.int .i64 1, .int .i64 0, .int .i64 5, .int .i64 4]] W fun e w' => e = .returned (.tuple #[.bool true, .bool true, .int .i64 0]) ∧ Below W.heap.size W w') := fun A B c d W h1 h2 => by
    obtain ⟨x1, x2, x3, -⟩ := ex06 A B c d
    have q := alike1 100 103 20 22 1 0 5 4 A B c d W h1 h2
    rw [x1, x2, x3] at q
    exact q
  have HA2 : Hid (∀ A B c d W, Ints W A 1 [20] → Ints W B 1 [24] → Calls Try.prog 10 #[.agg #[.int .i64 100, .slice A 1 c], .agg #[.int .i64 104, .slice B 1 d], .agg #[.int .i64 1, .int .i64 0, .int .i64 5, .int .i64 4]] W fun e w' => e = .returned (.tuple #[.bool false, .bool true, .int .i64 0]) ∧ Below W.heap.size W w') := fun A B c d W h1 h2 => by
    obtain ⟨-, -, -, x1, x2, x3⟩ := ex06 A B c d
    have q := alike1 100 104 20 24 1 0 5 4 A B c d W h1 h2
    rw [x1, x2, x3] at q
    exact q
  have KS := Lib.hid (fun W (hb : Below w.heap.size w W) (hp : Blk W w.heap.size 39 #[.int .i64 1, .int .i64 0, .int .i64 5, .int .i64 4]) => gg_get hp)
  go_enter Try.func11, Try.ntmps11
  go_wp2_with fail
  generalize hv : w.alloc (.cells #[.int .i64 1, .int .i64 0, .int .i64 5, .int .i64 4] 39) = v at *
  clear hv KS
  have KS := Lib.hid (fun W (hb : Below v.heap.size v W) => gg_get (blk_keep hb P0.out))
  go_region_held3 (fun W => W.cell? ⟨w.heap.size, 0, none⟩ = some (.int .i64 1) ∧ W.cell? ⟨w.heap.size, 1, none⟩ = some (.int .i64 0) ∧ W.cell? ⟨w.heap.size, 2, none⟩ = some (.int .i64 5) ∧ W.cell? ⟨w.heap.size, 3, none⟩ = some (.int .i64 4))
    (first | (refine KS.out _ ?_; (repeat (first | exact Below.refl _ _ | with_reducible refine Below.drew ?_ | with_reducible refine below_alloc' ?_ _ | with_reducible refine below_then ?_ Ha3.out | with_reducible refine below_then ?_ Ha2.out | with_reducible refine below_then ?_ Ha1.out)); done))
    (first | (go_at_call_of 6 (Value.int .i64 103); refine (HOG.out _ 22 _ _ (by first | with_reducible exact ints_f1 _ _ _ | with_reducible exact Ints.below (ints_e3 _ _ _ _) Ha1.out | with_reducible exact Ints.below (ints_e2 _ _ _ _) Ha1.out | fail)).mono ?_; rintro e Wa2 ⟨Aa2, ka2, rfl, o2, b2⟩; have Ha2 := Lib.hid b2; have Ia2 := Lib.hid (ints_own o2); clear b2 o2) | (go_at_call_of 6 (Value.int .i64 100); refine (HOG.out _ 20 _ _ (by first | with_reducible exact ints_e1 _ _ _ | with_reducible exact ints_e2 _ _ _ _ | with_reducible exact ints_e3 _ _ _ _ | fail)).mono ?_; rintro e Wa1 ⟨Aa1, ka1, rfl, o1, b1⟩; have Ha1 := Lib.hid b1; have Ia1 := Lib.hid (ints_own o1); clear b1 o1) | (go_at_call 10; refine (HA1.out _ _ _ _ _ (by first | exact Ia1.out.below Ha2.out | exact Ints.below (Ints.below Ia1.out (below_self _ _)) Ha2.out | fail) Ia2.out).mono ?_; rintro e Wa3 ⟨rfl, b3⟩; have Ha3 := Lib.hid b3; clear b3))
  all_goals
    have BVa : Hid (Below v.heap.size v Wa3) := by
      unfold Hid
      (repeat (first | exact Below.refl _ _ | with_reducible refine Below.drew ?_ | with_reducible refine below_alloc' ?_ _ | with_reducible refine below_then ?_ Ha3.out | with_reducible refine below_then ?_ Ha2.out | with_reducible refine below_then ?_ Ha1.out))
    clear Ha1 Ha2 Ha3 Ia1 Ia2
  all_goals
    have KT := Lib.hid (fun W (hb : Below Wa3.heap.size Wa3 W) => KS.out W (below_then BVa.out hb))
    have kt := KT.out _ (Below.refl _ _)
    clear KS
    go_wp2_with fail
    go_region_held3 (fun W => W.cell? ⟨w.heap.size, 0, none⟩ = some (.int .i64 1) ∧ W.cell? ⟨w.heap.size, 1, none⟩ = some (.int .i64 0) ∧ W.cell? ⟨w.heap.size, 2, none⟩ = some (.int .i64 5) ∧ W.cell? ⟨w.heap.size, 3, none⟩ = some (.int .i64 4))
      (first | (refine KT.out _ ?_; (repeat (first | exact Below.refl _ _ | with_reducible refine Below.drew ?_ | with_reducible refine below_alloc' ?_ _ | with_reducible refine below_then ?_ Hb3.out | with_reducible refine below_then ?_ Hb2.out | with_reducible refine below_then ?_ Hb1.out)); done))
      (first | (go_at_call_of 6 (Value.int .i64 104); refine (HOG.out _ 24 _ _ (by first | with_reducible exact ints_f1 _ _ _ | with_reducible exact Ints.below (ints_e3 _ _ _ _) Hb1.out | with_reducible exact Ints.below (ints_e2 _ _ _ _) Hb1.out | fail)).mono ?_; rintro e Wb2 ⟨Ab2, kb2, rfl, o2, b2⟩; have Hb2 := Lib.hid b2; have Ib2 := Lib.hid (ints_own o2); clear b2 o2) | (go_at_call_of 6 (Value.int .i64 100); refine (HOG.out _ 20 _ _ (by first | with_reducible exact ints_e1 _ _ _ | with_reducible exact ints_e2 _ _ _ _ | with_reducible exact ints_e3 _ _ _ _ | fail)).mono ?_; rintro e Wb1 ⟨Ab1, kb1, rfl, o1, b1⟩; have Hb1 := Lib.hid b1; have Ib1 := Lib.hid (ints_own o1); clear b1 o1) | (go_at_call 10; refine (HA2.out _ _ _ _ _ (by first | exact Ib1.out.below Hb2.out | exact Ints.below (Ints.below Ib1.out (below_self _ _)) Hb2.out | fail) Ib2.out).mono ?_; rintro e Wb3 ⟨rfl, b3⟩; have Hb3 := Lib.hid b3; clear b3))
    all_goals
      have BVb : Hid (Below Wa3.heap.size Wa3 Wb3) := by
        unfold Hid
        (repeat (first | exact Below.refl _ _ | with_reducible refine Below.drew ?_ | with_reducible refine below_alloc' ?_ _ | with_reducible refine below_then ?_ Hb3.out | with_reducible refine below_then ?_ Hb2.out | with_reducible refine below_then ?_ Hb1.out))
      clear Hb1 Hb2 Hb3 Ib1 Ib2
    all_goals
      go_wp2_with fail
      go_ret
      exact ⟨rfl, below_then B0.out (below_then BVa.out BVb.out)⟩
end Go.Proofs.Ytllioljphpgfhaa
