/- Walks: Closed, Holds; the law's own. -/
import Derived.Test.YtdekickmplkdiaaKj
namespace Go.Proofs.Ytdekickmplkdiaa
open Go.RowKit

/-- What a closed fan weighs, how thick it is, and the error. -/
def closeE (l : List Stk) (z : Int) : Int := if stkErr l = 0 then z else 0


set_option maxRecDepth 100000 in
set_option maxHeartbeats 2000000 in
theorem Closed_any (l : List Stk) (A : Option Addr) (n c : Nat) (w : World) (h : Stks w A n l) (hn : n ≤ maxLen) :
    Calls Try.prog 40 #[.slice A n c] w fun e w' => e = .returned (.tuple #[.agg #[.int .i64 (closeE l (sumLo false l)), .int .i64 (closeE l (sumHi false l))], .agg #[.int .i64 (closeE l (sumLo true l)), .int .i64 (closeE l (sumHi true l))], .int .i64 (stkErr l)]) ∧ Below w.heap.size w w' := by
  have E0 := Lib.hid (Env2.start w 23 23 #[.int .i64 0, .int .i64 0] #[.int .i64 0, .int .i64 0])
  have HF := Lib.hid (fun W (hb : Below w.heap.size w W) => sticksError_any l A n c W (h.below hb) hn)
  by_cases hE : stkErr l = 0
  · have hs := stkB_of hE
    have H1 := Lib.hid (fun W (hb : Below w.heap.size w W) => togetherfalse_any l A n c W hs (h.below hb))
    have H2 := Lib.hid (fun W (hb : Below w.heap.size w W) => togethertrue_any l A n c W hs (h.below hb))
    have HO : Hid (∀ z, closeE l z = z) := fun z => if_pos hE
    rw [HO.out, HO.out, HO.out, HO.out]
    clear HO
    rw [hE] at HF
    rw [hE]
    clear h hn hE hs
    generalize sumLo false l = a1 at *
    generalize sumHi false l = a2 at *
    generalize sumLo true l = a3 at *
    generalize sumHi true l = a4 at *
    go_enter Try.func40, Try.ntmps40
    go_wp2_with fail
    refine (HF.out _ E0.out.bel).mono ?_
    rintro e W1 ⟨rfl, hb1⟩
    have E1 := Lib.hid (E0.out.below hb1)
    clear hb1
    go_wp2_with fail
    refine (H1.out _ E1.out.bel).mono ?_
    rintro e W2 ⟨rfl, hb2⟩
    have E2 := Lib.hid (E1.out.below hb2)
    clear hb2
    go_wp2_with fail
    refine (H2.out _ E2.out.bel).mono ?_
    rintro e W7 ⟨rfl, hb7⟩
    have E7 := Lib.hid (E2.out.below hb7)
    have p1 := pair_get E7.out.p
    have q1 := pair_get E7.out.q
    clear hb7
    go_wp2
    exact bodyPost_ret (results_cct rfl _ _ _ w.heap.size (w.heap.size + 1) _ _ _ _ _ _ rfl ((((E7.out.p.set_ 0 _).set_ 1 _).far (p := ⟨w.heap.size + 1, 0, none⟩) (by simp) _).far (p := ⟨w.heap.size + 1, 1, none⟩) (by simp) _) Try.underlying23 (by kernel_rfl) rfl ((((E7.out.q.far (p := ⟨w.heap.size, 0, none⟩) (by simp) _).far (p := ⟨w.heap.size, 1, none⟩) (by simp) _).set_ 0 _).set_ 1 _) Try.underlying23 (by kernel_rfl)) rfl
      ⟨rfl, (((E7.out.bel.setCell (p := ⟨w.heap.size, 0, none⟩) (Nat.le_refl _) _).setCell (p := ⟨w.heap.size, 1, none⟩) (Nat.le_refl _) _).setCell (p := ⟨w.heap.size + 1, 0, none⟩) (by simp) _).setCell (p := ⟨w.heap.size + 1, 1, none⟩) (by simp) _⟩
  · have HO : Hid (∀ z, closeE l z = 0) := fun z => if_neg hE
    rw [HO.out, HO.out, HO.out, HO.out]
    clear HO
    have he1 : decide (stkErr l = 0) = false := by simpa using hE
    clear h hn
    generalize stkErr l = e0 at *
    go_enter Try.func40, Try.ntmps40
    go_wp2_with fail
    refine (HF.out _ E0.out.bel).mono ?_
    rintro e W7 ⟨rfl, hb1⟩
    have E7 := Lib.hid (E0.out.below hb1)
    have p1 := pair_get E7.out.p
    have q1 := pair_get E7.out.q
    clear hb1
    go_wp2
    exact bodyPost_ret (results_cct rfl _ _ _ w.heap.size (w.heap.size + 1) _ _ _ _ _ _ rfl ((((E7.out.p.set_ 0 _).set_ 1 _).far (p := ⟨w.heap.size + 1, 0, none⟩) (by simp) _).far (p := ⟨w.heap.size + 1, 1, none⟩) (by simp) _) Try.underlying23 (by kernel_rfl) rfl ((((E7.out.q.far (p := ⟨w.heap.size, 0, none⟩) (by simp) _).far (p := ⟨w.heap.size, 1, none⟩) (by simp) _).set_ 0 _).set_ 1 _) Try.underlying23 (by kernel_rfl)) rfl
      ⟨rfl, (((E7.out.bel.setCell (p := ⟨w.heap.size, 0, none⟩) (Nat.le_refl _) _).setCell (p := ⟨w.heap.size, 1, none⟩) (Nat.le_refl _) _).setCell (p := ⟨w.heap.size + 1, 0, none⟩) (by simp) _).setCell (p := ⟨w.heap.size + 1, 1, none⟩) (by simp) _⟩

/-- Whether a rivet holds sticks, and the error. -/
def holdsE (l : List Stk) (s : Int × Int) : Int := if stkErr l = 0 then (if validS 0 5000 [s] = true then 0 else 4) else stkErr l
def holdsB (l : List Stk) (s : Int × Int) (b : Bool) : Bool := if holdsE l s = 0 then b else false

set_option maxRecDepth 100000 in
set_option maxHeartbeats 2000000 in
theorem Holds_any (l : List Stk) (x y : Int) (A : Option Addr) (n c : Nat) (w : World) (h : Stks w A n l) (hn : n ≤ maxLen) :
    Calls Try.prog 41 #[.slice A n c, .agg #[.int .i64 x, .int .i64 y]] w fun e w' => e = .returned (.tuple #[.bool (holdsB l (x, y) (decide (sumHi true l ≤ x))), .bool (holdsB l (x, y) (decide (sumLo true l ≤ y))), .int .i64 (holdsE l (x, y))]) ∧ Below w.heap.size w w' := by
  have B0 := Lib.hid (below_self w (.cells #[.int .i64 x, .int .i64 y] 23))
  have R0 := Lib.hid (Blk.new w 23 #[.int .i64 x, .int .i64 y] (g := w.heap.size) rfl)
  have HF := Lib.hid (fun W (hb : Below w.heap.size w W) => sticksError_any l A n c W (h.below hb) hn)
  by_cases hE : stkErr l = 0
  · have hs := stkB_of hE
    have H2 := Lib.hid (fun W (hb : Below w.heap.size w W) => togethertrue_any l A n c W hs (h.below hb))
    cases q : validS 0 5000 [(x, y)]
    · have HO : Hid (∀ b, holdsB l (x, y) b = false) := fun b => by unfold holdsB holdsE; rw [if_pos hE, q]; rfl
      have HO2 : Hid (holdsE l (x, y) = 4) := by unfold Hid holdsE; rw [if_pos hE, q]; rfl
      rw [HO.out, HO.out, HO2.out]
      rw [hE] at HF
      have HV := Lib.hid (fun W => (valid1 0 5000 x y 23 W.heap.size W rfl).mono (fun e w' h => (⟨h.1, below_then (below_self W _) (by simpa using h.2)⟩ : e = .returned (.bool (validS 0 5000 [(x, y)])) ∧ Below W.heap.size W w')))
      rw [q] at HV
      clear h hn hE hs HO HO2 q H2
      go_enter Try.func41, Try.ntmps41
      go_wp2_with fail
      refine (HF.out _ B0.out).mono ?_
      rintro e W1 ⟨rfl, hb1⟩
      have B1 := Lib.hid (below_then B0.out hb1)
      have p1 := (blk_keep hb1 R0.out).cell
      clear hb1
      go_wp2_with fail
      refine (HV.out _).mono ?_
      rintro e w2 ⟨rfl, hb2⟩
      go_wp2
      go_ret3
      exact ⟨rfl, below_then B1.out hb2⟩
    · have HO2 : Hid (holdsE l (x, y) = 0) := by unfold Hid holdsE; rw [if_pos hE, q]; rfl
      have HO : Hid (∀ b, holdsB l (x, y) b = b) := fun b => by unfold holdsB; rw [HO2.out]; rfl
      rw [HO.out, HO.out, HO2.out]
      rw [hE] at HF
      have HV := Lib.hid (fun W => (valid1 0 5000 x y 23 W.heap.size W rfl).mono (fun e w' h => (⟨h.1, below_then (below_self W _) (by simpa using h.2)⟩ : e = .returned (.bool (validS 0 5000 [(x, y)])) ∧ Below W.heap.size W w')))
      rw [q] at HV
      clear h hn hE hs HO HO2 q
      generalize sumLo true l = a3 at *
      generalize sumHi true l = a4 at *
      go_enter Try.func41, Try.ntmps41
      go_wp2_with fail
      refine (HF.out _ B0.out).mono ?_
      rintro e W1 ⟨rfl, hb1⟩
      have B1 := Lib.hid (below_then B0.out hb1)
      have R1 := Lib.hid (blk_keep hb1 R0.out)
      have p1 := R1.out.cell
      clear hb1
      go_wp2_with fail
      refine (HV.out _).mono ?_
      rintro e w2 ⟨rfl, hb2⟩
      have B2 := Lib.hid (below_then B1.out hb2)
      have R2 := Lib.hid (blk_keep hb2 R1.out)
      clear p1 hb2
      go_wp2_with fail
      refine (H2.out _ B2.out).mono ?_
      rintro e W3 ⟨rfl, hb3⟩
      have B3 := Lib.hid (below_then B2.out hb3)
      have R3 := Lib.hid (blk_keep hb3 R2.out)
      have S3 := Lib.hid (Blk.new W3 23 #[.int .i64 0, .int .i64 0] (g := W3.heap.size) rfl)
      have hz := R3.out.lt
      have R4 := Lib.hid ((R3.out.alloc (.cells #[.int .i64 0, .int .i64 0] 23)).setRow_far (g' := W3.heap.size) (by omega) #[.int .i64 a3, .int .i64 a4])
      have B4 := Lib.hid (below_setR (below_alloc' B3.out (.cells #[.int .i64 0, .int .i64 0] 23)) (g := W3.heap.size) B3.out.size #[.int .i64 a3, .int .i64 a4])
      clear hb3
      go_wp2_with (refine wpList_store_row rfl 23 _ _ rfl W3.heap.size _ rfl rfl 23 _ S3.out (by kernel_rfl) rfl (by kernel_rfl) ?_; have S4 := Lib.hid (S3.out.setRow #[.int .i64 a3, .int .i64 a4]); clear S3; have r5 := pair_get R4.out; have g5 := pair_get S4.out)
      go_quiet (fail)
      go_wp2
      go_ret3
      exact ⟨rfl, below_drewN B4.out _⟩
  · have HO2 : Hid (holdsE l (x, y) = stkErr l) := if_neg hE
    have HO : Hid (∀ b, holdsB l (x, y) b = false) := fun b => by unfold holdsB; rw [HO2.out, if_neg hE]
    rw [HO.out, HO.out, HO2.out]
    have he1 : decide (stkErr l = 0) = false := by simpa using hE
    clear h hn HO HO2
    generalize stkErr l = e0 at *
    go_enter Try.func41, Try.ntmps41
    go_wp2_with fail
    refine (HF.out _ B0.out).mono ?_
    rintro e W7 ⟨rfl, hb1⟩
    go_wp2
    go_ret3
    exact ⟨rfl, below_then B0.out hb1⟩
end Go.Proofs.Ytdekickmplkdiaa
