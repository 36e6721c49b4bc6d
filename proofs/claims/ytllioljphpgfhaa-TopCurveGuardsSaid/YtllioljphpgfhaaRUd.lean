/- What is needed of Ud. -/
import Derived.Test.YtllioljphpgfhaaRKj
namespace Go.Proofs.Ytllioljphpgfhaa
open Go.RowKit
/-- What a closed fan weighs, how thick it is, and the error. -/
def closeE (l : List Stk) (z : Int) : Int := if stkErr l = 0 then z else 0
set_option maxRecDepth 100000 in
set_option maxHeartbeats 2000000 in
theorem Closed_any (l : List Stk) (A : Option Addr) (n c : Nat) (w : World) (h : Stks w A n l) (hn : n ≤ maxLen) :
    Calls Try.prog 12 #[.slice A n c] w fun e w' => e = .returned (.tuple #[.agg #[.int .i64 (closeE l (sumLo false l)), .int .i64 (closeE l (sumHi false l))], .agg #[.int .i64 (closeE l (sumLo true l)), .int .i64 (closeE l (sumHi true l))], .int .i64 (stkErr l)]) ∧ Below w.heap.size w w' := by
  have E0 := Lib.hid (Env2.start w 36 36 #[.int .i64 0, .int .i64 0] #[.int .i64 0, .int .i64 0])
  have HF := Lib.hid (fun W (hb : Below w.heap.size w W) => sticksError_any l A n c W (h.below hb) hn)
  by_cases hE : stkErr l = 0
  · have hs := stkB_of hE
    have H1 := Lib.hid (fun W (hb : Below w.heap.size w W) => togetherfalse_any l A n c W hs (h.below hb))
    have H2 := Lib.hid (fun W (hb : Below w.heap.size w W) => togethertrue_any l A n c W hs (h.below hb))
    have HO : Hid (∀ z, closeE l z = z) := fun z => if_pos hE
    rw [HO.out, HO.out, HO.out, HO.out]
    clear HO
    rw [hE] at HF
    rw [hE]
    clear h hn hE hs
    generalize sumLo false l = a1 at *
    generalize sumHi false l = a2 at *
    generalize sumLo true l = a3 at *
    generalize sumHi true l = a4 at *
    go_enter Try.func12, Try.ntmps12
    go_wp2_with fail
    refine (HF.out _ E0.out.bel).mono ?_
    rintro e W1 ⟨rfl, hb1⟩
    have E1 := Lib.hid (E0.out.below hb1)
    clear hb1
    go_wp2_with fail
    refine (H1.out _ E1.out.bel).mono ?_
    rintro e W2 ⟨rfl, hb2⟩
    have E2 := Lib.hid (E1.out.below hb2)
    clear hb2
    go_wp2_with fail
    refine (H2.out _ E2.out.bel).mono ?_
    rintro e W7 ⟨rfl, hb7⟩
    have E7 := Lib.hid (E2.out.below hb7)
    have p1 := pair_get E7.out.p
    have q1 := pair_get E7.out.q
    clear hb7
    go_wp2
    exact bodyPost_ret (results_cct rfl _ _ _ w.heap.size (w.heap.size + 1) _ _ _ _ _ _ rfl ((((E7.out.p.set_ 0 _).set_ 1 _).far (p := ⟨w.heap.size + 1, 0, none⟩) (by simp) _).far (p := ⟨w.heap.size + 1, 1, none⟩) (by simp) _) Try.underlying36 (by kernel_rfl) rfl ((((E7.out.q.far (p := ⟨w.heap.size, 0, none⟩) (by simp) _).far (p := ⟨w.heap.size, 1, none⟩) (by simp) _).set_ 0 _).set_ 1 _) Try.underlying36 (by kernel_rfl)) rfl
      ⟨rfl, (((E7.out.bel.setCell (p := ⟨w.heap.size, 0, none⟩) (Nat.le_refl _) _).setCell (p := ⟨w.heap.size, 1, none⟩) (Nat.le_refl _) _).setCell (p := ⟨w.heap.size + 1, 0, none⟩) (by simp) _).setCell (p := ⟨w.heap.size + 1, 1, none⟩) (by simp) _⟩
  · have HO : Hid (∀ z, closeE l z = 0) := fun z => if_neg hE
    rw [HO.out, HO.out, HO.out, HO.out]
    clear HO
    have he1 : decide (stkErr l = 0) = false := by simpa using hE
    clear h hn
    generalize stkErr l = e0 at *
    go_enter Try.func12, Try.ntmps12
    go_wp2_with fail
    refine (HF.out _ E0.out.bel).mono ?_
    rintro e W7 ⟨rfl, hb1⟩
    have E7 := Lib.hid (E0.out.below hb1)
    have p1 := pair_get E7.out.p
    have q1 := pair_get E7.out.q
    clear hb1
    go_wp2
    exact bodyPost_ret (results_cct rfl _ _ _ w.heap.size (w.heap.size + 1) _ _ _ _ _ _ rfl ((((E7.out.p.set_ 0 _).set_ 1 _).far (p := ⟨w.heap.size + 1, 0, none⟩) (by simp) _).far (p := ⟨w.heap.size + 1, 1, none⟩) (by simp) _) Try.underlying36 (by kernel_rfl) rfl ((((E7.out.q.far (p := ⟨w.heap.size, 0, none⟩) (by simp) _).far (p := ⟨w.heap.size, 1, none⟩) (by simp) _).set_ 0 _).set_ 1 _) Try.underlying36 (by kernel_rfl)) rfl
      ⟨rfl, (((E7.out.bel.setCell (p := ⟨w.heap.size, 0, none⟩) (Nat.le_refl _) _).setCell (p := ⟨w.heap.size, 1, none⟩) (Nat.le_refl _) _).setCell (p := ⟨w.heap.size + 1, 0, none⟩) (by simp) _).setCell (p := ⟨w.heap.size + 1, 1, none⟩) (by simp) _⟩
end Go.Proofs.Ytllioljphpgfhaa
