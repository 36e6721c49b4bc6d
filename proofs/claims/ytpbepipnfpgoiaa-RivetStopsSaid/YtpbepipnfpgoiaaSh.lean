/- Walks: the reference's Stop. -/
import Derived.Test.YtpbepipnfpgoiaaSe
import Derived.Test.YtpbepipnfpgoiaaRg
namespace Go.Proofs.Ytpbepipnfpgoiaa
open Go.RowKit

def selI (k i : Nat) (lo hi : Int) : Int := bif (k / 2 ^ i % 2 == 1) then hi else lo
theorem selI_bd {lo hi : Int} (h : lo ≤ hi) (k i : Nat) : lo ≤ selI k i lo hi ∧ selI k i lo hi ≤ hi := by
  unfold selI
  cases (k / 2 ^ i % 2 == 1) <;> simp <;> omega
def leafS (f : Fan) (y : Gap) (k : Nat) : Bool := decide (selI k 2 y.ll y.lh * selI k 1 f.c f.d < selI k 3 y.fl y.fh * selI k 0 f.a f.b)
def footS (f : Fan) (y : Gap) (k : Nat) : Bool := decide (selI k 3 y.fl y.fh * selI k 0 f.a f.b < selI k 2 y.ll y.lh * selI k 1 f.c f.d)
def allB (s : Nat → Bool) : Nat → Bool
  | 0 => true
  | k + 1 => allB s k && s k
theorem allB_iff (s : Nat → Bool) (n : Nat) : allB s n = true ↔ ∀ k, k < n → s k = true := by
  induction n with
  | zero => simp [allB]
  | succ n ih =>
    simp only [allB, Bool.and_eq_true, ih]
    constructor
    · rintro ⟨h1, h2⟩ k hk
      rcases Nat.lt_succ_iff_lt_or_eq.1 hk with h | rfl
      · exact h1 k h
      · exact h2
    · intro h
      exact ⟨fun k hk => h k (by omega), h n (by omega)⟩
theorem leafB_eq {f : Fan} {y : Gap} (hf : FanB f) (hy : y ∈ f.gs) : allB (leafS f y) 16 = decide (y.lh * f.d < y.fl * f.a) := by
  have h1 := hf.a1; have h2 := hf.ab; have h4 := hf.c1; have h5 := hf.cd
  obtain ⟨k1, k2, k3, k4, k5, k6⟩ := hf.g y hy
  rw [Bool.eq_iff_iff, allB_iff, decide_eq_true_iff]
  constructor
  · intro h
    simpa [leafS, selI] using h 6 (by omega)
  · intro h k _
    have e1 := selI_bd k2 k 2
    have e2 := selI_bd h5 k 1
    have e3 := selI_bd (show y.fl ≤ y.fh by omega) k 3
    have e4 := selI_bd h2 k 0
    have m1 : selI k 2 y.ll y.lh * selI k 1 f.c f.d ≤ y.lh * f.d := Int.mul_le_mul e1.2 e2.2 (by omega) (by omega)
    have m2 : y.fl * f.a ≤ selI k 3 y.fl y.fh * selI k 0 f.a f.b := Int.mul_le_mul e3.1 e4.1 (by omega) (by omega)
    unfold leafS
    rw [decide_eq_true_iff]
    omega
theorem footB_eq {f : Fan} {y : Gap} (hf : FanB f) (hy : y ∈ f.gs) : allB (footS f y) 16 = decide (y.fh * f.b < y.ll * f.c) := by
  have h1 := hf.a1; have h2 := hf.ab; have h4 := hf.c1; have h5 := hf.cd
  obtain ⟨k1, k2, k3, k4, k5, k6⟩ := hf.g y hy
  rw [Bool.eq_iff_iff, allB_iff, decide_eq_true_iff]
  constructor
  · intro h
    simpa [footS, selI] using h 9 (by omega)
  · intro h k _
    have e1 := selI_bd k2 k 2
    have e2 := selI_bd h5 k 1
    have e3 := selI_bd (show y.fl ≤ y.fh by omega) k 3
    have e4 := selI_bd h2 k 0
    have m1 : y.ll * f.c ≤ selI k 2 y.ll y.lh * selI k 1 f.c f.d := Int.mul_le_mul e1.1 e2.1 (by omega) (by omega)
    have m2 : selI k 3 y.fl y.fh * selI k 0 f.a f.b ≤ y.fh * f.b := Int.mul_le_mul e3.2 e4.2 (by omega) (by omega)
    unfold footS
    rw [decide_eq_true_iff]
    omega

set_option maxRecDepth 100000 in
set_option maxHeartbeats 16000000 in
theorem RefStop_any (f : Fan) (y : Gap) (A : Option Addr) (n c : Nat) (w : World) (hf : FanB f) (hy : y ∈ f.gs) :
    Calls Try.prog 25 #[.agg (fanA f A n c), .agg #[.int .i64 y.ll, .int .i64 y.lh, .int .i64 y.fl, .int .i64 y.fh]] w fun e w' => e = .returned (.int .i64 (stopL f y)) ∧ Below w.heap.size w w' := by
  have E0 := Lib.hid (Env2.start w 26 42 (fanA f A n c) #[.int .i64 y.ll, .int .i64 y.lh, .int .i64 y.fl, .int .i64 y.fh])
  have HL := Lib.hid (leafB_eq hf hy)
  have HF := Lib.hid (footB_eq hf hy)
  have HO : Hid (stopL f y = if y.lh * f.d < y.fl * f.a then 1 else if y.fh * f.b < y.ll * f.c then 2 else 3) := rfl
  have h1 := hf.a1; have h2 := hf.ab; have h3 := hf.b5; have h4 := hf.c1; have h5 := hf.cd; have h6 := hf.d5
  obtain ⟨k1, k2, k3, k4, k5, k6⟩ := hf.g y hy
  have q1 := mul_sm k1 (show y.ll ≤ 5000 by omega) (show 0 ≤ f.c by omega) (show f.c ≤ 5000 by omega)
  have q2 := mul_sm k1 (show y.ll ≤ 5000 by omega) (show 0 ≤ f.d by omega) (show f.d ≤ 5000 by omega)
  have q3 := mul_sm (show 0 ≤ y.lh by omega) (show y.lh ≤ 5000 by omega) (show 0 ≤ f.c by omega) (show f.c ≤ 5000 by omega)
  have q4 := mul_sm (show 0 ≤ y.lh by omega) (show y.lh ≤ 5000 by omega) (show 0 ≤ f.d by omega) (show f.d ≤ 5000 by omega)
  have q5 := mul_sm (show 0 ≤ y.fl by omega) (show y.fl ≤ 5000 by omega) (show 0 ≤ f.a by omega) (show f.a ≤ 5000 by omega)
  have q6 := mul_sm (show 0 ≤ y.fl by omega) (show y.fl ≤ 5000 by omega) (show 0 ≤ f.b by omega) (show f.b ≤ 5000 by omega)
  have q7 := mul_sm (show 0 ≤ y.fh by omega) (show y.fh ≤ 5000 by omega) (show 0 ≤ f.a by omega) (show f.a ≤ 5000 by omega)
  have q8 := mul_sm (show 0 ≤ y.fh by omega) (show y.fh ≤ 5000 by omega) (show 0 ≤ f.b by omega) (show f.b ≤ 5000 by omega)
  have S1 : Hid (∀ k, allB (leafS f y) (k + 1) = (allB (leafS f y) k && decide (selI k 2 y.ll y.lh * selI k 1 f.c f.d < selI k 3 y.fl y.fh * selI k 0 f.a f.b))) := fun _ => rfl
  have S2 : Hid (∀ k, allB (footS f y) (k + 1) = (allB (footS f y) k && decide (selI k 3 y.fl y.fh * selI k 0 f.a f.b < selI k 2 y.ll y.lh * selI k 1 f.c f.d))) := fun _ => rfl
  have Z1 : Hid (allB (leafS f y) 0 = true) := rfl
  have Z2 : Hid (allB (footS f y) 0 = true) := rfl
  generalize allB (leafS f y) = lf at *
  generalize allB (footS f y) = ff at *
  generalize stopL f y = r at *
  clear hf hy h1 h2 h3 h4 h5 h6 k1 k2 k3 k4 k5 k6
  obtain ⟨fa, fb, fc, fd, gs⟩ := f
  obtain ⟨ll, lh, fl, fh⟩ := y
  simp only [fanA] at *
  go_enter Try.func25, Try.ntmps25
  go_wp2
  go_loopw [5, 6, 7, 8, 9, 10, 11] (fun l t i _ _ _ _ wr => ∃ k : Nat, k ≤ 16 ∧ i = .int .i64 k ∧ l = .bool (lf k) ∧ t = .bool (ff k) ∧ Env2 w wr 26 42 #[.int .i64 fa, .int .i64 fb, .int .i64 fc, .int .i64 fd, .slice A n c] #[.int .i64 ll, .int .i64 lh, .int .i64 fl, .int .i64 fh]) (fun _ _ i _ _ _ _ _ => 16 - (intOf i).toNat)
  case atStart => exact ⟨0, Nat.zero_le _, rfl, by rw [Z1.out], by rw [Z2.out], E0.out⟩
  case round =>
    obtain ⟨k, hk, rfl, rfl, rfl, hE⟩ := hrel
    have E1 := Lib.hid hE
    have p1 := hE.p.cell
    have p2 := hE.q.cell
    clear hE E0
    by_cases hlt : k < 16
    · have T1 := Lib.hid (S1.out k)
      have T2 := Lib.hid (S2.out k)
      generalize hl1 : lf (k + 1) = l1 at *
      generalize ht1 : ff (k + 1) = t1 at *
      have HL1 := Lib.hid hl1
      have HT1 := Lib.hid ht1
      generalize lf k = l0 at *
      generalize ff k = t0 at *
      clear hl1 ht1 S1 S2 HL HF HO Z1 Z2
      have hcases : k = 0 ∨ k = 1 ∨ k = 2 ∨ k = 3 ∨ k = 4 ∨ k = 5 ∨ k = 6 ∨ k = 7 ∨ k = 8 ∨ k = 9 ∨ k = 10 ∨ k = 11 ∨ k = 12 ∨ k = 13 ∨ k = 14 ∨ k = 15 := by omega
      go_wp2_with fail
      go_quiet (fail)
      rcases hcases with rfl | rfl | rfl | rfl | rfl | rfl | rfl | rfl | rfl | rfl | rfl | rfl | rfl | rfl | rfl | rfl
      · cases l0 <;> cases t0 <;> (go_wp2; go_roundw; (case rel => exact ⟨0 + 1, by omega, by go_num, by rw [HL1.out, T1.out]; rfl, by rw [HT1.out, T2.out]; rfl, E1.out.drewdN _⟩); (case measure => simp [intOf]))
      · cases l0 <;> cases t0 <;> (go_wp2; go_roundw; (case rel => exact ⟨1 + 1, by omega, by go_num, by rw [HL1.out, T1.out]; rfl, by rw [HT1.out, T2.out]; rfl, E1.out.drewdN _⟩); (case measure => simp [intOf]))
      · cases l0 <;> cases t0 <;> (go_wp2; go_roundw; (case rel => exact ⟨2 + 1, by omega, by go_num, by rw [HL1.out, T1.out]; rfl, by rw [HT1.out, T2.out]; rfl, E1.out.drewdN _⟩); (case measure => simp [intOf]))
      · cases l0 <;> cases t0 <;> (go_wp2; go_roundw; (case rel => exact ⟨3 + 1, by omega, by go_num, by rw [HL1.out, T1.out]; rfl, by rw [HT1.out, T2.out]; rfl, E1.out.drewdN _⟩); (case measure => simp [intOf]))
      · cases l0 <;> cases t0 <;> (go_wp2; go_roundw; (case rel => exact ⟨4 + 1, by omega, by go_num, by rw [HL1.out, T1.out]; rfl, by rw [HT1.out, T2.out]; rfl, E1.out.drewdN _⟩); (case measure => simp [intOf]))
      · cases l0 <;> cases t0 <;> (go_wp2; go_roundw; (case rel => exact ⟨5 + 1, by omega, by go_num, by rw [HL1.out, T1.out]; rfl, by rw [HT1.out, T2.out]; rfl, E1.out.drewdN _⟩); (case measure => simp [intOf]))
      · cases l0 <;> cases t0 <;> (go_wp2; go_roundw; (case rel => exact ⟨6 + 1, by omega, by go_num, by rw [HL1.out, T1.out]; rfl, by rw [HT1.out, T2.out]; rfl, E1.out.drewdN _⟩); (case measure => simp [intOf]))
      · cases l0 <;> cases t0 <;> (go_wp2; go_roundw; (case rel => exact ⟨7 + 1, by omega, by go_num, by rw [HL1.out, T1.out]; rfl, by rw [HT1.out, T2.out]; rfl, E1.out.drewdN _⟩); (case measure => simp [intOf]))
      · cases l0 <;> cases t0 <;> (go_wp2; go_roundw; (case rel => exact ⟨8 + 1, by omega, by go_num, by rw [HL1.out, T1.out]; rfl, by rw [HT1.out, T2.out]; rfl, E1.out.drewdN _⟩); (case measure => simp [intOf]))
      · cases l0 <;> cases t0 <;> (go_wp2; go_roundw; (case rel => exact ⟨9 + 1, by omega, by go_num, by rw [HL1.out, T1.out]; rfl, by rw [HT1.out, T2.out]; rfl, E1.out.drewdN _⟩); (case measure => simp [intOf]))
      · cases l0 <;> cases t0 <;> (go_wp2; go_roundw; (case rel => exact ⟨10 + 1, by omega, by go_num, by rw [HL1.out, T1.out]; rfl, by rw [HT1.out, T2.out]; rfl, E1.out.drewdN _⟩); (case measure => simp [intOf]))
      · cases l0 <;> cases t0 <;> (go_wp2; go_roundw; (case rel => exact ⟨11 + 1, by omega, by go_num, by rw [HL1.out, T1.out]; rfl, by rw [HT1.out, T2.out]; rfl, E1.out.drewdN _⟩); (case measure => simp [intOf]))
      · cases l0 <;> cases t0 <;> (go_wp2; go_roundw; (case rel => exact ⟨12 + 1, by omega, by go_num, by rw [HL1.out, T1.out]; rfl, by rw [HT1.out, T2.out]; rfl, E1.out.drewdN _⟩); (case measure => simp [intOf]))
      · cases l0 <;> cases t0 <;> (go_wp2; go_roundw; (case rel => exact ⟨13 + 1, by omega, by go_num, by rw [HL1.out, T1.out]; rfl, by rw [HT1.out, T2.out]; rfl, E1.out.drewdN _⟩); (case measure => simp [intOf]))
      · cases l0 <;> cases t0 <;> (go_wp2; go_roundw; (case rel => exact ⟨14 + 1, by omega, by go_num, by rw [HL1.out, T1.out]; rfl, by rw [HT1.out, T2.out]; rfl, E1.out.drewdN _⟩); (case measure => simp [intOf]))
      · cases l0 <;> cases t0 <;> (go_wp2; go_roundw; (case rel => exact ⟨15 + 1, by omega, by go_num, by rw [HL1.out, T1.out]; rfl, by rw [HT1.out, T2.out]; rfl, E1.out.drewdN _⟩); (case measure => simp [intOf]))
    · obtain rfl : k = 16 := by omega
      have e1 := HL.out
      have e2 := HF.out
      generalize lf 16 = l1 at *
      generalize ff 16 = t1 at *
      cases q1 : decide (lh * fd < fl * fa)
      · rw [q1] at e1
        cases q2 : decide (fh * fb < ll * fc)
        · rw [q2] at e2
          have H : Hid (r = 3) := by unfold Hid; rw [HO.out, if_neg (by simpa using q1), if_neg (by simpa using q2)]
          subst e1 e2
          clear HL HF HO S1 S2 Z1 Z2 q1 q2
          go_wp2
          go_ret
          exact ⟨ret_int H.out.symm, E1.out.bel⟩
        · rw [q2] at e2
          have H : Hid (r = 2) := by unfold Hid; rw [HO.out, if_neg (by simpa using q1), if_pos (by simpa using q2)]
          subst e1 e2
          clear HL HF HO S1 S2 Z1 Z2 q1 q2
          go_wp2
          go_ret
          exact ⟨ret_int H.out.symm, E1.out.bel⟩
      · rw [q1] at e1
        have H : Hid (r = 1) := by unfold Hid; rw [HO.out, if_pos (by simpa using q1)]
        subst e1
        clear HL HF HO S1 S2 Z1 Z2 q1 e2
        go_wp2
        go_ret
        exact ⟨ret_int H.out.symm, E1.out.bel⟩
end Go.Proofs.Ytpbepipnfpgoiaa
