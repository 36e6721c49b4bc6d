/- Walks: bytes, inside, degrees, turn. -/
import Derived.Test.YtpbepipnfpgoiaaUm
import Derived.Test.YtpbepipnfpgoiaaUnt
import Derived.Test.YtpbepipnfpgoiaaUg
namespace Go.Proofs.Ytpbepipnfpgoiaa
open Go.RowKit

def Byte (x : Int) : Prop := 0 ≤ x ∧ x ≤ 255
/-- A slice reads as bytes. -/
structure Bytes (w : World) (B : Option Addr) (m : Nat) (xs : List Int) : Prop where
  r : Reads w 1 B m (xs.map (Value.int .u8))
  b : ∀ x ∈ xs, Byte x
theorem Bytes.below {w W : World} {B : Option Addr} {m : Nat} {xs : List Int} (h : Bytes w B m xs) (hb : Below w.heap.size w W) : Bytes W B m xs := ⟨h.r.below hb, h.b⟩
theorem Bytes.len {w : World} {B : Option Addr} {m : Nat} {xs : List Int} (h : Bytes w B m xs) : xs.length = m := by have := h.r.1; simpa using this
theorem byte_getD {xs : List Int} (h : ∀ x ∈ xs, Byte x) (j : Nat) : Byte (xs.getD j 0) := by
  rcases Nat.lt_or_ge j xs.length with hj | hj
  · have e : xs.getD j 0 = xs[j] := by simp [List.getD, hj]
    rw [e]; exact h _ (List.getElem_mem _)
  · have e : xs.getD j 0 = 0 := by simp [List.getD, hj]
    rw [e]; unfold Byte; omega
/-- A byte of a list, used again and again. -/
def byteAt (xs : List Int) (i : Nat) : Int := xs.getD (i % xs.length) 0
theorem byteAt_bd {xs : List Int} (h : ∀ x ∈ xs, Byte x) (i : Nat) : 0 ≤ byteAt xs i ∧ byteAt xs i ≤ 255 := byte_getD h _
theorem byteOf_any (xs : List Int) (i : Nat) (B : Option Addr) (m d : Nat) (w : World) (h : Bytes w B m xs) (hm : m ≤ maxLen) (hi : i ≤ 1000000) :
    Calls Try.prog 56 #[.slice B m d, .int .i64 i] w fun e w' => e = .returned (.int .i64 (byteAt xs i)) ∧ w = w' := by
  unfold maxLen at hm
  have hl := h.len
  rcases Nat.eq_zero_or_pos m with rfl | hp
  · have e : byteAt xs i = 0 := by
      have : xs = [] := List.eq_nil_of_length_eq_zero hl
      subst this
      simp [byteAt]
    rw [e]
    clear h hl e
    go_enter Try.func56, Try.ntmps56
    go_wp2
    go_ret
    exact ⟨rfl, rfl⟩
  · obtain ⟨b, off, u, rfl, _, h1, h2⟩ := h.r.at1 (k := i % m) (Nat.mod_lt _ hp)
    have e : byteAt xs i = xs.getD (i % m) 0 := by unfold byteAt; rw [hl]
    have e2 : u = .int .u8 (xs.getD (i % m) 0) := by
      rw [List.getElem?_map] at h1
      have hlt : i % m < xs.length := by rw [hl]; exact Nat.mod_lt _ hp
      rw [List.getElem?_eq_getElem hlt] at h1
      have : xs.getD (i % m) 0 = xs[i % m] := by simp only [List.getD, List.getElem?_eq_getElem hlt, Option.getD_some]
      rw [this]; exact (Option.some.inj h1).symm
    rw [e]
    subst e2
    have hb := byte_getD h.b (i % m)
    unfold Byte at hb
    have hlt : i % m < m := Nat.mod_lt _ hp
    have t1 : (i : Int).tmod (m : Int) = ((i % m : Nat) : Int) := by rw [Int.tmod_eq_emod_of_nonneg (by omega)]; rfl
    have w1 : IntKind.i64.wrap ((i % m : Nat) : Int) = ((i % m : Nat) : Int) := IntWalk.i64_in _ (by omega)
    have hz : ((m : Int) == 0) = false := by simp; omega
    have hz1 : ((m : Int) = 0) = False := by simp; omega
    have hz2 : (m = 0) = False := by simp; omega
    clear h h1 e hl
    generalize xs.getD (i % m) 0 = x at *
    generalize i % m = q at *
    go_enter Try.func56, Try.ntmps56
    go_wp2
    go_ret
    exact ⟨rfl, rfl⟩
/-- An integer of a span by a byte. -/
def insL (lo hi b : Int) : Int := lo + b * (hi - lo) / 255
theorem insL_bd {lo hi b : Int} (h1 : lo ≤ hi) (hb : 0 ≤ b ∧ b ≤ 255) : lo ≤ insL lo hi b ∧ insL lo hi b ≤ hi := by
  have h2 : 0 ≤ b * (hi - lo) := Int.mul_nonneg hb.1 (by omega)
  have h3 : b * (hi - lo) ≤ 255 * (hi - lo) := Int.mul_le_mul_of_nonneg_right hb.2 (by omega)
  unfold insL
  omega
theorem inside_any (lo hi b : Int) (w : World) (h0 : 0 ≤ lo) (h1 : lo ≤ hi) (h2 : hi ≤ 1000000) (hb : 0 ≤ b ∧ b ≤ 255) :
    Calls Try.prog 57 #[.agg #[.int .i64 lo, .int .i64 hi], .int .i64 b] w fun e w' => e = .returned (.int .i64 (insL lo hi b)) ∧ Below w.heap.size w w' := by
  have B0 := Lib.hid (below_self w (.cells #[.int .i64 lo, .int .i64 hi] 23))
  have hp := mul_bd (x := b) (X := 255) (y := hi - lo) (Y := 1000000) hb.1 hb.2 (by omega) (by omega)
  have HI : Hid (insL lo hi b = lo + b * (hi - lo) / 255) := rfl
  generalize insL lo hi b = r at *
  go_enter Try.func57, Try.ntmps57
  go_wp2
  go_ret
  exact ⟨ret_int HI.out.symm, B0.out⟩
set_option maxHeartbeats 400000 in
theorem degrees_any (num den : Int) (w : World) (h0 : 0 ≤ num) (h1 : num ≤ 1000000000) (h2 : 1 ≤ den) (h3 : den ≤ 25000000) :
    Calls Try.prog 51 #[.int .i64 num, .int .i64 den] w fun e w' => e = .returned (.int .i64 (degF num den)) ∧ w = w' := by
  have HD : Hid (degF num den = min 360 (20340 * num / (355 * den))) := rfl
  generalize degF num den = r at *
  have hq : 0 ≤ 20340 * num / (355 * den) ∧ 20340 * num / (355 * den) ≤ 20340 * num := ⟨Int.ediv_nonneg (by omega) (by omega), Int.ediv_le_self _ (by omega)⟩
  have hz : ¬ 355 * den = 0 := by omega
  go_enter Try.func51, Try.ntmps51
  go_wp2
  go_ret
  exact ⟨ret_int HD.out.symm, rfl⟩
/-- The angle of a fan that is known, as a fraction. -/
def tnF (f : Fan) (g : Gap) : Int := min (g.ll * f.c) (g.fl * f.a)
def turnN (f : Fan) : Int := (f.gs.map (tnF f)).sum
def turnD (f : Fan) : Int := f.a * f.c
theorem tn_parts {f : Fan} (h : FanB f) {g : Gap} (hg : g ∈ f.gs) : (0 ≤ g.ll * f.c ∧ g.ll * f.c ≤ 15000000) ∧ (0 ≤ g.fl * f.a ∧ g.fl * f.a ≤ 15000000) := by
  have h1 := h.a1; have h2 := h.ab; have h3 := h.b5; have h4 := h.c1; have h5 := h.cd; have h6 := h.d5
  have k := h.g g hg
  have m1 := mul_bd (x := g.ll) (X := 3000) (y := f.c) (Y := 5000) (by omega) (by omega) (by omega) (by omega)
  have m2 := mul_bd (x := g.fl) (X := 3000) (y := f.a) (Y := 5000) (by omega) (by omega) (by omega) (by omega)
  omega
theorem turn_bd {f : Fan} (h : FanB f) : (0 ≤ turnN f ∧ turnN f ≤ 615000000) ∧ (1 ≤ turnD f ∧ turnD f ≤ 25000000) := by
  have h1 := h.a1; have h2 := h.ab; have h3 := h.b5; have h4 := h.c1; have h5 := h.cd; have h6 := h.d5
  have hs := map_sum_bd (tnF f) f.gs 0 15000000 (fun g hg => by have := tn_parts h hg; unfold tnF; omega)
  have hn := h.n
  have m1 := mul_bd (x := f.a) (X := 5000) (y := f.c) (Y := 5000) (by omega) (by omega) (by omega) (by omega)
  have m2 : 1 * 1 ≤ f.a * f.c := Int.mul_le_mul (by omega) (by omega) (by omega) (by omega)
  unfold turnN turnD
  omega
theorem sumTo_tn (f : Fan) (k : Nat) (hk : k < f.gs.length) : ((f.gs.take (k + 1)).map (tnF f)).sum = ((f.gs.take k).map (tnF f)).sum + tnF f (f.gs.getD k Gap.zero) := map_sum_take _ _ _ k hk
set_option maxRecDepth 100000 in
set_option maxHeartbeats 4000000 in
theorem turn_any (f : Fan) (A : Option Addr) (n c : Nat) (w : World) (hf : FanB f) (h : Gaps w A n f.gs) :
    Calls Try.prog 52 #[.agg (fanA f A n c)] w fun e w' => e = .returned (.tuple #[.int .i64 (turnN f), .int .i64 (turnD f)]) ∧ Below w.heap.size w w' := by
  have hl := h.len
  have hn : n ≤ 41 := by have := hf.n; omega
  have E0 := Lib.hid (Env1.start w 26 (fanA f A n c))
  have HG := Lib.hid h
  have hfa := hf.a1
  have hfc := hf.c1
  have HP := Lib.hid (fun k (hk : k < n) => tn_parts hf (g := f.gs.getD k Gap.zero) (by
    have e : f.gs.getD k Gap.zero = f.gs[k]'(by omega) := by simp [List.getD, show k < f.gs.length from by omega]
    rw [e]; exact List.getElem_mem _))
  have HS := Lib.hid (fun k (hk : k < n) => sumTo_tn f k (by omega))
  have HB := Lib.hid (fun k => map_sum_bd (tnF f) (f.gs.take k) 0 15000000 (fun g hg => by have := tn_parts hf (List.mem_of_mem_take hg); unfold tnF; omega))
  have HLT := Lib.hid (fun k => show (f.gs.take k).length ≤ 41 from by rw [List.length_take]; omega)
  have HM : Hid (∀ g, tnF f g = min (g.ll * f.c) (g.fl * f.a)) := fun _ => rfl
  have HT : Hid (turnN f = ((f.gs.take n).map (tnF f)).sum) := by unfold Hid turnN; rw [List.take_of_length_le (by omega)]
  have HD : Hid (turnD f = f.a * f.c) := rfl
  have hdd := (turn_bd hf).2
  rw [HD.out] at hdd
  have HZ : Hid (((f.gs.take 0).map (tnF f)).sum = 0) := rfl
  clear hf h hl
  generalize turnN f = r1 at *
  generalize turnD f = r2 at *
  generalize tnF f = tn at *
  obtain ⟨fa, fb, fc, fd, gs⟩ := f
  simp only [fanA] at *
  generalize hnum : (fun k => ((gs.take k).map tn).sum) = num at *
  have en : ∀ k, ((gs.take k).map tn).sum = num k := fun k => by rw [← hnum]
  simp only [en] at HS HB HT HZ
  clear en hnum
  go_enter Try.func52, Try.ntmps52
  go_wp2_with fail
  go_loopw [4, 5] (fun s i wr => ∃ k : Nat, k ≤ n ∧ i = .int .i64 k ∧ s = .int .i64 (num k) ∧ Env1 w wr 26 #[.int .i64 fa, .int .i64 fb, .int .i64 fc, .int .i64 fd, .slice A n c]) (fun _ i _ => n - (intOf i).toNat)
  case atStart => exact ⟨0, Nat.zero_le _, rfl, by rw [HZ.out], E0.out⟩
  case round =>
    obtain ⟨k, hk, rfl, rfl, hE⟩ := hrel
    have E1 := Lib.hid hE
    have p1 := fan_get hE.p
    clear hE
    by_cases hlt : k < n
    · obtain ⟨b, off, rfl, hb, hc0, hc1, hc2, hc3⟩ := (HG.out.below E1.out.bel).at_ hlt
      have hs := Lib.hid (HS.out k hlt)
      have hp := HP.out k hlt
      have hbk := HB.out k
      have hlk := HLT.out k
      have hm := Lib.hid (HM.out (gs.getD k Gap.zero))
      generalize gs.getD k Gap.zero = y at *
      obtain ⟨ll, lh, fl, fh⟩ := y
      simp only at hc0 hc1 hc2 hc3 hp hm
      have w1 : IntKind.i64.wrap (ll * fc) = ll * fc := IntWalk.i64_in _ (by omega)
      have w2 : IntKind.i64.wrap (fl * fa) = fl * fa := IntWalk.i64_in _ (by omega)
      have hnb : 0 ≤ num k ∧ num k ≤ 615000000 := by omega
      clear hbk hlk
      go_wp2_with fail
      go_quiet (fail)
      by_cases hlf : ll * fc < fl * fa
      · have hq : Hid (num (k + 1) = num k + ll * fc) := by unfold Hid; rw [hs.out, hm.out]; omega
        go_wp2_with fail
        go_roundw
        case rel => exact ⟨k + 1, by omega, by go_num, by rw [hq.out], E1.out.drewdN _⟩
        case measure => simp [intOf]; omega
      · have hq : Hid (num (k + 1) = num k + fl * fa) := by unfold Hid; rw [hs.out, hm.out]; omega
        go_wp2_with fail
        go_roundw
        case rel => exact ⟨k + 1, by omega, by go_num, by rw [hq.out], E1.out.drewdN _⟩
        case measure => simp [intOf]; omega
    · obtain rfl : k = n := by omega
      have w1 : IntKind.i64.wrap (fa * fc) = fa * fc := IntWalk.i64_in _ (by omega)
      go_wp2_with fail
      go_quiet (fail)
      go_wp2_with fail
      go_ret2
      exact ⟨by rw [HT.out, HD.out]; rfl, below_drewN E1.out.bel _⟩
end Go.Proofs.Ytpbepipnfpgoiaa
