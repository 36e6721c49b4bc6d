/- Merged: Va, Vb. -/
import Derived.Test.YtdekickmplkdiaaUm
import Derived.Test.YtdekickmplkdiaaKb
import Derived.Test.YtdekickmplkdiaaKj
import Derived.Test.YtdekickmplkdiaaKi

/- Walks: bytes, inside, degrees, turn. -/
namespace Go.Proofs.Ytdekickmplkdiaa
open Go.RowKit

def Byte (x : Int) : Prop := 0 ≤ x ∧ x ≤ 255
/-- A slice reads as bytes. -/
structure Bytes (w : World) (B : Option Addr) (m : Nat) (xs : List Int) : Prop where
  r : Reads w 1 B m (xs.map (Value.int .u8))
  b : ∀ x ∈ xs, Byte x
theorem Bytes.below {w W : World} {B : Option Addr} {m : Nat} {xs : List Int} (h : Bytes w B m xs) (hb : Below w.heap.size w W) : Bytes W B m xs := ⟨h.r.below hb, h.b⟩
theorem Bytes.len {w : World} {B : Option Addr} {m : Nat} {xs : List Int} (h : Bytes w B m xs) : xs.length = m := by have := h.r.1; simpa using this
theorem byte_getD {xs : List Int} (h : ∀ x ∈ xs, Byte x) (j : Nat) : Byte (xs.getD j 0) := by
  rcases Nat.lt_or_ge j xs.length with hj | hj
  · have e : xs.getD j 0 = xs[j] := by simp [List.getD, hj]
    rw [e]; exact h _ (List.getElem_mem _)
  · have e : xs.getD j 0 = 0 := by simp [List.getD, hj]
    rw [e]; unfold Byte; omega
/-- A byte of a list, used again and again. -/
def byteAt (xs : List Int) (i : Nat) : Int := xs.getD (i % xs.length) 0
theorem byteAt_bd {xs : List Int} (h : ∀ x ∈ xs, Byte x) (i : Nat) : 0 ≤ byteAt xs i ∧ byteAt xs i ≤ 255 := byte_getD h _
theorem byteOf_any (xs : List Int) (i : Nat) (B : Option Addr) (m d : Nat) (w : World) (h : Bytes w B m xs) (hm : m ≤ maxLen) (hi : i ≤ 1000000) :
    Calls Try.prog 56 #[.slice B m d, .int .i64 i] w fun e w' => e = .returned (.int .i64 (byteAt xs i)) ∧ w = w' := by
  unfold maxLen at hm
  have hl := h.len
  rcases Nat.eq_zero_or_pos m with rfl | hp
  · have e : byteAt xs i = 0 := by
      have : xs = [] := List.eq_nil_of_length_eq_zero hl
      subst this
      simp [byteAt]
    rw [e]
    clear h hl e
    go_enter Try.func56, Try.ntmps56
    go_wp2
    go_ret
    exact ⟨rfl, rfl⟩
  · obtain ⟨b, off, u, rfl, _, h1, h2⟩ := h.r.at1 (k := i % m) (Nat.mod_lt _ hp)
    have e : byteAt xs i = xs.getD (i % m) 0 := by unfold byteAt; rw [hl]
    have e2 : u = .int .u8 (xs.getD (i % m) 0) := by
      rw [List.getElem?_map] at h1
      have hlt : i % m < xs.length := by rw [hl]; exact Nat.mod_lt _ hp
      rw [List.getElem?_eq_getElem hlt] at h1
      have : xs.getD (i % m) 0 = xs[i % m] := by simp only [List.getD, List.getElem?_eq_getElem hlt, Option.getD_some]
      rw [this]; exact (Option.some.inj h1).symm
    rw [e]
    subst e2
    have hb := byte_getD h.b (i % m)
    unfold Byte at hb
    have hlt : i % m < m := Nat.mod_lt _ hp
    have t1 : (i : Int).tmod (m : Int) = ((i % m : Nat) : Int) := by rw [Int.tmod_eq_emod_of_nonneg (by omega)]; rfl
    have w1 : IntKind.i64.wrap ((i % m : Nat) : Int) = ((i % m : Nat) : Int) := IntWalk.i64_in _ (by omega)
    have hz : ((m : Int) == 0) = false := by simp; omega
    have hz1 : ((m : Int) = 0) = False := by simp; omega
    have hz2 : (m = 0) = False := by simp; omega
    clear h h1 e hl
    generalize xs.getD (i % m) 0 = x at *
    generalize i % m = q at *
    go_enter Try.func56, Try.ntmps56
    go_wp2
    go_ret
    exact ⟨rfl, rfl⟩
/-- An integer of a span by a byte. -/
def insL (lo hi b : Int) : Int := lo + b * (hi - lo) / 255
theorem insL_bd {lo hi b : Int} (h1 : lo ≤ hi) (hb : 0 ≤ b ∧ b ≤ 255) : lo ≤ insL lo hi b ∧ insL lo hi b ≤ hi := by
  have h2 : 0 ≤ b * (hi - lo) := Int.mul_nonneg hb.1 (by omega)
  have h3 : b * (hi - lo) ≤ 255 * (hi - lo) := Int.mul_le_mul_of_nonneg_right hb.2 (by omega)
  unfold insL
  omega
theorem inside_any (lo hi b : Int) (w : World) (h0 : 0 ≤ lo) (h1 : lo ≤ hi) (h2 : hi ≤ 1000000) (hb : 0 ≤ b ∧ b ≤ 255) :
    Calls Try.prog 57 #[.agg #[.int .i64 lo, .int .i64 hi], .int .i64 b] w fun e w' => e = .returned (.int .i64 (insL lo hi b)) ∧ Below w.heap.size w w' := by
  have B0 := Lib.hid (below_self w (.cells #[.int .i64 lo, .int .i64 hi] 23))
  have hp := mul_bd (x := b) (X := 255) (y := hi - lo) (Y := 1000000) hb.1 hb.2 (by omega) (by omega)
  have HI : Hid (insL lo hi b = lo + b * (hi - lo) / 255) := rfl
  generalize insL lo hi b = r at *
  go_enter Try.func57, Try.ntmps57
  go_wp2
  go_ret
  exact ⟨ret_int HI.out.symm, B0.out⟩
set_option maxHeartbeats 400000 in
theorem degrees_any (num den : Int) (w : World) (h0 : 0 ≤ num) (h1 : num ≤ 1000000000) (h2 : 1 ≤ den) (h3 : den ≤ 25000000) :
    Calls Try.prog 51 #[.int .i64 num, .int .i64 den] w fun e w' => e = .returned (.int .i64 (degF num den)) ∧ w = w' := by
  have HD : Hid (degF num den = min 360 (20340 * num / (355 * den))) := rfl
  generalize degF num den = r at *
  have hq : 0 ≤ 20340 * num / (355 * den) ∧ 20340 * num / (355 * den) ≤ 20340 * num := ⟨Int.ediv_nonneg (by omega) (by omega), Int.ediv_le_self _ (by omega)⟩
  have hz : ¬ 355 * den = 0 := by omega
  go_enter Try.func51, Try.ntmps51
  go_wp2
  go_ret
  exact ⟨ret_int HD.out.symm, rfl⟩
/-- The angle of a fan that is known, as a fraction. -/
def tnF (f : Fan) (g : Gap) : Int := min (g.ll * f.c) (g.fl * f.a)
def turnN (f : Fan) : Int := (f.gs.map (tnF f)).sum
def turnD (f : Fan) : Int := f.a * f.c
theorem tn_parts {f : Fan} (h : FanB f) {g : Gap} (hg : g ∈ f.gs) : (0 ≤ g.ll * f.c ∧ g.ll * f.c ≤ 15000000) ∧ (0 ≤ g.fl * f.a ∧ g.fl * f.a ≤ 15000000) := by
  have h1 := h.a1; have h2 := h.ab; have h3 := h.b5; have h4 := h.c1; have h5 := h.cd; have h6 := h.d5
  have k := h.g g hg
  have m1 := mul_bd (x := g.ll) (X := 3000) (y := f.c) (Y := 5000) (by omega) (by omega) (by omega) (by omega)
  have m2 := mul_bd (x := g.fl) (X := 3000) (y := f.a) (Y := 5000) (by omega) (by omega) (by omega) (by omega)
  omega
theorem turn_bd {f : Fan} (h : FanB f) : (0 ≤ turnN f ∧ turnN f ≤ 615000000) ∧ (1 ≤ turnD f ∧ turnD f ≤ 25000000) := by
  have h1 := h.a1; have h2 := h.ab; have h3 := h.b5; have h4 := h.c1; have h5 := h.cd; have h6 := h.d5
  have hs := map_sum_bd (tnF f) f.gs 0 15000000 (fun g hg => by have := tn_parts h hg; unfold tnF; omega)
  have hn := h.n
  have m1 := mul_bd (x := f.a) (X := 5000) (y := f.c) (Y := 5000) (by omega) (by omega) (by omega) (by omega)
  have m2 : 1 * 1 ≤ f.a * f.c := Int.mul_le_mul (by omega) (by omega) (by omega) (by omega)
  unfold turnN turnD
  omega
theorem sumTo_tn (f : Fan) (k : Nat) (hk : k < f.gs.length) : ((f.gs.take (k + 1)).map (tnF f)).sum = ((f.gs.take k).map (tnF f)).sum + tnF f (f.gs.getD k Gap.zero) := map_sum_take _ _ _ k hk
set_option maxRecDepth 100000 in
set_option maxHeartbeats 4000000 in
theorem turn_any (f : Fan) (A : Option Addr) (n c : Nat) (w : World) (hf : FanB f) (h : Gaps w A n f.gs) :
    Calls Try.prog 52 #[.agg (fanA f A n c)] w fun e w' => e = .returned (.tuple #[.int .i64 (turnN f), .int .i64 (turnD f)]) ∧ Below w.heap.size w w' := by
  have hl := h.len
  have hn : n ≤ 41 := by have := hf.n; omega
  have E0 := Lib.hid (Env1.start w 26 (fanA f A n c))
  have HG := Lib.hid h
  have hfa := hf.a1
  have hfc := hf.c1
  have HP := Lib.hid (fun k (hk : k < n) => tn_parts hf (g := f.gs.getD k Gap.zero) (by
    have e : f.gs.getD k Gap.zero = f.gs[k]'(by omega) := by simp [List.getD, show k < f.gs.length from by omega]
    rw [e]; exact List.getElem_mem _))
  have HS := Lib.hid (fun k (hk : k < n) => sumTo_tn f k (by omega))
  have HB := Lib.hid (fun k => map_sum_bd (tnF f) (f.gs.take k) 0 15000000 (fun g hg => by have := tn_parts hf (List.mem_of_mem_take hg); unfold tnF; omega))
  have HLT := Lib.hid (fun k => show (f.gs.take k).length ≤ 41 from by rw [List.length_take]; omega)
  have HM : Hid (∀ g, tnF f g = min (g.ll * f.c) (g.fl * f.a)) := fun _ => rfl
  have HT : Hid (turnN f = ((f.gs.take n).map (tnF f)).sum) := by unfold Hid turnN; rw [List.take_of_length_le (by omega)]
  have HD : Hid (turnD f = f.a * f.c) := rfl
  have hdd := (turn_bd hf).2
  rw [HD.out] at hdd
  have HZ : Hid (((f.gs.take 0).map (tnF f)).sum = 0) := rfl
  clear hf h hl
  generalize turnN f = r1 at *
  generalize turnD f = r2 at *
  generalize tnF f = tn at *
  obtain ⟨fa, fb, fc, fd, gs⟩ := f
  simp only [fanA] at *
  generalize hnum : (fun k => ((gs.take k).map tn).sum) = num at *
  have en : ∀ k, ((gs.take k).map tn).sum = num k := fun k => by rw [← hnum]
  simp only [en] at HS HB HT HZ
  clear en hnum
  go_enter Try.func52, Try.ntmps52
  go_wp2_with fail
  go_loopw [4, 5] (fun s i wr => ∃ k : Nat, k ≤ n ∧ i = .int .i64 k ∧ s = .int .i64 (num k) ∧ Env1 w wr 26 #[.int .i64 fa, .int .i64 fb, .int .i64 fc, .int .i64 fd, .slice A n c]) (fun _ i _ => n - (intOf i).toNat)
  case atStart => exact ⟨0, Nat.zero_le _, rfl, by rw [HZ.out], E0.out⟩
  case round =>
    obtain ⟨k, hk, rfl, rfl, hE⟩ := hrel
    have E1 := Lib.hid hE
    have p1 := fan_get hE.p
    clear hE
    by_cases hlt : k < n
    · obtain ⟨b, off, rfl, hb, hc0, hc1, hc2, hc3⟩ := (HG.out.below E1.out.bel).at_ hlt
      have hs := Lib.hid (HS.out k hlt)
      have hp := HP.out k hlt
      have hbk := HB.out k
      have hlk := HLT.out k
      have hm := Lib.hid (HM.out (gs.getD k Gap.zero))
      generalize gs.getD k Gap.zero = y at *
      obtain ⟨ll, lh, fl, fh⟩ := y
      simp only at hc0 hc1 hc2 hc3 hp hm
      have w1 : IntKind.i64.wrap (ll * fc) = ll * fc := IntWalk.i64_in _ (by omega)
      have w2 : IntKind.i64.wrap (fl * fa) = fl * fa := IntWalk.i64_in _ (by omega)
      have hnb : 0 ≤ num k ∧ num k ≤ 615000000 := by omega
      clear hbk hlk
      go_wp2_with fail
      go_quiet (fail)
      by_cases hlf : ll * fc < fl * fa
      · have hq : Hid (num (k + 1) = num k + ll * fc) := by unfold Hid; rw [hs.out, hm.out]; omega
        go_wp2_with fail
        go_roundw
        case rel => exact ⟨k + 1, by omega, by go_num, by rw [hq.out], E1.out.drewdN _⟩
        case measure => simp [intOf]; omega
      · have hq : Hid (num (k + 1) = num k + fl * fa) := by unfold Hid; rw [hs.out, hm.out]; omega
        go_wp2_with fail
        go_roundw
        case rel => exact ⟨k + 1, by omega, by go_num, by rw [hq.out], E1.out.drewdN _⟩
        case measure => simp [intOf]; omega
    · obtain rfl : k = n := by omega
      have w1 : IntKind.i64.wrap (fa * fc) = fa * fc := IntWalk.i64_in _ (by omega)
      go_wp2_with fail
      go_quiet (fail)
      go_wp2_with fail
      go_ret2
      exact ⟨by rw [HT.out, HD.out]; rfl, below_drewN E1.out.bel _⟩
end Go.Proofs.Ytdekickmplkdiaa

/- Walks: copied. -/
namespace Go.Proofs.Ytdekickmplkdiaa
open Go.RowKit

def SFan (w : World) (x0 x1 x2 x3 x4 : Value) (W : World) : Prop := W.cell? ⟨w.heap.size, 0, none⟩ = some x0 ∧ W.cell? ⟨w.heap.size, 1, none⟩ = some x1 ∧ W.cell? ⟨w.heap.size, 2, none⟩ = some x2 ∧ W.cell? ⟨w.heap.size, 3, none⟩ = some x3 ∧ W.cell? ⟨w.heap.size, 4, none⟩ = some x4
theorem ones5v (a b c d : Int) (A : Option Addr) (n k : Nat) : (#[Value.int .i64 a, Value.int .i64 b, Value.int .i64 c, Value.int .i64 d, Value.slice A n k]).all (·.oneCell') = true := all_oneCell_toArray (cs := [.int .i64 a, .int .i64 b, .int .i64 c, .int .i64 d, .slice A n k]) (fun v hv => by simp only [List.mem_cons, List.not_mem_nil, or_false] at hv; rcases hv with rfl | rfl | rfl | rfl | rfl <;> rfl)
theorem OwnG.rowT {W : World} {b g n : Nat} {A : Option Addr} {xs : List Gap} {cs : Array Value} (h : OwnG b W A n xs) (hB : Blk W g 26 cs) (cs' : Array Value) : OwnG b (W.setRow g cs') A n xs := by
  rcases Nat.eq_zero_or_pos n with rfl | h0
  · exact ⟨⟨h.1.1, fun h => absurd h (by omega)⟩, fun h => absurd h (by omega)⟩
  · obtain ⟨r, rfl, hr, hR⟩ := h.2 h0
    have hne : r ≠ g := by
      rintro rfl
      obtain ⟨c2, h1, _⟩ := hR
      have e := h1.symm.trans hB
      simp only [Option.some.injEq, Obj.cells.injEq] at e
      exact absurd e.2.1 (by decide)
    have R2 : RB (W.setRow g cs') r 42 (flatG xs) := by
      obtain ⟨c2, h1, h2⟩ := hR
      exact ⟨c2, h1.setRow_far hne cs', h2⟩
    have G2 := R2.gaps
    rw [h.1.len] at G2
    exact ⟨G2, fun _ => ⟨r, rfl, hr, R2⟩⟩

set_option maxRecDepth 100000 in
set_option maxHeartbeats 4000000 in
theorem copied_any (f : Fan) (A : Option Addr) (n c : Nat) (w : World) (h : Gaps w A n f.gs) (hn : n ≤ 1000) :
    Calls Try.prog 49 #[.agg (fanA f A n c)] w (OwnRes w f n) := by
  obtain ⟨i0, hi, hz0, hz1, hz2⟩ := info_parts Try.infoGap
  have E0 := Lib.hid (Env2.start w 26 26 (fanA f A n c) #[.int .i64 0, .int .i64 0, .int .i64 0, .int .i64 0, .slice none 0 0]).drewd
  have HG := Lib.hid h
  clear h
  have HE := Lib.hid (fun W a1 a2 (ho : OwnG w.heap.size W a1 n f.gs) (hb : Below w.heap.size w W) => show OwnRes w f n (.returned (.agg (fanA f a1 n a2))) W from ⟨a1, a2, rfl, ho, hb⟩)
  generalize OwnRes w f n = RR at *
  obtain ⟨fa, fb, fc, fd, gs⟩ := f
  simp only [fanA] at *
  go_enter Try.func49, Try.ntmps49
  go_wp2_with fail
  refine wp_region_untl (S := SFan w (.int .i64 fa) (.int .i64 fb) (.int .i64 fc) (.int .i64 fd) (.slice A n c)) [9] (by kernel_rfl) (fan_get E0.out.p) (fun _ => ?_)
  generalize (((w.alloc (.cells #[.int .i64 fa, .int .i64 fb, .int .i64 fc, .int .i64 fd, .slice A n c] 26)).alloc (.cells #[.int .i64 0, .int .i64 0, .int .i64 0, .int .i64 0, .slice none 0 0] 26)).drew) = wd at *
  refine untlTake (i := 0) 3 (v := ?v1) rfl (by kernel_rfl) (by kernel_rfl) (by kernel_rfl) (by kernel_rfl) (by kernel_rfl) (by kernel_rfl) (fun _ _ _ h => h) (Or.inl ⟨by rfl, ?y1⟩) (by assumption) ?r1
  case y1 => (intro w hSw; obtain ⟨g0, g1, g2, g3, g4⟩ := hSw; go_simp; try with_reducible rfl)
  refine untlTake (i := 1) 4 (v := ?v2) rfl (by kernel_rfl) (by kernel_rfl) (by kernel_rfl) (by kernel_rfl) (by kernel_rfl) (by kernel_rfl) (fun _ _ _ h => h) (Or.inl ⟨by rfl, ?y2⟩) (by assumption) ?r2
  case y2 => (intro w hSw; obtain ⟨g0, g1, g2, g3, g4⟩ := hSw; go_simp; try with_reducible rfl)
  refine untlTake (i := 2) 5 (v := ?v3) rfl (by kernel_rfl) (by kernel_rfl) (by kernel_rfl) (by kernel_rfl) (by kernel_rfl) (by kernel_rfl) (fun _ _ _ h => h) (Or.inl ⟨by rfl, ?y3⟩) (by assumption) ?r3
  case y3 => (intro w hSw; obtain ⟨g0, g1, g2, g3, g4⟩ := hSw; go_simp; try with_reducible rfl)
  refine untlTake (i := 3) 6 (v := ?v4) rfl (by kernel_rfl) (by kernel_rfl) (by kernel_rfl) (by kernel_rfl) (by kernel_rfl) (by kernel_rfl) (fun _ _ _ h => h) (Or.inl ⟨by rfl, ?y4⟩) (by assumption) ?r4
  case y4 => (intro w hSw; obtain ⟨g0, g1, g2, g3, g4⟩ := hSw; go_simp; try with_reducible rfl)
  refine untlTake (i := 5) 8 (v := ?v5) rfl (by kernel_rfl) (by kernel_rfl) (by kernel_rfl) (by kernel_rfl) (by kernel_rfl) (by kernel_rfl) (fun _ _ _ h => h) (Or.inl ⟨by rfl, ?y5⟩) (by assumption) ?r5
  case y5 => (intro w hSw; obtain ⟨g0, g1, g2, g3, g4⟩ := hSw; go_simp; try with_reducible rfl)
  refine untlTake (i := 6) 9 (v := ?v6) rfl (by kernel_rfl) (by kernel_rfl) (by kernel_rfl) (by kernel_rfl) (by kernel_rfl) (by kernel_rfl) (fun _ _ _ h => h) (Or.inl ⟨by rfl, ?y6⟩) (by assumption) ?r6
  case y6 => (intro w hSw; obtain ⟨g0, g1, g2, g3, g4⟩ := hSw; go_simp; try with_reducible rfl)
  simp only [Act.put, List.setIfInBounds_toArray, List.set_cons_zero, List.set_cons_succ]
  refine untlStep (i := 4) (by kernel_rfl) rfl (fun K4 hK4 => ?_)
  go_simp
  have E1 := Lib.hid (E0.out.alloc (.cells #[] 42))
  refine hK4.out _ _ (.inr (fan_get E1.out.p)) ?_
  generalize hV1 : wd.alloc (.cells #[] 42) = V1 at *
  clear hV1
  refine untlStep (i := 7) (by kernel_rfl) rfl (fun K7 hK7 => ?_)
  refine step_append_copyG rfl (.tmp 7) (.tmp 9) 24 rfl i0 _ 32 Try.underlying24 hi hz0 hz1 hz2 rfl _ (by rfl) A n c (by rfl) _ (HG.out.below E1.out.bel) (by unfold maxLen; omega) (by omega) ?_
  intro a1 a2 V2 h1 h2
  have E2 := Lib.hid (E1.out.below h2)
  have O2 := Lib.hid h1
  have HZ := Lib.hid E1.out.q.lt
  clear h1 h2
  have s2 : SFan w (.int .i64 fa) (.int .i64 fb) (.int .i64 fc) (.int .i64 fd) (.slice A n c) V2 := fan_get E2.out.p
  refine hK7.out _ _ (.inr s2) ?_
  refine untlTake (i := 8) 11 (v := ?v7) rfl (by kernel_rfl) (by kernel_rfl) (by kernel_rfl) (by kernel_rfl) (by kernel_rfl) (by kernel_rfl) (fun _ _ _ h => h) (Or.inl ⟨by rfl, ?y7⟩) (by assumption) ?r7
  case y7 => (intro w hSw; obtain ⟨g0, g1, g2, g3, g4⟩ := hSw; go_simp; try with_reducible rfl)
  refine untlStep (i := 9) (by kernel_rfl) rfl (fun K9 hK9 => ?_)
  rw [if_pos (by rfl)]
  refine wp_store_rowN rfl _ _ _ rfl _ _ rfl rfl _ _ E2.out.q (by kernel_rfl) rfl (ones5v _ _ _ _ _ _ _) ?_
  have O3 := Lib.hid (O2.out.rowT E2.out.q #[.int .i64 fa, .int .i64 fb, .int .i64 fc, .int .i64 fd, .slice a1 n a2])
  have Q3 := Lib.hid (E2.out.q.setRow #[.int .i64 fa, .int .i64 fb, .int .i64 fc, .int .i64 fd, .slice a1 n a2])
  have B3 := Lib.hid (below_setR E2.out.bel (g := w.heap.size + 1) (Nat.le_succ _) #[.int .i64 fa, .int .i64 fb, .int .i64 fc, .int .i64 fd, .slice a1 n a2])
  refine hK9.out _ _ (.inl (by decide)) ?_
  refine untlDone (by kernel_rfl) ?_ _
  go_wp2_with fail
  exact bodyPost_ret (results_c rfl _ _ _ (w.heap.size + 1) _ _ _ rfl Q3.out Try.underlying26 (by kernel_rfl)) rfl (HE.out _ _ _ (O3.out.less (by have := HZ.out; omega)) B3.out)
end Go.Proofs.Ytdekickmplkdiaa
