/- Walks: the error of a fan. -/
import Derived.Test.YtdekickmplkdiaaRa
namespace Go.Proofs.Ytdekickmplkdiaa
open Go.RowKit

def gapOk (g : Gap) : Bool := validS 0 1000 [(g.ll, g.lh)] && validS 0 500 [(g.fl, g.fh)]
def gv (g : Gap) : Value := .agg #[.int .i64 g.ll, .int .i64 g.lh, .int .i64 g.fl, .int .i64 g.fh]

set_option maxHeartbeats 800000 in
theorem wrongGap_any (ll lh fl fh : Int) (w : World) :
    Calls Try.prog 93 #[.agg #[.int .i64 ll, .int .i64 lh, .int .i64 fl, .int .i64 fh]] w
      fun e w' => e = .returned (.bool (!gapOk ⟨ll, lh, fl, fh⟩)) ∧ Below w.heap.size w w' := by
  have HE : Hid (gapOk ⟨ll, lh, fl, fh⟩ = (validS 0 1000 [(ll, lh)] && validS 0 500 [(fl, fh)])) := rfl
  generalize gapOk ⟨ll, lh, fl, fh⟩ = r at *
  have B1 : Below w.heap.size w ((w.alloc (.cells #[.int .i64 ll, .int .i64 lh, .int .i64 fl, .int .i64 fh] 42)).alloc (.cells #[.int .i64 ll, .int .i64 lh] 23)) := ((Below.refl _ _).alloc (Nat.le_refl _) _).alloc (by simp) _
  cases q1 : validS 0 1000 [(ll, lh)]
  · go_enter Try.func93, Try.ntmps93
    go_wp2_with (go_at_call 76; refine (valid1 _ _ _ _ _ _ _ (by simp)).mono ?_; rintro e w' ⟨rfl, hb⟩)
    go_ret
    exact ⟨ret_bool (by rw [HE.out, q1]; rfl), B1.trans (hb.mono (by simp <;> omega))⟩
  go_enter Try.func93, Try.ntmps93
  go_wp2_with fail
  refine (valid1 _ _ _ _ _ _ _ (by simp)).mono ?_
  rintro e w2 ⟨rfl, hb2⟩
  have hz2 : w.heap.size + 2 ≤ w2.heap.size := by have := hb2.size; simpa using this
  have B2 := B1.trans (hb2.mono (by simp <;> omega))
  have c2 : w2.cell? ⟨w.heap.size, 2, none⟩ = some (.int .i64 fl) := (hb2.cell (p := ⟨w.heap.size, 2, none⟩) (by simp <;> omega)).trans (by simp)
  have c3 : w2.cell? ⟨w.heap.size, 3, none⟩ = some (.int .i64 fh) := (hb2.cell (p := ⟨w.heap.size, 3, none⟩) (by simp <;> omega)).trans (by simp)
  clear hb2 B1
  go_wp2_with (go_at_call 76; refine (valid1 _ _ _ _ _ _ _ (by simp)).mono ?_; rintro e w3 ⟨rfl, hb3⟩)
  go_ret
  exact ⟨ret_bool (by rw [HE.out, q1]; rfl), (B2.alloc (by omega) _).trans (hb3.mono (by omega))⟩

set_option maxHeartbeats 1000000 in
theorem indexGap_any (A : Option Addr) (n c : Nat) (xs : List Gap) (w : World) (h : Gaps w A n xs) (hn : n ≤ maxLen) :
    Calls Try.prog 117 #[.slice A n c, .func (.func 93) #[] #[]] w
      fun e w' => e = .returned (.int .i64 (idx (fun g => !gapOk g) xs)) ∧ Below w.heap.size w w' := by
  unfold maxLen at hn
  have hl := h.len
  generalize hpp : (fun g : Gap => !gapOk g) = p
  have hcall : ∀ (k : Gap) W, Calls Try.prog 93 #[.agg #[.int .i64 k.ll, .int .i64 k.lh, .int .i64 k.fl, .int .i64 k.fh]] W fun e w' => e = .returned (.bool (p k)) ∧ Below W.heap.size W w' := fun k W => by
    rw [← hpp]; exact wrongGap_any k.ll k.lh k.fl k.fh W
  clear hpp
  have Hcall := Lib.hid hcall
  clear hcall
  go_enter Try.func117, Try.ntmps117
  go_wp2
  go_loopw [8] (fun i wr => ∃ k : Nat, k ≤ n ∧ i = .int .i64 k ∧ noneOf p (xs.take k) = true ∧ Below w.heap.size w wr) (fun i _ => n - (intOf i).toNat)
  case atStart => exact ⟨0, Nat.zero_le _, rfl, rfl, Below.refl _ _⟩
  case round =>
    obtain ⟨k, hk, rfl, hin, hbel⟩ := hrel
    by_cases hlt : k < n
    · obtain ⟨bb, off, rfl, hb, hc0, hc1, hc2, hc3⟩ := (h.below hbel).at_ hlt
      have H := Lib.hid (noneOf_succ (p := p) Gap.zero (xs := xs) (k := k) (by omega))
      have Hin := Lib.hid hin
      have Hit := Lib.hid (idx_hit (p := p) Gap.zero (xs := xs) (k := k) (by omega) hin)
      clear hin hl
      generalize xs.getD k Gap.zero = y at *
      have C := Lib.hid (Hcall.out y wr)
      cases hq : p y
      · go_wp2_with (go_at_call 93; refine C.out.mono ?_; rintro e w2 ⟨rfl, hb2⟩)
        go_roundw
        case rel => exact ⟨k + 1, by omega, by go_num, by rw [H.out, Hin.out, hq]; rfl, hbel.trans (hb2.mono hbel.size)⟩
        case measure => simp [intOf]; omega
      · go_wp2_with (go_at_call 93; refine C.out.mono ?_; rintro e w2 ⟨rfl, hb2⟩)
        go_ret
        exact ⟨ret_int (Hit.out hq).symm, hbel.trans (hb2.mono hbel.size)⟩
    · have he : idx p xs = -1 := idx_none (by rw [← hin, List.take_of_length_le (by omega)])
      clear hin
      have He := Lib.hid he
      clear he
      go_wp2
      go_ret
      exact ⟨ret_int He.out.symm, hbel⟩

theorem containsGap_any (A : Option Addr) (n c : Nat) (xs : List Gap) (w : World) (h : Gaps w A n xs) (hn : n ≤ maxLen) :
    Calls Try.prog 94 #[.slice A n c, .func (.func 93) #[] #[]] w
      fun e w' => e = .returned (.bool (xs.any (fun g => !gapOk g))) ∧ Below w.heap.size w w' := by
  have C := Lib.hid (indexGap_any A n c xs w h hn)
  have HE := Lib.hid (idx_any (p := (fun g => !gapOk g)) (xs := xs))
  generalize (xs.any (fun g => !gapOk g)) = r at *
  generalize idx (fun g => !gapOk g) xs = i at *
  go_enter Try.func94, Try.ntmps94
  go_wp2_with (go_at_call 117; refine C.out.mono ?_; rintro e w2 ⟨rfl, hb2⟩)
  go_ret
  exact ⟨ret_bool HE.out, hb2⟩

/-- A fan: where the shoulder and the foot are, and its gaps. -/
structure Fan where
  a : Int
  b : Int
  c : Int
  d : Int
  gs : List Gap
def headOk (f : Fan) : Bool := validS 1 5000 [(f.a, f.b), (f.c, f.d)] && decide (f.d < f.a)
def fanErr (f : Fan) : Int := if headOk f = false then 3 else if 40 < f.gs.length then 5 else if f.gs.any (fun g => !gapOk g) = true then 2 else 0

set_option maxHeartbeats 1000000 in
theorem fanError_any (f : Fan) (A : Option Addr) (n c : Nat) (w : World) (h : Gaps w A n f.gs) (hn : n ≤ maxLen) :
    Calls Try.prog 60 #[.agg #[.int .i64 f.a, .int .i64 f.b, .int .i64 f.c, .int .i64 f.d, .slice A n c]] w
      fun e w' => e = .returned (.int .i64 (fanErr f)) ∧ Below w.heap.size w w' := by
  obtain ⟨fa, fb, fc, fd, gs⟩ := f
  simp only at h ⊢
  have hl := h.len
  have HE : Hid (fanErr ⟨fa, fb, fc, fd, gs⟩ = if (validS 1 5000 [(fa, fb), (fc, fd)] && decide (fd < fa)) = false then 3 else if 40 < n then 5 else if gs.any (fun g => !gapOk g) = true then 2 else 0) := by
    unfold Hid fanErr headOk; rw [hl]
  clear hl
  generalize fanErr ⟨fa, fb, fc, fd, gs⟩ = r at *
  have B1 : Below w.heap.size w ((w.alloc (.cells #[.int .i64 fa, .int .i64 fb, .int .i64 fc, .int .i64 fd, .slice A n c] 26)).alloc (.cells #[.int .i64 fa, .int .i64 fb, .int .i64 fc, .int .i64 fd] 23)) := ((Below.refl _ _).alloc (Nat.le_refl _) _).alloc (by simp) _
  cases q1 : validS 1 5000 [(fa, fb), (fc, fd)]
  · go_enter Try.func60, Try.ntmps60
    go_wp2_with (go_at_call 76; refine (valid2 _ _ _ _ _ _ _ _ _ (by simp)).mono ?_; rintro e w' ⟨rfl, hb⟩)
    go_ret
    exact ⟨ret_int (by rw [HE.out, q1]; rfl), B1.trans (hb.mono (by simp <;> omega))⟩
  have Hg := Lib.hid (fun W (hb : Below w.heap.size w W) => containsGap_any A n c gs W (h.below hb) hn)
  unfold maxLen at hn
  clear h
  go_enter Try.func60, Try.ntmps60
  go_wp2_with fail
  refine (valid2 _ _ _ _ _ _ _ _ _ (by simp)).mono ?_
  rintro e w2 ⟨rfl, hb2⟩
  have hz2 : w.heap.size + 2 ≤ w2.heap.size := by have := hb2.size; simpa using this
  have B2 := Lib.hid (B1.trans (hb2.mono (by simp <;> omega)))
  have c0 : w2.cell? ⟨w.heap.size, 0, none⟩ = some (.int .i64 fa) := (hb2.cell (p := ⟨w.heap.size, 0, none⟩) (by simp <;> omega)).trans (by simp)
  have c3 : w2.cell? ⟨w.heap.size, 3, none⟩ = some (.int .i64 fd) := (hb2.cell (p := ⟨w.heap.size, 3, none⟩) (by simp <;> omega)).trans (by simp)
  have c4 : w2.cell? ⟨w.heap.size, 4, none⟩ = some (.slice A n c) := (hb2.cell (p := ⟨w.heap.size, 4, none⟩) (by simp <;> omega)).trans (by simp)
  have C := Lib.hid (Hg.out _ B2.out)
  clear hb2 B1 Hg
  by_cases h5 : fa ≤ fd
  · go_wp2
    go_ret
    exact ⟨ret_int (by rw [HE.out, q1]; simp; omega), B2.out⟩
  by_cases h6 : 40 < n
  · go_wp2
    go_ret
    exact ⟨ret_int (by rw [HE.out, q1]; simp [h6]; omega), B2.out⟩
  cases q2 : gs.any (fun g => !gapOk g)
  · rw [q2] at C HE
    go_wp2_with (go_at_call 94; refine C.out.mono ?_; rintro e w3 ⟨rfl, hb3⟩)
    go_ret
    exact ⟨ret_int (by rw [HE.out, q1]; simp [h6]; omega), B2.out.trans (hb3.mono B2.out.size)⟩
  · rw [q2] at C HE
    go_wp2_with (go_at_call 94; refine C.out.mono ?_; rintro e w3 ⟨rfl, hb3⟩)
    go_ret
    exact ⟨ret_int (by rw [HE.out, q1]; simp [h6]; omega), B2.out.trans (hb3.mono B2.out.size)⟩
end Go.Proofs.Ytdekickmplkdiaa
