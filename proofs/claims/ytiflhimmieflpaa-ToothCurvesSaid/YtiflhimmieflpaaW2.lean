/- Walks: edgesValid. -/
import Derived.Test.YtiflhimmieflpaaW1
import Derived.WalkSmall
import Derived.Deep.QuietTactic
namespace Go.Proofs.Ytiflhimmieflpaa
open Go.RowKit

def below2 (bot top : List (Int × Int)) (k : Nat) : Bool := (List.range k).all fun j => decide ((bot.getD j (0, 0)).2 ≤ (top.getD j (0, 0)).1)
theorem below2_succ (bot top : List (Int × Int)) (k : Nat) : below2 bot top (k + 1) = (below2 bot top k && decide ((bot.getD k (0, 0)).2 ≤ (top.getD k (0, 0)).1)) := by
  simp [below2, List.range_succ, List.all_append]
theorem below2_no {bot top : List (Int × Int)} {k n : Nat} (hk : k < n) (h : decide ((bot.getD k (0, 0)).2 ≤ (top.getD k (0, 0)).1) = false) : below2 bot top n = false := by
  unfold below2
  rw [List.all_eq_false]
  exact ⟨k, List.mem_range.2 hk, by rw [h]; decide⟩
def edgesOk (bend : Int) (bot top : List (Int × Int)) : Bool := within 0 300 [bend] && validS 0 300 bot && validS 0 300 top && below2 bot top bot.length

set_option maxHeartbeats 800000 in
theorem edges_any (A A' K : Option Addr) (n c c' m d : Nat) (bend : Int) (bot top : List (Int × Int)) (w : World) (h : Pairs w A n bot) (h' : Pairs w A' n top) (hn : n ≤ maxLen) :
    Calls Try.prog 95 #[.agg #[.slice A n c, .slice A' n c', .int .i64 bend, .slice K m d]] w
      fun e w' => e = .returned (.bool (edgesOk bend bot top)) ∧ Below w.heap.size w w' := by
  have hl := h.len
  have HE : Hid (edgesOk bend bot top = (within 0 300 [bend] && validS 0 300 bot && validS 0 300 top && below2 bot top n)) := by unfold Hid edgesOk; rw [hl]
  clear hl
  have hno1 : ∀ W : World, Below w.heap.size w ((w.alloc (.cells #[.slice A n c, .slice A' n c', .int .i64 bend, .slice K m d] 25)).alloc (.cells #[.int .i64 bend] 3)) := fun _ => ((Below.refl _ _).alloc (Nat.le_refl _) _).alloc (by simp) _
  cases q1 : within 0 300 [bend]
  · go_enter Try.func95, Try.ntmps95
    go_wp2_with (go_at_call 88; refine (within1 _ _ _ _ _ _ (by simp)).mono ?_; rintro e w' ⟨rfl, rfl⟩)
    go_ret
    exact ⟨ret_bool (by rw [HE.out, q1]; rfl), hno1 w⟩
  have B1 := hno1 w
  clear hno1
  have P1 := h.below B1
  cases q2 : validS 0 300 bot
  · go_enter Try.func95, Try.ntmps95
    go_wp2_with (first | (go_at_call 88; refine (within1 _ _ _ _ _ _ (by simp)).mono ?_; rintro e w' ⟨rfl, rfl⟩) | (go_at_call 111; refine (valid_any _ _ _ _ _ _ _ P1 hn).mono ?_; rintro e w2 ⟨rfl, hb2⟩))
    go_ret
    exact ⟨ret_bool (by rw [HE.out, q1, q2]; rfl), B1.trans (hb2.mono B1.size)⟩
  cases q3 : validS 0 300 top
  · go_enter Try.func95, Try.ntmps95
    go_wp2_with (go_at_call 88; refine (within1 _ _ _ _ _ _ (by simp)).mono ?_; rintro e w' ⟨rfl, rfl⟩)
    refine (valid_any _ _ _ _ _ _ _ P1 hn).mono ?_
    rintro e w2 ⟨rfl, hb2⟩
    have c1 : w2.cell? ⟨w.heap.size, 1, none⟩ = some (.slice A' n c') := (hb2.cell (p := ⟨w.heap.size, 1, none⟩) (by simp <;> omega)).trans (by simp)
    have P2 := h'.below (B1.trans (hb2.mono B1.size))
    go_wp2_with (go_at_call 111; refine (valid_any _ _ _ _ _ _ _ P2 hn).mono ?_; rintro e w3 ⟨rfl, hb3⟩)
    go_ret
    exact ⟨ret_bool (by rw [HE.out, q1, q2, q3]; rfl), (B1.trans (hb2.mono B1.size)).trans (hb3.mono (B1.trans (hb2.mono B1.size)).size)⟩
  have P2 := fun w2 hb2 => h'.below (B1.trans (Below.mono (w' := w2) hb2 B1.size))
  unfold maxLen at hn
  go_enter Try.func95, Try.ntmps95
  go_wp2_with (go_at_call 88; refine (within1 _ _ _ _ _ _ (by simp)).mono ?_; rintro e w' ⟨rfl, rfl⟩)
  refine (valid_any _ _ _ _ _ _ _ P1 hn).mono ?_
  rintro e w2 ⟨rfl, hb2⟩
  have hz2 : w.heap.size + 2 ≤ w2.heap.size := by have := hb2.size; simpa using this
  have c1 : w2.cell? ⟨w.heap.size, 1, none⟩ = some (.slice A' n c') := (hb2.cell (p := ⟨w.heap.size, 1, none⟩) (by simp <;> omega)).trans (by simp)
  have c0 : w2.cell? ⟨w.heap.size, 0, none⟩ = some (.slice A n c) := (hb2.cell (p := ⟨w.heap.size, 0, none⟩) (by simp <;> omega)).trans (by simp)
  replace P2 := P2 w2 hb2
  have B2 := B1.trans (hb2.mono B1.size)
  clear hb2 B1 P1
  go_wp2_with fail
  refine (valid_any _ _ _ _ _ _ _ P2 hn).mono ?_
  rintro e w3 ⟨rfl, hb3⟩
  have d1 : w3.cell? ⟨w.heap.size, 1, none⟩ = some (.slice A' n c') := (hb3.cell (p := ⟨w.heap.size, 1, none⟩) (by show w.heap.size < w2.heap.size; omega)).trans c1
  have d0 : w3.cell? ⟨w.heap.size, 0, none⟩ = some (.slice A n c) := (hb3.cell (p := ⟨w.heap.size, 0, none⟩) (by show w.heap.size < w2.heap.size; omega)).trans c0
  have hz3 : w.heap.size < w3.heap.size := by have := hb3.size; omega
  have B3 := B2.trans (hb3.mono B2.size)
  clear hb3 B2 c0 c1 P2 hz2
  go_wp2
  go_loopw [24] (fun i wr => ∃ k : Nat, k ≤ n ∧ i = .int .i64 k ∧ below2 bot top k = true ∧ Below w3.heap.size w3 wr) (fun i _ => n - (intOf i).toNat)
  case atStart => exact ⟨0, Nat.zero_le _, rfl, rfl, Below.refl _ _⟩
  case round =>
    obtain ⟨k, hk, rfl, hin, hbel⟩ := hrel
    by_cases hlt : k < n
    · obtain ⟨b, off, rfl, hb, hc1, hc2⟩ := (h.below (B3.trans (hbel.mono B3.size))).at_ hlt
      obtain ⟨b', off', rfl, hb', hc1', hc2'⟩ := (h'.below (B3.trans (hbel.mono B3.size))).at_ hlt
      have e1 : wr.cell? ⟨w.heap.size, 1, none⟩ = some (.slice (some ⟨b', off', none⟩) n c') := (hbel.cell (p := ⟨w.heap.size, 1, none⟩) hz3).trans d1
      have e0 : wr.cell? ⟨w.heap.size, 0, none⟩ = some (.slice (some ⟨b, off, none⟩) n c) := (hbel.cell (p := ⟨w.heap.size, 0, none⟩) hz3).trans d0
      have H := Lib.hid (below2_succ bot top k)
      have Hin := Lib.hid hin
      have Hno := Lib.hid (below2_no (bot := bot) (top := top) hlt)
      clear hin d1 d0
      generalize bot.getD k (0, 0) = y at *
      generalize top.getD k (0, 0) = y' at *
      by_cases h1 : y'.1 < y.2
      · go_wp2
        go_quiet (fail)
        go_wp2
        go_ret
        exact ⟨ret_bool (by rw [HE.out, q1, q2, q3, Hno.out (by simp; omega)]; rfl), B3.trans ((below_drewN hbel _).mono B3.size)⟩
      · go_wp2
        go_quiet (fail)
        go_wp2
        go_roundw
        case rel => exact ⟨k + 1, by omega, by go_num, by rw [H.out, Hin.out]; simp; omega, below_drewN hbel _⟩
        case measure => simp [intOf]; omega
    · have he : below2 bot top n = true := by rw [← hin, show k = n from by omega]
      clear hin
      have He := Lib.hid he
      clear he
      go_wp2
      go_ret
      exact ⟨ret_bool (by rw [HE.out, q1, q2, q3, He.out]; rfl), B3.trans (hbel.mono B3.size)⟩
end Go.Proofs.Ytiflhimmieflpaa
