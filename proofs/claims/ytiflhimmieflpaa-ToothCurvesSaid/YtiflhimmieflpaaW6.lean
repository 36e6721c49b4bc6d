/- Walks: bent. -/
import Derived.Test.YtiflhimmieflpaaPure
import Derived.Test.YtiflhimmieflpaaW4
import Derived.Test.YtiflhimmieflpaaW5
import Derived.Deep.LoopGhost
namespace Go.Proofs.Ytiflhimmieflpaa
open Go.RowKit

/-- Block g holds pairs of ints, none of them frozen. -/
def Row2 (w : World) (g n : Nat) (S : Nat → Int × Int) : Prop := ∀ i, i < n → w.cell? ⟨g, i * 2, none⟩ = some (.int .i64 (S i).1) ∧ w.cell? ⟨g, i * 2 + 1, none⟩ = some (.int .i64 (S i).2) ∧ w.frozen? ⟨g, i * 2, none⟩ = false ∧ w.frozen? ⟨g, i * 2 + 1, none⟩ = false

theorem Row2.congr {w : World} {g n : Nat} {S S' : Nat → Int × Int} (h : Row2 w g n S) (he : ∀ i, i < n → S' i = S i) : Row2 w g n S' := fun i hi => by rw [he i hi]; exact h i hi
theorem Row2.set {w : World} {g n : Nat} {S : Nat → Int × Int} (h : Row2 w g n S) (x : Nat) (hx : x < n) (a b : Int) (m : Nat) :
    Row2 (((w.setCell ⟨g, x * 2, none⟩ (.int .i64 a)).setCell ⟨g, x * 2 + 1, none⟩ (.int .i64 b)).drewN m) g n (fun i => if i = x then (a, b) else S i) := by
  intro i hi
  obtain ⟨h1, h2, h3, h4⟩ := h i hi
  obtain ⟨k1, k2, _, _⟩ := h x hx
  have e1 : ((w.setCell ⟨g, x * 2, none⟩ (.int .i64 a)).setCell ⟨g, x * 2 + 1, none⟩ (.int .i64 b)).cell? ⟨g, i * 2, none⟩ = some (.int .i64 (if i = x then (a, b) else S i).1) := by
    rw [World.cell?_setCell_other _ _ _ _ (by simp <;> omega)]
    by_cases e : i = x
    · subst e; rw [World.cell?_setCell_same _ _ _ k1]; simp
    · rw [World.cell?_setCell_other _ _ _ _ (by simp <;> omega), h1, if_neg e]
  have e2 : ((w.setCell ⟨g, x * 2, none⟩ (.int .i64 a)).setCell ⟨g, x * 2 + 1, none⟩ (.int .i64 b)).cell? ⟨g, i * 2 + 1, none⟩ = some (.int .i64 (if i = x then (a, b) else S i).2) := by
    by_cases e : i = x
    · subst e
      rw [World.cell?_setCell_same _ _ _ (u := .int .i64 (S i).2) (by rw [World.cell?_setCell_other _ _ _ _ (by simp)]; exact k2)]; simp
    · rw [World.cell?_setCell_other _ _ _ _ (by simp <;> omega), World.cell?_setCell_other _ _ _ _ (by simp <;> omega), h2, if_neg e]
  exact ⟨e1, e2, (World.frozen?_setCell _ _ _ _).trans ((World.frozen?_setCell _ _ _ _).trans h3), (World.frozen?_setCell _ _ _ _).trans ((World.frozen?_setCell _ _ _ _).trans h4)⟩
theorem set_far (w : World) (g x m : Nat) (u v : Value) (p : Addr) (hp : p.block ≠ g) : (((w.setCell ⟨g, x * 2, none⟩ u).setCell ⟨g, x * 2 + 1, none⟩ v).drewN m).cell? p = w.cell? p := by
  show ((w.setCell ⟨g, x * 2, none⟩ u).setCell ⟨g, x * 2 + 1, none⟩ v).cell? p = w.cell? p
  rw [World.cell?_setCell_other _ _ _ _ (by rintro rfl; exact hp rfl), World.cell?_setCell_other _ _ _ _ (by rintro rfl; exact hp rfl)]
theorem set_below {B : Nat} {a w : World} (h : Below B a w) {g : Nat} (hg : B ≤ g) (x m : Nat) (u v : Value) : Below B a (((w.setCell ⟨g, x * 2, none⟩ u).setCell ⟨g, x * 2 + 1, none⟩ v).drewN m) :=
  below_drewN ((h.setCell (p := ⟨g, x * 2, none⟩) hg u).setCell (p := ⟨g, x * 2 + 1, none⟩) hg v) m

theorem near_int {X Y : Int} {x y L Bd g n cap : Nat} {S : Nat → Int × Int} {bend : Int} {w : World} (hX : X = x) (hY : Y = y) (hxn : x < n) (hyn : y < n)
    (hL : w.cell? ⟨L, 0, none⟩ = some (.slice (some ⟨g, 0, none⟩) n cap)) (hB : w.cell? ⟨Bd, 0, none⟩ = some (.int .i64 bend)) (hR : Row2 w g n S) (hgL : L ≠ g) (hgB : Bd ≠ g)
    (b1 : InR (S x)) (b3 : InR (S y)) (b5 : 0 ≤ bend) (b5' : bend ≤ 300) :
    Calls Try.prog 114 #[.int .i64 X, .int .i64 Y, .pointer (some ⟨L, 0, none⟩), .pointer (some ⟨Bd, 0, none⟩)] w
      fun e w' => e = .returned (.bool (decide (max (S x).1 ((S y).1 - bend) ≤ min (S x).2 ((S y).2 + bend)))) ∧
        ∃ m, w' = ((w.setCell ⟨g, x * 2, none⟩ (.int .i64 (max (S x).1 ((S y).1 - bend)))).setCell ⟨g, x * 2 + 1, none⟩ (.int .i64 (min (S x).2 ((S y).2 + bend)))).drewN m := by
  subst hX; subst hY
  obtain ⟨c1, c2, f1, f2⟩ := hR x hxn
  obtain ⟨c3, c4, _, _⟩ := hR y hyn
  unfold InR at b1 b3
  exact near_any x y L Bd g n cap _ _ _ _ bend w hxn hyn hL hB c1 c2 c3 c4 f1 f2 hgL hgB (by omega) (by omega) (by omega) (by omega) (by omega) (by omega) b5 (by omega)

def BentRes (w : World) (n : Nat) (xs : List (Int × Int)) (bend : Int) (e : Ending) (w' : World) : Prop :=
  Below w.heap.size w w' ∧ ((bentOk xs bend = false ∧ e = .returned (.tuple #[.slice none 0 0, .bool false])) ∨
    (bentOk xs bend = true ∧ ∃ g cap, e = .returned (.tuple #[.slice (some ⟨g, 0, none⟩) n cap, .bool true]) ∧ Pairs w' (some ⟨g, 0, none⟩) n (bentL xs bend) ∧ w.heap.size ≤ g))
theorem pairs_of_row2 {w : World} {g n : Nat} {S : Nat → Int × Int} {xs : List (Int × Int)} (h : Row2 w g n S) (hl : xs.length = n) (he : ∀ k, k < n → xs.getD k (0, 0) = S k) : Pairs w (some ⟨g, 0, none⟩) n xs := by
  refine ⟨by rw [flat2_length, hl], fun hn => ⟨g, 0, rfl, block_lt_of_cell (h 0 hn).1, fun j u hj => ?_⟩⟩
  have hjl : j < xs.length * 2 := by rw [← flat2_length]; exact (List.getElem?_eq_some_iff.1 hj).1
  have hk : j / 2 < xs.length := by omega
  have hx := he (j / 2) (by omega)
  have hg : xs.getD (j / 2) (0, 0) = xs[j / 2] := by simp [hk, List.getD]
  rw [hg] at hx
  obtain ⟨a1, a2⟩ := flat2_at xs (j / 2) hk
  obtain ⟨c1, c2, _, _⟩ := h (j / 2) (by omega)
  rcases Nat.mod_two_eq_zero_or_one j with h0 | h1
  · have e : j = j / 2 * 2 := by omega
    rw [← e] at a1 c1
    rw [a1] at hj
    rw [Nat.zero_add, c1, ← hj, hx]
  · have e : j = j / 2 * 2 + 1 := by omega
    rw [← e] at a2 c2
    rw [a2] at hj
    rw [Nat.zero_add, c2, ← hj, hx]
theorem row2_of_own {w : World} {base g cap n : Nat} {t : TypeId} {xs : List (Int × Int)} (h : w.ownsRow base t 2 (.slice (some ⟨g, 0, none⟩) n cap) n (flat2 xs)) (hl : xs.length = n) : Row2 w g n (fun i => xs.getD i (0, 0)) := by
  intro i hi
  have hx : xs.getD i (0, 0) = xs[i] := by simp [hl, hi, List.getD]
  obtain ⟨a1, a2⟩ := flat2_at xs i (by omega)
  dsimp only
  refine ⟨?_, ?_, h.frozenAt _, h.frozenAt _⟩
  · rw [h.cellAt (i * 2) (by omega), a1, hx]
  · rw [h.cellAt (i * 2 + 1) (by omega), a2, hx]

set_option maxRecDepth 100000 in
set_option maxHeartbeats 2000000 in
theorem bent_any (b off n c : Nat) (xs : List (Int × Int)) (bend : Int) (w : World) (h : Pairs w (some ⟨b, off, none⟩) n xs) (h0 : 0 < n) (hn : n ≤ 1000) (hx : ∀ s ∈ xs, InR s) (b5 : 0 ≤ bend) (b5' : bend ≤ 300) (hx0 : (xs.getD 0 (0, 0)).1 ≤ (xs.getD 0 (0, 0)).2) :
    Calls Try.prog 97 #[.slice (some ⟨b, off, none⟩) n c, .int .i64 bend] w (BentRes w n xs bend) := by
  have hmf : ∀ (fn : Fn) (first cap : Array Value) (w : World), (Instr.makeFunc fn first cap).run Try.prog w = .ok (.func fn first cap) w := fun _ _ _ _ => rfl
  have hl := h.len
  have P1 : Pairs (w.alloc (.cells #[.int .i64 bend] 3)) (some ⟨b, off, none⟩) n xs := h.below ((Below.refl _ _).alloc (Nat.le_refl _) _)
  have HC := Lib.hid (cloneSpan_any b off n c xs _ P1 h0 (by omega))
  have Hl := Lib.hid hl
  clear hl h P1
  go_enter Try.func97, Try.ntmps97
  go_wp2_with fail
  refine HC.out.mono ?_
  rintro e w1 ⟨g, cap, rfl, hown, hb1⟩
  have hz1 : w.heap.size + 1 ≤ w1.heap.size := by have := hb1.size; simpa using this
  have hgb := hown.lt g rfl
  simp only [World.size_alloc] at hgb
  have R1 := row2_of_own hown Hl.out
  have cB : w1.cell? ⟨w.heap.size, 0, none⟩ = some (.int .i64 bend) := (hb1.cell (p := ⟨w.heap.size, 0, none⟩) (by simp)).trans (by simp)
  have B1 : Below w.heap.size w w1 := ((Below.refl _ _).alloc (Nat.le_refl _) _).trans (hb1.mono (by simp))
  clear hown hb1 HC
  have R2 : Row2 (w1.alloc (.cells #[.slice (some ⟨g, 0, none⟩) n cap] 22)) g n (fun i => xs.getD i (0, 0)) := fun i hi => by
    obtain ⟨k1, k2, k3, k4⟩ := R1 i hi
    exact ⟨(World.cell?_alloc_past _ _ _ hgb.2).trans k1, (World.cell?_alloc_past _ _ _ hgb.2).trans k2, (World.frozen?_alloc_past _ _ _ hgb.2).trans k3, (World.frozen?_alloc_past _ _ _ hgb.2).trans k4⟩
  have B2 := B1.alloc B1.size (.cells #[.slice (some ⟨g, 0, none⟩) n cap] 22)
  have dB : (w1.alloc (.cells #[.slice (some ⟨g, 0, none⟩) n cap] 22)).cell? ⟨w.heap.size, 0, none⟩ = some (.int .i64 bend) := (World.cell?_alloc_past _ _ _ (by omega)).trans cB
  clear R1 B1 cB
  have hf0 : fw xs bend 0 = xs.getD 0 (0, 0) := rfl
  have hok1 : fwOk xs bend 1 = true := by simp [fwOk, List.range_succ, hf0, -List.getD_eq_getElem?_getD]; exact hx0
  have HFI := Lib.hid (fun k (hk : k < n) => fw_in (xs := xs) (bend := bend) hx b5 k (by rw [Hl.out]; exact hk))
  have HBI := Lib.hid (fun k (hk : k < n) => by have := bw_in (xs := xs) (bend := bend) hx b5 k (by rw [Hl.out]; exact hk); rw [Hl.out] at this; exact this)
  have HXI := Lib.hid (fun k (hk : k < n) => (by
    have e : xs.getD k (0, 0) = xs[k]'(by rw [Hl.out]; exact hk) := by simp [Hl.out, hk, List.getD]
    rw [e]; exact hx _ (List.getElem_mem _) : InR (xs.getD k (0, 0))))
  have HOS := Lib.hid (fun k => fwOk_succ xs bend k)
  have HON := Lib.hid (fun k (hk : k < n) => fwOk_no (xs := xs) (bend := bend) (k := k) (n := n) hk)
  have HE : Hid (bentOk xs bend = fwOk xs bend n) := by unfold Hid bentOk; rw [Hl.out]
  have R3 := R2.congr (S' := fun i => if i < 1 then fw xs bend i else xs.getD i (0, 0)) (fun i _ => by
    by_cases e : i < 1
    · obtain rfl : i = 0 := by omega
      simp [hf0]
    · simp [e])
  clear hf0 R2 hx hx0
  have hgL : w1.heap.size ≠ g := by omega
  have hgB : w.heap.size ≠ g := by omega
  go_wp2_with fail
  go_loopw [8] (fun i wr => ∃ k : Nat, 1 ≤ k ∧ k ≤ n ∧ i = .int .i64 k ∧ fwOk xs bend k = true ∧ Row2 wr g n (fun i => if i < k then fw xs bend i else xs.getD i (0, 0)) ∧
    wr.cell? ⟨w1.heap.size, 0, none⟩ = some (.slice (some ⟨g, 0, none⟩) n cap) ∧ wr.cell? ⟨w.heap.size, 0, none⟩ = some (.int .i64 bend) ∧ Below w.heap.size w wr) (fun i _ => n - (intOf i).toNat)
  case atStart => exact ⟨1, by omega, by omega, rfl, hok1, R3, by simp, dB, B2⟩
  case round =>
    obtain ⟨k, hk1, hk, rfl, hin, R, cL, cB, hbel⟩ := hrel
    have Hin := Lib.hid hin
    clear hin dB R3 B2 hok1
    by_cases hlt : k < n
    · have HN := Lib.hid (near_int (X := (k : Int)) (Y := (k : Int) - 1) (x := k) (y := k - 1) rfl (by omega) hlt (by omega) cL cB R hgL hgB (by rw [if_neg (Nat.lt_irrefl k)]; exact HXI.out k hlt) (by rw [if_pos (by omega)]; exact HFI.out _ (by omega)) b5 b5')
      have HF : Hid (fw xs bend k = (max (xs.getD k (0, 0)).1 ((fw xs bend (k - 1)).1 - bend), min (xs.getD k (0, 0)).2 ((fw xs bend (k - 1)).2 + bend))) := by
        obtain ⟨m, rfl⟩ : ∃ m, k = m + 1 := ⟨k - 1, by omega⟩
        exact fw_succ xs bend m
      have HN2 : Hid (Calls Try.prog 114 #[.int .i64 (k : Int), .int .i64 ((k : Int) - 1), .pointer (some ⟨w1.heap.size, 0, none⟩), .pointer (some ⟨w.heap.size, 0, none⟩)] wr
          fun e w' => e = .returned (.bool (decide ((fw xs bend k).1 ≤ (fw xs bend k).2))) ∧ ∃ m, w' = ((wr.setCell ⟨g, k * 2, none⟩ (.int .i64 (fw xs bend k).1)).setCell ⟨g, k * 2 + 1, none⟩ (.int .i64 (fw xs bend k).2)).drewN m) := by
        have := HN.out
        simp only [Nat.lt_irrefl, if_false, show k - 1 < k from by omega, if_true] at this
        rw [HF.out]
        exact this
      clear HN
      cases hq : decide ((fw xs bend k).1 ≤ (fw xs bend k).2)
      · rw [hq] at HN2
        go_wp2_with (go_at_call 114; refine HN2.out.mono ?_; rintro e w2 ⟨rfl, m, rfl⟩)
        go_ret2
        exact ⟨set_below hbel (by omega) k m _ _, .inl ⟨by rw [HE.out]; exact HON.out k hlt hq, rfl⟩⟩
      · rw [hq] at HN2
        have R' := fun m => (R.set k hlt (fw xs bend k).1 (fw xs bend k).2 m).congr (S' := fun i => if i < k + 1 then fw xs bend i else xs.getD i (0, 0)) (fun i _ => by
          by_cases e : i = k
          · subst e; simp
          · by_cases e2 : i < k
            · simp [e, e2, show i < k + 1 from by omega]
            · simp [e, e2, show ¬ i < k + 1 from by omega])
        go_wp2_with (go_at_call 114; refine HN2.out.mono ?_; rintro e w2 ⟨rfl, m, rfl⟩)
        go_roundw
        case rel => exact ⟨k + 1, by omega, by omega, by go_num, by rw [HOS.out, Hin.out, hq]; rfl, R' _, (set_far _ _ _ _ _ _ _ hgL).trans cL, (set_far _ _ _ _ _ _ _ hgB).trans cB, set_below hbel (by omega) k _ _ _⟩
        case measure => simp [intOf]; omega
    · obtain rfl : k = n := by omega
      have R0 := R.congr (S' := fun i => if ((k : Int) - 2 < (i : Int)) then bw xs bend k (k - 1 - i) else fw xs bend i) (fun i hi => by
        by_cases e : (k : Int) - 2 < (i : Int)
        · rw [if_pos e, if_pos hi, show k - 1 - i = 0 from by omega, bw_zero, show k - 1 = i from by omega]
        · rw [if_neg e, if_pos hi])
      clear R HON HXI
      go_wp2_with fail
      go_loopw [9] (fun i wr => ∃ x : Int, i = .int .i64 x ∧ -1 ≤ x ∧ x ≤ (k : Int) - 2 ∧ Row2 wr g k (fun i => if x < (i : Int) then bw xs bend k (k - 1 - i) else fw xs bend i) ∧
        wr.cell? ⟨w1.heap.size, 0, none⟩ = some (.slice (some ⟨g, 0, none⟩) k cap) ∧ wr.cell? ⟨w.heap.size, 0, none⟩ = some (.int .i64 bend) ∧ Below w.heap.size w wr) (fun i _ => (intOf i + 1).toNat)
      case atStart => exact ⟨_, rfl, by omega, by omega, R0, cL, cB, hbel⟩
      case round =>
        obtain ⟨x, rfl, hx1, hx2, R, dL, dB, hbel2⟩ := hrel
        clear R0 cL cB hbel
        by_cases hge : 0 ≤ x
        · obtain ⟨m, rfl⟩ := Int.eq_ofNat_of_zero_le hge
          have HN := Lib.hid (near_int (X := (m : Int)) (Y := (m : Int) + 1) (x := m) (y := m + 1) rfl (by omega) (by omega) (by omega) dL dB R hgL hgB (by rw [if_neg (by omega)]; exact HFI.out m (by omega)) (by rw [if_pos (by omega)]; exact HBI.out _ (by omega)) b5 b5')
          have HF : Hid (bw xs bend k (k - 1 - m) = (max (fw xs bend m).1 ((bw xs bend k (k - 1 - (m + 1))).1 - bend), min (fw xs bend m).2 ((bw xs bend k (k - 1 - (m + 1))).2 + bend))) := by
            have := bw_succ xs bend k (k - 1 - (m + 1))
            rw [show k - 1 - (m + 1) + 1 = k - 1 - m from by omega, show k - 1 - (k - 1 - m) = m from by omega] at this
            exact this
          have HN2 : Hid (Calls Try.prog 114 #[.int .i64 (m : Int), .int .i64 ((m : Int) + 1), .pointer (some ⟨w1.heap.size, 0, none⟩), .pointer (some ⟨w.heap.size, 0, none⟩)] wr
              fun e w' => e = .returned (.bool (decide ((bw xs bend k (k - 1 - m)).1 ≤ (bw xs bend k (k - 1 - m)).2))) ∧ ∃ q, w' = ((wr.setCell ⟨g, m * 2, none⟩ (.int .i64 (bw xs bend k (k - 1 - m)).1)).setCell ⟨g, m * 2 + 1, none⟩ (.int .i64 (bw xs bend k (k - 1 - m)).2)).drewN q) := by
            have := HN.out
            simp only [show ¬ ((m : Int) < (m : Int)) from by omega, if_false, show (m : Int) < ((m + 1 : Nat) : Int) from by omega, if_true] at this
            rw [HF.out]
            exact this
          clear HN
          have R' := fun q => (R.set m (by omega) (bw xs bend k (k - 1 - m)).1 (bw xs bend k (k - 1 - m)).2 q).congr (S' := fun i => if (m : Int) - 1 < (i : Int) then bw xs bend k (k - 1 - i) else fw xs bend i) (fun i _ => by
            by_cases e : i = m
            · subst e; rw [if_pos rfl, if_pos (by omega)]
            · by_cases e2 : (m : Int) < (i : Int)
              · rw [if_neg e, if_pos e2, if_pos (by omega)]
              · rw [if_neg e, if_neg e2, if_neg (by omega)])
          go_wp2_with (go_at_call 114; refine HN2.out.mono ?_; rintro e w2 ⟨rfl, q, rfl⟩)
          go_roundw
          case rel => exact ⟨_, rfl, by omega, by omega, R' _, (set_far _ _ _ _ _ _ _ hgL).trans dL, (set_far _ _ _ _ _ _ _ hgB).trans dB, set_below hbel2 (by omega) m _ _ _⟩
          case measure => simp [intOf] <;> omega
        · obtain rfl : x = -1 := by omega
          have HP := Lib.hid (pairs_of_row2 (xs := bentL xs bend) R (by rw [bentL_length]; exact Hl.out) (fun i hi => by
            rw [if_pos (by omega), bentL_getD _ _ _ (by rw [Hl.out]; exact hi), Hl.out]))
          go_wp2
          go_ret2
          exact ⟨hbel2, .inr ⟨by rw [HE.out]; exact Hin.out, g, cap, rfl, HP.out, by omega⟩⟩
end Go.Proofs.Ytiflhimmieflpaa
