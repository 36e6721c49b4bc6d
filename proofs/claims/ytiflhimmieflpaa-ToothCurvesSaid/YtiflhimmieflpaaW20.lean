/- Walks: slices.Index, holds. -/
import Derived.Test.YtiflhimmieflpaaW19
namespace Go.Proofs.Ytiflhimmieflpaa
open Go.RowKit Go.Maps

theorem Index_any (A : Option Addr) (n c : Nat) (x : Int) (xs : List Int) (w : World) (h : Ints w A n xs) (hn : n ≤ maxLen) :
    Calls Try.prog 80 #[.slice A n c, .int .i64 x] w fun e w' => e = .returned (.int .i64 (idx (fun y => x == y) xs)) ∧ w = w' := by
  unfold maxLen at hn
  have hl := h.len
  generalize hp : (fun y => x == y) = p
  have hpk : ∀ k, (x == k) = p k := fun k => by rw [← hp]
  have Hpk := Lib.hid hpk
  clear hp hpk
  go_enter Try.func80, Try.ntmps80
  go_wp2
  go_loop [8] (fun i => ∃ k : Nat, k ≤ n ∧ i = .int .i64 k ∧ noneOf p (xs.take k) = true) (fun i => n - (intOf i).toNat)
  case atStart => exact ⟨0, Nat.zero_le _, rfl, rfl⟩
  case round =>
    obtain ⟨k, hk, rfl, hin⟩ := hrel
    by_cases hlt : k < n
    · obtain ⟨b, off, rfl, hb, hc0⟩ := h.at_ hlt
      have H := Lib.hid (noneOf_succ (p := p) 0 (xs := xs) (k := k) (by omega))
      have Hin := Lib.hid hin
      have Hit := Lib.hid (idx_hit (p := p) 0 (xs := xs) (k := k) (by omega) hin)
      clear hin hl
      generalize xs.getD k 0 = y at *
      cases hq : p y
      · have hxy : (x == y) = false := (Hpk.out y).trans hq
        go_wp2
        go_round
        case rel => exact ⟨k + 1, by omega, by go_num, by rw [H.out, Hin.out, hq]; rfl⟩
        case measure => simp [intOf]; omega
      · have hxy : (x == y) = true := (Hpk.out y).trans hq
        go_wp2
        go_ret
        exact ⟨ret_int (Hit.out hq).symm, rfl⟩
    · have he : idx p xs = -1 := idx_none (by rw [← hin, List.take_of_length_le (by omega)])
      clear hin
      have He := Lib.hid he
      clear he
      go_wp2
      go_ret
      exact ⟨ret_int He.out.symm, rfl⟩

theorem noneOf_no {α : Type} {p : α → Bool} {xs : List α} {k : Nat} (z : α) (hk : k < xs.length) (hp : p (xs.getD k z) = true) : noneOf p xs = false := by
  have hx : xs.getD k z = xs[k] := by simp [hk, List.getD]
  rw [hx] at hp
  unfold noneOf
  rw [List.all_eq_false]
  exact ⟨xs[k], List.getElem_mem hk, by simp [hp]⟩
def placeOk (n long : Int) (p : Int × Int) : Bool := within 0 (n - long) [p.1] && within 0 300 [p.2]
def holdsB (n long : Int) (ps : List (Int × Int)) : Bool := noneOf (fun p => !placeOk n long p) ps

set_option maxRecDepth 100000 in
set_option maxHeartbeats 2000000 in
theorem holds_any (B : Bl) (s : Sw) (g cap g' cap' : Nat) (A : Option Addr) (m c : Nat) (ps : List (Int × Int)) (w : World) (hB : B.Ok) (hs : s.Ok) (h : Pairs w A m ps) (hm : m ≤ maxLen) :
    Calls Try.prog 65 #[B.curved g cap g' cap', s.val, .slice A m c] w fun e w' => e = .returned (.bool (holdsB B.n s.long ps)) ∧ Below w.heap.size w w' := by
  unfold maxLen at hm
  have l1 := hs.l1
  have l2 := hs.l2
  have n2 := hB.n2
  have n1 := hB.n1
  have hl := h.len
  have HD : Hid (holdsB B.n s.long ps = noneOf (fun p => !placeOk B.n s.long p) ps) := rfl
  have HPK : Hid (∀ p, placeOk B.n s.long p = (within 0 (B.n - s.long) [p.1] && within 0 300 [p.2])) := fun p => rfl
  have k1 : IntKind.i64.wrap ((B.n : Int) - s.long) = (B.n : Int) - s.long := IntWalk.i64_in _ (by omega)
  have E0 : Hid (Below w.heap.size w ((w.alloc (.cells #[.slice B.A B.n B.c, .slice B.A' B.n' B.c', .int .i64 B.bend, .slice B.K B.m B.d, .slice (some ⟨g, 0, none⟩) B.n cap, .slice (some ⟨g', 0, none⟩) B.n cap'] 106)).alloc (.cells #[.int .i64 s.long, .int .i64 s.wide, .int .i64 s.kerf, .int .i64 s.across] 37))) := below_alloc' (below_self _ _) _
  have S0 := Lib.hid (Blk.new (w.alloc (.cells #[.slice B.A B.n B.c, .slice B.A' B.n' B.c', .int .i64 B.bend, .slice B.K B.m B.d, .slice (some ⟨g, 0, none⟩) B.n cap, .slice (some ⟨g', 0, none⟩) B.n cap'] 106)) 37 #[.int .i64 s.long, .int .i64 s.wide, .int .i64 s.kerf, .int .i64 s.across] (g := w.heap.size + 1) (by simp))
  have C0 := Lib.hid ((Blk.new w 106 #[.slice B.A B.n B.c, .slice B.A' B.n' B.c', .int .i64 B.bend, .slice B.K B.m B.d, .slice (some ⟨g, 0, none⟩) B.n cap, .slice (some ⟨g', 0, none⟩) B.n cap'] (g := w.heap.size) rfl).alloc (.cells #[.int .i64 s.long, .int .i64 s.wide, .int .i64 s.kerf, .int .i64 s.across] 37))
  clear hB hs
  unfold Bl.curved Sw.val
  go_enter Try.func65, Try.ntmps65
  go_wp2
  go_loopw [11] (fun i wr => ∃ k : Nat, k ≤ m ∧ i = .int .i64 k ∧ noneOf (fun p => !placeOk B.n s.long p) (ps.take k) = true ∧ Below w.heap.size w wr ∧ Blk wr w.heap.size 106 #[.slice B.A B.n B.c, .slice B.A' B.n' B.c', .int .i64 B.bend, .slice B.K B.m B.d, .slice (some ⟨g, 0, none⟩) B.n cap, .slice (some ⟨g', 0, none⟩) B.n cap'] ∧ Blk wr (w.heap.size + 1) 37 #[.int .i64 s.long, .int .i64 s.wide, .int .i64 s.kerf, .int .i64 s.across]) (fun i _ => m - (intOf i).toNat)
  case atStart => exact ⟨0, Nat.zero_le _, rfl, rfl, E0.out, C0.out, S0.out⟩
  case round =>
    obtain ⟨k, hk, rfl, hin, hbel, hC, hS⟩ := hrel
    have Hbel := Lib.hid hbel
    have HC := Lib.hid hC
    have HS := Lib.hid hS
    have hc1 := hC.cell
    have hs1 := hS.cell
    have z1 := hS.lt
    have z0 := hC.lt
    by_cases hlt : k < m
    · obtain ⟨b, off, rfl, hb, q0, q1⟩ := (h.below hbel).at_ hlt
      have H := Lib.hid (noneOf_succ (p := fun p => !placeOk B.n s.long p) (0, 0) (xs := ps) (k := k) (by omega))
      have Hin := Lib.hid hin
      have Hno := Lib.hid (noneOf_no (p := fun p => !placeOk B.n s.long p) (0, 0) (xs := ps) (k := k) (by omega))
      have B1 := Lib.hid (below_alloc' (below_alloc' hbel (.cells #[.int .i64 (ps.getD k (0, 0)).1, .int .i64 (ps.getD k (0, 0)).2] 39)) (.cells #[.int .i64 (ps.getD k (0, 0)).1] 3))
      have C1 := Lib.hid ((hC.alloc (.cells #[.int .i64 (ps.getD k (0, 0)).1, .int .i64 (ps.getD k (0, 0)).2] 39)).alloc (.cells #[.int .i64 (ps.getD k (0, 0)).1] 3))
      have S1 := Lib.hid ((hS.alloc (.cells #[.int .i64 (ps.getD k (0, 0)).1, .int .i64 (ps.getD k (0, 0)).2] 39)).alloc (.cells #[.int .i64 (ps.getD k (0, 0)).1] 3))
      clear hin hl hbel hC hS C0 S0 E0 HC HS
      generalize ps.getD k (0, 0) = y at *
      have HY := HPK.out y
      cases e1 : within 0 ((B.n : Int) - s.long) [y.1]
      · have HN : Hid (holdsB B.n s.long ps = false) := by
          unfold Hid; rw [HD.out]; exact Hno.out (by rw [HY, e1]; rfl)
        clear HD HY Hno
        go_wp2_with (go_at_call 88; refine (within1 _ _ _ _ _ _ (by simp)).mono ?_; rintro e w' ⟨rfl, rfl⟩)
        go_ret
        exact ⟨ret_bool HN.out.symm, B1.out⟩
      · cases e2 : within 0 300 [y.2]
        · have HN : Hid (holdsB B.n s.long ps = false) := by
            unfold Hid; rw [HD.out]; exact Hno.out (by rw [HY, e1, e2]; rfl)
          clear HD HY Hno
          go_wp2_with (go_at_call 88; refine (within1 _ _ _ _ _ _ (by simp)).mono ?_; rintro e w' ⟨rfl, rfl⟩)
          go_ret
          exact ⟨ret_bool HN.out.symm, below_alloc' B1.out _⟩
        · have HN : Hid (placeOk B.n s.long y = true) := by unfold Hid; rw [HY, e1, e2]; rfl
          clear HD HY Hno
          go_wp2_with (go_at_call 88; refine (within1 _ _ _ _ _ _ (by simp)).mono ?_; rintro e w' ⟨rfl, rfl⟩)
          go_roundw
          case rel => exact ⟨k + 1, by omega, by go_num, by rw [H.out, Hin.out, HN.out]; rfl, below_alloc' B1.out _, C1.out.alloc _, S1.out.alloc _⟩
          case measure => simp [intOf]; omega
    · have he : Hid (holdsB B.n s.long ps = true) := by unfold Hid; rw [HD.out, ← hin, List.take_of_length_le (by omega)]
      clear hin
      go_wp2
      go_ret
      exact ⟨ret_bool he.out.symm, Hbel.out⟩
end Go.Proofs.Ytiflhimmieflpaa
