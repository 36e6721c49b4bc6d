/- Walks: ahead. -/
import Derived.Test.YtiflhimmieflpaaW15
import Derived.Deep.OwnRows
import Derived.StillTailTactics
namespace Go.Proofs.Ytiflhimmieflpaa
open Go.RowKit Go.Maps

/-- How many sticks the block at x has, in n columns. -/
def bn (s : Sawing) (n x : Nat) : Nat := (LL s (n + 1 - s.long.toNat) x).length
def stepN (s : Sawing) : Nat := s.long.toNat + s.across.toNat
/-- The most sticks of blocks from n - j on, from n - j + 1 on, and so on. -/
def aheadT (s : Sawing) (n : Nat) : Nat → List Int
  | 0 => []
  | j + 1 => max ((aheadT s n j).getD 0 0) ((bn s n (n - 1 - j) : Int) + (aheadT s n j).getD (stepN s - 1) 0) :: aheadT s n j
def aheadAt (s : Sawing) (n j i : Nat) : Int := if n - j ≤ i then (aheadT s n j).getD (i - (n - j)) 0 else 0
theorem aheadT_length (s : Sawing) (n j : Nat) : (aheadT s n j).length = j := by
  induction j with
  | zero => rfl
  | succ j ih => simp [aheadT, ih]
theorem aheadAt_succ (s : Sawing) (n j i : Nat) (hj : j < n) (hl : 1 ≤ stepN s) : aheadAt s n (j + 1) i = if i = n - 1 - j then max (aheadAt s n j (n - 1 - j + 1)) ((bn s n (n - 1 - j) : Int) + aheadAt s n j (n - 1 - j + stepN s)) else aheadAt s n j i := by
  unfold aheadAt
  by_cases e : i = n - 1 - j
  · subst e
    rw [if_pos (by omega), if_pos rfl, if_pos (by omega), if_pos (by omega)]
    rw [show n - 1 - j - (n - (j + 1)) = 0 from by omega, show n - 1 - j + 1 - (n - j) = 0 from by omega, show n - 1 - j + stepN s - (n - j) = stepN s - 1 from by omega]
    rfl
  · rw [if_neg e]
    by_cases e2 : n - j ≤ i
    · rw [if_pos (by omega), if_pos e2, show i - (n - (j + 1)) = (i - (n - j)) + 1 from by omega]
      rfl
    · rw [if_neg (by omega), if_neg e2]
theorem aheadT_in (s : Sawing) (n B : Nat) (hB : ∀ x, bn s n x ≤ B) (j k : Nat) : 0 ≤ (aheadT s n j).getD k 0 ∧ (aheadT s n j).getD k 0 ≤ (B * j : Nat) := by
  induction j generalizing k with
  | zero => simp [aheadT]
  | succ j ih =>
    cases k with
    | zero =>
      have h1 := ih 0
      have h2 := ih (stepN s - 1)
      have h3 := hB (n - 1 - j)
      simp only [aheadT, List.getD_cons_zero]
      rw [Nat.mul_succ]
      omega
    | succ k =>
      have h1 := ih k
      simp only [aheadT, List.getD_cons_succ]
      rw [Nat.mul_succ]
      omega
theorem aheadAt_in (s : Sawing) (n B : Nat) (hB : ∀ x, bn s n x ≤ B) (j i : Nat) : 0 ≤ aheadAt s n j i ∧ aheadAt s n j i ≤ (B * j : Nat) := by
  unfold aheadAt
  split
  · exact aheadT_in s n B hB j _
  · omega
theorem blockGo_len (s : Sawing) (x top : Int) (f : Nat) (y : Int) : (blockGo s x top f y).length ≤ f := by
  induction f generalizing y with
  | zero => simp [blockGo]
  | succ f ih =>
    rw [blockGo]
    split
    · split
      · exact Nat.le_succ_of_le (ih _)
      · simp only [List.length_cons]; exact Nat.succ_le_succ (ih _)
    · simp
theorem bn_le (s : Sawing) (n x : Nat) : bn s n x ≤ 302 := by
  unfold bn LL
  split
  · exact blockGo_len _ _ _ _ _
  · simp

theorem Try.zeroIntsRun (W : World) : (zeroValue 44).run Try.prog W = .ok (.slice none 0 0) W := by kernel_rfl
theorem look_of {w W : World} {base bm k : Nat} {s : Sawing} {D : DataW Value} {V : Nat → Value} (h : BlkMap w base bm s k D V) (hW : W.heap = w.heap) (x : Nat) (hx : x ≤ 1000) :
    (Instr.lookup 133 (.map (some bm)) (.int .i64 (x : Int)) false).run Try.prog W = .ok (V x) W := by
  have ho : W.ownsMap Try.prog 3 RV bm k D := by
    have := h.own
    unfold World.ownsMap at this ⊢
    rw [hW]
    exact this
  obtain ⟨v, ps, hrun, hv⟩ := ho.lookup (int_keyed Try.underlying3) Try.underlying133 (Try.zeroIntsRun W) (zd := .held nilS) (zp := []) rfl (keyOf_int_mk Try.underlying3 (wf_nat x (by omega)))
  rw [h.at_] at hv
  simp only [RV, Option.some.injEq, Prod.mk.injEq, DataW.held.injEq] at hv
  rw [hrun, hv.1]

theorem below_sz {w wr : World} {o : Obj} (h : Below (w.heap.size + 1) (w.alloc o) wr) : Below (w.alloc o).heap.size (w.alloc o) wr := by rw [World.size_alloc]; exact h
def AheadRes (w : World) (s : Sawing) (n : Nat) (e : Ending) (w' : World) : Prop :=
  ∃ g, e = .returned (.slice (some ⟨g, 0, none⟩) (n + stepN s) (n + stepN s)) ∧ w'.rowIs g 3 (n + stepN s) (fun i => .int .i64 (aheadAt s n n i)) ∧ Below w.heap.size w w'

set_option maxRecDepth 100000 in
set_option maxHeartbeats 4000000 in
theorem ahead_any (s : Sawing) (b o b' o' n c c' : Nat) (K : Option Addr) (m d bm base : Nat) (D : DataW Value) (V : Nat → Value) (w : World) (hs : SawBounds s) (hn : n ≤ 30) (hmap : BlkMap w base bm s (n + 1 - s.long.toNat) D V) :
    Calls Try.prog 103 #[sawVal s ⟨b, o, none⟩ ⟨b', o', none⟩ n c c' K m d, .map (some bm)] w (AheadRes w s n) := by
  have l1 := hs.l1
  have l2 := hs.l2
  have a1 := hs.a1
  have a2 := hs.a2
  have B1 := below_self w (.cells #[.int .i64 s.long, .int .i64 s.wide, .int .i64 s.kerf, .int .i64 s.across, .slice (some ⟨b, o, none⟩) n c, .slice (some ⟨b', o', none⟩) n c', .slice K m d] 120)
  have HB := Lib.hid (Blk.new w 120 #[.int .i64 s.long, .int .i64 s.wide, .int .i64 s.kerf, .int .i64 s.across, .slice (some ⟨b, o, none⟩) n c, .slice (some ⟨b', o', none⟩) n c', .slice K m d] rfl)
  have HM := Lib.hid (hmap.below B1)
  have HA := Lib.hid (fun j i => aheadAt_in s n 302 (bn_le s n) j i)
  obtain ⟨l, hl⟩ := Int.eq_ofNat_of_zero_le (show 0 ≤ s.long by omega)
  obtain ⟨a, ha⟩ := Int.eq_ofNat_of_zero_le a1
  have hst : stepN s = l + a := by unfold stepN; rw [hl, ha]; simp
  have HBN : Hid (∀ x, bn s n x = (LL s (n + 1 - l) x).length) := fun x => by unfold bn; rw [hl]; simp
  have HS := Lib.hid (fun j i (hj : j < n) => aheadAt_succ s n j i hj (by rw [hst]; omega))
  rw [hst] at HS
  rw [hl, ha] at HM
  simp only [Int.toNat_natCast] at HM
  unfold AheadRes
  rw [hst, show n + (l + a) = n + l + a from by omega]
  unfold sawVal
  rw [hl, ha] at HB ⊢
  rw [hl] at l1 l2
  rw [ha] at a2
  clear hmap hst hl ha a1 B1
  have hmk := fun W => run_make_row' (P := Try.prog) 44 3 (.int .i64 0) 8 Try.underlying44 Try.infoInt rfl .i64 .i64 (n + l + a) (by omega) (by omega) W
  have ec : ((n + l + a : Nat) : Int) = (n : Int) + (l : Int) + (a : Int) := by omega
  rw [ec] at hmk
  clear ec
  go_enter Try.func103, Try.ntmps103
  go_wp2_with fail
  clear hmk
  have R0 := (World.rowIs_made (w.alloc (.cells #[.int .i64 l, .int .i64 s.wide, .int .i64 s.kerf, .int .i64 a, .slice (some ⟨b, o, none⟩) n c, .slice (some ⟨b', o', none⟩) n c', .slice K m d] 120)) (.int .i64 0) (n + l + a) 3).congr (g := fun i => .int .i64 (aheadAt s n 0 i)) (fun i _ => by simp [aheadAt, aheadT])
  go_loopw [7] (fun i wr => ∃ (j : Nat) (x : Int), j ≤ n ∧ i = .int .i64 x ∧ x = (n : Int) - 1 - j ∧ wr.rowIs (w.heap.size + 1) 3 (n + l + a) (fun i => .int .i64 (aheadAt s n j i)) ∧ Below (w.heap.size + 1) (w.alloc (.cells #[.int .i64 l, .int .i64 s.wide, .int .i64 s.kerf, .int .i64 a, .slice (some ⟨b, o, none⟩) n c, .slice (some ⟨b', o', none⟩) n c', .slice K m d] 120)) wr) (fun i _ => (intOf i + 1).toNat)
  case atStart => exact ⟨0, _, Nat.zero_le _, rfl, by omega, by simpa using R0, (Below.refl _ _).alloc (by simp) _⟩
  case round =>
    obtain ⟨j, x, hj, rfl, hx, R, hbel⟩ := hrel
    have hcell := (HB.out.below hbel (Nat.lt_succ_self _)).cell
    have Hbel := Lib.hid hbel
    have HR := Lib.hid R
    clear hbel R R0
    by_cases hge : 0 ≤ x
    · obtain ⟨i, rfl⟩ := Int.eq_ofNat_of_zero_le hge
      have hin : i < n := by omega
      have hi' : n - 1 - j = i := by omega
      have HSj := Lib.hid (fun q => HS.out j q (by omega))
      rw [hi'] at HSj
      have Hx := Lib.hid hx
      clear hx hi'
      have q1 := HR.out.cell (i := i + 1) (by omega)
      have q2 := HR.out.cell (i := i + l + a) (by omega)
      have q3 := HR.out.cell (i := i) (by omega)
      have q4 := HR.out.frozen i
      obtain ⟨VA, vc, hV⟩ := own_slice (HM.out.row i)
      have hlk := fun (W : World) (hW : W.heap = wr.heap) => look_of (HM.out.below (below_sz Hbel.out)) hW i (by omega)
      rw [hV, ← HBN.out] at hlk
      have hA1 := HA.out j (i + 1)
      have hA2 := HA.out j (i + l + a)
      have hB1 := bn_le s n i
      have hj30 : 302 * j ≤ 9060 := by omega
      have HA1 : Hid (∃ z, z = aheadAt s n j (i + 1)) := ⟨_, rfl⟩
      obtain ⟨A1, e1⟩ := HA1.out
      obtain ⟨A2, e2⟩ : ∃ z, z = aheadAt s n j (i + l + a) := ⟨_, rfl⟩
      obtain ⟨L, e3⟩ : ∃ z, z = bn s n i := ⟨_, rfl⟩
      rw [← e1] at q1 hA1
      rw [← e2] at q2 hA2
      rw [← e3] at hlk hB1
      have E1 := Lib.hid e1
      have E2 := Lib.hid e2
      have E3 := Lib.hid e3
      clear e1 e2 e3 hV HA1
      generalize aheadAt s n j i = A0 at q3
      have t1 : 0 ≤ A1 := hA1.1
      have t2 : A1 ≤ 10000 := by omega
      have t3 : 0 ≤ A2 := hA2.1
      have t4 : A2 ≤ 10000 := by omega
      clear hA1 hA2 hj30
      have V1 : Hid ((if A1 < (L : Int) + A2 then (L : Int) + A2 else A1) = max A1 ((L : Int) + A2)) := by unfold Hid; split <;> omega
      have k1 : IntKind.i64.wrap ((i : Int) + 1) = (i : Int) + 1 := IntWalk.i64_in _ (by omega)
      have k2 : IntKind.i64.wrap ((i : Int) + (l : Int)) = (i : Int) + (l : Int) := IntWalk.i64_in _ (by omega)
      have k3 : IntKind.i64.wrap ((i : Int) + (l : Int) + (a : Int)) = (i : Int) + (l : Int) + (a : Int) := IntWalk.i64_in _ (by omega)
      have k4 : IntKind.i64.wrap ((L : Int) + A2) = (L : Int) + A2 := IntWalk.i64_in _ (by omega)
      have k5 : ((i : Int) + 1).toNat = i + 1 := by omega
      have k6 : ((i : Int) + (l : Int) + (a : Int)).toNat = i + l + a := by omega
      have k7 : 0 ≤ (i : Int) + 1 := by omega
      have k8 : 0 ≤ (i : Int) + (l : Int) + (a : Int) := by omega
      have k9 : (i : Int) + 1 < (n : Int) + (l : Int) + (a : Int) := by omega
      have k10 : (i : Int) + (l : Int) + (a : Int) < (n : Int) + (l : Int) + (a : Int) := by omega
      have k11 : (i : Int) < (n : Int) + (l : Int) + (a : Int) := by omega
      clear hin hj
      replace hlk := hlk wr.drew rfl
      go_wp2_with fail
      go_still_tail 26, (by kernel_rfl)
      clear k1 k2 k3 k4 k5 k6 k7 k8 k9 k10 hlk hcell
      change wpList _ _ _ _ _ wr.drew
      rw [V1.out]
      have HN : Hid (((wr.setCell ⟨w.heap.size + 1, i, none⟩ (.int .i64 (max A1 ((L : Int) + A2)))).drew).rowIs (w.heap.size + 1) 3 (n + l + a) (fun q => .int .i64 (aheadAt s n (j + 1) q))) := by
        refine ((HR.out.set i _).congr (fun q _ => ?_)).drew
        have := HSj.out q
        rw [← Nat.add_assoc, ← E1.out, ← E2.out, ← E3.out] at this
        rw [this]
        by_cases e : q = i
        · subst e; simp
        · rw [if_neg e, if_neg e]
      have HB2 := Lib.hid ((Hbel.out.setCell (p := ⟨w.heap.size + 1, i, none⟩) (Nat.le_refl _) (.int .i64 (max A1 ((L : Int) + A2)))).drew)
      clear V1
      generalize max A1 ((L : Int) + A2) = z at *
      clear t1 t2 t3 t4
      go_wp2
      go_roundw
      case rel => exact ⟨j + 1, _, by have := Hx.out; omega, rfl, by have := Hx.out; omega, HN.out, HB2.out⟩
      case measure => simp [intOf] <;> omega
    · obtain rfl : j = n := by omega
      go_wp2
      go_ret
      exact ⟨_, rfl, HR.out, below_then (below_self _ _) (below_sz Hbel.out)⟩
end Go.Proofs.Ytiflhimmieflpaa
