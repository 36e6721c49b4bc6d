/- Walks: layout. -/
import Derived.Test.YtiflhimmieflpaaW17
namespace Go.Proofs.Ytiflhimmieflpaa
open Go.RowKit Go.Maps

def colPlaces (s : Sawing) (n x : Nat) : List (Int × Int) := (LL s (n + 1 - s.long.toNat) x).map fun y => ((x : Int), y)
def layoutGo (s : Sawing) (n : Nat) : Nat → Nat → List (Int × Int)
  | 0, _ => []
  | f + 1, x => if x < n then (if bn s n x = 0 ∨ (bn s n x : Int) + aheadAt s n n (x + stepN s) < aheadAt s n n x then layoutGo s n f (x + 1) else colPlaces s n x ++ layoutGo s n f (x + stepN s)) else []
def layoutL (s : Sawing) (n : Nat) : List (Int × Int) := layoutGo s n (n + 1) 0
theorem layoutGo_end {s : Sawing} {n f x : Nat} (h : ¬ x < n) : layoutGo s n f x = [] := by
  cases f with
  | zero => rfl
  | succ f => rw [layoutGo, if_neg h]
theorem layoutGo_skip {s : Sawing} {n f x : Nat} (h : x < n) (hc : bn s n x = 0 ∨ (bn s n x : Int) + aheadAt s n n (x + stepN s) < aheadAt s n n x) : layoutGo s n (f + 1) x = layoutGo s n f (x + 1) := by
  rw [layoutGo, if_pos h, if_pos hc]
theorem layoutGo_take {s : Sawing} {n f x : Nat} (h : x < n) (hc : ¬ (bn s n x = 0 ∨ (bn s n x : Int) + aheadAt s n n (x + stepN s) < aheadAt s n n x)) : layoutGo s n (f + 1) x = colPlaces s n x ++ layoutGo s n f (x + stepN s) := by
  rw [layoutGo, if_pos h, if_neg hc]
def LayoutRes (w : World) (L : List (Int × Int)) (e : Ending) (w' : World) : Prop := ∃ v, e = .returned v ∧ w'.ownsRow w.heap.size 39 2 v L.length (flat2 L) ∧ Below w.heap.size w w'

theorem flat2_append (xs ys : List (Int × Int)) : flat2 (xs ++ ys) = flat2 xs ++ flat2 ys := by simp [flat2, List.flatMap_append]
theorem cell_two_at (w : World) (x y : Value) (t : TypeId) : ∀ j u, [x, y][j]? = some u → (w.alloc (.cells #[x, y] t)).cell? ((⟨w.heap.size, 0, none⟩ : Addr).add j) = some u := by
  intro j u hj
  rw [addr_add, Nat.zero_add, (Blk.new w t #[x, y] rfl).cell]
  simpa using hj

set_option maxRecDepth 100000 in
set_option maxHeartbeats 8000000 in
theorem layout_any (s : Sawing) (b o b' o' n c c' : Nat) (K : Option Addr) (m d : Nat) (w : World) (h : SawAt w s ⟨b, o, none⟩ ⟨b', o', none⟩ n K m) (hc : n ≤ c) (hc' : n ≤ c') (hm : c ≤ maxLen) (hs : SawBounds s) (hn : n ≤ 30) (hm4 : m ≤ 4) :
    Calls Try.prog 72 #[sawVal s ⟨b, o, none⟩ ⟨b', o', none⟩ n c c' K m d] w (LayoutRes w (layoutL s n)) := by
  obtain ⟨i0, hi, hz0, hz1, hz2⟩ := info_parts Try.infoPlace
  obtain ⟨l, hl⟩ := Int.eq_ofNat_of_zero_le (show 0 ≤ s.long by have := hs.l1; omega)
  obtain ⟨a, ha⟩ := Int.eq_ofNat_of_zero_le hs.a1
  have hst : stepN s = l + a := by unfold stepN; rw [hl, ha]; simp
  have Hst := Lib.hid hst
  have l1 := hs.l1
  have l2 := hs.l2
  have a2 := hs.a2
  rw [hl] at l1 l2
  rw [ha] at a2
  have HBN : Hid (∀ x, (LL s (n + 1 - s.long.toNat) x).length = bn s n x) := fun x => rfl
  have HW := Lib.hid (fun W (hb : Below w.heap.size w W) => blocks_any s b o b' o' n c c' K m d W (h.below hb) hc hc' hm hs hn hm4)
  have HA := Lib.hid (fun W bm base D V hmap => ahead_any s b o b' o' n c c' K m d bm base D V W hs hn hmap)
  have HAI := Lib.hid (fun i => aheadAt_in s n 302 (bn_le s n) n i)
  have HL : Hid (layoutL s n = layoutGo s n (n + 1) 0) := rfl
  unfold sawVal at HW HA ⊢
  unfold AheadRes at HA
  simp only [hst, ← Nat.add_assoc] at HA
  rw [hl, ha] at HW ⊢
  simp only [hl, ha] at HA
  have B1 := Lib.hid (below_self w (.cells #[.int .i64 l, .int .i64 s.wide, .int .i64 s.kerf, .int .i64 a, .slice (some ⟨b, o, none⟩) n c, .slice (some ⟨b', o', none⟩) n c', .slice K m d] 120))
  have X0 : Hid (Box7 (w.alloc (.cells #[.int .i64 l, .int .i64 s.wide, .int .i64 s.kerf, .int .i64 a, .slice (some ⟨b, o, none⟩) n c, .slice (some ⟨b', o', none⟩) n c', .slice K m d] 120)) w.heap.size (.int .i64 l) (.int .i64 s.wide) (.int .i64 s.kerf) (.int .i64 a) (.slice (some ⟨b, o, none⟩) n c) (.slice (some ⟨b', o', none⟩) n c') (.slice K m d)) := Blk.new w _ _ rfl
  clear h hc hc' hm hs hst
  go_enter Try.func72, Try.ntmps72
  go_wp2_with fail
  refine (HW.out _ B1.out).mono ?_
  rintro e w1 ⟨bm, D, V, rfl, hmap, hb1⟩
  have HM1 := Lib.hid hmap
  have HB1 := Lib.hid (below_then B1.out hb1)
  have X1 := Lib.hid (blk_keep hb1 X0.out)
  have x1 := X1.out.cell
  clear hmap hb1
  go_wp2_with fail
  refine (HA.out _ _ _ _ _ (by simpa only [hl, Int.toNat_natCast] using HM1.out)).mono ?_
  rintro e w2 ⟨g, rfl, hrow, hb2⟩
  obtain ⟨base, hM⟩ : ∃ base, BlkMap w2 base bm s (n + 1 - (l : Int).toNat) D V := ⟨_, HM1.out.below hb2⟩
  rw [← hl] at hM
  have HM := Lib.hid hM
  clear hM
  have HB2 := Lib.hid (below_then HB1.out hb2)
  have X2 := Lib.hid (blk_keep hb2 X1.out)
  have HR := Lib.hid hrow
  clear hrow hb2 x1 hl ha X1 HB1 HM1 X0 B1 HW HA
  go_wp2_with fail
  go_loopw [5, 6] (fun v i wr => ∃ (acc : List (Int × Int)) (x f : Nat), i = .int .i64 x ∧ wr.ownsRow w2.heap.size 39 2 v acc.length (flat2 acc) ∧ Below w2.heap.size w2 wr ∧ acc ++ layoutGo s n f x = layoutL s n ∧ n < x + f ∧ acc.length ≤ 302 * x) (fun _ i _ => n - (intOf i).toNat)
  case atStart => exact ⟨[], 0, n + 1, rfl, World.ownsRow_nil _ _ _ _, Below.refl _ _, by rw [HL.out]; rfl, by omega, by simp⟩
  case round =>
    obtain ⟨acc, x, f, rfl, hown, hbel, hgo, hf, hacc⟩ := hrel
    have Hgo := Lib.hid hgo
    have Hown := Lib.hid hown
    have Hbel := Lib.hid hbel
    have hcell := (blk_keep hbel X2.out).cell
    clear hgo hown hbel HL
    by_cases hlt : x < n
    · obtain ⟨f, rfl⟩ : ∃ f', f = f' + 1 := ⟨f - 1, by omega⟩
      have q1 := (Hbel.out.cell (p := ⟨g, x, none⟩) HR.out.lt).trans (HR.out.cell (i := x) (by omega))
      have q2 := (Hbel.out.cell (p := ⟨g, x + l + a, none⟩) HR.out.lt).trans (HR.out.cell (i := x + l + a) (by omega))
      have hA1 := HAI.out x
      have hA2 := HAI.out (x + l + a)
      have hB1 := bn_le s n x
      have hj30 : 302 * n ≤ 9060 := by omega
      have HGS := Lib.hid (layoutGo_skip (s := s) (n := n) (f := f) (x := x) hlt)
      have HGT := Lib.hid (layoutGo_take (s := s) (n := n) (f := f) (x := x) hlt)
      rw [Hst.out, ← Nat.add_assoc] at HGS HGT
      have hrow := HM.out.row x
      rw [HBN.out] at hrow
      obtain ⟨VA, vc, hV⟩ := own_slice hrow
      have hlk := fun q => look_of (HM.out.below Hbel.out) (show (wr.drewN q).heap = wr.heap from rfl) x (by omega)
      rw [hV] at hlk
      rw [hV] at hrow
      have HLL : Hid ((LL s (n + 1 - s.long.toNat) x).length = bn s n x) := rfl
      have HCP : Hid (colPlaces s n x = (LL s (n + 1 - s.long.toNat) x).map fun y => ((x : Int), y)) := rfl
      generalize LL s (n + 1 - s.long.toNat) x = ys at *
      generalize bn s n x = L at *
      generalize aheadAt s n n x = A1 at *
      generalize aheadAt s n n (x + l + a) = A2 at *
      have t1 : 0 ≤ A1 := hA1.1
      have t2 : A1 ≤ 10000 := by omega
      have t3 : 0 ≤ A2 := hA2.1
      have t4 : A2 ≤ 10000 := by omega
      clear hA1 hA2 hj30 hV
      have Hrow := Lib.hid hrow
      clear hrow
      have k2 : IntKind.i64.wrap ((x : Int) + (l : Int)) = (x : Int) + (l : Int) := IntWalk.i64_in _ (by omega)
      have k3 : IntKind.i64.wrap ((x : Int) + (l : Int) + (a : Int)) = (x : Int) + (l : Int) + (a : Int) := IntWalk.i64_in _ (by omega)
      have k4 : IntKind.i64.wrap ((L : Int) + A2) = (L : Int) + A2 := IntWalk.i64_in _ (by omega)
      have k6 : ((x : Int) + (l : Int) + (a : Int)).toNat = x + l + a := by omega
      have k8 : 0 ≤ (x : Int) + (l : Int) + (a : Int) := by omega
      have k10 : (x : Int) + (l : Int) + (a : Int) < (n : Int) + (l : Int) + (a : Int) := by omega
      have k11 : (x : Int) < (n : Int) + (l : Int) + (a : Int) := by omega
      by_cases hL0 : L = 0
      · have HG := Lib.hid (HGS.out (.inl hL0))
        subst hL0
        go_wp2_with fail
        go_quiet (fail)
        go_wp2
        go_roundw
        case rel => exact ⟨acc, x + 1, f, by go_num, Hown.out, below_drewN Hbel.out _, by rw [← HG.out]; exact Hgo.out, by omega, by omega⟩
        case measure => simp [intOf]; omega
      · have hL1 : ((L : Int) == 0) = false := by simpa using hL0
        by_cases hAB : (L : Int) + A2 < A1
        · have HG := Lib.hid (HGS.out (.inr hAB))
          go_wp2_with fail
          go_quiet (fail)
          go_wp2
          go_roundw
          case rel => exact ⟨acc, x + 1, f, by go_num, Hown.out, below_drewN Hbel.out _, by rw [← HG.out]; exact Hgo.out, by omega, by omega⟩
          case measure => simp [intOf]; omega
        · have hAB' : decide ((L : Int) + A2 < A1) = false := by simpa using hAB
          have HG := Lib.hid (HGT.out (by rintro (h | h) <;> omega))
          obtain ⟨vg, vcap, hform⟩ := own_form Hrow.out (by omega)
          obtain ⟨rfl, rfl⟩ : VA = some ⟨vg, 0, none⟩ ∧ vc = vcap := by simpa using hform
          have HI : Hid (Ints w2 (some ⟨vg, 0, none⟩) L ys) := ints_of_own Hrow.out
          clear hform
          go_wp2_with fail
          go_quiet (fail)
          have hlk2 := hlk nq
          clear q1 q2 hlk hcell
          have Hown0 : Hid ((wr.drewN nq).ownsRow w2.heap.size 39 2 u5 acc.length (flat2 acc)) := Hown.out
          have Hbel0 : Hid (Below w2.heap.size w2 (wr.drewN nq)) := below_drewN Hbel.out _
          generalize wr.drewN nq = wo at *
          go_wp2_with fail
          go_loopw [5, 56] (fun v i wi => ∃ k : Nat, k ≤ L ∧ i = .int .i64 k ∧ wi.ownsRow w2.heap.size 39 2 v (acc.length + k) (flat2 (acc ++ (ys.take k).map fun y => ((x : Int), y))) ∧ Below w2.heap.size w2 wi) (fun _ i _ => L - (intOf i).toNat)
          case atStart => exact ⟨0, Nat.zero_le _, rfl, by simpa using Hown0.out, Hbel0.out⟩
          case round =>
            obtain ⟨k, hk, rfl, hown3, hbel3⟩ := hrel
            have Hown3 := Lib.hid hown3
            have Hbel3 := Lib.hid hbel3
            clear hown3 hbel3
            by_cases hkl : k < L
            · obtain ⟨vb, vo, hvb, hvlt, hce⟩ := (HI.out.below Hbel3.out).at_ hkl
              obtain ⟨hvb1, hvb2⟩ : vg = vb ∧ vo = 0 := by simpa [eq_comm] using hvb
              subst hvb1 hvb2
              rw [Nat.zero_add] at hce
              have HS : Hid (flat2 (acc ++ (ys.take (k + 1)).map fun y => ((x : Int), y)) = flat2 (acc ++ (ys.take k).map fun y => ((x : Int), y)) ++ [.int .i64 x, .int .i64 (ys.getD k 0)]) := by
                unfold Hid
                rw [take_map_succ (fun y => ((x : Int), y)) ys k 0 (by rw [HLL.out]; exact hkl), ← List.append_assoc, flat2_append]
                rfl
              generalize ys.getD k 0 = y at *
              have Hnew := Lib.hid (cell_two_at wr (.int .i64 x) (.int .i64 y) 39)
              have hsz := Hbel3.out.size
              clear hvb
              go_wp2_with (at_builtin; refine wpList_append_own _ rfl _ _ 54 rfl w2.heap.size 39 i0 (.agg #[.int .i64 0, .int .i64 0]) 2 16 Try.underlying54 hi hz0 hz1 hz2 rfl (by decide) _ _ _ rfl (Hown3.out.alloc _) ⟨wr.heap.size, 0, none⟩ 1 1 [.int .i64 x, .int .i64 y] rfl rfl Hnew.out ?c2 ?c3 ?c4 ?c5 ?_)
              case c2 => intro u hu; simp only [List.mem_cons, List.not_mem_nil, or_false] at hu; rcases hu with rfl | rfl <;> rfl
              case c3 => unfold maxLen; omega
              case c4 => omega
              case c5 => simp; omega
              intro v' w4 hown4 hgrow _
              have B4 := Lib.hid ((Hbel3.out.alloc hsz _).grown hgrow (by simp; omega) (fun q hq => (Hown3.out.lt q hq).1))
              have hown5 : Hid (w4.ownsRow w2.heap.size 39 2 v' (acc.length + (k + 1)) (flat2 (acc ++ (ys.take (k + 1)).map fun y => ((x : Int), y)))) := by
                unfold Hid; rw [HS.out, ← Nat.add_assoc]; simpa only [List.map_take] using hown4
              clear hown4 hgrow
              go_wp2
              go_roundw
              case rel => exact ⟨k + 1, by omega, by go_num, hown5.out, B4.out⟩
              case measure => simp [intOf]; omega
            · obtain rfl : k = L := by omega
              have HE2 : Hid (acc ++ (ys.take k).map (fun y => ((x : Int), y)) = acc ++ colPlaces s n x) := by
                unfold Hid; rw [HCP.out, List.take_of_length_le (by rw [HLL.out]; exact Nat.le_refl _)]
              rw [HE2.out] at Hown3
              have Hlen : Hid ((acc ++ colPlaces s n x).length = acc.length + k) := by
                unfold Hid; rw [HCP.out, List.length_append, List.length_map, HLL.out]
              go_wp2
              go_roundw
              case rel => exact ⟨acc ++ colPlaces s n x, x + l + a, f, by go_num, by rw [Hlen.out]; exact Hown3.out, Hbel3.out, by rw [List.append_assoc, ← HG.out]; exact Hgo.out, by omega, by rw [Hlen.out]; omega⟩
              case measure => simp [intOf]; omega
    · have hE : layoutGo s n f x = [] := layoutGo_end hlt
      have HE : Hid (acc = layoutL s n) := by unfold Hid; rw [← Hgo.out, hE, List.append_nil]
      clear hE
      go_wp2
      go_ret
      exact ⟨_, rfl, by rw [← HE.out]; exact own_base Hown.out HB2.out.size, below_then HB2.out Hbel.out⟩
end Go.Proofs.Ytiflhimmieflpaa
