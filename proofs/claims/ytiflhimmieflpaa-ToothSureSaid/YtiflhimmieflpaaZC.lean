/- Merged: W106, W107, W108. -/
import Derived.Test.YtiflhimmieflpaaW64
import Derived.Test.YtiflhimmieflpaaW75
import Derived.Test.YtiflhimmieflpaaW84
import Derived.BigRegion

/- Walks: valid and apart of the tusks' laws. -/
namespace Go.Proofs.Ytiflhimmieflpaa
open Go.RowKit Go.Maps

set_option maxRecDepth 100000 in
set_option maxHeartbeats 2000000 in
theorem valid_ok (A : Option Addr) (n cp : Nat) (ps : List (Int × Int)) (cols : Int) (s : Sw) (w : World) (hp : Pairs w A n ps) (hn : n ≤ 10000) (hl : 0 ≤ s.long ∧ s.long ≤ 1000) (hc : cols ≤ 1000)
    (h : ∀ k, k < n → 0 ≤ (ps.getD k (0, 0)).1 ∧ (ps.getD k (0, 0)).1 + s.long ≤ cols ∧ 0 ≤ (ps.getD k (0, 0)).2 ∧ (ps.getD k (0, 0)).2 ≤ 300) :
    Calls Try.prog 53 #[.slice A n cp, .int .i64 cols, s.val] w fun e w' => e = .returned (.bool true) ∧ Below w.heap.size w w' := by
  have E0 : Hid (Below w.heap.size w (w.alloc (.cells #[.int .i64 s.long, .int .i64 s.wide, .int .i64 s.kerf, .int .i64 s.across] 37))) := below_self _ _
  have S0 := Lib.hid (Blk.new w 37 #[.int .i64 s.long, .int .i64 s.wide, .int .i64 s.kerf, .int .i64 s.across] (g := w.heap.size) rfl)
  have HP := Lib.hid (fun W (hb : Below w.heap.size w W) => hp.below hb)
  have H := Lib.hid h
  have hl1 := hl.1
  have hl2 := hl.2
  clear hp h hl
  unfold Sw.val
  go_enter Try.func53, Try.ntmps53
  have s0 := S0.out.cell
  go_wp2_with fail
  go_loopw [7] (fun iv wr => ∃ k : Nat, k ≤ n ∧ iv = .int .i64 k ∧ Below w.heap.size w wr ∧ Blk wr w.heap.size 37 #[.int .i64 s.long, .int .i64 s.wide, .int .i64 s.kerf, .int .i64 s.across]) (fun iv _ => n - (intOf iv).toNat)
  case atStart => exact ⟨0, Nat.zero_le _, rfl, E0.out, S0.out⟩
  case round =>
    obtain ⟨k, hk, rfl, hb, hs⟩ := hrel
    have D := Lib.hid hb
    have S1 := Lib.hid hs
    clear hb hs s0 S0 E0
    have s1 := S1.out.cell
    by_cases hkn : k < n
    · obtain ⟨b, off, hA, hb, q0, q1⟩ := Pairs.at_ (HP.out wr D.out) hkn
      subst hA
      obtain ⟨f1, f2, f3, f4⟩ := H.out k hkn
      generalize (ps.getD k (0, 0)).1 = px at *
      generalize (ps.getD k (0, 0)).2 = py at *
      have hkn2 : (k : Int) < (n : Int) := by omega
      have hw : IntKind.i64.wrap (px + s.long) = px + s.long := IntWalk.i64_in _ (by omega)
      go_upto_region 4 with (fail)
      go_quiet (fail)
      go_wp2_with fail
      go_roundw
      case rel => exact ⟨k + 1, by omega, by go_num, below_drewN D.out _, blk_keep (below_drewN (Below.refl wr.heap.size wr) _) S1.out⟩
      case measure => simp [intOf]; omega
    · obtain rfl : k = n := by omega
      go_wp2_with fail
      go_ret
      exact ⟨rfl, D.out⟩
end Go.Proofs.Ytiflhimmieflpaa

/- Walks: whether a stick is sound in what a blade truly is. -/
namespace Go.Proofs.Ytiflhimmieflpaa
open Go.RowKit Go.Maps

abbrev Tri := Int × Int × Int
def colT (lo hi : List Int) (wide y : Int) (i : Nat) : Bool := decide (lo.getD i 0 ≤ y) && decide (y + wide ≤ hi.getD i 0)
def crkT (x : Nat) (y long wide : Int) (k : Tri) : Bool := decide ((x : Int) ≤ k.1) && decide (k.1 < x + long) && decide (y < k.2.2) && decide (k.2.1 < y + wide)
def soundT (lo hi : List Int) (ck : List Tri) (long wide : Int) (x y : Nat) : Bool := ((List.range long.toNat).all fun i => colT lo hi wide y (x + i)) && ck.all fun k => !crkT x y long wide k
theorem soundT_col {lo hi : List Int} {ck : List Tri} {long wide : Int} {x y i : Nat} (hi2 : (i : Int) < long) (h : colT lo hi wide y (x + i) = false) : soundT lo hi ck long wide x y = false := by
  unfold soundT
  rw [Bool.and_eq_false_iff]
  refine .inl (List.all_eq_false.2 ⟨i, List.mem_range.2 (by omega), by simp [h]⟩)
theorem soundT_crk {lo hi : List Int} {ck : List Tri} {long wide : Int} {x y i : Nat} (hi2 : i < ck.length) (h : crkT x y long wide (ck.getD i (0, 0, 0)) = true) : soundT lo hi ck long wide x y = false := by
  unfold soundT
  rw [Bool.and_eq_false_iff]
  refine .inr (List.all_eq_false.2 ⟨ck[i], List.getElem_mem hi2, ?_⟩)
  have e : ck.getD i (0, 0, 0) = ck[i] := by simp [List.getD, hi2]
  rw [← e, h]; decide
theorem soundT_all {lo hi : List Int} {ck : List Tri} {long wide : Int} {x y : Nat} (h1 : ∀ i : Nat, (i : Int) < long → colT lo hi wide y (x + i) = true) (h2 : ∀ i, i < ck.length → crkT x y long wide (ck.getD i (0, 0, 0)) = false) : soundT lo hi ck long wide x y = true := by
  unfold soundT
  rw [Bool.and_eq_true, List.all_eq_true, List.all_eq_true]
  refine ⟨fun i hm => h1 i (by have := List.mem_range.1 hm; omega), fun k hk => ?_⟩
  obtain ⟨i, hi, rfl⟩ := List.getElem_of_mem hk
  have e : ck.getD i (0, 0, 0) = ck[i] := by simp [List.getD, hi]
  rw [← e, h2 i hi]; rfl
theorem flat3_length (xs : List Tri) : (flat3 xs).length = xs.length * 3 := by
  induction xs with
  | nil => rfl
  | cons s xs ih => simp only [flat3, List.flatMap_cons, List.length_append, List.length_cons, List.length_nil] at *; rw [ih]; omega
theorem flat3_at (xs : List Tri) : ∀ k, k < xs.length → (flat3 xs)[k * 3]? = some (.int .i64 (xs.getD k (0, 0, 0)).1) ∧ (flat3 xs)[k * 3 + 1]? = some (.int .i64 (xs.getD k (0, 0, 0)).2.1) ∧ (flat3 xs)[k * 3 + 2]? = some (.int .i64 (xs.getD k (0, 0, 0)).2.2) := by
  induction xs with
  | nil => exact fun k h => absurd h (by simp)
  | cons s xs ih =>
    intro k hk
    have e : flat3 (s :: xs) = [.int .i64 s.1, .int .i64 s.2.1, .int .i64 s.2.2] ++ flat3 xs := rfl
    cases k with
    | zero => rw [e]; exact ⟨rfl, rfl, rfl⟩
    | succ k =>
      have h := ih k (by simpa using hk)
      rw [e]
      rw [show (k + 1) * 3 = k * 3 + 3 by omega]
      simpa using h
theorem tri_at {W : World} {K : Option Addr} {m k : Nat} {ck : List Tri} (h : Reads W 3 K m (flat3 ck)) (hm : ck.length = m) (hk : k < m) : ∃ b off, K = some ⟨b, off, none⟩ ∧ b < W.heap.size ∧ W.cell? ⟨b, off + k * 3, none⟩ = some (.int .i64 (ck.getD k (0, 0, 0)).1) ∧ W.cell? ⟨b, off + k * 3 + 1, none⟩ = some (.int .i64 (ck.getD k (0, 0, 0)).2.1) ∧ W.cell? ⟨b, off + k * 3 + 2, none⟩ = some (.int .i64 (ck.getD k (0, 0, 0)).2.2) := by
  obtain ⟨b, off, e, hb, hc⟩ := h.2 (by omega)
  obtain ⟨f0, f1, f2⟩ := flat3_at ck k (by omega)
  exact ⟨b, off, e, hb, hc _ _ f0, by rw [Nat.add_assoc]; exact hc _ _ f1, by rw [Nat.add_assoc]; exact hc _ _ f2⟩
set_option maxRecDepth 100000 in
set_option maxHeartbeats 4000000 in
theorem soundT_any (A A' K : Option Addr) (n c c' m d : Nat) (lo hi : List Int) (ck : List Tri) (s : Sw) (x y : Nat) (w : World) (h1 : Ints w A n lo) (h2 : Ints w A' n hi) (h3 : Reads w 3 K m (flat3 ck)) (hm : ck.length = m) (hm2 : m ≤ 10) (hn : n ≤ 1000)
    (hl : 1 ≤ s.long ∧ s.long ≤ 1000) (hw : 0 ≤ s.wide ∧ s.wide ≤ 1000) (hx : (x : Int) + s.long ≤ n) (hy : y ≤ 1000) :
    Calls Try.prog 55 #[.agg #[.slice A n c, .slice A' n c', .slice K m d], s.val, .agg #[.int .i64 (x : Int), .int .i64 (y : Int)]] w fun e w' => e = .returned (.bool (soundT lo hi ck s.long s.wide x y)) ∧ Below w.heap.size w w' := by
  have E0 : Hid (Below w.heap.size w (((w.alloc (.cells #[.slice A n c, .slice A' n c', .slice K m d] 86)).alloc (.cells #[.int .i64 s.long, .int .i64 s.wide, .int .i64 s.kerf, .int .i64 s.across] 37)).alloc (.cells #[.int .i64 (x : Int), .int .i64 (y : Int)] 39))) := below_alloc' (below_alloc' (below_self _ _) _) _
  have R0 := Lib.hid (((Blk.new w 86 #[.slice A n c, .slice A' n c', .slice K m d] (g := w.heap.size) rfl).alloc (.cells #[.int .i64 s.long, .int .i64 s.wide, .int .i64 s.kerf, .int .i64 s.across] 37)).alloc (.cells #[.int .i64 (x : Int), .int .i64 (y : Int)] 39))
  have S0 := Lib.hid ((Blk.new (w.alloc (.cells #[.slice A n c, .slice A' n c', .slice K m d] 86)) 37 #[.int .i64 s.long, .int .i64 s.wide, .int .i64 s.kerf, .int .i64 s.across] (g := w.heap.size + 1) (by simp)).alloc (.cells #[.int .i64 (x : Int), .int .i64 (y : Int)] 39))
  have P0 := Lib.hid (Blk.new ((w.alloc (.cells #[.slice A n c, .slice A' n c', .slice K m d] 86)).alloc (.cells #[.int .i64 s.long, .int .i64 s.wide, .int .i64 s.kerf, .int .i64 s.across] 37)) 39 #[.int .i64 (x : Int), .int .i64 (y : Int)] (g := w.heap.size + 1 + 1) (by simp))
  have H1 := Lib.hid (fun W (hb : Below w.heap.size w W) => Reads.below h1 hb)
  have H2 := Lib.hid (fun W (hb : Below w.heap.size w W) => Reads.below h2 hb)
  have H3 := Lib.hid (fun W (hb : Below w.heap.size w W) => Reads.below h3 hb)
  have HM := Lib.hid hm
  obtain ⟨l1, l2⟩ := hl
  obtain ⟨w1, w2⟩ := hw
  have k1 : IntKind.i64.wrap ((x : Int) + s.long) = x + s.long := IntWalk.i64_in _ (by omega)
  have k2 : IntKind.i64.wrap ((y : Int) + s.wide) = y + s.wide := IntWalk.i64_in _ (by omega)
  clear h1 h2 h3 hm
  unfold Sw.val
  go_enter Try.func55, Try.ntmps55
  have r0 := R0.out.cell
  have s0 := S0.out.cell
  have p0 := P0.out.cell
  go_wp2_with fail
  go_loopw [7] (fun iv wr => ∃ i : Nat, (i : Int) ≤ s.long ∧ iv = .int .i64 ((x : Int) + i) ∧ (∀ j, j < i → colT lo hi s.wide y (x + j) = true) ∧ Below w.heap.size w wr ∧ Blk wr w.heap.size 86 #[.slice A n c, .slice A' n c', .slice K m d] ∧ Blk wr (w.heap.size + 1) 37 #[.int .i64 s.long, .int .i64 s.wide, .int .i64 s.kerf, .int .i64 s.across] ∧ Blk wr (w.heap.size + 1 + 1) 39 #[.int .i64 (x : Int), .int .i64 (y : Int)]) (fun iv _ => ((x : Int) + s.long - intOf iv).toNat)
  case atStart => exact ⟨0, by omega, by simp, fun j h => absurd h (by omega), E0.out, R0.out, S0.out, P0.out⟩
  case round =>
    obtain ⟨i, hi1, rfl, hno, hb, hr, hs, hp⟩ := hrel
    have D := Lib.hid hb
    have R1 := Lib.hid hr
    have S1 := Lib.hid hs
    have P1 := Lib.hid hp
    have HNO := Lib.hid hno
    clear hb hr hs hp hno r0 s0 p0 R0 S0 P0 E0
    have r1 := R1.out.cell
    have s1 := S1.out.cell
    have p1 := P1.out.cell
    by_cases hlt : (i : Int) < s.long
    · have hxi : x + i < n := by omega
      have a0 : (x : Int) + i < n := by omega
      have a1 : 0 ≤ (x : Int) + i := by omega
      obtain ⟨b, off, hA, hb1, q0⟩ := Ints.at_ (H1.out wr D.out) hxi
      obtain ⟨b', off', hA', hb2, q1⟩ := Ints.at_ (H2.out wr D.out) hxi
      subst hA hA'
      have HC : Hid (colT lo hi s.wide y (x + i) = (decide (lo.getD (x + i) 0 ≤ y) && decide (y + s.wide ≤ hi.getD (x + i) 0))) := rfl
      have HSF := Lib.hid (fun h => soundT_col (lo := lo) (hi := hi) (ck := ck) (long := s.long) (wide := s.wide) (x := x) (y := y) (i := i) hlt h)
      generalize lo.getD (x + i) 0 = vl at *
      generalize hi.getD (x + i) 0 = vh at *
      have hxn : ((x : Int) + i).toNat = x + i := by omega
      by_cases hg1 : vl ≤ (y : Int)
      · by_cases hg2 : (y : Int) + s.wide ≤ vh
        · have HT : Hid (colT lo hi s.wide y (x + i) = true) := by show _ = _; rw [HC.out]; simp [hg1, hg2]
          clear HSF
          go_upto_region 4 with (fail)
          go_quiet (fail)
          go_wp2_with fail
          go_roundw
          case rel => exact ⟨i + 1, by omega, by go_num, fun j hj => by
            by_cases e : j = i
            · subst e; exact HT.out
            · exact HNO.out j (by omega), below_drewN D.out _, blk_keep (below_drewN (Below.refl wr.heap.size wr) _) R1.out, blk_keep (below_drewN (Below.refl wr.heap.size wr) _) S1.out, blk_keep (below_drewN (Below.refl wr.heap.size wr) _) P1.out⟩
          case measure => simp [intOf]; omega
        · have HF := Lib.hid (HSF.out (by rw [HC.out]; simp [hg2]))
          go_upto_region 4 with (fail)
          go_quiet (fail)
          go_wp2_with fail
          go_ret
          exact ⟨ret_bool HF.out.symm, below_drewN D.out _⟩
      · have HF := Lib.hid (HSF.out (by rw [HC.out]; simp [hg1]))
        go_upto_region 4 with (fail)
        go_quiet (fail)
        go_wp2_with fail
        go_ret
        exact ⟨ret_bool HF.out.symm, below_drewN D.out _⟩
    · have hie : (i : Int) = s.long := by omega
      have HCO : Hid (∀ j : Nat, (j : Int) < s.long → colT lo hi s.wide y (x + j) = true) := fun j hj => HNO.out j (by omega)
      clear HNO H1 H2
      obtain ⟨wq, rfl⟩ : ∃ wq, wq = wr := ⟨_, rfl⟩
      go_wp2_with fail
      clear hie hi1 hlt
      go_loopw [8] (fun iv wr => ∃ k : Nat, k ≤ m ∧ iv = .int .i64 k ∧ (∀ j, j < k → crkT x y s.long s.wide (ck.getD j (0, 0, 0)) = false) ∧ Below w.heap.size w wr ∧ Blk wr w.heap.size 86 #[.slice A n c, .slice A' n c', .slice K m d] ∧ Blk wr (w.heap.size + 1) 37 #[.int .i64 s.long, .int .i64 s.wide, .int .i64 s.kerf, .int .i64 s.across] ∧ Blk wr (w.heap.size + 1 + 1) 39 #[.int .i64 (x : Int), .int .i64 (y : Int)]) (fun iv _ => m - (intOf iv).toNat)
      case atStart => exact ⟨0, by omega, rfl, fun j h => absurd h (by omega), D.out, R1.out, S1.out, P1.out⟩
      case round =>
        obtain ⟨k, hk1, rfl, hno, hb, hr, hs, hp⟩ := hrel
        have D2 := Lib.hid hb
        have R2 := Lib.hid hr
        have S2 := Lib.hid hs
        have P2 := Lib.hid hp
        have HNO := Lib.hid hno
        clear hb hr hs hp hno r1 s1 p1 R1 S1 P1 D
        have r2 := R2.out.cell
        have s2 := S2.out.cell
        have p2 := P2.out.cell
        by_cases hlt : k < m
        · have hlt2 : (k : Int) < (m : Int) := by omega
          obtain ⟨b, off, hA, hb1, q0, q1, q2⟩ := tri_at (H3.out wr D2.out) HM.out hlt
          subst hA
          have HC : Hid (crkT x y s.long s.wide (ck.getD k (0, 0, 0)) = (decide ((x : Int) ≤ (ck.getD k (0, 0, 0)).1) && decide ((ck.getD k (0, 0, 0)).1 < x + s.long) && decide ((y : Int) < (ck.getD k (0, 0, 0)).2.2) && decide ((ck.getD k (0, 0, 0)).2.1 < y + s.wide))) := rfl
          have HSF := Lib.hid (fun h => soundT_crk (lo := lo) (hi := hi) (ck := ck) (long := s.long) (wide := s.wide) (x := x) (y := y) (i := k) (by rw [HM.out]; exact hlt) h)
          generalize (ck.getD k (0, 0, 0)).1 = v1 at *
          generalize (ck.getD k (0, 0, 0)).2.1 = v2 at *
          generalize (ck.getD k (0, 0, 0)).2.2 = v3 at *
          go_upto_region 10 with (fail)
          have X3 := Lib.hid (Blk.new wr 150 #[.int .i64 v1, .int .i64 v2, .int .i64 v3] (g := wr.heap.size) rfl)
          have D3 := Lib.hid (below_alloc' D2.out (.cells #[.int .i64 v1, .int .i64 v2, .int .i64 v3] 150))
          have R3 := Lib.hid (R2.out.alloc (.cells #[.int .i64 v1, .int .i64 v2, .int .i64 v3] 150))
          have S3 := Lib.hid (S2.out.alloc (.cells #[.int .i64 v1, .int .i64 v2, .int .i64 v3] 150))
          have P3 := Lib.hid (P2.out.alloc (.cells #[.int .i64 v1, .int .i64 v2, .int .i64 v3] 150))
          clear r2 s2 p2 R2 S2 P2 D2 q0 q1 q2
          have r3 := R3.out.cell
          have s3 := S3.out.cell
          have p3 := P3.out.cell
          have x3 := X3.out.cell
          generalize wr.alloc (.cells #[.int .i64 v1, .int .i64 v2, .int .i64 v3] 150) = wz at *
          generalize wr.heap.size = gz at *
          by_cases c1 : (x : Int) ≤ v1
          · by_cases c2 : v1 < x + s.long
            · by_cases c3 : (y : Int) < v3
              · by_cases c4 : v2 < y + s.wide
                · have HF := Lib.hid (HSF.out (by rw [HC.out]; simp [c1, c2, c3, c4]))
                  go_wp2_with fail
                  go_ret
                  exact ⟨ret_bool HF.out.symm, D3.out⟩
                · skip
                  have HF : Hid (crkT x y s.long s.wide (ck.getD k (0, 0, 0)) = false) := by show _ = _; rw [HC.out]; simp [c4]
                  clear HSF HC
                  go_wp2_with fail
                  go_roundw
                  case rel => exact ⟨k + 1, by omega, by go_num, fun j hj => by
                    by_cases e : j = k
                    · subst e; exact HF.out
                    · exact HNO.out j (by omega), D3.out, R3.out, S3.out, P3.out⟩
                  case measure => simp [intOf]; omega
              · skip
                have HF : Hid (crkT x y s.long s.wide (ck.getD k (0, 0, 0)) = false) := by show _ = _; rw [HC.out]; simp [c3]
                clear HSF HC
                go_wp2_with fail
                go_roundw
                case rel => exact ⟨k + 1, by omega, by go_num, fun j hj => by
                  by_cases e : j = k
                  · subst e; exact HF.out
                  · exact HNO.out j (by omega), D3.out, R3.out, S3.out, P3.out⟩
                case measure => simp [intOf]; omega
            · skip
              have HF : Hid (crkT x y s.long s.wide (ck.getD k (0, 0, 0)) = false) := by show _ = _; rw [HC.out]; simp [c2]
              clear HSF HC
              go_wp2_with fail
              go_roundw
              case rel => exact ⟨k + 1, by omega, by go_num, fun j hj => by
                by_cases e : j = k
                · subst e; exact HF.out
                · exact HNO.out j (by omega), D3.out, R3.out, S3.out, P3.out⟩
              case measure => simp [intOf]; omega
          · skip
            have HF : Hid (crkT x y s.long s.wide (ck.getD k (0, 0, 0)) = false) := by show _ = _; rw [HC.out]; simp [c1]
            clear HSF HC
            go_wp2_with fail
            go_roundw
            case rel => exact ⟨k + 1, by omega, by go_num, fun j hj => by
              by_cases e : j = k
              · subst e; exact HF.out
              · exact HNO.out j (by omega), D3.out, R3.out, S3.out, P3.out⟩
            case measure => simp [intOf]; omega
        · obtain rfl : k = m := by omega
          have HT := Lib.hid (soundT_all (lo := lo) (hi := hi) (ck := ck) (long := s.long) (wide := s.wide) (x := x) (y := y) HCO.out (fun j hj => HNO.out j (by rw [HM.out] at hj; exact hj)))
          go_wp2_with fail
          go_ret
          exact ⟨ret_bool HT.out.symm, D2.out⟩
end Go.Proofs.Ytiflhimmieflpaa

/- Walks: apart of the tusks' laws. -/
namespace Go.Proofs.Ytiflhimmieflpaa
open Go.RowKit Go.Maps

def absI (a b : Int) : Int := if a - b < b - a then b - a else a - b
theorem absI_in {a b : Int} (h1 : 0 ≤ a) (h2 : a ≤ 1000) (h3 : 0 ≤ b) (h4 : b ≤ 1000) : 0 ≤ absI a b ∧ absI a b ≤ 1000 := by unfold absI; split <;> omega
set_option maxRecDepth 100000 in
set_option maxHeartbeats 4000000 in
theorem apart_ok (A : Option Addr) (n cp : Nat) (ps : List (Int × Int)) (s : Sw) (w : World) (hp : Pairs w A n ps) (hn : n ≤ 10000) (hl : 0 ≤ s.long ∧ s.long ≤ 1000) (hw : 0 ≤ s.wide ∧ s.wide ≤ 1000) (hk : 0 ≤ s.kerf ∧ s.kerf ≤ 1000) (ha : 0 ≤ s.across ∧ s.across ≤ 1000)
    (h0 : ∀ k, k < n → 0 ≤ (ps.getD k (0, 0)).1 ∧ (ps.getD k (0, 0)).1 ≤ 1000 ∧ 0 ≤ (ps.getD k (0, 0)).2 ∧ (ps.getD k (0, 0)).2 ≤ 1000)
    (h : ∀ i k, k < i → i < n → (absI (ps.getD i (0, 0)).1 (ps.getD k (0, 0)).1 = 0 → s.wide + s.kerf ≤ absI (ps.getD i (0, 0)).2 (ps.getD k (0, 0)).2) ∧ (0 < absI (ps.getD i (0, 0)).1 (ps.getD k (0, 0)).1 → s.long + s.across ≤ absI (ps.getD i (0, 0)).1 (ps.getD k (0, 0)).1)) :
    Calls Try.prog 54 #[.slice A n cp, s.val] w fun e w' => e = .returned (.bool true) ∧ Below w.heap.size w w' := by
  have E0 : Hid (Below w.heap.size w (w.alloc (.cells #[.int .i64 s.long, .int .i64 s.wide, .int .i64 s.kerf, .int .i64 s.across] 37))) := below_self _ _
  have S0 := Lib.hid (Blk.new w 37 #[.int .i64 s.long, .int .i64 s.wide, .int .i64 s.kerf, .int .i64 s.across] (g := w.heap.size) rfl)
  have HP := Lib.hid (fun W (hb : Below w.heap.size w W) => hp.below hb)
  have H := Lib.hid h
  have H0 := Lib.hid h0
  have k1 : IntKind.i64.wrap (s.wide + s.kerf) = s.wide + s.kerf := IntWalk.i64_in _ (by omega)
  have k2 : IntKind.i64.wrap (s.long + s.across) = s.long + s.across := IntWalk.i64_in _ (by omega)
  clear hp h h0 hl hw hk ha
  unfold Sw.val
  go_enter Try.func54, Try.ntmps54
  have s0 := S0.out.cell
  go_wp2_with fail
  go_loopw [5] (fun iv wr => ∃ i : Nat, i ≤ n ∧ iv = .int .i64 i ∧ Below w.heap.size w wr ∧ Blk wr w.heap.size 37 #[.int .i64 s.long, .int .i64 s.wide, .int .i64 s.kerf, .int .i64 s.across]) (fun iv _ => n - (intOf iv).toNat)
  case atStart => exact ⟨0, Nat.zero_le _, rfl, E0.out, S0.out⟩
  case round =>
    obtain ⟨i, hi, rfl, hb, hs⟩ := hrel
    have D := Lib.hid hb
    have S1 := Lib.hid hs
    clear hb hs s0 S0 E0
    by_cases hin : i < n
    · obtain ⟨wq, rfl⟩ : ∃ wq, wq = wr := ⟨_, rfl⟩
      have hin2 : (i : Int) < (n : Int) := by omega
      go_wp2_with fail
      go_loopw [6] (fun iv wr => ∃ k : Nat, k ≤ i ∧ iv = .int .i64 k ∧ Below w.heap.size w wr ∧ Blk wr w.heap.size 37 #[.int .i64 s.long, .int .i64 s.wide, .int .i64 s.kerf, .int .i64 s.across]) (fun iv _ => i - (intOf iv).toNat)
      case atStart => exact ⟨0, Nat.zero_le _, rfl, D.out, S1.out⟩
      case round =>
        obtain ⟨k, hk, rfl, hb, hs⟩ := hrel
        have D2 := Lib.hid hb
        have S2 := Lib.hid hs
        clear hb hs D S1
        by_cases hki : k < i
        · have hki2 : (k : Int) < (i : Int) := by omega
          have hkn2 : (k : Int) < (n : Int) := by omega
          have DD : Hid (Below w.heap.size w wr.drew) := D2.out.drew
          have SD : Hid (Blk wr.drew w.heap.size 37 #[.int .i64 s.long, .int .i64 s.wide, .int .i64 s.kerf, .int .i64 s.across]) := blk_keep (Below.refl wr.heap.size wr).drew S2.out
          obtain ⟨b, off, hA, hb, q0, q1⟩ := Pairs.at_ (HP.out wr.drew DD.out) hin
          subst hA
          obtain ⟨b', off', hA, -, q2, q3⟩ := Pairs.at_ (HP.out wr.drew DD.out) (show k < n by omega)
          simp only [Option.some.injEq, Addr.mk.injEq, and_true] at hA
          obtain ⟨rfl, rfl⟩ := hA
          obtain ⟨f1, f2, f3, f4⟩ := H0.out i hin
          obtain ⟨g1, g2, g3, g4⟩ := H0.out k (by omega)
          have HH := Lib.hid (H.out i k hki hin)
          generalize (ps.getD i (0, 0)).1 = xi at *
          generalize (ps.getD i (0, 0)).2 = yi at *
          generalize (ps.getD k (0, 0)).1 = xk at *
          generalize (ps.getD k (0, 0)).2 = yk at *
          have hx := absI_in f1 f2 g1 g2
          have hy := absI_in f3 f4 g3 g4
          obtain ⟨a1, r1⟩ : ∃ t, t = xi - xk := ⟨_, rfl⟩
          obtain ⟨a2, r2⟩ : ∃ t, t = xk - xi := ⟨_, rfl⟩
          obtain ⟨a3, r3⟩ : ∃ t, t = yi - yk := ⟨_, rfl⟩
          obtain ⟨a4, r4⟩ : ∃ t, t = yk - yi := ⟨_, rfl⟩
          have w1 : IntKind.i64.wrap (xi - xk) = a1 := by rw [r1]; exact IntWalk.i64_in _ (by omega)
          have w2 : IntKind.i64.wrap (xk - xi) = a2 := by rw [r2]; exact IntWalk.i64_in _ (by omega)
          have w3 : IntKind.i64.wrap (yi - yk) = a3 := by rw [r3]; exact IntWalk.i64_in _ (by omega)
          have w4 : IntKind.i64.wrap (yk - yi) = a4 := by rw [r4]; exact IntWalk.i64_in _ (by omega)
          have m1 : (if a1 < a2 then a2 else a1) = absI xi xk := by rw [r1, r2]; rfl
          have m2 : (if a3 < a4 then a4 else a3) = absI yi yk := by rw [r3, r4]; rfl
          generalize absI xi xk = dx at *
          generalize absI yi yk = dy at *
          have K1 : Hid ((fun W : World => W.cell? ⟨b, off + i * 2, none⟩ = some (.int .i64 xi) ∧ W.cell? ⟨b, off + i * 2 + 1, none⟩ = some (.int .i64 yi) ∧ W.cell? ⟨b, off + k * 2, none⟩ = some (.int .i64 xk) ∧ W.cell? ⟨b, off + k * 2 + 1, none⟩ = some (.int .i64 yk)) wr.drew) := ⟨q0, q1, q2, q3⟩
          clear q0 q1 q2 q3 r1 r2 r3 r4 f1 f2 f3 f4 g1 g2 g3 g4
          go_upto_region 7 with (fail)
          go_region_held3 (fun W : World => W.cell? ⟨b, off + i * 2, none⟩ = some (.int .i64 xi) ∧ W.cell? ⟨b, off + i * 2 + 1, none⟩ = some (.int .i64 yi) ∧ W.cell? ⟨b, off + k * 2, none⟩ = some (.int .i64 xk) ∧ W.cell? ⟨b, off + k * 2 + 1, none⟩ = some (.int .i64 yk)) (first | with_reducible exact K1.out) (first | fail)
          all_goals (
            have s2 := SD.out.cell
            clear S2 D2
            generalize wr.drew = wz at *
            by_cases hd : dx = 0
            · subst hd
              have hz := HH.out.1 rfl
              have hz2 : ¬ dy < s.wide + s.kerf := by omega
              go_wp2_with fail
              go_roundw
              case rel => exact ⟨k + 1, by omega, by go_num, DD.out, SD.out⟩
              case measure => simp [intOf]; omega
            · have hd2 : 0 < dx := by omega
              have hd3 : (dx == 0) = false := by simpa using hd
              have hz := HH.out.2 hd2
              have hz2 : ¬ dx < s.long + s.across := by omega
              go_wp2_with fail
              go_roundw
              case rel => exact ⟨k + 1, by omega, by go_num, DD.out, SD.out⟩
              case measure => simp [intOf]; omega)
        · obtain rfl : k = i := by omega
          go_wp2_with fail
          go_roundw
          case rel => exact ⟨k + 1, by omega, by go_num, D2.out, S2.out⟩
          case measure => simp [intOf]; omega
    · obtain rfl : i = n := by omega
      go_wp2_with fail
      go_ret
      exact ⟨rfl, D.out⟩
end Go.Proofs.Ytiflhimmieflpaa
