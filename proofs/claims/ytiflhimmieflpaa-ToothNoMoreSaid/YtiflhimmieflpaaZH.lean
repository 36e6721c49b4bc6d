/- Merged: W107, W109 to W111, W115, W116, what W117 says ahead of its law, W118, W119. -/
import Derived.Test.YtiflhimmieflpaaW75
import Derived.BigRegion
import Derived.Test.YtiflhimmieflpaaW84
import Derived.Test.YtiflhimmieflpaaW56
import Derived.Test.YtiflhimmieflpaaW64
import Derived.Test.YtiflhimmieflpaaW87
import Derived.Test.YtiflhimmieflpaaZB
import Derived.Test.YtiflhimmieflpaaZA
import Derived.Test.YtiflhimmieflpaaUntil

/- Walks: whether a stick is sound in what a blade truly is. -/
namespace Go.Proofs.Ytiflhimmieflpaa
open Go.RowKit Go.Maps

abbrev Tri := Int × Int × Int
def colT (lo hi : List Int) (wide y : Int) (i : Nat) : Bool := decide (lo.getD i 0 ≤ y) && decide (y + wide ≤ hi.getD i 0)
def crkT (x : Nat) (y long wide : Int) (k : Tri) : Bool := decide ((x : Int) ≤ k.1) && decide (k.1 < x + long) && decide (y < k.2.2) && decide (k.2.1 < y + wide)
def soundT (lo hi : List Int) (ck : List Tri) (long wide : Int) (x y : Nat) : Bool := ((List.range long.toNat).all fun i => colT lo hi wide y (x + i)) && ck.all fun k => !crkT x y long wide k
theorem soundT_col {lo hi : List Int} {ck : List Tri} {long wide : Int} {x y i : Nat} (hi2 : (i : Int) < long) (h : colT lo hi wide y (x + i) = false) : soundT lo hi ck long wide x y = false := by
  unfold soundT
  rw [Bool.and_eq_false_iff]
  refine .inl (List.all_eq_false.2 ⟨i, List.mem_range.2 (by omega), by simp [h]⟩)
theorem soundT_crk {lo hi : List Int} {ck : List Tri} {long wide : Int} {x y i : Nat} (hi2 : i < ck.length) (h : crkT x y long wide (ck.getD i (0, 0, 0)) = true) : soundT lo hi ck long wide x y = false := by
  unfold soundT
  rw [Bool.and_eq_false_iff]
  refine .inr (List.all_eq_false.2 ⟨ck[i], List.getElem_mem hi2, ?_⟩)
  have e : ck.getD i (0, 0, 0) = ck[i] := by simp [List.getD, hi2]
  rw [← e, h]; decide
theorem soundT_all {lo hi : List Int} {ck : List Tri} {long wide : Int} {x y : Nat} (h1 : ∀ i : Nat, (i : Int) < long → colT lo hi wide y (x + i) = true) (h2 : ∀ i, i < ck.length → crkT x y long wide (ck.getD i (0, 0, 0)) = false) : soundT lo hi ck long wide x y = true := by
  unfold soundT
  rw [Bool.and_eq_true, List.all_eq_true, List.all_eq_true]
  refine ⟨fun i hm => h1 i (by have := List.mem_range.1 hm; omega), fun k hk => ?_⟩
  obtain ⟨i, hi, rfl⟩ := List.getElem_of_mem hk
  have e : ck.getD i (0, 0, 0) = ck[i] := by simp [List.getD, hi]
  rw [← e, h2 i hi]; rfl
theorem flat3_length (xs : List Tri) : (flat3 xs).length = xs.length * 3 := by
  induction xs with
  | nil => rfl
  | cons s xs ih => simp only [flat3, List.flatMap_cons, List.length_append, List.length_cons, List.length_nil] at *; rw [ih]; omega
theorem flat3_at (xs : List Tri) : ∀ k, k < xs.length → (flat3 xs)[k * 3]? = some (.int .i64 (xs.getD k (0, 0, 0)).1) ∧ (flat3 xs)[k * 3 + 1]? = some (.int .i64 (xs.getD k (0, 0, 0)).2.1) ∧ (flat3 xs)[k * 3 + 2]? = some (.int .i64 (xs.getD k (0, 0, 0)).2.2) := by
  induction xs with
  | nil => exact fun k h => absurd h (by simp)
  | cons s xs ih =>
    intro k hk
    have e : flat3 (s :: xs) = [.int .i64 s.1, .int .i64 s.2.1, .int .i64 s.2.2] ++ flat3 xs := rfl
    cases k with
    | zero => rw [e]; exact ⟨rfl, rfl, rfl⟩
    | succ k =>
      have h := ih k (by simpa using hk)
      rw [e]
      rw [show (k + 1) * 3 = k * 3 + 3 by omega]
      simpa using h
theorem tri_at {W : World} {K : Option Addr} {m k : Nat} {ck : List Tri} (h : Reads W 3 K m (flat3 ck)) (hm : ck.length = m) (hk : k < m) : ∃ b off, K = some ⟨b, off, none⟩ ∧ b < W.heap.size ∧ W.cell? ⟨b, off + k * 3, none⟩ = some (.int .i64 (ck.getD k (0, 0, 0)).1) ∧ W.cell? ⟨b, off + k * 3 + 1, none⟩ = some (.int .i64 (ck.getD k (0, 0, 0)).2.1) ∧ W.cell? ⟨b, off + k * 3 + 2, none⟩ = some (.int .i64 (ck.getD k (0, 0, 0)).2.2) := by
  obtain ⟨b, off, e, hb, hc⟩ := h.2 (by omega)
  obtain ⟨f0, f1, f2⟩ := flat3_at ck k (by omega)
  exact ⟨b, off, e, hb, hc _ _ f0, by rw [Nat.add_assoc]; exact hc _ _ f1, by rw [Nat.add_assoc]; exact hc _ _ f2⟩
set_option maxRecDepth 100000 in
set_option maxHeartbeats 4000000 in
theorem soundT_any (A A' K : Option Addr) (n c c' m d : Nat) (lo hi : List Int) (ck : List Tri) (s : Sw) (x y : Nat) (w : World) (h1 : Ints w A n lo) (h2 : Ints w A' n hi) (h3 : Reads w 3 K m (flat3 ck)) (hm : ck.length = m) (hm2 : m ≤ 10) (hn : n ≤ 1000)
    (hl : 1 ≤ s.long ∧ s.long ≤ 1000) (hw : 0 ≤ s.wide ∧ s.wide ≤ 1000) (hx : (x : Int) + s.long ≤ n) (hy : y ≤ 1000) :
    Calls Try.prog 55 #[.agg #[.slice A n c, .slice A' n c', .slice K m d], s.val, .agg #[.int .i64 (x : Int), .int .i64 (y : Int)]] w fun e w' => e = .returned (.bool (soundT lo hi ck s.long s.wide x y)) ∧ Below w.heap.size w w' := by
  have E0 : Hid (Below w.heap.size w (((w.alloc (.cells #[.slice A n c, .slice A' n c', .slice K m d] 86)).alloc (.cells #[.int .i64 s.long, .int .i64 s.wide, .int .i64 s.kerf, .int .i64 s.across] 37)).alloc (.cells #[.int .i64 (x : Int), .int .i64 (y : Int)] 39))) := below_alloc' (below_alloc' (below_self _ _) _) _
  have R0 := Lib.hid (((Blk.new w 86 #[.slice A n c, .slice A' n c', .slice K m d] (g := w.heap.size) rfl).alloc (.cells #[.int .i64 s.long, .int .i64 s.wide, .int .i64 s.kerf, .int .i64 s.across] 37)).alloc (.cells #[.int .i64 (x : Int), .int .i64 (y : Int)] 39))
  have S0 := Lib.hid ((Blk.new (w.alloc (.cells #[.slice A n c, .slice A' n c', .slice K m d] 86)) 37 #[.int .i64 s.long, .int .i64 s.wide, .int .i64 s.kerf, .int .i64 s.across] (g := w.heap.size + 1) (by simp)).alloc (.cells #[.int .i64 (x : Int), .int .i64 (y : Int)] 39))
  have P0 := Lib.hid (Blk.new ((w.alloc (.cells #[.slice A n c, .slice A' n c', .slice K m d] 86)).alloc (.cells #[.int .i64 s.long, .int .i64 s.wide, .int .i64 s.kerf, .int .i64 s.across] 37)) 39 #[.int .i64 (x : Int), .int .i64 (y : Int)] (g := w.heap.size + 1 + 1) (by simp))
  have H1 := Lib.hid (fun W (hb : Below w.heap.size w W) => Reads.below h1 hb)
  have H2 := Lib.hid (fun W (hb : Below w.heap.size w W) => Reads.below h2 hb)
  have H3 := Lib.hid (fun W (hb : Below w.heap.size w W) => Reads.below h3 hb)
  have HM := Lib.hid hm
  obtain ⟨l1, l2⟩ := hl
  obtain ⟨w1, w2⟩ := hw
  have k1 : IntKind.i64.wrap ((x : Int) + s.long) = x + s.long := IntWalk.i64_in _ (by omega)
  have k2 : IntKind.i64.wrap ((y : Int) + s.wide) = y + s.wide := IntWalk.i64_in _ (by omega)
  clear h1 h2 h3 hm
  unfold Sw.val
  go_enter Try.func55, Try.ntmps55
  have r0 := R0.out.cell
  have s0 := S0.out.cell
  have p0 := P0.out.cell
  go_wp2_with fail
  go_loopw [7] (fun iv wr => ∃ i : Nat, (i : Int) ≤ s.long ∧ iv = .int .i64 ((x : Int) + i) ∧ (∀ j, j < i → colT lo hi s.wide y (x + j) = true) ∧ Below w.heap.size w wr ∧ Blk wr w.heap.size 86 #[.slice A n c, .slice A' n c', .slice K m d] ∧ Blk wr (w.heap.size + 1) 37 #[.int .i64 s.long, .int .i64 s.wide, .int .i64 s.kerf, .int .i64 s.across] ∧ Blk wr (w.heap.size + 1 + 1) 39 #[.int .i64 (x : Int), .int .i64 (y : Int)]) (fun iv _ => ((x : Int) + s.long - intOf iv).toNat)
  case atStart => exact ⟨0, by omega, by simp, fun j h => absurd h (by omega), E0.out, R0.out, S0.out, P0.out⟩
  case round =>
    obtain ⟨i, hi1, rfl, hno, hb, hr, hs, hp⟩ := hrel
    have D := Lib.hid hb
    have R1 := Lib.hid hr
    have S1 := Lib.hid hs
    have P1 := Lib.hid hp
    have HNO := Lib.hid hno
    clear hb hr hs hp hno r0 s0 p0 R0 S0 P0 E0
    have r1 := R1.out.cell
    have s1 := S1.out.cell
    have p1 := P1.out.cell
    by_cases hlt : (i : Int) < s.long
    · have hxi : x + i < n := by omega
      have a0 : (x : Int) + i < n := by omega
      have a1 : 0 ≤ (x : Int) + i := by omega
      obtain ⟨b, off, hA, hb1, q0⟩ := Ints.at_ (H1.out wr D.out) hxi
      obtain ⟨b', off', hA', hb2, q1⟩ := Ints.at_ (H2.out wr D.out) hxi
      subst hA hA'
      have HC : Hid (colT lo hi s.wide y (x + i) = (decide (lo.getD (x + i) 0 ≤ y) && decide (y + s.wide ≤ hi.getD (x + i) 0))) := rfl
      have HSF := Lib.hid (fun h => soundT_col (lo := lo) (hi := hi) (ck := ck) (long := s.long) (wide := s.wide) (x := x) (y := y) (i := i) hlt h)
      generalize lo.getD (x + i) 0 = vl at *
      generalize hi.getD (x + i) 0 = vh at *
      have hxn : ((x : Int) + i).toNat = x + i := by omega
      by_cases hg1 : vl ≤ (y : Int)
      · by_cases hg2 : (y : Int) + s.wide ≤ vh
        · have HT : Hid (colT lo hi s.wide y (x + i) = true) := by show _ = _; rw [HC.out]; simp [hg1, hg2]
          clear HSF
          go_upto_region 4 with (fail)
          go_quiet (fail)
          go_wp2_with fail
          go_roundw
          case rel => exact ⟨i + 1, by omega, by go_num, fun j hj => by
            by_cases e : j = i
            · subst e; exact HT.out
            · exact HNO.out j (by omega), below_drewN D.out _, blk_keep (below_drewN (Below.refl wr.heap.size wr) _) R1.out, blk_keep (below_drewN (Below.refl wr.heap.size wr) _) S1.out, blk_keep (below_drewN (Below.refl wr.heap.size wr) _) P1.out⟩
          case measure => simp [intOf]; omega
        · have HF := Lib.hid (HSF.out (by rw [HC.out]; simp [hg2]))
          go_upto_region 4 with (fail)
          go_quiet (fail)
          go_wp2_with fail
          go_ret
          exact ⟨ret_bool HF.out.symm, below_drewN D.out _⟩
      · have HF := Lib.hid (HSF.out (by rw [HC.out]; simp [hg1]))
        go_upto_region 4 with (fail)
        go_quiet (fail)
        go_wp2_with fail
        go_ret
        exact ⟨ret_bool HF.out.symm, below_drewN D.out _⟩
    · have hie : (i : Int) = s.long := by omega
      have HCO : Hid (∀ j : Nat, (j : Int) < s.long → colT lo hi s.wide y (x + j) = true) := fun j hj => HNO.out j (by omega)
      clear HNO H1 H2
      obtain ⟨wq, rfl⟩ : ∃ wq, wq = wr := ⟨_, rfl⟩
      go_wp2_with fail
      clear hie hi1 hlt
      go_loopw [8] (fun iv wr => ∃ k : Nat, k ≤ m ∧ iv = .int .i64 k ∧ (∀ j, j < k → crkT x y s.long s.wide (ck.getD j (0, 0, 0)) = false) ∧ Below w.heap.size w wr ∧ Blk wr w.heap.size 86 #[.slice A n c, .slice A' n c', .slice K m d] ∧ Blk wr (w.heap.size + 1) 37 #[.int .i64 s.long, .int .i64 s.wide, .int .i64 s.kerf, .int .i64 s.across] ∧ Blk wr (w.heap.size + 1 + 1) 39 #[.int .i64 (x : Int), .int .i64 (y : Int)]) (fun iv _ => m - (intOf iv).toNat)
      case atStart => exact ⟨0, by omega, rfl, fun j h => absurd h (by omega), D.out, R1.out, S1.out, P1.out⟩
      case round =>
        obtain ⟨k, hk1, rfl, hno, hb, hr, hs, hp⟩ := hrel
        have D2 := Lib.hid hb
        have R2 := Lib.hid hr
        have S2 := Lib.hid hs
        have P2 := Lib.hid hp
        have HNO := Lib.hid hno
        clear hb hr hs hp hno r1 s1 p1 R1 S1 P1 D
        have r2 := R2.out.cell
        have s2 := S2.out.cell
        have p2 := P2.out.cell
        by_cases hlt : k < m
        · have hlt2 : (k : Int) < (m : Int) := by omega
          obtain ⟨b, off, hA, hb1, q0, q1, q2⟩ := tri_at (H3.out wr D2.out) HM.out hlt
          subst hA
          have HC : Hid (crkT x y s.long s.wide (ck.getD k (0, 0, 0)) = (decide ((x : Int) ≤ (ck.getD k (0, 0, 0)).1) && decide ((ck.getD k (0, 0, 0)).1 < x + s.long) && decide ((y : Int) < (ck.getD k (0, 0, 0)).2.2) && decide ((ck.getD k (0, 0, 0)).2.1 < y + s.wide))) := rfl
          have HSF := Lib.hid (fun h => soundT_crk (lo := lo) (hi := hi) (ck := ck) (long := s.long) (wide := s.wide) (x := x) (y := y) (i := k) (by rw [HM.out]; exact hlt) h)
          generalize (ck.getD k (0, 0, 0)).1 = v1 at *
          generalize (ck.getD k (0, 0, 0)).2.1 = v2 at *
          generalize (ck.getD k (0, 0, 0)).2.2 = v3 at *
          go_upto_region 10 with (fail)
          have X3 := Lib.hid (Blk.new wr 150 #[.int .i64 v1, .int .i64 v2, .int .i64 v3] (g := wr.heap.size) rfl)
          have D3 := Lib.hid (below_alloc' D2.out (.cells #[.int .i64 v1, .int .i64 v2, .int .i64 v3] 150))
          have R3 := Lib.hid (R2.out.alloc (.cells #[.int .i64 v1, .int .i64 v2, .int .i64 v3] 150))
          have S3 := Lib.hid (S2.out.alloc (.cells #[.int .i64 v1, .int .i64 v2, .int .i64 v3] 150))
          have P3 := Lib.hid (P2.out.alloc (.cells #[.int .i64 v1, .int .i64 v2, .int .i64 v3] 150))
          clear r2 s2 p2 R2 S2 P2 D2 q0 q1 q2
          have r3 := R3.out.cell
          have s3 := S3.out.cell
          have p3 := P3.out.cell
          have x3 := X3.out.cell
          generalize wr.alloc (.cells #[.int .i64 v1, .int .i64 v2, .int .i64 v3] 150) = wz at *
          generalize wr.heap.size = gz at *
          by_cases c1 : (x : Int) ≤ v1
          · by_cases c2 : v1 < x + s.long
            · by_cases c3 : (y : Int) < v3
              · by_cases c4 : v2 < y + s.wide
                · have HF := Lib.hid (HSF.out (by rw [HC.out]; simp [c1, c2, c3, c4]))
                  go_wp2_with fail
                  go_ret
                  exact ⟨ret_bool HF.out.symm, D3.out⟩
                · skip
                  have HF : Hid (crkT x y s.long s.wide (ck.getD k (0, 0, 0)) = false) := by show _ = _; rw [HC.out]; simp [c4]
                  clear HSF HC
                  go_wp2_with fail
                  go_roundw
                  case rel => exact ⟨k + 1, by omega, by go_num, fun j hj => by
                    by_cases e : j = k
                    · subst e; exact HF.out
                    · exact HNO.out j (by omega), D3.out, R3.out, S3.out, P3.out⟩
                  case measure => simp [intOf]; omega
              · skip
                have HF : Hid (crkT x y s.long s.wide (ck.getD k (0, 0, 0)) = false) := by show _ = _; rw [HC.out]; simp [c3]
                clear HSF HC
                go_wp2_with fail
                go_roundw
                case rel => exact ⟨k + 1, by omega, by go_num, fun j hj => by
                  by_cases e : j = k
                  · subst e; exact HF.out
                  · exact HNO.out j (by omega), D3.out, R3.out, S3.out, P3.out⟩
                case measure => simp [intOf]; omega
            · skip
              have HF : Hid (crkT x y s.long s.wide (ck.getD k (0, 0, 0)) = false) := by show _ = _; rw [HC.out]; simp [c2]
              clear HSF HC
              go_wp2_with fail
              go_roundw
              case rel => exact ⟨k + 1, by omega, by go_num, fun j hj => by
                by_cases e : j = k
                · subst e; exact HF.out
                · exact HNO.out j (by omega), D3.out, R3.out, S3.out, P3.out⟩
              case measure => simp [intOf]; omega
          · skip
            have HF : Hid (crkT x y s.long s.wide (ck.getD k (0, 0, 0)) = false) := by show _ = _; rw [HC.out]; simp [c1]
            clear HSF HC
            go_wp2_with fail
            go_roundw
            case rel => exact ⟨k + 1, by omega, by go_num, fun j hj => by
              by_cases e : j = k
              · subst e; exact HF.out
              · exact HNO.out j (by omega), D3.out, R3.out, S3.out, P3.out⟩
            case measure => simp [intOf]; omega
        · obtain rfl : k = m := by omega
          have HT := Lib.hid (soundT_all (lo := lo) (hi := hi) (ck := ck) (long := s.long) (wide := s.wide) (x := x) (y := y) HCO.out (fun j hj => HNO.out j (by rw [HM.out] at hj; exact hj)))
          go_wp2_with fail
          go_ret
          exact ⟨ret_bool HT.out.symm, D2.out⟩
end Go.Proofs.Ytiflhimmieflpaa

/- Pure facts: the places of Most are in order, apart, on the blade, and each of them is surely sound. -/
namespace Go.Proofs.Ytiflhimmieflpaa
open Go.RowKit Go.Maps

def Behind (st ac : Int) (p q : Int × Int) : Prop := (p.1 = q.1 ∧ p.2 + st ≤ q.2) ∨ p.1 + ac ≤ q.1
theorem layoutGo_pw (S : Sawing) (n : Nat) (st : Int) (hK : ∀ x, (LL S (n + 1 - S.long.toNat) x).Pairwise (fun a b => a + st ≤ b)) : ∀ f x, (layoutGo S n f x).Pairwise (Behind st (stepN S)) ∧ ∀ p ∈ layoutGo S n f x, ∃ z : Nat, x ≤ z ∧ z < n ∧ p.1 = z ∧ p.2 ∈ LL S (n + 1 - S.long.toNat) z
  | 0, x => ⟨List.Pairwise.nil, fun p hp => absurd hp (by simp [layoutGo])⟩
  | f + 1, x => by
    unfold layoutGo
    split
    · rename_i hx
      split
      · obtain ⟨h1, h2⟩ := layoutGo_pw S n st hK f (x + 1)
        exact ⟨h1, fun p hp => by obtain ⟨z, a, b⟩ := h2 p hp; exact ⟨z, by omega, b⟩⟩
      · obtain ⟨h1, h2⟩ := layoutGo_pw S n st hK f (x + stepN S)
        have hc : ∀ p ∈ colPlaces S n x, p.1 = x ∧ p.2 ∈ LL S (n + 1 - S.long.toNat) x := fun p hp => by
          obtain ⟨y, hy, rfl⟩ := List.mem_map.1 hp
          exact ⟨rfl, hy⟩
        refine ⟨List.pairwise_append.2 ⟨?_, h1, fun p hp q hq => ?_⟩, fun p hp => ?_⟩
        · unfold colPlaces
          rw [List.pairwise_map]
          exact (hK x).imp fun h => .inl ⟨rfl, h⟩
        · obtain ⟨e, -⟩ := hc p hp
          obtain ⟨z, hz, -, e2, -⟩ := h2 q hq
          exact .inr (by rw [e, e2]; omega)
        · rcases List.mem_append.1 hp with hp | hp
          · obtain ⟨e, hm⟩ := hc p hp
            exact ⟨x, by omega, hx, e, hm⟩
          · obtain ⟨z, a, b⟩ := h2 p hp
            exact ⟨z, by omega, b⟩
    · exact ⟨List.Pairwise.nil, fun p hp => absurd hp (by simp)⟩
section
variable {B : Bl} {s : Sw}
theorem LL_places (hok : B.Ok) (hs : s.Ok) (hc : B.cerr = 0) (hb : B.bot.length = B.n) (ht : B.top.length = B.n') (x : Nat) :
    (LL (B.worst s) (B.n + 1 - s.long.toNat) x).Pairwise (fun a b => a + (s.wide + s.kerf) ≤ b) ∧ ∀ y ∈ LL (B.worst s) (B.n + 1 - s.long.toNat) x, (x : Int) + s.long ≤ B.n ∧ 0 ≤ y ∧ y ≤ 300 ∧ soundS (B.worst s) x y = true := by
  obtain ⟨l, hl⟩ := Int.eq_ofNat_of_zero_le (show 0 ≤ s.long by have := hs.l1; omega)
  have hl1 := hs.l1
  have e : s.long.toNat = l := by omega
  rw [e]
  by_cases hx : x + l ≤ B.n
  · rw [← ref_LL (TA := none) (TB := none) (K := none) (c := 0) (c' := 0) (d := 0) hok hs hc hb ht hl x hx]
    have hst : 1 ≤ stV s := by unfold stV; have := hs.w1; omega
    have hst2 : (stV s : Int) = s.wide + s.kerf := by unfold stV; have := hs.w1; have := hs.k1; omega
    unfold refBlockL
    refine ⟨?_, fun y hy => ?_⟩
    · rw [List.pairwise_map]
      exact (gl_apart hst 301 0 (by omega)).imp fun h => by omega
    · obtain ⟨z, hz, rfl⟩ := List.mem_map.1 hy
      obtain ⟨h1, h2, -⟩ := gl_mem hst 301 0 (by omega) z hz
      unfold fineV at h1
      rw [sound_sure hs hc z] at h1
      exact ⟨by omega, by omega, by omega, h1⟩
  · have e : LL (B.worst s) (B.n + 1 - l) x = [] := by unfold LL; rw [if_neg (by omega)]
    rw [e]
    exact ⟨List.Pairwise.nil, fun y hy => absurd hy (by simp)⟩
/-- The places of Most. -/
theorem layout_places (hok : B.Ok) (hs : s.Ok) (hc : B.cerr = 0) (hb : B.bot.length = B.n) (ht : B.top.length = B.n') :
    (layoutL (B.worst s) B.n).Pairwise (Behind (s.wide + s.kerf) (s.long + s.across)) ∧ ∀ p ∈ layoutL (B.worst s) B.n, ∃ z : Nat, p.1 = z ∧ (z : Int) + s.long ≤ B.n ∧ 0 ≤ p.2 ∧ p.2 ≤ 300 ∧ soundS (B.worst s) z p.2 = true := by
  have h := layoutGo_pw (B.worst s) B.n (s.wide + s.kerf) (fun x => (LL_places hok hs hc hb ht x).1) (B.n + 1) 0
  have e : (stepN (B.worst s) : Int) = s.long + s.across := by
    have := hs.l1
    have := hs.a1
    show ((s.long.toNat + s.across.toNat : Nat) : Int) = _
    omega
  rw [e] at h
  refine ⟨h.1, fun p hp => ?_⟩
  obtain ⟨z, -, -, e1, hm⟩ := h.2 p hp
  exact ⟨z, e1, (LL_places hok hs hc hb ht z).2 _ hm⟩
end
end Go.Proofs.Ytiflhimmieflpaa

/- Pure facts: what is surely sound is sound in the truth; no layout of Most is faulty. -/
namespace Go.Proofs.Ytiflhimmieflpaa
open Go.RowKit Go.Maps

/-- Cracks as they truly are: each in its spans. -/
structure RealOf (cr : List Crack) (ck : List Tri) : Prop where
  len : ck.length = cr.length
  at_ : ∀ i, i < cr.length → (cr.getD i Crack.zero).cl ≤ (ck.getD i (0, 0, 0)).1 ∧ (ck.getD i (0, 0, 0)).1 ≤ (cr.getD i Crack.zero).ch ∧ (cr.getD i Crack.zero).fl ≤ (ck.getD i (0, 0, 0)).2.1 ∧ (ck.getD i (0, 0, 0)).2.1 ≤ (cr.getD i Crack.zero).fh ∧ (cr.getD i Crack.zero).tl ≤ (ck.getD i (0, 0, 0)).2.2 ∧ (ck.getD i (0, 0, 0)).2.2 ≤ (cr.getD i Crack.zero).th
theorem window (xs : List Int) (x l j : Nat) (h : j < l) : ((xs.drop x).take l).getD j 0 = xs.getD (x + j) 0 := by
  simp [List.getD, h, List.getElem?_drop]
theorem map_getD2 (xs : List (Int × Int)) (i : Nat) : (xs.map (·.2)).getD i 0 = (xs.getD i (0, 0)).2 ∧ (xs.map (·.1)).getD i 0 = (xs.getD i (0, 0)).1 := by
  simp only [List.getD, List.getElem?_map]
  cases xs[i]? with
  | none => simp
  | some v => simp
theorem sound_truth {B : Bl} {L H : Nat → Int} {s : Sw} {lo hi : List Int} {ck : List Tri} (hF : BF B L H) (hs : s.Ok) (hlo : ∀ i, i < B.n → lo.getD i 0 = L i) (hhi : ∀ i, i < B.n → hi.getD i 0 = H i) (hck : RealOf B.cr ck) {z y : Nat} (hz : (z : Int) + s.long ≤ B.n)
    (h : soundS (B.worst s) z y = true) : soundT lo hi ck s.long s.wide z y = true := by
  have hl1 := hs.l1
  unfold soundS at h
  simp only [Bool.and_eq_true, decide_eq_true_eq] at h
  obtain ⟨⟨h1, h2⟩, h3⟩ := h
  have h1 : maxTo (((B.worst s).bottom.drop z).take s.long.toNat) (s.long.toNat - 1) ≤ y := h1
  have h2 : (y : Int) + s.wide ≤ minTo (((B.worst s).top.drop z).take s.long.toNat) (s.long.toNat - 1) := h2
  rw [maxTo_le] at h1
  rw [le_minTo] at h2
  refine soundT_all (fun i hi2 => ?_) fun i hi2 => ?_
  · have a := h1 i (by omega)
    have b := h2 i (by omega)
    rw [window _ _ _ _ (by omega)] at a b
    have e1 : (B.worst s).bottom = (bentL B.bot B.bend).map (·.2) := rfl
    have e2 : (B.worst s).top = (bentL B.top B.bend).map (·.1) := rfl
    rw [e1, (map_getD2 _ _).1] at a
    rw [e2, (map_getD2 _ _).2] at b
    have c := truth_bent hF.tb (z + i) (by rw [hF.lb]; omega)
    have d := truth_bent hF.tt (z + i) (by rw [hF.lt]; omega)
    unfold colT
    rw [hlo _ (by omega), hhi _ (by omega), Bool.and_eq_true, decide_eq_true_eq, decide_eq_true_eq]
    omega
  · rw [hck.len] at hi2
    have e3 : (B.worst s).splits = B.cr.map worstSplit := rfl
    rw [e3] at h3
    unfold noneOf at h3
    rw [List.all_eq_true] at h3
    have a := h3 (worstSplit B.cr[i]) (List.mem_map.2 ⟨_, List.getElem_mem hi2, rfl⟩)
    have e4 : B.cr.getD i Crack.zero = B.cr[i] := by simp [List.getD, hi2]
    have b := hck.at_ i hi2
    rw [e4] at b
    have e5 : (B.worst s).long = s.long := rfl
    have e6 : (B.worst s).wide = s.wide := rfl
    unfold spoilB worstSplit at a
    rw [e5, e6] at a
    simp only [Bool.not_eq_true', Bool.and_eq_false_iff, decide_eq_false_iff_not] at a
    unfold crkT
    simp only [Bool.and_eq_false_iff, decide_eq_false_iff_not]
    omega
end Go.Proofs.Ytiflhimmieflpaa

/- Pure facts: more places are sound, so more sticks; Most is never more than Possible. -/
namespace Go.Proofs.Ytiflhimmieflpaa
open Go.RowKit Go.Maps

theorem count_sound {B B' : Bl} {s : Sw} (hn : B'.n = B.n) (hs : s.Ok) (hc : B.cerr = 0) (hc' : B'.cerr = 0) (hb : B.bot.length = B.n) (ht : B.top.length = B.n') (hb' : B'.bot.length = B'.n) (ht' : B'.top.length = B'.n')
    (h : ∀ x y : Nat, (x : Int) + s.long ≤ B.n → soundS (B.worst s) x y = true → soundS (B'.worst s) x y = true) : countL (B.worst s) B.n ≤ countL (B'.worst s) B.n := by
  obtain ⟨l, hl⟩ := Int.eq_ofNat_of_zero_le (show 0 ≤ s.long by have := hs.l1; omega)
  have hl1 : 1 ≤ l := by have := hs.l1; omega
  refine ahead_wide (B.worst s) (B'.worst s) B.n rfl (by show 1 ≤ s.long.toNat + s.across.toNat; omega) (fun x => ?_) B.n 0 (by omega)
  by_cases hx : x + l ≤ B.n
  · have e1 := ref_LL (TA := none) (TB := none) (K := none) (c := 0) (c' := 0) (d := 0) (curveErr_ok hc) hs hc hb ht hl x hx
    have e2 := ref_LL (TA := none) (TB := none) (K := none) (c := 0) (c' := 0) (d := 0) (curveErr_ok hc') hs hc' hb' ht' hl x (by rw [hn]; exact hx)
    rw [hn] at e2
    unfold bn
    rw [show (B.worst s).long = s.long from rfl, show (B'.worst s).long = s.long from rfl, hl, Int.toNat_natCast, ← e1, ← e2]
    unfold refBlockL
    rw [List.length_map, List.length_map]
    refine gcount_more hs fun y hf => ?_
    unfold fineV at hf ⊢
    rw [sound_sure hs hc] at hf
    rw [sound_sure hs hc']
    exact h x y (by omega) hf
  · rw [bn_end _ _ x l (show (B.worst s).long = l from hl) (by omega)]
    exact Nat.zero_le _
/-- What is surely sound is sound in the best truth, whatever the columns of the cracks. -/
theorem sound_best {B : Bl} {s : Sw} {xs : List Int} (hc : B.cerr = 0) (hs : s.Ok) (hb : B.bot.length = B.n) (ht : B.top.length = B.n') (hx : xs ∈ colsFrom B.cr []) {x y : Nat} (hxl : (x : Int) + s.long ≤ B.n) (h : soundS (B.worst s) x y = true) : soundS (B.bestX s xs) x y = true := by
  have hl1 := hs.l1
  obtain ⟨e1, -, -, e4, e5, e6, e7⟩ := curveErr_parts hc
  have b0 := (edgesOk_in e4).1.1
  have hlo := truth_lows b0 e6
  have hhi := truth_highs b0 e7
  obtain ⟨r, e, hrl, hr⟩ := colsFrom_in _ _ _ hx
  rw [List.nil_append] at e
  subst e
  unfold soundS at h ⊢
  simp only [Bool.and_eq_true, decide_eq_true_eq] at h ⊢
  obtain ⟨⟨h1, h2⟩, h3⟩ := h
  have h1 : maxTo (((B.worst s).bottom.drop x).take s.long.toNat) (s.long.toNat - 1) ≤ y := h1
  have h2 : (y : Int) + s.wide ≤ minTo (((B.worst s).top.drop x).take s.long.toNat) (s.long.toNat - 1) := h2
  rw [maxTo_le] at h1
  rw [le_minTo] at h2
  refine ⟨⟨?_, ?_⟩, ?_⟩
  · show maxTo (((B.bestX s xs).bottom.drop x).take s.long.toNat) (s.long.toNat - 1) ≤ y
    rw [maxTo_le]
    intro j hj
    have a := h1 j hj
    rw [window _ _ _ _ (by omega)] at a ⊢
    have q1 : (B.worst s).bottom = (bentL B.bot B.bend).map (·.2) := rfl
    have q2 : (B.bestX s xs).bottom = (bentL B.bot B.bend).map (·.1) := rfl
    rw [q1, (map_getD2 _ _).1] at a
    rw [q2, (map_getD2 _ _).2]
    have := truth_bent hlo (x + j) (by omega)
    omega
  · show (y : Int) + s.wide ≤ minTo (((B.bestX s xs).top.drop x).take s.long.toNat) (s.long.toNat - 1)
    rw [le_minTo]
    intro j hj
    have a := h2 j hj
    rw [window _ _ _ _ (by omega)] at a ⊢
    have q1 : (B.worst s).top = (bentL B.top B.bend).map (·.1) := rfl
    have q2 : (B.bestX s xs).top = (bentL B.top B.bend).map (·.2) := rfl
    rw [q1, (map_getD2 _ _).2] at a
    rw [q2, (map_getD2 _ _).1]
    have := truth_bent hhi (x + j) (by omega)
    omega
  · have q1 : (B.worst s).splits = B.cr.map worstSplit := rfl
    have q2 : (B.bestX s xs).splits = (bestCracks xs B.cr).map worstSplit := by rw [← worst_tight xs hc]; rfl
    rw [q2]
    rw [q1] at h3
    unfold noneOf at h3 ⊢
    rw [List.all_eq_true] at h3 ⊢
    intro k hk
    obtain ⟨k2, hk2, rfl⟩ := List.mem_map.1 hk
    have hk' : k2 ∈ List.zipWith bestCrack xs B.cr := hk2
    obtain ⟨i, hi, rfl⟩ := List.getElem_of_mem hk'
    rw [List.getElem_zipWith]
    have hi2 : i < B.cr.length := by simp at hi; omega
    have hi1 : i < xs.length := by omega
    rw [List.any_eq_false] at e5
    have o := crackOk_in (by simpa using e5 _ (List.getElem_mem hi2))
    have a := h3 (worstSplit B.cr[i]) (List.mem_map.2 ⟨_, List.getElem_mem hi2, rfl⟩)
    have b := hr i hi2
    have g1 : B.cr.getD i Crack.zero = B.cr[i] := by simp [List.getD, hi2]
    have g2 : xs.getD i 0 = xs[i] := by simp [List.getD, hi1]
    rw [g1, g2] at b
    have f : worstSplit (bestCrack xs[i] B.cr[i]) = ⟨xs[i], xs[i], B.cr[i].fh, B.cr[i].tl⟩ := rfl
    rw [f]
    have l1 : (B.worst s).long = s.long := rfl
    have l2 : (B.worst s).wide = s.wide := rfl
    have l3 : (B.bestX s xs).long = s.long := rfl
    have l4 : (B.bestX s xs).wide = s.wide := rfl
    unfold spoilB worstSplit at a
    unfold spoilB
    rw [l1, l2] at a
    rw [l3, l4]
    simp only [Bool.not_eq_true', Bool.and_eq_false_iff, decide_eq_false_iff_not] at a ⊢
    omega
theorem possTo_ge {B : Bl} {s : Sw} : ∀ (l : List (List Int)) (a : Int × List Int), a.1 ≤ (l.foldl (possStep B s) a).1 ∧ ∀ x ∈ l, countL (B.bestX s x) B.n ≤ (l.foldl (possStep B s) a).1
  | [], a => ⟨Int.le_refl _, fun x hx => absurd hx (by simp)⟩
  | x :: l, a => by
    obtain ⟨h1, h2⟩ := possTo_ge (B := B) (s := s) l (possStep B s a x)
    have h3 : a.1 ≤ (possStep B s a x).1 ∧ countL (B.bestX s x) B.n ≤ (possStep B s a x).1 := by
      unfold possStep
      split
      · exact ⟨by dsimp only; omega, Int.le_refl _⟩
      · exact ⟨Int.le_refl _, by omega⟩
    rw [List.foldl_cons]
    refine ⟨by omega, fun z hz => ?_⟩
    rcases List.mem_cons.1 hz with rfl | hz
    · omega
    · exact h2 z hz
/-- Most is never more than Possible. -/
theorem count_possible {B : Bl} {s : Sw} (hc : B.cerr = 0) (hs : s.Ok) (hb : B.bot.length = B.n) (ht : B.top.length = B.n') : countL (B.worst s) B.n ≤ (possTo B s (colsFrom B.cr [])).1 := by
  obtain ⟨e1, -, -, -, -, -, -⟩ := curveErr_parts hc
  have hp := colsFrom_pos B.cr [] (err_cracks hc)
  obtain ⟨xs, hx⟩ : ∃ xs, xs ∈ colsFrom B.cr [] := ⟨_, List.getElem_mem hp⟩
  have h := (possTo_ge (B := B) (s := s) (colsFrom B.cr []) (-1, [])).2 xs hx
  have h2 := count_sound (B := B) (B' := B.tight xs) (s := s) rfl hs hc (tight_cerr hb ht hc hx) hb ht (by simp [Bl.tight, lowsL, bentL_length, hb]) (by simp [Bl.tight, highsL, bentL_length, ht]) (fun x y hxl hsd => by
    rw [worst_tight xs hc]
    exact sound_best hc hs hb ht hx hxl hsd)
  rw [worst_tight xs hc] at h2
  unfold possTo
  omega
end Go.Proofs.Ytiflhimmieflpaa

/- Pure facts: what a tusk's blade truly is lies in its spans. -/
namespace Go.Proofs.Ytiflhimmieflpaa
open Go.RowKit Go.Maps

theorem real_of {T : Tk} {m : Nat} (h : (((List.range m).map fun i => T.crackL i T.len).any fun k => !crackOk T.len k) = false) : RealOf ((List.range m).map fun i => T.crackL i T.len) ((List.range m).map fun i => T.realL i T.len) := by
  refine ⟨by simp, fun i hi => ?_⟩
  have him : i < m := by simpa using hi
  have e1 : ((List.range m).map fun i => T.crackL i T.len).getD i Crack.zero = T.crackL i T.len := by simp [List.getD, him]
  have e2 : ((List.range m).map fun i => T.realL i T.len).getD i (0, 0, 0) = T.realL i T.len := by simp [List.getD, him]
  rw [e1, e2]
  rw [List.any_eq_false] at h
  have o := crackOk_in (by simpa using h (T.crackL i T.len) (List.mem_map.2 ⟨i, List.mem_range.2 him, rfl⟩))
  have a1 := Int.emod_nonneg (T.cb i 5) (show (T.crackL i T.len).ch - (T.crackL i T.len).cl + 1 ≠ 0 by omega)
  have a2 := Int.emod_lt_of_pos (T.cb i 5) (show 0 < (T.crackL i T.len).ch - (T.crackL i T.len).cl + 1 by omega)
  have b1 := Int.emod_nonneg (T.cb i 4) (show (T.crackL i T.len).fh - (T.crackL i T.len).fl + 1 ≠ 0 by omega)
  have b2 := Int.emod_lt_of_pos (T.cb i 4) (show 0 < (T.crackL i T.len).fh - (T.crackL i T.len).fl + 1 by omega)
  have c1 := Int.emod_nonneg (T.cb i 1) (show (T.crackL i T.len).th - (T.crackL i T.len).tl + 1 ≠ 0 by omega)
  have c2 := Int.emod_lt_of_pos (T.cb i 1) (show 0 < (T.crackL i T.len).th - (T.crackL i T.len).tl + 1 by omega)
  unfold Tk.realL
  dsimp only
  omega
end Go.Proofs.Ytiflhimmieflpaa

/- Walks: Most, Bound and Possible of a valid blade. -/
namespace Go.Proofs.Ytiflhimmieflpaa
open Go.RowKit Go.Maps

theorem most_list (B : Bl) (s : Sw) (w : World) (h : B.At w) (hc : B.cerr = 0) (hs : s.Ok) : Calls Try.prog 34 #[B.val, s.val] w fun e w' => ∃ A c, e = .returned (.tuple #[.slice A (layoutL (B.worst s) B.n).length c, .int .i64 0]) ∧ Pairs w' A (layoutL (B.worst s) B.n).length (layoutL (B.worst s) B.n) ∧ Below w.heap.size w w' := by
  refine (Most_any B s w h).mono ?_
  rintro e w' ⟨hb, ⟨he, _⟩ | ⟨_, v, rfl, hown⟩⟩
  · exact absurd (saw_err hc hs) he
  · obtain ⟨A, c, rfl⟩ := own_slice hown
    exact ⟨A, c, rfl, (reads_of_own hown).r, hb⟩
theorem possible_ok (B : Bl) (s : Sw) (w : World) (h : B.At w) (hc : B.cerr = 0) (hs : s.Ok) : Calls Try.prog 42 #[B.val, s.val] w fun e w' => ∃ A c, e = .returned (.tuple #[.int .i64 (possTo B s (colsFrom B.cr [])).1, .slice A (possTo B s (colsFrom B.cr [])).2.length c, .int .i64 0]) ∧ Below w.heap.size w w' := by
  refine (Possible_any B s w h).mono ?_
  rintro e w' ⟨hb, ⟨he, _⟩ | ⟨_, v, rfl, hown⟩⟩
  · exact absurd (saw_err hc hs) he
  · obtain ⟨A, c, rfl⟩ := own_slice hown
    exact ⟨A, c, rfl, hb⟩
end Go.Proofs.Ytiflhimmieflpaa

/- Walks: the law ToothSure. -/
namespace Go.Proofs.Ytiflhimmieflpaa
open Go.RowKit Go.Maps

theorem most_list_like {B B' : Bl} (hl : B.Like B') (s : Sw) (w : World) (h : B'.At w) (hc : B.cerr = 0) (hs : s.Ok) : Calls Try.prog 34 #[B'.val, s.val] w fun e w' => ∃ A c, e = .returned (.tuple #[.slice A (layoutL (B.worst s) B.n).length c, .int .i64 0]) ∧ Pairs w' A (layoutL (B.worst s) B.n).length (layoutL (B.worst s) B.n) ∧ Below w.heap.size w w' := by
  have q := most_list B' s w h (by rw [hl.cerr]; exact hc) hs
  rw [hl.worst, hl.n] at q
  exact q
theorem possible_like {B B' : Bl} (hl : B.Like B') (s : Sw) (w : World) (h : B'.At w) (hc : B.cerr = 0) (hs : s.Ok) : Calls Try.prog 42 #[B'.val, s.val] w fun e w' => ∃ A c, e = .returned (.tuple #[.int .i64 (possTo B s (colsFrom B.cr [])).1, .slice A (possTo B s (colsFrom B.cr [])).2.length c, .int .i64 0]) ∧ Below w.heap.size w w' := by
  have q := possible_ok B' s w h (by rw [hl.cerr]; exact hc) hs
  rw [hl.cr, hl.possTo] at q
  exact q
end Go.Proofs.Ytiflhimmieflpaa

/- Walks: a layout of a truth by bytes. -/
namespace Go.Proofs.Ytiflhimmieflpaa
open Go.RowKit Go.Maps

/-- What sawn's own boxes hold. -/
structure SE (w W : World) (rs ss : Array Value) : Prop where
  r : Blk W w.heap.size 86 rs
  s : Blk W (w.heap.size + 1) 37 ss
  bel : Below w.heap.size w W
section
variable {w W W' : World} {rs ss : Array Value}
theorem SE.below (h : SE w W rs ss) (hb : Below W.heap.size W W') : SE w W' rs ss := ⟨blk_keep hb h.r, blk_keep hb h.s, below_then h.bel hb⟩
theorem SE.start (w : World) (rs ss : Array Value) : SE w ((w.alloc (.cells rs 86)).alloc (.cells ss 37)) rs ss :=
  ⟨(Blk.new w _ _ rfl).alloc _, Blk.new _ _ _ (by simp), below_alloc' (below_self w _) _⟩
theorem SE.grown (h : SE w W rs ss) {base n size : Nat} {e : TypeId} {v : Value} {xs : List Value} (ho : W.ownsRow base e size v n xs) (h0 : e ≠ 86) (h1 : e ≠ 37) (hb : w.heap.size ≤ base) (hg : W.grownBy W' v.ownBlock) : SE w W' rs ss :=
  ⟨h.r.grown hg (own_blk_ne ho h.r h0), h.s.grown hg (own_blk_ne ho h.s h1), h.bel.grown hg h.bel.size (fun k e => Nat.le_trans hb (ho.lt k e.symm.symm).1)⟩
theorem SE.get {x0 x1 x2 y0 y1 y2 y3 : Value} (h : SE w W #[x0, x1, x2] #[y0, y1, y2, y3]) : (W.cell? ⟨w.heap.size, 0, none⟩ = some x0 ∧ W.cell? ⟨w.heap.size, 1, none⟩ = some x1 ∧ W.cell? ⟨w.heap.size, 2, none⟩ = some x2) ∧ W.cell? ⟨w.heap.size + 1, 0, none⟩ = some y0 ∧ W.cell? ⟨w.heap.size + 1, 1, none⟩ = some y1 ∧ W.cell? ⟨w.heap.size + 1, 2, none⟩ = some y2 ∧ W.cell? ⟨w.heap.size + 1, 3, none⟩ = some y3 :=
  ⟨⟨h.r.cell 0, h.r.cell 1, h.r.cell 2⟩, h.s.cell 0, h.s.cell 1, h.s.cell 2, h.s.cell 3⟩
end
/-- A stick of the layout is sound in the truth, and lies on the blade. -/
def StickIn (n : Nat) (sd : Nat → Nat → Bool) (long : Int) (p : Int × Int) : Prop := ∃ z y : Nat, p = ((z : Int), (y : Int)) ∧ (z : Int) + long ≤ n ∧ y ≤ 300 ∧ sd z y = true
structure Sawn (n : Nat) (sd : Nat → Nat → Bool) (long st ac : Int) (ps : List (Int × Int)) : Prop where
  pw : ps.Pairwise (Behind st ac)
  mem : ∀ p ∈ ps, StickIn n sd long p
theorem Sawn.nil (n : Nat) (sd : Nat → Nat → Bool) (long st ac : Int) : Sawn n sd long st ac [] := ⟨List.Pairwise.nil, fun p hp => by cases hp⟩
theorem Sawn.snoc {n : Nat} {sd : Nat → Nat → Bool} {long st ac : Int} {ps : List (Int × Int)} (h : Sawn n sd long st ac ps) {z y : Nat} (h1 : (z : Int) + long ≤ n) (h2 : y ≤ 300) (h3 : sd z y = true) (hb : ∀ p ∈ ps, p.1 + ac ≤ z ∨ (p.1 = z ∧ p.2 + st ≤ y)) : Sawn n sd long st ac (ps ++ [((z : Int), (y : Int))]) :=
  ⟨List.pairwise_append.2 ⟨h.pw, List.pairwise_singleton _ _, fun p hp q hq => by
    rw [List.mem_singleton] at hq
    subst hq
    exact (hb p hp).symm⟩, fun p hp => by
    rcases List.mem_append.1 hp with h' | h'
    · exact h.mem p h'
    · exact ⟨z, y, List.mem_singleton.1 h', h1, h2, h3⟩⟩
theorem own_lower {W : World} {b b' : Nat} {e : TypeId} {size n : Nat} {v : Value} {xs : List Value} (h : W.ownsRow b e size v n xs) (hb : b' ≤ b) : W.ownsRow b' e size v n xs := by
  obtain ⟨hl, h1 | ⟨g, cap, cur, h1, h2, h3⟩⟩ := h
  · exact ⟨hl, .inl h1⟩
  · exact ⟨hl, .inr ⟨g, cap, cur, h1, Nat.le_trans hb h2, h3⟩⟩
def SawnRes (w : World) (n : Nat) (sd : Nat → Nat → Bool) (long st ac : Int) (e : Ending) (w' : World) : Prop := ∃ A c ps, e = .returned (.slice A ps.length c) ∧ w'.ownsRow w.heap.size 39 2 (.slice A ps.length c) ps.length (flat2 ps) ∧ Sawn n sd long st ac ps ∧ ps.length ≤ 1000000 ∧ Below w.heap.size w w'

set_option maxRecDepth 100000 in
set_option maxHeartbeats 8000000 in
theorem sawn_any (A A' K B : Option Addr) (n c c' m d bm bd : Nat) (lo hi : List Int) (ck : List Tri) (s : Sw) (xs : List Int) (w : World) (h1 : Ints w A n lo) (h2 : Ints w A' n hi) (h3 : Reads w 3 K m (flat3 ck)) (hm : ck.length = m) (hm2 : m ≤ 10) (hn : n ≤ 1000) (hs : s.Ok) (hB : Reads w 1 B bm (xs.map (Value.int .u8))) (hxb : ∀ x ∈ xs, Byte x) (hbm : bm ≤ maxLen) :
    Calls Try.prog 56 #[.agg #[.slice A n c, .slice A' n c', .slice K m d], s.val, .slice B bm bd] w (SawnRes w n (soundT lo hi ck s.long s.wide) s.long (s.wide + s.kerf) (s.long + s.across)) := by
  obtain ⟨i0, hi0, hz0, hz1, hz2⟩ := info_parts Try.infoPlace
  have s1 := hs.l1
  have s2 := hs.l2
  have s3 := hs.w1
  have s4 := hs.w2
  have s5 := hs.k1
  have s6 := hs.k2
  have s7 := hs.a1
  have s8 := hs.a2
  unfold maxLen at hbm
  have HBY := Lib.hid (fun (at_ : Nat) (h0 : 0 < bm) => show ∃ b off, B = some ⟨b, off, none⟩ ∧ ∃ x, Byte x ∧ w.cell? ⟨b, off + at_ % bm, none⟩ = some (.int .u8 x) from by
    obtain ⟨b, off, u, e, _, hx, hc⟩ := Reads.at1 hB (k := at_ % bm) (Nat.mod_lt _ h0)
    rw [List.getElem?_map] at hx
    cases hx2 : xs[at_ % bm]? with
    | none => rw [hx2] at hx; cases hx
    | some x =>
      rw [hx2] at hx
      simp only [Option.map_some, Option.some.injEq] at hx
      subst hx
      exact ⟨b, off, e, x, hxb x (List.mem_of_getElem? hx2), hc⟩)
  have HSD := Lib.hid (fun (x y : Nat) W (hx : (x : Int) + s.long ≤ n) (hy : y ≤ 1000) (hb : Below w.heap.size w W) => soundT_any A A' K n c c' m d lo hi ck s x y W (h1.below hb) (h2.below hb) (h3.below hb) hm hm2 hn ⟨s1, by omega⟩ ⟨by omega, by omega⟩ hx hy)
  generalize soundT lo hi ck s.long s.wide = sd at *
  have E0 := Lib.hid (SE.start w #[.slice A n c, .slice A' n c', .slice K m d] #[.int .i64 s.long, .int .i64 s.wide, .int .i64 s.kerf, .int .i64 s.across])
  have E1 := Lib.hid (E0.out.below (below_self _ (.cells #[] 39)))
  have O1 := Lib.hid (own_empty ((w.alloc (.cells #[.slice A n c, .slice A' n c', .slice K m d] 86)).alloc (.cells #[.int .i64 s.long, .int .i64 s.wide, .int .i64 s.kerf, .int .i64 s.across] 37)) 39 2 rfl)
  obtain ⟨long, wide, kerf, across⟩ := s
  simp only [Sw.val] at *
  clear h1 h2 h3 hB hxb hs hm hm2
  have p1 := E1.out.get
  go_enter Try.func56, Try.ntmps56
  go_wp2_with fail
  clear p1
  go_loopw [9, 8, 7] (fun xv av lv wr => ∃ (x a : Nat) (Al : Option Addr) (cl : Nat) (ps : List (Int × Int)), xv = .int .i64 x ∧ av = .int .i64 a ∧ lv = .slice Al ps.length cl ∧ wr.ownsRow (w.heap.size + 1 + 1) 39 2 (.slice Al ps.length cl) ps.length (flat2 ps) ∧ SE w wr #[.slice A n c, .slice A' n c', .slice K m d] #[.int .i64 long, .int .i64 wide, .int .i64 kerf, .int .i64 across] ∧ Sawn n sd long (wide + kerf) (long + across) ps ∧ (∀ p ∈ ps, p.1 + (long + across) ≤ x) ∧ ps.length ≤ x * 301 ∧ a ≤ x ∧ x ≤ 3000) (fun xv _ _ _ => n + 1 - (intOf xv).toNat)
  case atStart => exact ⟨0, 0, _, 0, [], rfl, rfl, rfl, by have := O1.out; simpa [flat2] using this, E1.out, Sawn.nil _ _ _ _ _, fun p hp => (by cases hp), by simp, Nat.le_refl _, by omega⟩
  case round =>
    obtain ⟨x, a, Al, cl, ps, rfl, rfl, rfl, hO, hE, hS, hx, hc, ha, hx3⟩ := hrel
    generalize wr = wo at *
    have E2 := Lib.hid hE
    have O2 := Lib.hid hO
    have S2 := Lib.hid hS
    have X2 := Lib.hid hx
    have C2 := Lib.hid hc
    clear hO hE hS hx hc E0 E1 O1
    have p2 := E2.out.get
    have w1 : IntKind.i64.wrap ((x : Int) + long) = (x : Int) + long := IntWalk.i64_in _ (by omega)
    by_cases hlt : (x : Int) + long ≤ n
    · go_upto_if 27 with (fail)
      go_cut [10] from 27 to 35 (fun s10 W => ∃ v : Int, s10 = .int .i64 v ∧ 0 ≤ v ∧ v ≤ 255 ∧ W = wo)
      case first =>
        rcases Nat.eq_zero_or_pos bm with rfl | hb0
        · go_wp2_with fail
          go_meet
          exact ⟨0, rfl, by omega, by omega, rfl⟩
        · obtain ⟨b, off, rfl, v, hv, hcv⟩ := HBY.out a hb0
          have hcv2 : wo.cell? ⟨b, off + a % bm, none⟩ = some (.int .u8 v) := (E2.out.bel.cell (lt_of_cell hcv)).trans hcv
          have hlt2 : a % bm < bm := Nat.mod_lt _ hb0
          have t1 : (a : Int).tmod (bm : Int) = ((a % bm : Nat) : Int) := by rw [Int.tmod_eq_emod_of_nonneg (by omega)]; rfl
          have w2 : IntKind.i64.wrap ((a % bm : Nat) : Int) = ((a % bm : Nat) : Int) := IntWalk.i64_in _ (by omega)
          have hz : ((bm : Int) == 0) = false := by simp; omega
          have hz1 : ((bm : Int) = 0) = False := by simp; omega
          have hz2 : (bm = 0) = False := by simp; omega
          have hbi : (0 : Int) < (bm : Int) := by omega
          unfold Byte at hv
          have w3 : IntKind.i64.wrap v = v := IntWalk.i64_in _ (by omega)
          clear hcv
          generalize a % bm = q at *
          go_wp2_with fail
          go_meet
          exact ⟨v, rfl, hv.1, hv.2, rfl⟩
      case rest =>
        obtain ⟨v, rfl, hv0, hv1, rfl⟩ := hcut
        have w2 : IntKind.i64.wrap ((a : Int) + 1) = (a : Int) + 1 := IntWalk.i64_in _ (by omega)
        have t1 : v.tmod 4 = v % 4 := Int.tmod_eq_emod_of_nonneg (by omega)
        have w3 : IntKind.i64.wrap (v % 4) = v % 4 := IntWalk.i64_in _ (by omega)
        have w4 : IntKind.i64.wrap ((x : Int) + 1) = (x : Int) + 1 := IntWalk.i64_in _ (by omega)
        by_cases hv3 : v % 4 = 3
        · go_wp2_with fail
          go_roundw
          case rel => exact ⟨x + 1, a + 1, Al, cl, ps, by go_num, by go_num, rfl, O2.out, E2.out, S2.out, fun p hp => by have := X2.out p hp; omega, by have := C2.out; omega, by omega, by omega⟩
          case measure => simp [intOf]; omega
        · have hv4 : (v % 4 == 3) = false := by simpa using hv3
          have t2 : v.tdiv 4 = v / 4 := Int.tdiv_eq_ediv_of_nonneg (by omega)
          obtain ⟨y0, hy0⟩ : ∃ y0 : Nat, (y0 : Int) = v / 4 % 8 := ⟨(v / 4 % 8).toNat, by omega⟩
          have t3 : (v / 4).tmod 8 = (y0 : Int) := by rw [Int.tmod_eq_emod_of_nonneg (by omega)]; omega
          have w5 : IntKind.i64.wrap (v / 4) = v / 4 := IntWalk.i64_in _ (by omega)
          have w6 : IntKind.i64.wrap (y0 : Int) = (y0 : Int) := IntWalk.i64_in _ (by omega)
          have hy8 : y0 ≤ 7 := by omega
          clear hy0
          go_wp2_with fail
          clear t1 t2 t3 w3 w5 w6 p2
          go_loopw [12, 11, 7] (fun yv fv lv wi => ∃ (y : Nat) (f : Bool) (Al : Option Addr) (cl : Nat) (ps : List (Int × Int)), yv = .int .i64 y ∧ fv = .bool f ∧ lv = .slice Al ps.length cl ∧ wi.ownsRow (w.heap.size + 1 + 1) 39 2 (.slice Al ps.length cl) ps.length (flat2 ps) ∧ SE w wi #[.slice A n c, .slice A' n c', .slice K m d] #[.int .i64 long, .int .i64 wide, .int .i64 kerf, .int .i64 across] ∧ Sawn n sd long (wide + kerf) (long + across) ps ∧ (∀ p ∈ ps, p.1 + (long + across) ≤ x ∨ (f = true ∧ p.1 = x ∧ p.2 + (wide + kerf) ≤ y)) ∧ ps.length ≤ x * 301 + y ∧ ps.length ≤ x * 301 + 301 ∧ y ≤ 1000) (fun yv _ _ _ => 301 - (intOf yv).toNat)
          case atStart => exact ⟨y0, false, Al, cl, ps, rfl, rfl, rfl, O2.out, E2.out, S2.out, fun p hp => .inl (X2.out p hp), by have := C2.out; omega, by have := C2.out; omega, by omega⟩
          case round =>
            clear O2 E2 S2 X2 C2
            obtain ⟨y, f, Al, cl, ps, rfl, rfl, rfl, hO, hE, hS, hx, hc, hc2, hy3⟩ := hrel
            have E4 := Lib.hid hE
            have O4 := Lib.hid hO
            have S4 := Lib.hid hS
            have X4 := Lib.hid hx
            have C4 := Lib.hid hc
            have C5 := Lib.hid hc2
            clear hO hE hS hx hc hc2
            cases f
            · skip
              by_cases hy : (y : Int) ≤ 300
              · have E5 := Lib.hid (E4.out.below (below_self wr (.cells #[.int .i64 (x : Int), .int .i64 (y : Int)] 39)))
                have O5 := Lib.hid (ownsRow_below O4.out (below_self wr (.cells #[.int .i64 (x : Int), .int .i64 (y : Int)] 39)))
                have V5 := Lib.hid (Blk.new wr 39 #[.int .i64 (x : Int), .int .i64 (y : Int)] (g := wr.heap.size) rfl)
                have p5 := E5.out.get
                have q5 := V5.out.cell
                clear E4 O4
                go_wp2_with fail
                refine (HSD.out x y _ hlt (by omega) E5.out.bel).mono ?_
                rintro e W5 ⟨rfl, b5⟩
                have E6 := Lib.hid (E5.out.below b5)
                have O6 := Lib.hid (ownsRow_below O5.out b5)
                have V6 := Lib.hid (blk_keep b5 V5.out)
                clear b5 E5 O5 V5 p5 q5
                have p6 := E6.out.get
                have q6 := V6.out.cell
                cases hsd : sd x y
                · have w7 : IntKind.i64.wrap ((y : Int) + 1) = (y : Int) + 1 := IntWalk.i64_in _ (by omega)
                  clear hsd
                  go_wp2_with fail
                  go_roundw
                  case rel => exact ⟨y + 1, false, Al, cl, ps, by go_num, rfl, rfl, O6.out, E6.out, S4.out, fun p hp => (X4.out p hp).imp id (fun h => ⟨h.1, h.2.1, by have := h.2.2; omega⟩), by have := C4.out; omega, C5.out, by omega⟩
                  case measure => simp [intOf]; omega
                · have w7 : IntKind.i64.wrap (wide + kerf) = wide + kerf := IntWalk.i64_in _ (by omega)
                  obtain ⟨y9, hy9⟩ : ∃ y9 : Nat, (y9 : Int) = (y : Int) + (wide + kerf) := ⟨((y : Int) + (wide + kerf)).toNat, by omega⟩
                  have w8 : IntKind.i64.wrap ((y : Int) + (wide + kerf)) = (y9 : Int) := by rw [← hy9]; exact IntWalk.i64_in _ (by omega)
                  have HY9 := Lib.hid hy9
                  clear hy9
                  have hl := C4.out
                  have hl2 := C5.out
                  have E7 := Lib.hid (E6.out.below (below_self W5 (.cells #[.int .i64 (x : Int), .int .i64 (y : Int)] 39)))
                  have O7 := Lib.hid (ownsRow_below O6.out (below_self W5 (.cells #[.int .i64 (x : Int), .int .i64 (y : Int)] 39)))
                  have hSN := Lib.hid (S4.out.snoc hlt (by omega) hsd (fun p hp => (X4.out p hp).imp id (fun h => h.2)))
                  clear hsd
                  go_wp2_with (at_builtin; refine wpList_append_any rfl _ _ 54 rfl (w.heap.size + 1 + 1) 39 i0 (.agg #[.int .i64 0, .int .i64 0]) 2 16 Try.underlying54 hi0 hz0 hz1 hz2 rfl (by decide) (.slice Al ps.length cl) ps.length (flat2 ps) rfl O7.out (some ⟨W5.heap.size, 0, none⟩) 1 1 [.int .i64 (x : Int), .int .i64 (y : Int)] rfl (reads_of_blk (Blk.new W5 _ _ rfl) rfl rfl) ?d1 ?d2 ?d3 ?d4 ?d5)
                  case d1 =>
                    intro u hu
                    simp only [List.mem_cons, List.not_mem_nil, or_false] at hu
                    rcases hu with rfl | rfl <;> rfl
                  case d2 => unfold maxLen; omega
                  case d3 => omega
                  case d4 => have := E6.out.bel.size; have := E6.out.s.lt; simp; omega
                  case d5 =>
                    intro v8 W8 hown hgrow
                    have E8 := Lib.hid (E7.out.grown O7.out (by decide) (by decide) (by omega) hgrow)
                    have hown2 : W8.ownsRow (w.heap.size + 1 + 1) 39 2 v8 (ps ++ [((x : Int), (y : Int))]).length (flat2 (ps ++ [((x : Int), (y : Int))])) := by rw [flat2_append, List.length_append]; exact hown
                    obtain ⟨A9, c9, rfl, _⟩ := own_slice_le hown2
                    have O8 := Lib.hid hown2
                    have p8 := E8.out.get
                    have hL : (ps ++ [((x : Int), (y : Int))]).length = ps.length + 1 := by simp
                    have HL := Lib.hid hL
                    have X8 := Lib.hid (show ∀ p ∈ ps ++ [((x : Int), (y : Int))], p.1 + (long + across) ≤ x ∨ (true = true ∧ p.1 = x ∧ p.2 + (wide + kerf) ≤ y + (wide + kerf)) from fun p hp => by
                      rcases List.mem_append.1 hp with h | h
                      · exact (X4.out p h).imp id (fun h => ⟨rfl, h.2.1, by have := h.2.2; omega⟩)
                      · rw [List.mem_singleton.1 h]
                        exact .inr ⟨rfl, rfl, Int.le_refl _⟩)
                    clear hown hown2 hgrow E7 O7 E6 O6 V6 p6 q6 hL X4 S4
                    rw [← HY9.out] at X8
                    generalize ps ++ [((x : Int), (y : Int))] = ps9 at *
                    go_wp2_with fail
                    go_roundw
                    case rel => exact ⟨y9, true, A9, c9, ps9, rfl, rfl, rfl, O8.out, E8.out, hSN.out, X8.out, by have := HL.out; have := HY9.out; omega, by have := HL.out; omega, by have := HY9.out; omega⟩
                    case measure => have := HY9.out; simp [intOf]; omega
              · have w7 : IntKind.i64.wrap ((x : Int) + 1) = (x : Int) + 1 := IntWalk.i64_in _ (by omega)
                go_wp2_with fail
                go_roundw
                case rel => exact ⟨x + 1, a + 1, Al, cl, ps, by go_num, by go_num, rfl, O4.out, E4.out, S4.out, fun p hp => by
                  rcases X4.out p hp with h | h
                  · omega
                  · exact absurd h.1 (by decide), by have := C5.out; omega, by omega, by omega⟩
                case measure => simp [intOf]; omega
            · skip
              by_cases hy : (y : Int) ≤ 300
              · have E5 := Lib.hid (E4.out.below (below_self wr (.cells #[.int .i64 (x : Int), .int .i64 (y : Int)] 39)))
                have O5 := Lib.hid (ownsRow_below O4.out (below_self wr (.cells #[.int .i64 (x : Int), .int .i64 (y : Int)] 39)))
                have V5 := Lib.hid (Blk.new wr 39 #[.int .i64 (x : Int), .int .i64 (y : Int)] (g := wr.heap.size) rfl)
                have p5 := E5.out.get
                have q5 := V5.out.cell
                clear E4 O4
                go_wp2_with fail
                refine (HSD.out x y _ hlt (by omega) E5.out.bel).mono ?_
                rintro e W5 ⟨rfl, b5⟩
                have E6 := Lib.hid (E5.out.below b5)
                have O6 := Lib.hid (ownsRow_below O5.out b5)
                have V6 := Lib.hid (blk_keep b5 V5.out)
                clear b5 E5 O5 V5 p5 q5
                have p6 := E6.out.get
                have q6 := V6.out.cell
                cases hsd : sd x y
                · have w7 : IntKind.i64.wrap ((y : Int) + 1) = (y : Int) + 1 := IntWalk.i64_in _ (by omega)
                  clear hsd
                  go_wp2_with fail
                  go_roundw
                  case rel => exact ⟨y + 1, true, Al, cl, ps, by go_num, rfl, rfl, O6.out, E6.out, S4.out, fun p hp => (X4.out p hp).imp id (fun h => ⟨rfl, h.2.1, by have := h.2.2; omega⟩), by have := C4.out; omega, C5.out, by omega⟩
                  case measure => simp [intOf]; omega
                · have w7 : IntKind.i64.wrap (wide + kerf) = wide + kerf := IntWalk.i64_in _ (by omega)
                  obtain ⟨y9, hy9⟩ : ∃ y9 : Nat, (y9 : Int) = (y : Int) + (wide + kerf) := ⟨((y : Int) + (wide + kerf)).toNat, by omega⟩
                  have w8 : IntKind.i64.wrap ((y : Int) + (wide + kerf)) = (y9 : Int) := by rw [← hy9]; exact IntWalk.i64_in _ (by omega)
                  have HY9 := Lib.hid hy9
                  clear hy9
                  have hl := C4.out
                  have hl2 := C5.out
                  have E7 := Lib.hid (E6.out.below (below_self W5 (.cells #[.int .i64 (x : Int), .int .i64 (y : Int)] 39)))
                  have O7 := Lib.hid (ownsRow_below O6.out (below_self W5 (.cells #[.int .i64 (x : Int), .int .i64 (y : Int)] 39)))
                  have hSN := Lib.hid (S4.out.snoc hlt (by omega) hsd (fun p hp => (X4.out p hp).imp id (fun h => h.2)))
                  clear hsd
                  go_wp2_with (at_builtin; refine wpList_append_any rfl _ _ 54 rfl (w.heap.size + 1 + 1) 39 i0 (.agg #[.int .i64 0, .int .i64 0]) 2 16 Try.underlying54 hi0 hz0 hz1 hz2 rfl (by decide) (.slice Al ps.length cl) ps.length (flat2 ps) rfl O7.out (some ⟨W5.heap.size, 0, none⟩) 1 1 [.int .i64 (x : Int), .int .i64 (y : Int)] rfl (reads_of_blk (Blk.new W5 _ _ rfl) rfl rfl) ?d1 ?d2 ?d3 ?d4 ?d5)
                  case d1 =>
                    intro u hu
                    simp only [List.mem_cons, List.not_mem_nil, or_false] at hu
                    rcases hu with rfl | rfl <;> rfl
                  case d2 => unfold maxLen; omega
                  case d3 => omega
                  case d4 => have := E6.out.bel.size; have := E6.out.s.lt; simp; omega
                  case d5 =>
                    intro v8 W8 hown hgrow
                    have E8 := Lib.hid (E7.out.grown O7.out (by decide) (by decide) (by omega) hgrow)
                    have hown2 : W8.ownsRow (w.heap.size + 1 + 1) 39 2 v8 (ps ++ [((x : Int), (y : Int))]).length (flat2 (ps ++ [((x : Int), (y : Int))])) := by rw [flat2_append, List.length_append]; exact hown
                    obtain ⟨A9, c9, rfl, _⟩ := own_slice_le hown2
                    have O8 := Lib.hid hown2
                    have p8 := E8.out.get
                    have hL : (ps ++ [((x : Int), (y : Int))]).length = ps.length + 1 := by simp
                    have HL := Lib.hid hL
                    have X8 := Lib.hid (show ∀ p ∈ ps ++ [((x : Int), (y : Int))], p.1 + (long + across) ≤ x ∨ (true = true ∧ p.1 = x ∧ p.2 + (wide + kerf) ≤ y + (wide + kerf)) from fun p hp => by
                      rcases List.mem_append.1 hp with h | h
                      · exact (X4.out p h).imp id (fun h => ⟨rfl, h.2.1, by have := h.2.2; omega⟩)
                      · rw [List.mem_singleton.1 h]
                        exact .inr ⟨rfl, rfl, Int.le_refl _⟩)
                    clear hown hown2 hgrow E7 O7 E6 O6 V6 p6 q6 hL X4 S4
                    rw [← HY9.out] at X8
                    generalize ps ++ [((x : Int), (y : Int))] = ps9 at *
                    go_wp2_with fail
                    go_roundw
                    case rel => exact ⟨y9, true, A9, c9, ps9, rfl, rfl, rfl, O8.out, E8.out, hSN.out, X8.out, by have := HL.out; have := HY9.out; omega, by have := HL.out; omega, by have := HY9.out; omega⟩
                    case measure => have := HY9.out; simp [intOf]; omega
              · have w7 : IntKind.i64.wrap (long + across) = long + across := IntWalk.i64_in _ (by omega)
                have w8 : IntKind.i64.wrap (long + across - 1) = long + across - 1 := IntWalk.i64_in _ (by omega)
                obtain ⟨x9, hx9⟩ : ∃ x9 : Nat, (x9 : Int) = (x : Int) + (long + across - 1) := ⟨((x : Int) + (long + across - 1)).toNat, by omega⟩
                have w9 : IntKind.i64.wrap ((x : Int) + (long + across - 1)) = (x9 : Int) := by rw [← hx9]; exact IntWalk.i64_in _ (by omega)
                have w10 : IntKind.i64.wrap ((x9 : Int) + 1) = (x9 : Int) + 1 := IntWalk.i64_in _ (by omega)
                have HX := Lib.hid hx9
                clear hx9
                have p4 := E4.out.get
                go_wp2_with fail
                go_roundw
                case rel => exact ⟨x9 + 1, a + 1, Al, cl, ps, by go_num, by go_num, rfl, O4.out, E4.out, S4.out, fun p hp => by
                  have := HX.out
                  rcases X4.out p hp with h | h <;> omega, by have := C5.out; have := HX.out; omega, by have := HX.out; omega, by have := HX.out; omega⟩
                case measure => have := HX.out; simp [intOf]; omega
    · go_wp2_with fail
      go_ret
      exact ⟨Al, cl, ps, rfl, own_lower O2.out (by omega), S2.out, by have := C2.out; omega, E2.out.bel⟩
end Go.Proofs.Ytiflhimmieflpaa

/- Pure facts: what is sound in the truth is sound in a best truth; no layout of sound sticks is longer than the count. -/
namespace Go.Proofs.Ytiflhimmieflpaa
open Go.RowKit Go.Maps

theorem filter_len {α : Type} (p : α → Bool) : ∀ l : List α, (l.filter p).length + (l.filter fun x => !p x).length = l.length
  | [] => rfl
  | a :: l => by
    have h := filter_len p l
    cases hp : p a
    · rw [List.filter_cons_of_neg (by rw [hp]; simp), List.filter_cons_of_pos (by rw [hp]; rfl), List.length_cons, List.length_cons]; omega
    · rw [List.filter_cons_of_pos hp, List.filter_cons_of_neg (by rw [hp]; simp), List.length_cons, List.length_cons]; omega
theorem pw_or {α : Type} {R : α → α → Prop} {l : List α} (h : l.Pairwise R) {a b : α} (ha : a ∈ l) (hb : b ∈ l) : a = b ∨ R a b ∨ R b a := by
  obtain ⟨i, hi, rfl⟩ := List.getElem_of_mem ha
  obtain ⟨j, hj, rfl⟩ := List.getElem_of_mem hb
  rcases Nat.lt_trichotomy i j with h1 | h1 | h1
  · exact .inr (.inl (List.pairwise_iff_getElem.1 h i j hi hj h1))
  · subst h1
    exact .inl rfl
  · exact .inr (.inr (List.pairwise_iff_getElem.1 h j i hj hi h1))
/-- A place on the blade, from a column on, that is surely sound. -/
def PlaceIn (B : Bl) (s : Sw) (x : Nat) (p : Int × Int) : Prop := ∃ z y : Nat, p = ((z : Int), (y : Int)) ∧ x ≤ z ∧ (z : Int) + s.long ≤ B.n ∧ y ≤ 300 ∧ soundS (B.worst s) z y = true
section
variable {B : Bl} {s : Sw}
theorem bn_gcount (hok : B.Ok) (hs : s.Ok) (hc : B.cerr = 0) (hb : B.bot.length = B.n) (ht : B.top.length = B.n') {x : Nat} (hx : (x : Int) + s.long ≤ B.n) : bn (B.worst s) B.n x = gcount (fineV (sureV B none none none 0 0 0) s x) (stV s) 0 := by
  obtain ⟨l, hl⟩ := Int.eq_ofNat_of_zero_le (show 0 ≤ s.long by have := hs.l1; omega)
  have e1 := ref_LL (TA := none) (TB := none) (K := none) (c := 0) (c' := 0) (d := 0) hok hs hc hb ht hl x (by omega)
  unfold bn
  rw [show (B.worst s).long = s.long from rfl, hl, Int.toNat_natCast, ← e1]
  unfold refBlockL
  rw [List.length_map]
  rfl
/-- Sound sticks of one column are no more than its block's. -/
theorem col_short (hok : B.Ok) (hs : s.Ok) (hc : B.cerr = 0) (hb : B.bot.length = B.n) (ht : B.top.length = B.n') {x : Nat} (hx : (x : Int) + s.long ≤ B.n) (ps : List (Int × Int)) (hp : ps.Pairwise (Behind (s.wide + s.kerf) (s.long + s.across))) (hm : ∀ p ∈ ps, ∃ y : Nat, p = ((x : Int), (y : Int)) ∧ y ≤ 300 ∧ soundS (B.worst s) x y = true) : ps.length ≤ bn (B.worst s) B.n x := by
  rw [bn_gcount hok hs hc hb ht hx]
  have l1 := hs.l1
  have a1 := hs.a1
  have w1 := hs.w1
  have k1 := hs.k1
  have h := gcount_most (fine := fineV (sureV B none none none 0 0 0) s x) (st := stV s) (by unfold stV; omega) (ps.map fun p => p.2.toNat) 0 (fun z hz => by
    obtain ⟨p, hp, rfl⟩ := List.mem_map.1 hz
    obtain ⟨y, rfl, h3, h4⟩ := hm p hp
    refine ⟨?_, ?_, Nat.zero_le _⟩
    · show fineV (sureV B none none none 0 0 0) s x y = true
      unfold fineV
      rw [sound_sure hs hc]
      exact h4
    · show y ≤ 300
      exact h3) (by
    rw [List.pairwise_map]
    refine hp.imp_of_mem fun {a b} ha hb' h => ?_
    obtain ⟨y, rfl, -, -⟩ := hm a ha
    obtain ⟨y', rfl, -, -⟩ := hm b hb'
    unfold Behind at h
    unfold stV
    show y + _ ≤ y'
    simp only at h
    omega)
  rwa [List.length_map] at h
/-- No layout of surely sound sticks is longer than the count. -/
theorem layout_short (hok : B.Ok) (hs : s.Ok) (hc : B.cerr = 0) (hb : B.bot.length = B.n) (ht : B.top.length = B.n') : ∀ (d x : Nat) (ps : List (Int × Int)), B.n - x ≤ d → ps.Pairwise (Behind (s.wide + s.kerf) (s.long + s.across)) → (∀ p ∈ ps, PlaceIn B s x p) → (ps.length : Int) ≤ aheadAt (B.worst s) B.n B.n x := by
  have l1 := hs.l1
  have a1 := hs.a1
  have hst : stepN (B.worst s) = s.long.toNat + s.across.toNat := rfl
  have hs1 : 1 ≤ stepN (B.worst s) := by omega
  intro d
  induction d with
  | zero =>
    intro x ps hd hp hm
    cases ps with
    | nil => rw [ahead_end _ _ _ (by omega)]; simp
    | cons p ps =>
      obtain ⟨z, y, -, h1, h2, -⟩ := hm p (by simp)
      omega
  | succ d ih =>
    intro x ps hd hp hm
    by_cases hx : x < B.n
    · obtain ⟨one, ho⟩ : ∃ l, ps.filter (fun p => decide (p.1 = (x : Int))) = l := ⟨_, rfl⟩
      obtain ⟨rest, hr⟩ : ∃ l, ps.filter (fun p => !decide (p.1 = (x : Int))) = l := ⟨_, rfl⟩
      have hlen := filter_len (fun p : Int × Int => decide (p.1 = (x : Int))) ps
      rw [ho, hr] at hlen
      have ho1 : ∀ p ∈ one, p ∈ ps ∧ p.1 = x := fun p hq => by
        rw [← ho, List.mem_filter, decide_eq_true_eq] at hq
        exact hq
      have hr1 : ∀ p ∈ rest, p ∈ ps ∧ p.1 ≠ x := fun p hq => by
        rw [← hr, List.mem_filter] at hq
        exact ⟨hq.1, by simpa using hq.2⟩
      have hpo : one.Pairwise (Behind (s.wide + s.kerf) (s.long + s.across)) := by rw [← ho]; exact hp.filter _
      have hpr : rest.Pairwise (Behind (s.wide + s.kerf) (s.long + s.across)) := by rw [← hr]; exact hp.filter _
      rw [ahead_step _ _ _ hs1 hx]
      cases hone : one with
      | nil =>
        rw [hone, List.length_nil] at hlen
        have := ih (x + 1) rest (by omega) hpr (fun p hq => by
          obtain ⟨h1, h2⟩ := hr1 p hq
          obtain ⟨z, y, rfl, h3, h4, h5, h6⟩ := hm p h1
          exact ⟨z, y, rfl, by simp only at h2; omega, h4, h5, h6⟩)
        omega
      | cons q one' =>
        have hq := ho1 q (by rw [hone]; simp)
        obtain ⟨zq, yq, rfl, h3, h4, h5, h6⟩ := hm q hq.1
        have hzq : zq = x := by have := hq.2; simp only at this; omega
        subst hzq
        have h1 := col_short hok hs hc hb ht h4 one hpo (fun p hp1 => by
          obtain ⟨g1, g2⟩ := ho1 p hp1
          obtain ⟨z, y, rfl, k3, k4, k5, k6⟩ := hm p g1
          simp only at g2
          have : z = zq := by omega
          subst this
          exact ⟨y, rfl, k5, k6⟩)
        have h2 := ih (zq + stepN (B.worst s)) rest (by omega) hpr (fun p hp1 => by
          obtain ⟨g1, g2⟩ := hr1 p hp1
          obtain ⟨z, y, rfl, k3, k4, k5, k6⟩ := hm p g1
          simp only at g2
          refine ⟨z, y, rfl, ?_, k4, k5, k6⟩
          rcases pw_or hp hq.1 g1 with e | e | e
          · exact absurd (congrArg Prod.fst e).symm g2
          · unfold Behind at e
            simp only at e
            omega
          · unfold Behind at e
            simp only at e
            omega)
        rw [hone] at h1 hlen
        omega
    · cases ps with
      | nil => rw [ahead_end _ _ _ (by omega)]; simp
      | cons p ps =>
        obtain ⟨z, y, -, h1, h2, -⟩ := hm p (by simp)
        omega
end
/-- Columns within the spans of the cracks are among those that are tried. -/
theorem cols_mem : ∀ (cs : List Crack) (p r : List Int), r.length = cs.length → (∀ i, i < cs.length → (cs.getD i Crack.zero).cl ≤ r.getD i 0 ∧ r.getD i 0 ≤ (cs.getD i Crack.zero).ch) → p ++ r ∈ colsFrom cs p
  | [], p, r, hl, _ => by
    rw [List.length_eq_zero_iff.1 hl, List.append_nil]
    exact List.mem_singleton.2 rfl
  | c :: cs, p, [], hl, _ => by simp at hl
  | c :: cs, p, v :: r, hl, h => by
    have h0 := h 0 (by simp)
    simp only [List.getD_cons_zero] at h0
    have hi := cols_mem cs (p ++ [v]) r (by simpa using hl) (fun i hi => by
      have := h (i + 1) (by simpa using hi)
      simpa using this)
    rw [colsFrom, List.mem_flatMap]
    refine ⟨(v - c.cl).toNat, List.mem_range.2 (by omega), ?_⟩
    have e : c.cl + (((v - c.cl).toNat : Nat) : Int) = v := by omega
    rw [e]
    simpa using hi
section
variable {B : Bl} {L H : Nat → Int} {s : Sw} {lo hi : List Int} {ck : List Tri}
theorem real_cols (hck : RealOf B.cr ck) : ck.map (·.1) ∈ colsFrom B.cr [] := by
  have h := cols_mem B.cr [] (ck.map (·.1)) (by rw [List.length_map, hck.len]) (fun i hi => by
    have h := hck.at_ i hi
    have e : (ck.map (·.1)).getD i 0 = (ck.getD i (0, 0, 0)).1 := by
      have hi2 : i < ck.length := by rw [hck.len]; exact hi
      simp [List.getD, hi2]
    rw [e]
    exact ⟨h.1, h.2.1⟩)
  simpa using h
/-- What is sound in the truth is sound in the best truth with the cracks where they are. -/
theorem truth_best (hF : BF B L H) (hs : s.Ok) (hlo : ∀ i, i < B.n → lo.getD i 0 = L i) (hhi : ∀ i, i < B.n → hi.getD i 0 = H i) (hck : RealOf B.cr ck) {z y : Nat} (hz : (z : Int) + s.long ≤ B.n)
    (h : soundT lo hi ck s.long s.wide z y = true) : soundS (B.bestX s (ck.map (·.1))) z y = true := by
  have hl1 := hs.l1
  unfold soundT at h
  rw [Bool.and_eq_true, List.all_eq_true, List.all_eq_true] at h
  obtain ⟨h1, h2⟩ := h
  have hcol : ∀ j : Nat, (j : Int) < s.long → L (z + j) ≤ y ∧ (y : Int) + s.wide ≤ H (z + j) := fun j hj => by
    have a := h1 j (List.mem_range.2 (by omega))
    unfold colT at a
    rw [hlo _ (by omega), hhi _ (by omega), Bool.and_eq_true, decide_eq_true_eq, decide_eq_true_eq] at a
    exact a
  unfold soundS
  simp only [Bool.and_eq_true, decide_eq_true_eq]
  refine ⟨⟨?_, ?_⟩, ?_⟩
  · show maxTo (((B.bestX s (ck.map (·.1))).bottom.drop z).take s.long.toNat) (s.long.toNat - 1) ≤ y
    rw [maxTo_le]
    intro j hj
    rw [window _ _ _ _ (by omega)]
    have q2 : (B.bestX s (ck.map (·.1))).bottom = (bentL B.bot B.bend).map (·.1) := rfl
    rw [q2, (map_getD2 _ _).2]
    have := truth_bent hF.tb (z + j) (by rw [hF.lb]; omega)
    have := hcol j (by omega)
    omega
  · show (y : Int) + s.wide ≤ minTo (((B.bestX s (ck.map (·.1))).top.drop z).take s.long.toNat) (s.long.toNat - 1)
    rw [le_minTo]
    intro j hj
    rw [window _ _ _ _ (by omega)]
    have q2 : (B.bestX s (ck.map (·.1))).top = (bentL B.top B.bend).map (·.2) := rfl
    rw [q2, (map_getD2 _ _).1]
    have := truth_bent hF.tt (z + j) (by rw [hF.lt]; omega)
    have := hcol j (by omega)
    omega
  · have q2 : (B.bestX s (ck.map (·.1))).splits = bestSplits (ck.map (·.1)) B.cr := rfl
    rw [q2]
    unfold noneOf
    rw [List.all_eq_true]
    intro k hk
    obtain ⟨i, hi, rfl⟩ := List.getElem_of_mem hk
    have hi0 := hi
    rw [bestSplits_length, List.length_map, hck.len] at hi0
    have hi2 : i < B.cr.length := by omega
    have hi3 : i < ck.length := by rw [hck.len]; exact hi2
    have e : (bestSplits (ck.map (·.1)) B.cr)[i] = bestSplit ck[i].1 B.cr[i] := by
      simp [bestSplits]
    rw [e]
    have b := hck.at_ i hi2
    have g1 : B.cr.getD i Crack.zero = B.cr[i] := by simp [List.getD, hi2]
    have g2 : ck.getD i (0, 0, 0) = ck[i] := by simp [List.getD, hi3]
    rw [g1, g2] at b
    have a := h2 ck[i] (List.getElem_mem hi3)
    have l3 : (B.bestX s (ck.map (·.1))).long = s.long := rfl
    have l4 : (B.bestX s (ck.map (·.1))).wide = s.wide := rfl
    unfold crkT at a
    unfold spoilB bestSplit
    rw [l3, l4]
    simp only [Bool.not_eq_true', Bool.and_eq_false_iff, decide_eq_false_iff_not] at a ⊢
    omega
/-- A layout of sticks that are sound in the truth is no longer than Possible says. -/
theorem sawn_short (hF : BF B L H) (hs : s.Ok) (hlo : ∀ i, i < B.n → lo.getD i 0 = L i) (hhi : ∀ i, i < B.n → hi.getD i 0 = H i) (hck : RealOf B.cr ck) {ps : List (Int × Int)} (h : Sawn B.n (soundT lo hi ck s.long s.wide) s.long (s.wide + s.kerf) (s.long + s.across) ps) : (ps.length : Int) ≤ (possTo B s (colsFrom B.cr [])).1 := by
  have hc := hF.ok
  have hb := hF.lb
  have ht : B.top.length = B.n' := by rw [hF.lt, hF.nn]
  have hx := real_cols hck
  have hc' : (B.tight (ck.map (·.1))).cerr = 0 := tight_cerr hb ht hc hx
  have hok' : (B.tight (ck.map (·.1))).Ok := curveErr_ok hc'
  have h1 := layout_short (B := B.tight (ck.map (·.1))) (s := s) hok' hs hc' (by simp [Bl.tight, lowsL, bentL_length, hb]) (by simp [Bl.tight, highsL, bentL_length, ht]) B.n 0 ps (Nat.sub_le _ _) h.pw (fun p hp => by
    obtain ⟨z, y, rfl, h3, h4, h5⟩ := h.mem p hp
    refine ⟨z, y, rfl, Nat.zero_le _, h3, h4, ?_⟩
    rw [worst_tight _ hc]
    exact truth_best hF hs hlo hhi hck h3 h5)
  rw [worst_tight _ hc] at h1
  have h2 := (possTo_ge (B := B) (s := s) (colsFrom B.cr []) (-1, [])).2 _ hx
  have h3 : aheadAt (B.bestX s (ck.map (·.1))) (B.tight (ck.map (·.1))).n (B.tight (ck.map (·.1))).n 0 = countL (B.bestX s (ck.map (·.1))) B.n := rfl
  unfold possTo
  omega
/-- A stick that is sound in the truth is possibly sound. -/
theorem truth_poss (hF : BF B L H) (hs : s.Ok) (hlo : ∀ i, i < B.n → lo.getD i 0 = L i) (hhi : ∀ i, i < B.n → hi.getD i 0 = H i) (hck : RealOf B.cr ck) {z y : Nat} (hz : (z : Int) + s.long ≤ B.n)
    (h : soundT lo hi ck s.long s.wide z y = true) : possB B s z y = true := by
  unfold possB
  rw [List.any_eq_true]
  exact ⟨_, real_cols hck, truth_best hF hs hlo hhi hck hz h⟩
end
end Go.Proofs.Ytiflhimmieflpaa
