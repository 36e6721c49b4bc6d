/- Walks: slices.Repeat of one gap, repeated. -/
import Derived.Test.YtdekickmplkdiaaRl
import Derived.Test.YtdekickmplkdiaaRs
import Derived.Laws.OwnMore
import Derived.Laws.CopyOwn
import Derived.IntWalk
namespace Go.Proofs.Ytdekickmplkdiaa
open Go.RowKit

theorem mul1_any (k : Nat) (hk : k ≤ 1000) (w : World) : Calls Try.prog 121 #[.int .u64 1, .int .u64 k] w fun e w' => e = .returned (.tuple #[.int .u64 0, .int .u64 k]) ∧ w' = w := by
  refine (bits_Mul 1 k (by omega) (by omega) w).mono ?_
  rintro e w' ⟨rfl, rfl⟩
  refine ⟨?_, rfl⟩
  have h1 : 1 * k / 18446744073709551616 = 0 := by omega
  have h2 : 1 * k % 18446744073709551616 = k := by omega
  rw [h1, h2]; rfl
theorem run_copy_n {P : Program} (w : World) (dT sT ty elem : TypeId) (size : Nat) (g o dLen dCap : Nat) (a : Addr) (sLen sCap : Nat) (cur : Array Value) (t : TypeId) (cs : List Value)
    (hu : P.underlying dT = some (.slice elem)) (hs : (P.info? elem).map (·.size) = some size)
    (hg : w.heap[g]? = some (.cells cur t (0, 0))) (hn : cs.length = Nat.min sLen dLen * size)
    (hsrc : ∀ j v, cs[j]? = some v → w.cell? (a.add j) = some v) (hfit : o + cs.length ≤ cur.size) (h1 : ∀ v ∈ cs, v.oneCell' = true) :
    (Builtin.copy_ #[dT, sT] ty #[.slice (some ⟨g, o, none⟩) dLen dCap, .slice (some a) sLen sCap]).run P w =
      .ok (goInt (Nat.min sLen dLen)) (w.setRow g (cur.toList.take o ++ cs ++ cur.toList.drop (o + cs.length)).toArray) := by
  have hl := run_loadCells_list (P := P) w a cs hsrc
  have hst := run_storeCells_at P g o t cs 0 cur w hg (by simpa using hfit) h1
  cases hq : P.info? elem with
  | none => simp [hq] at hs
  | some i =>
    have hi : i.size = size := by simpa [hq] using hs
    simp [Builtin.copy_, run_underlying hu, Builtin.lenOf, Builtin.firstCells, sizeOf, typeInfo, hq, hi, ← hn, hl, hst]
theorem wpList_copy_n {P : Program} {w : World} {ops : Array Oper} {rest : List Oper} {o : Oper} {a : Act} {Q : Exit → Act → World → Prop} (hgd : o.guard = none) (d s : Operand) (dT sT : TypeId)
    (ho : o.op = .call { callee := .builtin .copy, args := #[d, s], argTypes := #[dT, sT] }) (elem : TypeId) (size : Nat) (hu : P.underlying dT = some (.slice elem)) (hsz : (P.info? elem).map (·.size) = some size)
    (g off dLen dCap : Nat) (ad : Addr) (sLen sCap : Nat) (hd : a.eval d = .slice (some ⟨g, off, none⟩) dLen dCap) (hs : a.eval s = .slice (some ad) sLen sCap)
    (cur : Array Value) (t : TypeId) (hg : w.heap[g]? = some (.cells cur t (0, 0))) (cs : List Value) (hn : cs.length = Nat.min sLen dLen * size)
    (hsrc : ∀ j v, cs[j]? = some v → w.cell? (ad.add j) = some v) (hfit : off + cs.length ≤ cur.size) (h1 : ∀ v ∈ cs, v.oneCell' = true)
    (h : wpList P ops Q rest (a.put o.dst (goInt (Nat.min sLen dLen))) (w.setRow g (cur.toList.take off ++ cs ++ cur.toList.drop (off + cs.length)).toArray)) : wpList P ops Q (o :: rest) a w := by
  refine wpList_plain hgd fun K hK => ?_
  have hrun := run_copy_n (P := P) w dT sT o.type elem size g off dLen dCap ad sLen sCap cur t cs hu hsz hg hn hsrc hfit h1
  unfold Oper.wp
  simp only [execOp, ho, resolve, invoke, builtin]
  simp [hd, hs, hrun, Result.andThen]
  exact hK _ _ (by simpa using h)
theorem step_copy_n {P : Program} {ops : Array Oper} {o : Oper} {a : Act} {w : World} {K : Act → World → Prop} {Q : Exit → Act → World → Prop} {E : Prop} (hgd : o.guard = none) (d s : Operand) (dT sT : TypeId)
    (ho : o.op = .call { callee := .builtin .copy, args := #[d, s], argTypes := #[dT, sT] }) (elem : TypeId) (size : Nat) (hu : P.underlying dT = some (.slice elem)) (hsz : (P.info? elem).map (·.size) = some size)
    (g off dLen dCap : Nat) (ad : Addr) (sLen sCap : Nat) (hd : a.eval d = .slice (some ⟨g, off, none⟩) dLen dCap) (hs : a.eval s = .slice (some ad) sLen sCap)
    (cur : Array Value) (t : TypeId) (hg : w.heap[g]? = some (.cells cur t (0, 0))) (cs : List Value) (hn : cs.length = Nat.min sLen dLen * size)
    (hsrc : ∀ j v, cs[j]? = some v → w.cell? (ad.add j) = some v) (hfit : off + cs.length ≤ cur.size) (h1 : ∀ v ∈ cs, v.oneCell' = true)
    (h : K (a.put o.dst (goInt (Nat.min sLen dLen))) (w.setRow g (cur.toList.take off ++ cs ++ cur.toList.drop (off + cs.length)).toArray)) : if Region.wanted o (yielded ops a.tmps) = true then Oper.wp P o a w K Q else E := by
  have hw : Region.wanted o (yielded ops a.tmps) = true := by simp [Region.wanted, hgd]
  rw [if_pos hw]
  have hrun := run_copy_n (P := P) w dT sT o.type elem size g off dLen dCap ad sLen sCap cur t cs hu hsz hg hn hsrc hfit h1
  unfold Oper.wp
  simp only [execOp, ho, resolve, invoke, builtin]
  simp [hd, hs, hrun, Result.andThen]
  exact (by simpa using h : K (a.put o.dst (goInt (Nat.min sLen dLen))) (w.setRow g (cur.toList.take off ++ (cs ++ cur.toList.drop (off + cs.length))).toArray))

def repL (m : Nat) (y : Gap) : List Value := flatG (List.replicate m y)
theorem repL_length (m : Nat) (y : Gap) : (repL m y).length = m * 4 := by simp [repL, flatG_length]
theorem repL_add (m q : Nat) (y : Gap) : repL (m + q) y = repL m y ++ repL q y := by unfold repL; rw [← List.replicate_append_replicate, flatG_append]
/-- A row of k gaps of which the first m are y. -/
def Filled (w : World) (g k m : Nat) (y : Gap) : Prop := ∃ cs : Array Value, Blk w g 42 cs ∧ cs.size = k * 4 ∧ cs.toList.take (m * 4) = repL m y
theorem Filled.copy {w : World} {g k m q : Nat} {y : Gap} (h : Filled w g k m y) (hq : m + q ≤ k) (hqm : q ≤ m) :
    ∃ cs : Array Value, Blk w g 42 cs ∧ m * 4 + (repL q y).length ≤ cs.size ∧ (∀ j v, (repL q y)[j]? = some v → w.cell? ((⟨g, 0, none⟩ : Addr).add j) = some v) ∧
      Filled (w.setRow g (cs.toList.take (m * 4) ++ repL q y ++ cs.toList.drop (m * 4 + (repL q y).length)).toArray) g k (m + q) y := by
  obtain ⟨cs, h1, h2, h3⟩ := h
  refine ⟨cs, h1, by rw [repL_length]; omega, fun j v hj => ?_, _, h1.setRow _, ?_, ?_⟩
  · rw [addr_add, Nat.zero_add, h1.cell]
    have hj2 : j < q * 4 := by rw [← repL_length q y]; exact (List.getElem?_eq_some_iff.1 hj).1
    have e : repL m y = repL q y ++ repL (m - q) y := by rw [← repL_add]; congr 1; omega
    have : (repL m y)[j]? = some v := by rw [e, List.getElem?_append_left (by rw [repL_length]; exact hj2)]; exact hj
    rw [← h3, List.getElem?_take] at this
    rw [← Array.getElem?_toList]
    split at this
    · exact this
    · simp at this
  · simp only [List.size_toArray, List.length_append, List.length_take, List.length_drop, Array.length_toList, repL_length, h2]
    omega
  · rw [h3, repL_add]
    simp only [List.append_assoc]
    rw [← List.append_assoc, List.take_append_of_le_length (by rw [List.length_append, repL_length, repL_length]; omega)]
    exact List.take_of_length_le (by rw [List.length_append, repL_length, repL_length]; omega)
theorem Filled.first {w : World} {g k : Nat} {y : Gap} {cs : Array Value} (h : Blk w g 42 cs) (hs : cs.size = k * 4) (hk : 1 ≤ k) : Filled (w.setRow g (cs.toList.take 0 ++ repL 1 y ++ cs.toList.drop (0 + (repL 1 y).length)).toArray) g k 1 y := by
  refine ⟨_, h.setRow _, ?_, ?_⟩
  · simp only [List.size_toArray, List.length_append, List.length_take, List.length_drop, Array.length_toList, repL_length, hs]; omega
  · simp only [List.take_zero, List.nil_append]
    rw [List.take_append_of_le_length (by rw [repL_length]; omega)]
    exact List.take_of_length_le (by rw [repL_length]; omega)
theorem Filled.gaps {w : World} {g k : Nat} {y : Gap} (h : Filled w g k k y) : Gaps w (some ⟨g, 0, none⟩) k (List.replicate k y) := by
  obtain ⟨cs, h1, h2, h3⟩ := h
  refine ⟨by rw [flatG_length, List.length_replicate], fun _ => ⟨g, 0, rfl, h1.lt, fun j u hj => ?_⟩⟩
  rw [Nat.zero_add, h1.cell]
  have hj' : (repL k y)[j]? = some u := hj
  rw [← h3, List.getElem?_take] at hj'
  rw [← Array.getElem?_toList]
  split at hj'
  · exact hj'
  · simp at hj'

def RepRes (w : World) (k : Nat) (y : Gap) (e : Ending) (w' : World) : Prop := ∃ g, e = .returned (.slice (some ⟨g, 0, none⟩) k k) ∧ Gaps w' (some ⟨g, 0, none⟩) k (List.replicate k y) ∧ w.heap.size ≤ g ∧ Below w.heap.size w w'

set_option maxRecDepth 100000 in
set_option maxHeartbeats 2000000 in
theorem repeat_any (y : Gap) (b off c k : Nat) (w : World) (h : Gaps w (some ⟨b, off, none⟩) 1 [y]) (hk : k ≤ 1000) :
    Calls Try.prog 112 #[.slice (some ⟨b, off, none⟩) 1 c, .int .i64 k] w (RepRes w k y) := by
  obtain ⟨i0, hi0, hz0, hz1, hz2⟩ := info_parts Try.infoGap
  have hmk : ∀ W : World, (Instr.makeSlice 24 (.int .i64 (k : Int)) (.int .i64 (k : Int))).run Try.prog W = .ok (.slice (some ⟨W.heap.size, 0, none⟩) k k) (W.alloc (.cells (madeCells #[.int .i64 0, .int .i64 0, .int .i64 0, .int .i64 0] (k * 4)) 42)) := fun W => by
    have := run_make (P := Try.prog) W 24 42 i0 _ Try.underlying24 hi0 hz0 .i64 .i64 (k : Int) (k : Int) (by omega) (Int.le_refl _) (by rw [hz2]; omega) (by omega)
    rw [hz1] at this
    simpa [Value.cells] using this
  have hsz : (Try.prog.info? 42).map (·.size) = some 4 := by rw [hi0]; simp [hz1]
  have HM := Lib.hid (mul1_any k hk)
  have HMK := Lib.hid hmk
  have HSZ := Lib.hid hsz
  clear hsz
  have B1 := Lib.hid (below_self w (.cells (madeCells #[.int .i64 0, .int .i64 0, .int .i64 0, .int .i64 0] (k * 4)) 42))
  have R1 := Lib.hid (Blk.new w 42 (madeCells #[.int .i64 0, .int .i64 0, .int .i64 0, .int .i64 0] (k * 4)) rfl)
  have HS1 := Lib.hid (size_madeCells #[Value.int .i64 0, .int .i64 0, .int .i64 0, .int .i64 0] (k * 4))
  have H1 := Lib.hid ((h.below B1.out).2 (by omega))
  have hk0 : (0 : Int) ≤ (k : Int) := Int.natCast_nonneg _
  clear h
  generalize madeCells #[Value.int .i64 0, .int .i64 0, .int .i64 0, .int .i64 0] (k * 4) = cz at *
  rcases Nat.eq_zero_or_pos k with rfl | hp
  · have hmk0 : ∀ W : World, (Instr.makeSlice 24 (.int .i64 0) (.int .i64 0)).run Try.prog W = .ok (.slice (some ⟨W.heap.size, 0, none⟩) 0 0) (W.alloc (.cells cz 42)) := HMK.out
    obtain ⟨W2, hW2⟩ : ∃ W2, W2 = (w.alloc (.cells cz 42)).setRow w.heap.size (cz.toList.take 0 ++ [] ++ cz.toList.drop (0 + ([] : List Value).length)).toArray := ⟨_, rfl⟩
    have hcp : (Builtin.copy_ #[24, 24] 3 #[.slice (some ⟨w.heap.size, 0, none⟩) 0 0, .slice (some ⟨b, off, none⟩) 1 c]).run Try.prog (w.alloc (.cells cz 42)) = .ok (.int .i64 0) W2 := by
      rw [hW2]; exact run_copy_n (P := Try.prog) _ 24 24 3 42 4 w.heap.size 0 0 0 ⟨b, off, none⟩ 1 c cz 42 [] Try.underlying24 HSZ.out R1.out rfl (fun j v hj => by simp at hj) (by simp) (fun v hv => by simp at hv)
    have B2 : Hid (Below w.heap.size w W2) := by unfold Hid; rw [hW2]; exact below_setR B1.out (Nat.le_refl _) _
    have HW2 := Lib.hid hW2
    clear hmk hW2
    go_enter Try.func112, Try.ntmps112
    go_wp2_with (go_at_call 121; refine (HM.out _).mono ?_; rintro e w9 ⟨rfl, hw9⟩; rw [hw9]; clear hw9)
    go_loopw [8] (fun i wr => i = .int .i64 0 ∧ wr = W2) (fun _ _ => 0)
    case atStart => exact ⟨rfl, rfl⟩
    case round =>
      obtain ⟨rfl, rfl⟩ := hrel
      go_wp2
      go_ret
      exact ⟨w.heap.size, rfl, ⟨by simp [flatG], fun h => absurd h (by omega)⟩, Nat.le_refl _, B2.out⟩
  · obtain ⟨W2, hW2⟩ : ∃ W2, W2 = (w.alloc (.cells cz 42)).setRow w.heap.size (cz.toList.take 0 ++ repL 1 y ++ cz.toList.drop (0 + (repL 1 y).length)).toArray := ⟨_, rfl⟩
    have hmin : Nat.min 1 k = 1 := Nat.min_eq_left hp
    have hcp : (Builtin.copy_ #[24, 24] 3 #[.slice (some ⟨w.heap.size, 0, none⟩) k k, .slice (some ⟨b, off, none⟩) 1 c]).run Try.prog (w.alloc (.cells cz 42)) = .ok (.int .i64 1) W2 := by
      obtain ⟨b', off', e, hb, hc⟩ := H1.out
      simp only [Option.some.injEq, Addr.mk.injEq, and_true] at e
      obtain ⟨rfl, rfl⟩ := e
      have := run_copy_n (P := Try.prog) (w.alloc (.cells cz 42)) 24 24 3 42 4 w.heap.size 0 k k ⟨b, off, none⟩ 1 c cz 42 (repL 1 y) Try.underlying24 HSZ.out R1.out (by rw [repL_length, hmin]) (fun j v hj => by rw [addr_add]; exact hc j v hj) (by rw [repL_length, HS1.out]; omega) (flatG_oneCell _)
      rw [this, hmin, hW2]; rfl
    have F2 : Hid (Filled W2 w.heap.size k 1 y) := by unfold Hid; rw [hW2]; exact Filled.first R1.out HS1.out hp
    have B2 : Hid (Below w.heap.size w W2) := by unfold Hid; rw [hW2]; exact below_setR B1.out (Nat.le_refl _) _
    clear hW2 hmin
    go_enter Try.func112, Try.ntmps112
    go_wp2_with (go_at_call 121; refine (HM.out _).mono ?_; rintro e w9 ⟨rfl, hw9⟩; rw [hw9]; clear hw9)
    clear hcp hmk
    go_loopw [8] (fun i wr => ∃ m : Nat, 1 ≤ m ∧ m ≤ k ∧ i = .int .i64 m ∧ Filled wr w.heap.size k m y ∧ Below w.heap.size w wr) (fun i _ => k - (intOf i).toNat)
    case atStart => exact ⟨1, by omega, hp, rfl, F2.out, B2.out⟩
    case round =>
      obtain ⟨m, hm1, hmk, rfl, hF, hB⟩ := hrel
      have F3 := Lib.hid hF
      have B3 := Lib.hid hB
      clear hF hB F2 B2 B1 R1 H1
      by_cases hlt : m < k
      · obtain ⟨q, hq⟩ : ∃ q, q = Nat.min m (k - m) := ⟨_, rfl⟩
        have hq1 : q ≤ m ∧ q ≤ k - m ∧ 1 ≤ q := by rw [hq]; refine ⟨Nat.min_le_left _ _, Nat.min_le_right _ _, ?_⟩; rw [Nat.le_min]; omega
        obtain ⟨cs, c1, c2, c3, c4⟩ := F3.out.copy (q := q) (by omega) (by omega)
        obtain ⟨W4, hW4⟩ : ∃ W4, W4 = wr.drew.setRow w.heap.size (cs.toList.take (m * 4) ++ repL q y ++ cs.toList.drop (m * 4 + (repL q y).length)).toArray := ⟨_, rfl⟩
        have hcp : ∀ c1 c2, (Builtin.copy_ #[24, 24] 3 #[.slice (some ⟨w.heap.size, m * 4, none⟩) (k - m) c1, .slice (some ⟨w.heap.size, 0, none⟩) m c2]).run Try.prog wr.drew = .ok (.int .i64 q) W4 := fun x1 x2 => by
          have := run_copy_n (P := Try.prog) wr.drew 24 24 3 42 4 w.heap.size (m * 4) (k - m) x1 ⟨w.heap.size, 0, none⟩ m x2 cs 42 (repL q y) Try.underlying24 HSZ.out c1 (by rw [repL_length, hq]) c3 c2 (flatG_oneCell _)
          rw [this, ← hq, hW4]; rfl
        have F4 : Hid (Filled W4 w.heap.size k (m + q) y) := by unfold Hid; rw [hW4]; exact c4
        have B4 : Hid (Below w.heap.size w W4) := by unfold Hid; rw [hW4]; exact below_setR B3.out.drew (Nat.le_refl _) _
        have hs : IntKind.i64.wrap ((m : Int) + (q : Int)) = (m : Int) + (q : Int) := IntWalk.i64_in _ (by omega)
        clear hW4 c1 c2 c3 c4 hq
        have hmI : (m : Int) < (k : Int) := by omega
        have hmI0 : (0 : Int) ≤ (m : Int) := by omega
        go_wp2_with fail
        go_region_held3 (fun _ => True) (trivial) (first | fail)
        all_goals
          go_wp2
          go_roundw
          case rel => exact ⟨m + q, by omega, by omega, by go_num, F4.out, B4.out⟩
          case measure => simp [intOf]; omega
      · obtain rfl : m = k := by omega
        go_wp2
        go_ret
        exact ⟨w.heap.size, rfl, F3.out.gaps, Nat.le_refl _, B3.out⟩
end Go.Proofs.Ytdekickmplkdiaa
