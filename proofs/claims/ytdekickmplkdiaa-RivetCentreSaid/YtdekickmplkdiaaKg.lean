/- Merged: Rn, Ro. -/
import Derived.Test.YtdekickmplkdiaaKd
import Derived.Test.YtdekickmplkdiaaKf
import Derived.Laws.OwnMore
import Derived.Laws.CopyOwn
import Derived.IntWalk

/- Walks: slices.Repeat of one gap, repeated. -/
namespace Go.Proofs.Ytdekickmplkdiaa
open Go.RowKit

theorem mul1_any (k : Nat) (hk : k ≤ 1000) (w : World) : Calls Try.prog 121 #[.int .u64 1, .int .u64 k] w fun e w' => e = .returned (.tuple #[.int .u64 0, .int .u64 k]) ∧ w' = w := by
  refine (bits_Mul 1 k (by omega) (by omega) w).mono ?_
  rintro e w' ⟨rfl, rfl⟩
  refine ⟨?_, rfl⟩
  have h1 : 1 * k / 18446744073709551616 = 0 := by omega
  have h2 : 1 * k % 18446744073709551616 = k := by omega
  rw [h1, h2]; rfl
theorem run_copy_n {P : Program} (w : World) (dT sT ty elem : TypeId) (size : Nat) (g o dLen dCap : Nat) (a : Addr) (sLen sCap : Nat) (cur : Array Value) (t : TypeId) (cs : List Value)
    (hu : P.underlying dT = some (.slice elem)) (hs : (P.info? elem).map (·.size) = some size)
    (hg : w.heap[g]? = some (.cells cur t (0, 0))) (hn : cs.length = Nat.min sLen dLen * size)
    (hsrc : ∀ j v, cs[j]? = some v → w.cell? (a.add j) = some v) (hfit : o + cs.length ≤ cur.size) (h1 : ∀ v ∈ cs, v.oneCell' = true) :
    (Builtin.copy_ #[dT, sT] ty #[.slice (some ⟨g, o, none⟩) dLen dCap, .slice (some a) sLen sCap]).run P w =
      .ok (goInt (Nat.min sLen dLen)) (w.setRow g (cur.toList.take o ++ cs ++ cur.toList.drop (o + cs.length)).toArray) := by
  have hl := run_loadCells_list (P := P) w a cs hsrc
  have hst := run_storeCells_at P g o t cs 0 cur w hg (by simpa using hfit) h1
  cases hq : P.info? elem with
  | none => simp [hq] at hs
  | some i =>
    have hi : i.size = size := by simpa [hq] using hs
    simp [Builtin.copy_, run_underlying hu, Builtin.lenOf, Builtin.firstCells, sizeOf, typeInfo, hq, hi, ← hn, hl, hst]
theorem wpList_copy_n {P : Program} {w : World} {ops : Array Oper} {rest : List Oper} {o : Oper} {a : Act} {Q : Exit → Act → World → Prop} (hgd : o.guard = none) (d s : Operand) (dT sT : TypeId)
    (ho : o.op = .call { callee := .builtin .copy, args := #[d, s], argTypes := #[dT, sT] }) (elem : TypeId) (size : Nat) (hu : P.underlying dT = some (.slice elem)) (hsz : (P.info? elem).map (·.size) = some size)
    (g off dLen dCap : Nat) (ad : Addr) (sLen sCap : Nat) (hd : a.eval d = .slice (some ⟨g, off, none⟩) dLen dCap) (hs : a.eval s = .slice (some ad) sLen sCap)
    (cur : Array Value) (t : TypeId) (hg : w.heap[g]? = some (.cells cur t (0, 0))) (cs : List Value) (hn : cs.length = Nat.min sLen dLen * size)
    (hsrc : ∀ j v, cs[j]? = some v → w.cell? (ad.add j) = some v) (hfit : off + cs.length ≤ cur.size) (h1 : ∀ v ∈ cs, v.oneCell' = true)
    (h : wpList P ops Q rest (a.put o.dst (goInt (Nat.min sLen dLen))) (w.setRow g (cur.toList.take off ++ cs ++ cur.toList.drop (off + cs.length)).toArray)) : wpList P ops Q (o :: rest) a w := by
  refine wpList_plain hgd fun K hK => ?_
  have hrun := run_copy_n (P := P) w dT sT o.type elem size g off dLen dCap ad sLen sCap cur t cs hu hsz hg hn hsrc hfit h1
  unfold Oper.wp
  simp only [execOp, ho, resolve, invoke, builtin]
  simp [hd, hs, hrun, Result.andThen]
  exact hK _ _ (by simpa using h)
theorem step_copy_n {P : Program} {ops : Array Oper} {o : Oper} {a : Act} {w : World} {K : Act → World → Prop} {Q : Exit → Act → World → Prop} {E : Prop} (hgd : o.guard = none) (d s : Operand) (dT sT : TypeId)
    (ho : o.op = .call { callee := .builtin .copy, args := #[d, s], argTypes := #[dT, sT] }) (elem : TypeId) (size : Nat) (hu : P.underlying dT = some (.slice elem)) (hsz : (P.info? elem).map (·.size) = some size)
    (g off dLen dCap : Nat) (ad : Addr) (sLen sCap : Nat) (hd : a.eval d = .slice (some ⟨g, off, none⟩) dLen dCap) (hs : a.eval s = .slice (some ad) sLen sCap)
    (cur : Array Value) (t : TypeId) (hg : w.heap[g]? = some (.cells cur t (0, 0))) (cs : List Value) (hn : cs.length = Nat.min sLen dLen * size)
    (hsrc : ∀ j v, cs[j]? = some v → w.cell? (ad.add j) = some v) (hfit : off + cs.length ≤ cur.size) (h1 : ∀ v ∈ cs, v.oneCell' = true)
    (h : K (a.put o.dst (goInt (Nat.min sLen dLen))) (w.setRow g (cur.toList.take off ++ cs ++ cur.toList.drop (off + cs.length)).toArray)) : if Region.wanted o (yielded ops a.tmps) = true then Oper.wp P o a w K Q else E := by
  have hw : Region.wanted o (yielded ops a.tmps) = true := by simp [Region.wanted, hgd]
  rw [if_pos hw]
  have hrun := run_copy_n (P := P) w dT sT o.type elem size g off dLen dCap ad sLen sCap cur t cs hu hsz hg hn hsrc hfit h1
  unfold Oper.wp
  simp only [execOp, ho, resolve, invoke, builtin]
  simp [hd, hs, hrun, Result.andThen]
  exact (by simpa using h : K (a.put o.dst (goInt (Nat.min sLen dLen))) (w.setRow g (cur.toList.take off ++ (cs ++ cur.toList.drop (off + cs.length))).toArray))

def repL (m : Nat) (y : Gap) : List Value := flatG (List.replicate m y)
theorem repL_length (m : Nat) (y : Gap) : (repL m y).length = m * 4 := by simp [repL, flatG_length]
theorem repL_add (m q : Nat) (y : Gap) : repL (m + q) y = repL m y ++ repL q y := by unfold repL; rw [← List.replicate_append_replicate, flatG_append]
/-- A row of k gaps of which the first m are y. -/
def Filled (w : World) (g k m : Nat) (y : Gap) : Prop := ∃ cs : Array Value, Blk w g 42 cs ∧ cs.size = k * 4 ∧ cs.toList.take (m * 4) = repL m y
theorem Filled.copy {w : World} {g k m q : Nat} {y : Gap} (h : Filled w g k m y) (hq : m + q ≤ k) (hqm : q ≤ m) :
    ∃ cs : Array Value, Blk w g 42 cs ∧ m * 4 + (repL q y).length ≤ cs.size ∧ (∀ j v, (repL q y)[j]? = some v → w.cell? ((⟨g, 0, none⟩ : Addr).add j) = some v) ∧
      Filled (w.setRow g (cs.toList.take (m * 4) ++ repL q y ++ cs.toList.drop (m * 4 + (repL q y).length)).toArray) g k (m + q) y := by
  obtain ⟨cs, h1, h2, h3⟩ := h
  refine ⟨cs, h1, by rw [repL_length]; omega, fun j v hj => ?_, _, h1.setRow _, ?_, ?_⟩
  · rw [addr_add, Nat.zero_add, h1.cell]
    have hj2 : j < q * 4 := by rw [← repL_length q y]; exact (List.getElem?_eq_some_iff.1 hj).1
    have e : repL m y = repL q y ++ repL (m - q) y := by rw [← repL_add]; congr 1; omega
    have : (repL m y)[j]? = some v := by rw [e, List.getElem?_append_left (by rw [repL_length]; exact hj2)]; exact hj
    rw [← h3, List.getElem?_take] at this
    rw [← Array.getElem?_toList]
    split at this
    · exact this
    · simp at this
  · simp only [List.size_toArray, List.length_append, List.length_take, List.length_drop, Array.length_toList, repL_length, h2]
    omega
  · rw [h3, repL_add]
    simp only [List.append_assoc]
    rw [← List.append_assoc, List.take_append_of_le_length (by rw [List.length_append, repL_length, repL_length]; omega)]
    exact List.take_of_length_le (by rw [List.length_append, repL_length, repL_length]; omega)
theorem Filled.first {w : World} {g k : Nat} {y : Gap} {cs : Array Value} (h : Blk w g 42 cs) (hs : cs.size = k * 4) (hk : 1 ≤ k) : Filled (w.setRow g (cs.toList.take 0 ++ repL 1 y ++ cs.toList.drop (0 + (repL 1 y).length)).toArray) g k 1 y := by
  refine ⟨_, h.setRow _, ?_, ?_⟩
  · simp only [List.size_toArray, List.length_append, List.length_take, List.length_drop, Array.length_toList, repL_length, hs]; omega
  · simp only [List.take_zero, List.nil_append]
    rw [List.take_append_of_le_length (by rw [repL_length]; omega)]
    exact List.take_of_length_le (by rw [repL_length]; omega)
theorem Filled.gaps {w : World} {g k : Nat} {y : Gap} (h : Filled w g k k y) : Gaps w (some ⟨g, 0, none⟩) k (List.replicate k y) := by
  obtain ⟨cs, h1, h2, h3⟩ := h
  refine ⟨by rw [flatG_length, List.length_replicate], fun _ => ⟨g, 0, rfl, h1.lt, fun j u hj => ?_⟩⟩
  rw [Nat.zero_add, h1.cell]
  have hj' : (repL k y)[j]? = some u := hj
  rw [← h3, List.getElem?_take] at hj'
  rw [← Array.getElem?_toList]
  split at hj'
  · exact hj'
  · simp at hj'

def RepRes (w : World) (k : Nat) (y : Gap) (e : Ending) (w' : World) : Prop := ∃ g, e = .returned (.slice (some ⟨g, 0, none⟩) k k) ∧ Gaps w' (some ⟨g, 0, none⟩) k (List.replicate k y) ∧ w.heap.size ≤ g ∧ Below w.heap.size w w'

set_option maxRecDepth 100000 in
set_option maxHeartbeats 2000000 in
theorem repeat_any (y : Gap) (b off c k : Nat) (w : World) (h : Gaps w (some ⟨b, off, none⟩) 1 [y]) (hk : k ≤ 1000) :
    Calls Try.prog 112 #[.slice (some ⟨b, off, none⟩) 1 c, .int .i64 k] w (RepRes w k y) := by
  obtain ⟨i0, hi0, hz0, hz1, hz2⟩ := info_parts Try.infoGap
  have hmk : ∀ W : World, (Instr.makeSlice 24 (.int .i64 (k : Int)) (.int .i64 (k : Int))).run Try.prog W = .ok (.slice (some ⟨W.heap.size, 0, none⟩) k k) (W.alloc (.cells (madeCells #[.int .i64 0, .int .i64 0, .int .i64 0, .int .i64 0] (k * 4)) 42)) := fun W => by
    have := run_make (P := Try.prog) W 24 42 i0 _ Try.underlying24 hi0 hz0 .i64 .i64 (k : Int) (k : Int) (by omega) (Int.le_refl _) (by rw [hz2]; omega) (by omega)
    rw [hz1] at this
    simpa [Value.cells] using this
  have hsz : (Try.prog.info? 42).map (·.size) = some 4 := by rw [hi0]; simp [hz1]
  have HM := Lib.hid (mul1_any k hk)
  have HMK := Lib.hid hmk
  have HSZ := Lib.hid hsz
  clear hsz
  have B1 := Lib.hid (below_self w (.cells (madeCells #[.int .i64 0, .int .i64 0, .int .i64 0, .int .i64 0] (k * 4)) 42))
  have R1 := Lib.hid (Blk.new w 42 (madeCells #[.int .i64 0, .int .i64 0, .int .i64 0, .int .i64 0] (k * 4)) rfl)
  have HS1 := Lib.hid (size_madeCells #[Value.int .i64 0, .int .i64 0, .int .i64 0, .int .i64 0] (k * 4))
  have H1 := Lib.hid ((h.below B1.out).2 (by omega))
  have hk0 : (0 : Int) ≤ (k : Int) := Int.natCast_nonneg _
  clear h
  generalize madeCells #[Value.int .i64 0, .int .i64 0, .int .i64 0, .int .i64 0] (k * 4) = cz at *
  rcases Nat.eq_zero_or_pos k with rfl | hp
  · have hmk0 : ∀ W : World, (Instr.makeSlice 24 (.int .i64 0) (.int .i64 0)).run Try.prog W = .ok (.slice (some ⟨W.heap.size, 0, none⟩) 0 0) (W.alloc (.cells cz 42)) := HMK.out
    obtain ⟨W2, hW2⟩ : ∃ W2, W2 = (w.alloc (.cells cz 42)).setRow w.heap.size (cz.toList.take 0 ++ [] ++ cz.toList.drop (0 + ([] : List Value).length)).toArray := ⟨_, rfl⟩
    have hcp : (Builtin.copy_ #[24, 24] 3 #[.slice (some ⟨w.heap.size, 0, none⟩) 0 0, .slice (some ⟨b, off, none⟩) 1 c]).run Try.prog (w.alloc (.cells cz 42)) = .ok (.int .i64 0) W2 := by
      rw [hW2]; exact run_copy_n (P := Try.prog) _ 24 24 3 42 4 w.heap.size 0 0 0 ⟨b, off, none⟩ 1 c cz 42 [] Try.underlying24 HSZ.out R1.out rfl (fun j v hj => by simp at hj) (by simp) (fun v hv => by simp at hv)
    have B2 : Hid (Below w.heap.size w W2) := by unfold Hid; rw [hW2]; exact below_setR B1.out (Nat.le_refl _) _
    have HW2 := Lib.hid hW2
    clear hmk hW2
    go_enter Try.func112, Try.ntmps112
    go_wp2_with (go_at_call 121; refine (HM.out _).mono ?_; rintro e w9 ⟨rfl, hw9⟩; rw [hw9]; clear hw9)
    go_loopw [8] (fun i wr => i = .int .i64 0 ∧ wr = W2) (fun _ _ => 0)
    case atStart => exact ⟨rfl, rfl⟩
    case round =>
      obtain ⟨rfl, rfl⟩ := hrel
      go_wp2
      go_ret
      exact ⟨w.heap.size, rfl, ⟨by simp [flatG], fun h => absurd h (by omega)⟩, Nat.le_refl _, B2.out⟩
  · obtain ⟨W2, hW2⟩ : ∃ W2, W2 = (w.alloc (.cells cz 42)).setRow w.heap.size (cz.toList.take 0 ++ repL 1 y ++ cz.toList.drop (0 + (repL 1 y).length)).toArray := ⟨_, rfl⟩
    have hmin : Nat.min 1 k = 1 := Nat.min_eq_left hp
    have hcp : (Builtin.copy_ #[24, 24] 3 #[.slice (some ⟨w.heap.size, 0, none⟩) k k, .slice (some ⟨b, off, none⟩) 1 c]).run Try.prog (w.alloc (.cells cz 42)) = .ok (.int .i64 1) W2 := by
      obtain ⟨b', off', e, hb, hc⟩ := H1.out
      simp only [Option.some.injEq, Addr.mk.injEq, and_true] at e
      obtain ⟨rfl, rfl⟩ := e
      have := run_copy_n (P := Try.prog) (w.alloc (.cells cz 42)) 24 24 3 42 4 w.heap.size 0 k k ⟨b, off, none⟩ 1 c cz 42 (repL 1 y) Try.underlying24 HSZ.out R1.out (by rw [repL_length, hmin]) (fun j v hj => by rw [addr_add]; exact hc j v hj) (by rw [repL_length, HS1.out]; omega) (flatG_oneCell _)
      rw [this, hmin, hW2]; rfl
    have F2 : Hid (Filled W2 w.heap.size k 1 y) := by unfold Hid; rw [hW2]; exact Filled.first R1.out HS1.out hp
    have B2 : Hid (Below w.heap.size w W2) := by unfold Hid; rw [hW2]; exact below_setR B1.out (Nat.le_refl _) _
    clear hW2 hmin
    go_enter Try.func112, Try.ntmps112
    go_wp2_with (go_at_call 121; refine (HM.out _).mono ?_; rintro e w9 ⟨rfl, hw9⟩; rw [hw9]; clear hw9)
    clear hcp hmk
    go_loopw [8] (fun i wr => ∃ m : Nat, 1 ≤ m ∧ m ≤ k ∧ i = .int .i64 m ∧ Filled wr w.heap.size k m y ∧ Below w.heap.size w wr) (fun i _ => k - (intOf i).toNat)
    case atStart => exact ⟨1, by omega, hp, rfl, F2.out, B2.out⟩
    case round =>
      obtain ⟨m, hm1, hmk, rfl, hF, hB⟩ := hrel
      have F3 := Lib.hid hF
      have B3 := Lib.hid hB
      clear hF hB F2 B2 B1 R1 H1
      by_cases hlt : m < k
      · obtain ⟨q, hq⟩ : ∃ q, q = Nat.min m (k - m) := ⟨_, rfl⟩
        have hq1 : q ≤ m ∧ q ≤ k - m ∧ 1 ≤ q := by rw [hq]; refine ⟨Nat.min_le_left _ _, Nat.min_le_right _ _, ?_⟩; rw [Nat.le_min]; omega
        obtain ⟨cs, c1, c2, c3, c4⟩ := F3.out.copy (q := q) (by omega) (by omega)
        obtain ⟨W4, hW4⟩ : ∃ W4, W4 = wr.drew.setRow w.heap.size (cs.toList.take (m * 4) ++ repL q y ++ cs.toList.drop (m * 4 + (repL q y).length)).toArray := ⟨_, rfl⟩
        have hcp : ∀ c1 c2, (Builtin.copy_ #[24, 24] 3 #[.slice (some ⟨w.heap.size, m * 4, none⟩) (k - m) c1, .slice (some ⟨w.heap.size, 0, none⟩) m c2]).run Try.prog wr.drew = .ok (.int .i64 q) W4 := fun x1 x2 => by
          have := run_copy_n (P := Try.prog) wr.drew 24 24 3 42 4 w.heap.size (m * 4) (k - m) x1 ⟨w.heap.size, 0, none⟩ m x2 cs 42 (repL q y) Try.underlying24 HSZ.out c1 (by rw [repL_length, hq]) c3 c2 (flatG_oneCell _)
          rw [this, ← hq, hW4]; rfl
        have F4 : Hid (Filled W4 w.heap.size k (m + q) y) := by unfold Hid; rw [hW4]; exact c4
        have B4 : Hid (Below w.heap.size w W4) := by unfold Hid; rw [hW4]; exact below_setR B3.out.drew (Nat.le_refl _) _
        have hs : IntKind.i64.wrap ((m : Int) + (q : Int)) = (m : Int) + (q : Int) := IntWalk.i64_in _ (by omega)
        clear hW4 c1 c2 c3 c4 hq
        have hmI : (m : Int) < (k : Int) := by omega
        have hmI0 : (0 : Int) ≤ (m : Int) := by omega
        go_wp2_with fail
        go_region_held3 (fun _ => True) (trivial) (first | fail)
        all_goals
          go_wp2
          go_roundw
          case rel => exact ⟨m + q, by omega, by omega, by go_num, F4.out, B4.out⟩
          case measure => simp [intOf]; omega
      · obtain rfl : m = k := by omega
        go_wp2
        go_ret
        exact ⟨w.heap.size, rfl, F3.out.gaps, Nat.le_refl _, B3.out⟩
end Go.Proofs.Ytdekickmplkdiaa

/- Walks: repeated, Sticks. -/
namespace Go.Proofs.Ytdekickmplkdiaa
open Go.RowKit

def Fan.rep (f : Fan) (k : Nat) : Fan := { f with gs := List.replicate k (f.gs.getD 0 Gap.zero) }
theorem rep_B {f : Fan} (h : fanErr f = 0) {k : Nat} (h1 : k ≤ 41) (h0 : 0 < f.gs.length) : FanB (f.rep k) := by
  obtain ⟨hf, hg, hl⟩ := fanB_of h
  refine ⟨hf.a1, hf.ab, hf.b5, hf.c1, hf.cd, hf.d5, by simpa [Fan.rep] using h1, fun g hq => ?_⟩
  rw [List.eq_of_mem_replicate hq]
  have e : f.gs.getD 0 Gap.zero = f.gs[0] := by simp [List.getD, h0]
  rw [e]
  exact hf.g _ (List.getElem_mem h0)
theorem gaps_first {w : World} {A : Option Addr} {n : Nat} {xs : List Gap} (h : Gaps w A n xs) (h0 : 0 < n) : Gaps w A 1 [xs.getD 0 Gap.zero] := by
  have hl := h.len
  obtain ⟨b, off, e, hb, hc⟩ := h.2 h0
  refine ⟨by simp [flatG, Gap.cells], fun _ => ⟨b, off, e, hb, fun j u hj => hc j u ?_⟩⟩
  have hj4 : j < 4 := by have := (List.getElem?_eq_some_iff.1 hj).1; simpa [flatG, Gap.cells] using this
  have e0 : xs.getD 0 Gap.zero = xs[0]'(by omega) := by simp [List.getD, show 0 < xs.length from by omega]
  have := flatG_at xs 0 j (by omega) hj4
  rw [show 0 * 4 + j = j from by omega] at this
  rw [this, ← e0]
  simpa [flatG] using hj

set_option maxRecDepth 100000 in
set_option maxHeartbeats 1000000 in
theorem repeated_any (f : Fan) (A : Option Addr) (n c k : Nat) (w : World) (h : Gaps w A n f.gs) (h0 : 0 < n) (hc : n ≤ c) (hk : k ≤ 1000) :
    Calls Try.prog 82 #[.agg (fanA f A n c), .int .i64 k] w (FanRes w (f.rep k) k) := by
  obtain ⟨b, off, rfl, _, _⟩ := h.2 h0
  have E0 := Lib.hid (Env2.start w 26 26 (fanA f (some ⟨b, off, none⟩) n c) #[.int .i64 0, .int .i64 0, .int .i64 0, .int .i64 0, .slice none 0 0])
  have HC := Lib.hid (fun W (hb : Below w.heap.size w W) => repeat_any (f.gs.getD 0 Gap.zero) b off c k W ((gaps_first h h0).below hb) hk)
  have HF : Hid (∀ A, fanA (f.rep k) A k k = #[.int .i64 f.a, .int .i64 f.b, .int .i64 f.c, .int .i64 f.d, .slice A k k]) := fun _ => rfl
  have HG : Hid ((f.rep k).gs = List.replicate k (f.gs.getD 0 Gap.zero)) := rfl
  have hc0 : (1 : Int) ≤ (c : Int) := by omega
  have hc1 : 1 ≤ c := by omega
  have HZ := E0.out.q.lt
  clear h h0 hc
  unfold FanRes
  unfold RepRes at HC
  generalize f.rep k = f2 at *
  obtain ⟨fa, fb, fc, fd, gs⟩ := f
  simp only [fanA] at *
  generalize gs.getD 0 Gap.zero = y at *
  go_enter Try.func82, Try.ntmps82
  go_wp2_with fail
  refine (HC.out _ E0.out.bel).mono ?_
  rintro e W1 ⟨g, rfl, hG, hg, hb1⟩
  have E1 := Lib.hid (E0.out.below hb1)
  have G1 := Lib.hid hG
  have p1 := fan_get E1.out.p
  have p2 := fan_get E1.out.q
  have pf := E1.out.p.frozen 4
  have q0 := E1.out.q.frozen 0; have q1 := E1.out.q.frozen 1; have q2 := E1.out.q.frozen 2; have q3 := E1.out.q.frozen 3; have q4 := E1.out.q.frozen 4
  have N1 : Hid (¬ g = w.heap.size) := by unfold Hid; omega
  have N2 : Hid (¬ g = w.heap.size + 1) := by unfold Hid; omega
  clear hb1 hG hg HZ
  go_wp2_with fail
  have hq : ¬ w.heap.size + 1 = w.heap.size := by omega
  refine bodyPost_ret (results_c rfl _ _ _ (w.heap.size + 1) _ _ _ rfl ((((((E1.out.q.far (p := ⟨w.heap.size, 4, none⟩) hq _).set_ 0 _).set_ 1 _).set_ 2 _).set_ 3 _).set_ 4 _) Try.underlying26 (by kernel_rfl)) rfl ⟨some ⟨g, 0, none⟩, k, ?_, ?_, ?_⟩
  · exact congrArg (fun a => Ending.returned (Value.agg a)) (HF.out (some ⟨g, 0, none⟩)).symm
  · rw [HG.out]
    rcases Nat.eq_zero_or_pos k with h0 | h0
    · exact ⟨G1.out.1, fun h => absurd h (by omega)⟩
    · obtain ⟨g', o', e, hb, hcc⟩ := G1.out.2 h0
      simp only [Option.some.injEq, Addr.mk.injEq, and_true] at e
      obtain ⟨rfl, rfl⟩ := e
      refine ⟨G1.out.1, fun _ => ⟨g, 0, rfl, by simp [World.size_setCell]; exact hb, fun j u hj => ?_⟩⟩
      have := hcc j u hj
      have n1 (o o' : Nat) : (⟨g, o, none⟩ : Addr) ≠ ⟨w.heap.size, o', none⟩ := fun h => N1.out (by simpa using congrArg Addr.block h)
      have n2 (o o' : Nat) : (⟨g, o, none⟩ : Addr) ≠ ⟨w.heap.size + 1, o', none⟩ := fun h => N2.out (by simpa using congrArg Addr.block h)
      rw [World.cell?_setCell_other _ _ _ _ (Ne.symm (n2 _ _)), World.cell?_setCell_other _ _ _ _ (Ne.symm (n2 _ _)), World.cell?_setCell_other _ _ _ _ (Ne.symm (n2 _ _)), World.cell?_setCell_other _ _ _ _ (Ne.symm (n2 _ _)), World.cell?_setCell_other _ _ _ _ (Ne.symm (n2 _ _)), World.cell?_setCell_other _ _ _ _ (Ne.symm (n1 _ _))]
      exact this
  · have b (o : Nat) : w.heap.size ≤ (⟨w.heap.size + 1, o, none⟩ : Addr).block := Nat.le_succ _
    exact (((((E1.out.bel.setCell (p := ⟨w.heap.size, 4, none⟩) (Nat.le_refl _) _).setCell (b 0) _).setCell (b 1) _).setCell (b 2) _).setCell (b 3) _).setCell (b 4) _

/-- So many gaps open so far. -/
def stickP (f : Fan) (d : Int) (k : Nat) : Bool := decide (d ≤ degL false (f.rep k))
def stickL (f : Fan) (d : Int) : Nat := searchL (stickP f d) 41
def stickR (f : Fan) (d : Int) : Int × Int :=
  if fanErr f = 0 then (if within 0 360 [d] = true then (if f.gs.length = 0 then (0, 7) else if 40 < stickL f d then (0, 7) else ((stickL f d : Int) + 1, 0)) else (0, 4)) else (0, fanErr f)

set_option maxRecDepth 100000 in
set_option maxHeartbeats 1000000 in
theorem stick1_any (f : Fan) (d : Int) (A : Option Addr) (n c : Nat) (w : World) (h : Gaps w A n f.gs) (h0 : 0 < n) (hc : n ≤ c) (hE : fanErr f = 0) (k : Nat) (W : World) (hk : k < 41) (hW : Env2 w W 26 3 (fanA f A n c) #[.int .i64 d]) :
    Calls Try.prog 81 #[.int .i64 k, .pointer (some ⟨w.heap.size, 0, none⟩), .pointer (some ⟨w.heap.size + 1, 0, none⟩)] W fun e W' => e = .returned (.bool (stickP f d k)) ∧ Env2 w W' 26 3 (fanA f A n c) #[.int .i64 d] := by
  have hl := h.len
  have HP := Lib.hid (fun X (hb : Below w.heap.size w X) => repeated_any f A n c k X (h.below hb) h0 hc (by omega))
  have HS := Lib.hid (fun A c X (hG : Gaps X A k (f.rep k).gs) => surely_any (f.rep k) A k c X (rep_B hE (by omega) (by omega)) hG)
  have HV : Hid (∀ A c, fanA (f.rep k) A k c = #[.int .i64 f.a, .int .i64 f.b, .int .i64 f.c, .int .i64 f.d, .slice A k c]) := fun _ _ => rfl
  have HO : Hid (stickP f d k = decide (d ≤ degL false (f.rep k))) := rfl
  have E0 := Lib.hid hW
  have E0d := Lib.hid hW.drewd
  clear hE hW hl hc
  unfold FanRes at HP
  generalize stickP f d k = r at *
  generalize f.rep k = f2 at *
  generalize degL false f2 = z at *
  obtain ⟨b, off, rfl, _, _⟩ := h.2 h0
  clear h h0
  obtain ⟨fa, fb, fc, fd, gs⟩ := f
  simp only [HV.out] at HP HS
  clear HV
  simp only [fanA] at *
  go_enter Try.func81, Try.ntmps81
  go_wp2_with fail
  go_region_held3 (fun W => W.cell? ⟨w.heap.size, 0, none⟩ = some (.int .i64 fa) ∧ W.cell? ⟨w.heap.size, 1, none⟩ = some (.int .i64 fb) ∧ W.cell? ⟨w.heap.size, 2, none⟩ = some (.int .i64 fc) ∧ W.cell? ⟨w.heap.size, 3, none⟩ = some (.int .i64 fd) ∧ W.cell? ⟨w.heap.size, 4, none⟩ = some (.slice (some ⟨b, off, none⟩) n c) ∧ W.cell? ⟨w.heap.size + 1, 0, none⟩ = some (.int .i64 d))
    (first | with_reducible exact fanD_get E0d.out | with_reducible exact fanD_get E0.out | with_reducible exact fanD_get E1.out | with_reducible exact fanD_get E2.out)
    (first | (go_at_call 82; refine (HP.out _ E0d.out.bel).mono ?_; rintro e W1 ⟨A1, c1, rfl, hG, hb1⟩; have G1 := Lib.hid hG; have E1 := Lib.hid (E0d.out.below hb1); clear hb1 hG) | (go_at_call 61; refine (HS.out _ _ _ G1.out).mono ?_; rintro e W2 ⟨rfl, hb2⟩; have E2 := Lib.hid (E1.out.below hb2); clear hb2))
  all_goals
    go_wp2
    go_ret
    exact ⟨ret_bool HO.out.symm, E2.out⟩

set_option maxRecDepth 100000 in
set_option maxHeartbeats 2000000 in
theorem Sticks_any (f : Fan) (d : Int) (A : Option Addr) (n c : Nat) (w : World) (h : Gaps w A n f.gs) (hc : n ≤ c) (hn : n ≤ maxLen) :
    Calls Try.prog 35 #[.agg (fanA f A n c), .int .i64 d] w fun e w' => e = .returned (.tuple #[.int .i64 (stickR f d).1, .int .i64 (stickR f d).2]) ∧ Below w.heap.size w w' := by
  have HF := Lib.hid (fun W (hb : Below w.heap.size w W) => fanError_any f A n c W (h.below hb) hn)
  have E0 := Lib.hid (Env2.start w 26 3 (fanA f A n c) #[.int .i64 d])
  have hl := h.len
  by_cases hE : fanErr f = 0
  · cases q1 : within 0 360 [d]
    · have HO : Hid (stickR f d = (0, 4)) := by unfold Hid stickR; rw [if_pos hE, q1]; rfl
      rw [hE] at HF
      clear h hn hE hl hc
      generalize stickR f d = r at *
      obtain ⟨fa, fb, fc, fd, gs⟩ := f
      simp only [fanA] at *
      go_enter Try.func35, Try.ntmps35
      go_wp2_with fail
      refine (HF.out _ E0.out.bel).mono ?_
      rintro e W1 ⟨rfl, hb1⟩
      have E1 := Lib.hid (E0.out.below hb1)
      have p1 := fanD_get E1.out
      clear hb1
      go_wp2_with (go_at_call 73; refine (within1 _ _ _ _ _ _ (by simp)).mono ?_; rintro e w' ⟨rfl, rfl⟩)
      go_ret2
      exact ⟨by rw [HO.out]; rfl, E1.out.bel.alloc E1.out.bel.size _⟩
    · by_cases hz0 : n = 0
      · have HO : Hid (stickR f d = (0, 7)) := by unfold Hid stickR; rw [if_pos hE, q1, if_pos rfl, hl, if_pos hz0]
        rw [hE] at HF
        clear h hn hE hl hc
        subst hz0
        generalize stickR f d = r at *
        obtain ⟨fa, fb, fc, fd, gs⟩ := f
        simp only [fanA] at *
        go_enter Try.func35, Try.ntmps35
        go_wp2_with fail
        refine (HF.out _ E0.out.bel).mono ?_
        rintro e W1 ⟨rfl, hb1⟩
        have E1 := Lib.hid (E0.out.below hb1)
        have p1 := fanD_get E1.out
        have p2 := fanD_get (E1.out.alloc (.cells #[.int .i64 d] 3))
        clear hb1
        go_wp2_with (go_at_call 73; refine (within1 _ _ _ _ _ _ (by simp)).mono ?_; rintro e w' ⟨rfl, rfl⟩)
        go_ret2
        exact ⟨by rw [HO.out]; rfl, E1.out.bel.alloc E1.out.bel.size _⟩
      · have hp : 0 < n := by omega
        have HS := Lib.hid (fun W (hW : Env2 w W 26 3 (fanA f A n c) #[.int .i64 d]) => SearchS_any (stickP f d) 41 (fun W => Env2 w W 26 3 (fanA f A n c) #[.int .i64 d]) (.pointer (some ⟨w.heap.size, 0, none⟩)) (.pointer (some ⟨w.heap.size + 1, 0, none⟩)) W (by omega) hW (fun k X hk hX => stick1_any f d A n c w h hp hc hE k X hk hX))
        have HO : Hid (stickR f d = if 40 < searchL (stickP f d) 41 then (0, 7) else ((searchL (stickP f d) 41 : Int) + 1, 0)) := by unfold Hid stickR; rw [if_pos hE, q1, if_pos rfl, hl, if_neg hz0]; rfl
        have hz1 : ((n : Int) == 0) = false := by simpa using hz0
        have hz2 : decide (n = 0) = false := by simpa using hz0
        rw [hE] at HF
        clear h hn hE hl hc
        generalize stickR f d = r at *
        generalize searchL (stickP f d) 41 = z at *
        obtain ⟨fa, fb, fc, fd, gs⟩ := f
        simp only [fanA] at *
        by_cases hz : 40 < z
        · have HO2 : Hid (r = (0, 7)) := by unfold Hid; rw [HO.out, if_pos hz]
          go_enter Try.func35, Try.ntmps35
          go_wp2_with fail
          refine (HF.out _ E0.out.bel).mono ?_
          rintro e W1 ⟨rfl, hb1⟩
          have E1 := Lib.hid (E0.out.below hb1)
          have E2 := Lib.hid (E1.out.alloc (.cells #[.int .i64 d] 3))
          have p1 := fanD_get E1.out
          have p2 := fanD_get E2.out
          clear hb1
          go_wp2_with (first | (go_at_call 73; refine (within1 _ _ _ _ _ _ (by simp)).mono ?_; rintro e w' ⟨rfl, rfl⟩) | (go_at_call 80; refine (HS.out _ E2.out).mono ?_; rintro e W3 ⟨rfl, hE3⟩))
          have E3 := Lib.hid hE3
          clear hE3
          go_ret2
          exact ⟨by rw [HO2.out]; rfl, E3.out.bel⟩
        · have HO2 : Hid (r = ((z : Int) + 1, 0)) := by unfold Hid; rw [HO.out, if_neg hz]
          go_enter Try.func35, Try.ntmps35
          go_wp2_with fail
          refine (HF.out _ E0.out.bel).mono ?_
          rintro e W1 ⟨rfl, hb1⟩
          have E1 := Lib.hid (E0.out.below hb1)
          have E2 := Lib.hid (E1.out.alloc (.cells #[.int .i64 d] 3))
          have p1 := fanD_get E1.out
          have p2 := fanD_get E2.out
          clear hb1
          go_wp2_with (first | (go_at_call 73; refine (within1 _ _ _ _ _ _ (by simp)).mono ?_; rintro e w' ⟨rfl, rfl⟩) | (go_at_call 80; refine (HS.out _ E2.out).mono ?_; rintro e W3 ⟨rfl, hE3⟩))
          have E3 := Lib.hid hE3
          clear hE3
          go_ret2
          exact ⟨by rw [HO2.out]; rfl, E3.out.bel⟩
  · have HO : Hid (stickR f d = (0, fanErr f)) := if_neg hE
    clear h hn hl hc
    generalize stickR f d = r at *
    generalize fanErr f = e0 at *
    unfold fanA at *
    go_enter Try.func35, Try.ntmps35
    go_wp2_with fail
    refine (HF.out _ E0.out.bel).mono ?_
    rintro e W1 ⟨rfl, hb1⟩
    have E1 := Lib.hid (E0.out.below hb1)
    have he1 : decide (e0 = 0) = false := by simpa using hE
    clear hb1
    go_wp2
    go_ret2
    exact ⟨by rw [HO.out]; rfl, E1.out.bel⟩
end Go.Proofs.Ytdekickmplkdiaa
