/- Merged: Rs, Rv, Rw, Rx. -/
import Derived.Shelf.Sort.Plain
import Derived.Shelf.Bits.Mul64
import Derived.Shelf.Slices.In.SortNone
import Derived.Test.YtdekickmplkdiaaKa
import Derived.RangeFuncBox
import Derived.RangeFuncLeaves
import Derived.RangeFuncBound
import Derived.RangeFuncCalls
import Derived.RangeFuncNested
import Derived.Shelf.Abstract
import Derived.WalkKit
import Derived.OwnWalkIn
import Derived.TacticsInMore
import Derived.LoopNIn
import Derived.LoopIn
import Derived.Maps.AppendAt
import Derived.Test.YtdekickmplkdiaaKb
import Derived.Lib.OwnBridge

/- The library's bits.Mul and slices.Sort of ints, laid at this text. -/
namespace Go.Proofs.Ytdekickmplkdiaa
open Go.Proofs Go.Shelf Go.RowKit Go.Sort
def lays189_ren : Go.Shelf.Ren := ⟨fun | 189 => 124 | 125 => 130 | 257 => 129 | 128 => 140 | 129 => 141 | 294 => 131 | 295 => 132 | 296 => 133 | 297 => 134 | 298 => 135 | 299 => 136 | 216 => 137 | 300 => 138 | 301 => 139 | 328 => 142 | 329 => 143 | 330 => 144 | 331 => 145 | 332 => 146 | 215 => 118 | 343 => 147 | n => n, fun | 28 => 54 | 3 => 3 | 46 => 135 | 0 => 0 | 51 => 165 | 53 => 168 | 4 => 4 | 183 => 176 | 182 => 175 | 131 => 180 | 5 => 5 | 9 => 9 | 218 => 184 | 222 => 188 | 228 => 190 | 229 => 50 | n => n, fun | n => n⟩
theorem lays189 : Go.Proofs.Lays.n189 Try.prog lays189_ren := {
  mixed := by kernel_rfl
  f125 := Try.func130.trans (congrArg some (by kernel_rfl))
  f128 := Try.func140.trans (congrArg some (by kernel_rfl))
  f129 := Try.func141.trans (congrArg some (by kernel_rfl))
  f189 := Try.func124.trans (congrArg some (by kernel_rfl))
  f215 := Try.func118.trans (congrArg some (by kernel_rfl))
  f216 := Try.func137.trans (congrArg some (by kernel_rfl))
  f257 := Try.func129.trans (congrArg some (by kernel_rfl))
  f294 := Try.func131.trans (congrArg some (by kernel_rfl))
  f295 := Try.func132.trans (congrArg some (by kernel_rfl))
  f296 := Try.func133.trans (congrArg some (by kernel_rfl))
  f297 := Try.func134.trans (congrArg some (by kernel_rfl))
  f298 := Try.func135.trans (congrArg some (by kernel_rfl))
  f299 := Try.func136.trans (congrArg some (by kernel_rfl))
  f300 := Try.func138.trans (congrArg some (by kernel_rfl))
  f301 := Try.func139.trans (congrArg some (by kernel_rfl))
  f328 := Try.func142.trans (congrArg some (by kernel_rfl))
  f329 := Try.func143.trans (congrArg some (by kernel_rfl))
  f330 := Try.func144.trans (congrArg some (by kernel_rfl))
  f331 := Try.func145.trans (congrArg some (by kernel_rfl))
  f332 := Try.func146.trans (congrArg some (by kernel_rfl))
  f343 := Try.func147.trans (congrArg some (by kernel_rfl))
  t0 := Try.underlying0
  a0 := Try.isAgg0
  z0 := Try.sizeOf0
  v0 := Try.zeroValue0
  t3 := Try.underlying3
  a3 := Try.isAgg3
  z3 := Try.sizeOf3
  v3 := Try.zeroValue3
  t4 := Try.underlying4
  a4 := Try.isAgg4
  z4 := Try.sizeOf4
  v4 := Try.zeroValue4
  t5 := Try.underlying5
  a5 := Try.isAgg5
  z5 := Try.sizeOf5
  v5 := Try.zeroValue5
  t9 := Try.underlying9
  a9 := Try.isAgg9
  z9 := Try.sizeOf9
  v9 := Try.zeroValue9
  t28 := Try.underlying54
  a28 := Try.isAgg54
  z28 := Try.sizeOf54
  v28 := Try.zeroValue54
  t46 := Try.underlying135
  a46 := Try.isAgg135
  z46 := Try.sizeOf135
  v46 := Try.zeroValue135
  t51 := Try.underlying165
  a51 := Try.isAgg165
  z51 := Try.sizeOf165
  v51 := Try.zeroValue165
  t53 := Try.underlying168
  a53 := Try.isAgg168
  z53 := Try.sizeOf168
  v53 := Try.zeroValue168
  t131 := Try.underlying180
  a131 := Try.isAgg180
  z131 := Try.sizeOf180
  v131 := Try.zeroValue180
  t182 := Try.underlying175
  a182 := Try.isAgg175
  z182 := Try.sizeOf175
  v182 := Try.zeroValue175
  t183 := Try.underlying176
  a183 := Try.isAgg176
  z183 := Try.sizeOf176
  v183 := Try.zeroValue176
  t218 := Try.underlying184
  a218 := Try.isAgg184
  z218 := Try.sizeOf184
  v218 := Try.zeroValue184
  t222 := Try.underlying188
  a222 := Try.isAgg188
  z222 := Try.sizeOf188
  v222 := Try.zeroValue188
  t228 := Try.underlying190
  a228 := Try.isAgg190
  z228 := Try.sizeOf190
  v228 := Try.zeroValue190
  t229 := Try.underlying50
  a229 := Try.isAgg50
  z229 := Try.sizeOf50
  v229 := Try.zeroValue50 }
theorem slices_Sort_int (blk off cap : Nat) (zs : List Int) (w : World) (hH : Holds (Value.int .i64) w blk off zs.toArray) (hblk : blk < w.heap.size) (hsz : zs.length < 4611686018427387904) :
    Calls Try.prog 124 #[.slice (some ⟨blk, off, none⟩) zs.length cap] w fun e w' =>
      e = .returned (.tuple #[]) ∧ ∃ n os, w' = grow (putRow (Value.int .i64) (Sort.ahead w n) blk off (zs.mergeSort fun x y => decide (x ≤ y)).toArray) os := Any.slices_Sort_int lays189 blk off cap zs w hH hblk hsz
def lays264_ren : Go.Shelf.Ren := ⟨fun | 264 => 127 | n => n, fun | 53 => 168 | 46 => 135 | n => n, fun | n => n⟩
theorem lays264 : Go.Proofs.Lays.n264 Try.prog lays264_ren := {
  mixed := by kernel_rfl
  f264 := Try.func127.trans (congrArg some (by kernel_rfl))
  t46 := Try.underlying135
  a46 := Try.isAgg135
  z46 := Try.sizeOf135
  v46 := Try.zeroValue135
  t53 := Try.underlying168
  a53 := Try.isAgg168
  z53 := Try.sizeOf168
  v53 := Try.zeroValue168 }
theorem bits_Mul64 (x y : Nat) (hx : x < 18446744073709551616) (hy : y < 18446744073709551616) (w : World) :
    Calls Try.prog 127 #[.int .u64 x, .int .u64 y] w fun e w' => e = .returned (.tuple #[.int .u64 ((x * y / 18446744073709551616 : Nat) : Int), .int .u64 ((x * y % 18446744073709551616 : Nat) : Int)]) ∧ w' = w := Any.bits_Mul64 lays264 x y hx hy w
def lays212_ren : Go.Shelf.Ren := ⟨fun | 212 => 121 | 263 => 126 | 264 => 127 | n => n, fun | 46 => 135 | 51 => 165 | 146 => 166 | 53 => 168 | 148 => 169 | n => n, fun | n => n⟩
theorem lays212 : Go.Proofs.Lays.n212 Try.prog lays212_ren := {
  mixed := by kernel_rfl
  f212 := Try.func121.trans (congrArg some (by kernel_rfl))
  f263 := Try.func126.trans (congrArg some (by kernel_rfl))
  f264 := Try.func127.trans (congrArg some (by kernel_rfl))
  t46 := Try.underlying135
  a46 := Try.isAgg135
  z46 := Try.sizeOf135
  v46 := Try.zeroValue135
  t51 := Try.underlying165
  a51 := Try.isAgg165
  z51 := Try.sizeOf165
  v51 := Try.zeroValue165
  t53 := Try.underlying168
  a53 := Try.isAgg168
  z53 := Try.sizeOf168
  v53 := Try.zeroValue168
  t146 := Try.underlying166
  a146 := Try.isAgg166
  z146 := Try.sizeOf166
  v146 := Try.zeroValue166
  t148 := Try.underlying169
  a148 := Try.isAgg169
  z148 := Try.sizeOf169
  v148 := Try.zeroValue169 }
theorem bits_Mul (x y : Nat) (hx : x < 18446744073709551616) (hy : y < 18446744073709551616) (w : World) :
    Calls Try.prog 121 #[.int .u64 x, .int .u64 y] w fun e w' => e = .returned (.tuple #[.int .u64 ((x * y / 18446744073709551616 : Nat) : Int), .int .u64 ((x * y % 18446744073709551616 : Nat) : Int)]) ∧ w' = w := Any.bits_Mul lays212 x y hx hy w
theorem slices_Sort_int_none (p : Option Addr) (cap : Nat) (w : World) :
    Calls Try.prog 124 #[.slice p 0 cap] w fun e w' => e = .returned (.tuple #[]) ∧ w' = w := Any.slices_Sort_int_none lays189 p cap w

end Go.Proofs.Ytdekickmplkdiaa

/- Walks: slices.Values, AppendSeq, Collect and Sorted of ints; greatest. -/
namespace Go.Proofs.Ytdekickmplkdiaa
open Go.RowKit Go.Shelf

attribute [local go_sem] Oper.semAt_some

def upto (zs : List Int) (k : Nat) : List Int := (List.range k).map fun j => zs[j]?.getD 0
theorem upto_succ (zs : List Int) (k : Nat) : upto zs (k + 1) = upto zs k ++ [zs[k]?.getD 0] := by simp [upto, List.range_succ]
theorem upto_length (zs : List Int) (k : Nat) : (upto zs k).length = k := by simp [upto]
theorem upto_all (zs : List Int) : upto zs zs.length = zs := by
  apply List.ext_getElem
  · simp [upto]
  · intro i h1 h2
    simp [upto, h2]

set_option maxRecDepth 100000 in
set_option maxHeartbeats 2000000 in
theorem values1_in (F : Fence) (n : Nat) (h7 : F.fn 125) (hro : F.round = none) (hn : 1 ≤ n) (l Bs n₀ b off len cap : Nat) (zs : List Int) (hreach : len * 8 ≤ 140737488351232) (hb : b < n₀) (J Jx : List Int → World → Prop)
    (hY : ∀ pre x W, J pre W → pre.length < len → YieldAt F (n - 1) Try.prog l #[.int .i64 x] W fun e W' =>
      (e = .returned (.bool true) ∧ J (pre ++ [x]) W' ∧ Below n₀ W W') ∨ (e = .returned (.bool false) ∧ Jx (pre ++ [x]) W'))
    (W : World) (hBs : W.cell? ⟨Bs, 0, none⟩ = some (.slice (some ⟨b, off, none⟩) len cap)) (hc : ∀ j, j < len → W.cell? ⟨b, off + j, none⟩ = some (.int .i64 (zs[j]?.getD 0))) (h0 : J [] W) :
    CallsIn F n Try.prog 125 #[.func (.yield l) #[] #[], .pointer (some ⟨Bs, 0, none⟩)] W fun e W' => (∃ v, e = .returned v) ∧
      ((∃ ys, ys = upto zs len ∧ J ys W') ∨ (∃ pre, (∃ k, k ≤ len ∧ pre = upto zs k) ∧ Jx pre W')) := by
  refine callsIn_of_wp Try.func125 rfl h7 ?_ hro
  simp only [Try.ntmps125, List.size_toArray, List.length_cons, List.length_nil, Nat.reduceAdd, Nat.reduceSub, Array.replicate_succ, Array.replicate_zero, List.push_toArray, List.append_toArray, List.nil_append, List.cons_append]
  gi_wp2
  gi_loopw [7] (fun i wr => ∃ k : Nat, k ≤ len ∧ i = .int .i64 k ∧ J (upto zs k) wr ∧ Below n₀ W wr) (fun i _ => len - (intOf i).toNat)
  case atStart => exact ⟨0, Nat.zero_le _, rfl, h0, Below.refl _ _⟩
  case round =>
    obtain ⟨k, hk, rfl, hJs, hnx⟩ := hrel
    have hcx : k < len → wr.cell? ⟨b, off + k, none⟩ = some (.int .i64 (zs[k]?.getD 0)) := fun h => (hnx.cell (p := ⟨b, off + k, none⟩) hb).trans (hc k h)
    by_cases hlt : k < len
    · obtain ⟨fn, tmps, assign, body, hy, hR⟩ := hY _ (zs[k]?.getD 0) wr hJs (by rw [upto_length]; exact hlt)
      have hcx' := hcx hlt
      gi_wp2
      refine hR.mono ?_
      rintro e W3 (⟨rfl, hJ3, hk3⟩ | ⟨rfl, hJx3⟩)
      · gi_wp2
        go_roundw
        case rel => exact ⟨k + 1, by omega, by simp, by rw [upto_succ]; exact hJ3, hnx.trans hk3⟩
        case measure => simp [intOf]; omega
      · gi_wp2
        refine bodyPost_ret (results_none rfl _ _ _) rfl ?_
        exact ⟨⟨_, rfl⟩, .inr ⟨_, ⟨k + 1, by omega, (upto_succ _ _).symm⟩, hJx3⟩⟩
    · obtain rfl : k = len := by omega
      gi_wp2
      go_end0
      exact ⟨⟨_, rfl⟩, .inl ⟨_, rfl, hJs⟩⟩

set_option maxRecDepth 100000 in
set_option maxHeartbeats 1000000 in
theorem values1_zero_in (F : Fence) (n : Nat) (h7 : F.fn 125) (hro : F.round = none) (l Bs cap : Nat) (A : Option Addr) (J : List Int → World → Prop) (W : World) (hBs : W.cell? ⟨Bs, 0, none⟩ = some (.slice A 0 cap)) (h0 : J [] W) :
    CallsIn F n Try.prog 125 #[.func (.yield l) #[] #[], .pointer (some ⟨Bs, 0, none⟩)] W fun e W' => (∃ v, e = .returned v) ∧ J [] W' := by
  refine callsIn_of_wp Try.func125 rfl h7 ?_ hro
  simp only [Try.ntmps125, List.size_toArray, List.length_cons, List.length_nil, Nat.reduceAdd, Nat.reduceSub, Array.replicate_succ, Array.replicate_zero, List.push_toArray, List.append_toArray, List.nil_append, List.cons_append]
  gi_wp2
  gi_loopw [7] (fun i wr => i = .int .i64 0 ∧ J [] wr) (fun _ _ => 0)
  case atStart => exact ⟨rfl, h0⟩
  case round =>
    obtain ⟨rfl, hJs⟩ := hrel
    gi_wp2
    go_end0
    exact ⟨⟨_, rfl⟩, hJs⟩

theorem values_stops (F : Fence) (n : Nat) (h7 : F.fn 125) (hro : F.round = none) (hn : 1 ≤ n) (Bs n₀ : Nat) (A : Option Addr) (m cap : Nat) (zs : List Int) (hreach : m ≤ 1000000) (w : World) (hBs : Bs < n₀) (hn₀ : n₀ ≤ w.heap.size)
    (hc : w.cell? ⟨Bs, 0, none⟩ = some (.slice A m cap)) (hI : Ints w A m zs) (hlow : ∀ b off, 0 < m → A = some ⟨b, off, none⟩ → b < n₀) :
    SeqStopsK F n Try.prog 125 #[.pointer (some ⟨Bs, 0, none⟩)] (fun x : Int => #[Value.int .i64 x]) (Below n₀) (fun ys => ys = zs) (fun _ => True) m w := fun l J Jx W hW _ _ hY h0 => by
  have hl := hI.len
  have hc' := (hW.cell (p := ⟨Bs, 0, none⟩) (Nat.lt_of_lt_of_le hBs hn₀)).trans hc
  rcases Nat.eq_zero_or_pos m with rfl | hp
  · have hz : zs = [] := List.eq_nil_of_length_eq_zero hl
    subst hz
    exact (values1_zero_in F n h7 hro l Bs cap A J W hc' h0).mono fun e W' ⟨he, hj⟩ => ⟨he, .inl ⟨_, rfl, hj⟩⟩
  · obtain ⟨b, off, rfl, hb, hcs⟩ := hI.2 hp
    have hb0 := hlow b off hp rfl
    have hcz : ∀ j, j < m → W.cell? ⟨b, off + j, none⟩ = some (.int .i64 (zs[j]?.getD 0)) := fun j hj => by
      rw [hW.cell (p := ⟨b, off + j, none⟩) hb]
      refine hcs j _ ?_
      rw [List.getElem?_map, List.getElem?_eq_getElem (by omega)]
      simp
    refine (values1_in F n h7 hro hn l Bs n₀ b off m cap zs (by omega) hb0 J Jx hY W hc' hcz h0).mono ?_
    rintro e W' ⟨he, ⟨ys, rfl, hj⟩ | ⟨pre, ⟨k, hk, rfl⟩, hj⟩⟩
    · exact ⟨he, .inl ⟨_, by rw [← hl]; exact upto_all zs, hj⟩⟩
    · exact ⟨he, .inr ⟨_, trivial, hj⟩⟩

set_option maxRecDepth 100000 in
set_option maxHeartbeats 2000000 in
theorem appendSeq_in (F : Fence) (n : Nat) (h3 : F.fn 128) (h5 : F.fn 125) (hro : F.round = none) (hn : 3 ≤ n) (Bs : Nat) (A : Option Addr) (m cap : Nat) (zs : List Int) (hm : m ≤ 1000000) (w : World) (hBs : Bs < w.heap.size)
    (hcB : w.cell? ⟨Bs, 0, none⟩ = some (.slice A m cap)) (hI : Ints w A m zs) :
    CallsIn F n Try.prog 128 #[.slice none 0 0, .func (.func 125) #[] #[.pointer (some ⟨Bs, 0, none⟩)]] w fun e W' => ∃ v, e = .returned v ∧ W'.ownsRow w.heap.size 3 1 v m (zs.map (Value.int .i64)) ∧ Below w.heap.size w W' := by
  have h1 : 1 ≤ n := by omega
  have hlz := hI.len
  obtain ⟨i0, hi, hz0, hz1, hz2⟩ := info_parts Try.infoInt
  refine callsIn_of_wp_marks Try.func128 rfl h3 ?_ hro
  simp only [Try.ntmps128, List.size_toArray, List.length_cons, List.length_nil, Nat.reduceAdd, Nat.reduceSub, Array.replicate_succ, Array.replicate_zero, List.push_toArray, List.append_toArray, List.nil_append, List.cons_append]
  gi_wp2
  have bO := Boxed.new w 54 (.slice none 0 0)
  have hB0 : Below w.heap.size w (w.alloc (.cells #[.slice none 0 0] 54)) := below_self w _
  refine wpIn_rangeFunc_ownG hro h1 (gf := 125) (lb := #[.pointer (some ⟨Bs, 0, none⟩)]) rfl h5 (enters_of Try.func125 (by kernel_rfl) rfl)
    (values_stops F (n - 1) h5 hro (by omega) Bs w.heap.size A m cap zs hm _ hBs (by simp) ((hB0.cell (p := ⟨Bs, 0, none⟩) hBs).trans hcB) (hI.below hB0) (fun b off hp e => by
      obtain ⟨b', off', e', hb', _⟩ := hI.2 hp
      rw [e] at e'
      simp only [Option.some.injEq, Addr.mk.injEq, and_true] at e'
      omega)) belowK_t (belowK_b (by simp)) (Below.refl _ _) (fun _ => rfl)
    (fun (pre : List Int) W => (∃ v, Boxed W w.heap.size 54 v ∧ W.ownsRow w.heap.size 3 1 v pre.length (pre.map (Value.int .i64)) ∧ True) ∧ Below w.heap.size w W)
    (fun _ _ _ => False)
    (OwnFrom.and (Own.from (holdsRow_own w.heap.size w.heap.size 54 3 1 (fun (pre : List Int) => pre.length) (fun (pre : List Int) => pre.map (Value.int .i64)) (fun _ _ => True)) _) (ownFrom_below (Nat.le_refl _) (by simp)))
    (fun _ _ _ _ _ hs _ _ => hs)
    ⟨⟨_, bO, World.ownsRow_nil _ _ _ _, trivial⟩, hB0⟩
    (fun x => { tmps := #[.slice none 0 0, .func (.func 125) #[] #[.pointer (some ⟨Bs, 0, none⟩)], .pointer (some ⟨w.heap.size, 0, none⟩), undef, .slice none 0 0, .int .i64 x, .func (.func 125) #[] #[.pointer (some ⟨Bs, 0, none⟩)], .int .i64 x, undef, undef, undef, undef, undef], defers := [] }) ?assign ?body ?done ?stop
  case assign =>
    intro l x W K hK
    gi_wp2
    exact hK
  case body =>
    rintro l pre x W ⟨⟨v, hv, hrow, _⟩, hB⟩ hlt
    have hc := hv.cell
    gi_wp2_with (gi_at_builtin; refine wpListIn_append_own _ rfl _ _ 54 rfl w.heap.size 3 i0 (.int .i64 0) 1 8 Try.underlying54 hi hz0 hz1 hz2 rfl (by decide) _ _ _ rfl (hrow.alloc _) ⟨W.heap.size, 0, none⟩ 1 1 [.int .i64 x] rfl rfl (cell_one_new _ _ _) (by simp [Value.oneCell']) (by unfold maxLen; omega) (by omega) (by have := hB.size; simp; omega) ?_; intro v' w1 hown' hgrow _; obtain ⟨g', cap', rfl⟩ := ownsRow_succ hown'; obtain ⟨hv1, hv2, hr2, hk2, hb2⟩ := hv.appended (by decide) hrow hB.size (Nat.le_refl _) hown' hgrow; have hc1 := hv1.cell; have hf1 := hv1.frozen)
    exact ⟨hk2.from _, hb2, ⟨_, hv2, by simpa using hr2, trivial⟩, hB.trans hb2⟩
  case done =>
    rintro D ys W hD rfl ⟨⟨v, hv, hrow, _⟩, hB⟩ hK
    have hc := hv.cell
    gi_wp2
    refine ⟨by simp, .inl ⟨_, _, rfl, run_takeDeferred hK, ?_⟩⟩
    rw [hlz] at hrow
    exact ⟨_, results_tmp rfl _ _ _, v, rfl, ownsRow_putObj hrow _ hK rfl, hB.trans (belowK_b (w := w) (Nat.le_refl _) W D _ _ (by simp at hD; omega) hK rfl rfl)⟩
  case stop =>
    rintro D c pre W _ _ h _
    exact h.elim
end Go.Proofs.Ytdekickmplkdiaa

/- Walks: Collect and Sorted of ints, greatest. -/
namespace Go.Proofs.Ytdekickmplkdiaa
open Go.RowKit Go.Sort

def sortL (zs : List Int) : List Int := zs.mergeSort fun x y => decide (x ≤ y)
theorem sortL_length (zs : List Int) : (sortL zs).length = zs.length := List.length_mergeSort zs
theorem below_grow (w : World) (os : Array Obj) : Below w.heap.size w (grow w os) := ⟨rfl, rfl, rfl, by simp [grow], fun i hi => by simp [grow, Array.getElem?_append_left hi]⟩
theorem own_sorted {w : World} {base g n cap q : Nat} {t : TypeId} {zs : List Int} {os : Array Obj} (h : w.ownsRow base t 1 (.slice (some ⟨g, 0, none⟩) n cap) n (zs.map (Value.int .i64))) :
    (grow (putRow (Value.int .i64) (Sort.ahead w q) g 0 (sortL zs).toArray) os).ownsRow base t 1 (.slice (some ⟨g, 0, none⟩) n cap) n ((sortL zs).map (Value.int .i64)) := by
  have hl : zs.length = n := by simpa using h.1
  have := Lib.ownsRow_putRow (q := q) (k := n) (ys := sortL zs) h (by rw [sortL_length, hl]) (Nat.le_refl _)
  rw [List.take_of_length_le (by rw [sortL_length, hl]; exact Nat.le_refl _)] at this
  exact ownsRow_below this (below_grow _ os)
theorem below_sorted {w0 w : World} {g q : Nat} {d : Array Int} {os : Array Obj} (h : Below w0.heap.size w0 w) (hg : w0.heap.size ≤ g) : Below w0.heap.size w0 (grow (putRow (Value.int .i64) (Sort.ahead w q) g 0 d) os) :=
  below_then (Lib.below_putRow h hg) (below_grow _ os)
theorem Values_any (A : Option Addr) (n c : Nat) (w : World) : Calls Try.prog 120 #[.slice A n c] w fun e w' => e = .returned (.func (.func 125) #[] #[.pointer (some ⟨w.heap.size, 0, none⟩)]) ∧ w' = w.alloc (.cells #[.slice A n c] 54) := by
  have hmf : ∀ (fn : Fn) (first cap : Array Value) (w : World), (Instr.makeFunc fn first cap).run Try.prog w = .ok (.func fn first cap) w := fun _ _ _ _ => rfl
  go_enter Try.func120, Try.ntmps120
  go_wp2
  go_ret
  exact ⟨rfl, rfl⟩
def CollRes (w : World) (m : Nat) (zs : List Int) (e : Ending) (w' : World) : Prop := ∃ v, e = .returned v ∧ w'.ownsRow w.heap.size 3 1 v m (zs.map (Value.int .i64)) ∧ Below w.heap.size w w'
set_option maxHeartbeats 400000 in
theorem Collect_any (Bs : Nat) (A : Option Addr) (m cap : Nat) (zs : List Int) (hm : m ≤ 1000000) (w : World) (hBs : Bs < w.heap.size) (hcB : w.cell? ⟨Bs, 0, none⟩ = some (.slice A m cap)) (hI : Ints w A m zs) :
    Calls Try.prog 123 #[.func (.func 125) #[] #[.pointer (some ⟨Bs, 0, none⟩)]] w (CollRes w m zs) := by
  have C : Hid (Calls Try.prog 128 #[.slice none 0 0, .func (.func 125) #[] #[.pointer (some ⟨Bs, 0, none⟩)]] w (CollRes w m zs)) := callsIn_wide.1 (appendSeq_in Fence.wide 3 trivial trivial rfl (Nat.le_refl _) Bs A m cap zs hm w hBs hcB hI)
  clear hI hcB
  go_enter Try.func123, Try.ntmps123
  go_wp2_with fail
  refine C.out.mono ?_
  rintro e w1 ⟨v, rfl, ho, hb⟩
  have O := Lib.hid ho
  have B := Lib.hid hb
  clear ho hb
  go_wp2
  go_ret
  exact ⟨v, rfl, O.out, B.out⟩
set_option maxHeartbeats 400000 in
theorem Sorted_any (Bs : Nat) (A : Option Addr) (m cap : Nat) (zs : List Int) (hm : m ≤ 1000000) (w : World) (hBs : Bs < w.heap.size) (hcB : w.cell? ⟨Bs, 0, none⟩ = some (.slice A m cap)) (hI : Ints w A m zs) :
    Calls Try.prog 119 #[.func (.func 125) #[] #[.pointer (some ⟨Bs, 0, none⟩)]] w (CollRes w m (sortL zs)) := by
  have C := Lib.hid (Collect_any Bs A m cap zs hm w hBs hcB hI)
  have hl := hI.len
  have Hl := Lib.hid hl
  clear hI hcB
  go_enter Try.func119, Try.ntmps119
  go_wp2_with fail
  refine C.out.mono ?_
  rintro e w1 ⟨v, rfl, ho, hb⟩
  have B := Lib.hid hb
  rcases Nat.eq_zero_or_pos m with hz | hp
  · subst hz
    have hzs : zs = [] := List.eq_nil_of_length_eq_zero hl
    subst hzs
    obtain ⟨A', c', rfl⟩ := own_slice ho
    have O := Lib.hid ho
    have S := Lib.hid (slices_Sort_int_none A' c' w1)
    clear ho hb hl
    go_wp2_with (go_at_call 124; refine S.out.mono ?_; rintro e w2 ⟨rfl, hw2⟩; rw [hw2]; clear hw2)
    go_ret
    exact ⟨_, rfl, by simpa [sortL] using O.out, B.out⟩
  · obtain ⟨g, c', rfl⟩ := own_form ho hp
    have O := Lib.hid ho
    have hg := ho.lt g rfl
    have hH : Holds (Value.int .i64) w1 g 0 zs.toArray := by
      obtain ⟨g', c2, e, _, _, _, _, _, hH⟩ := Lib.holds_of_ownsRow ho (by simp)
      simp only [Value.slice.injEq, Option.some.injEq, Addr.mk.injEq, and_true, true_and] at e
      rw [e.1]; exact hH
    have S := slices_Sort_int g 0 c' zs w1 hH hg.2 (by omega)
    rw [hl] at S
    have S := Lib.hid S
    have hg1 := Lib.hid hg.1
    clear ho hb hl hH hg
    go_wp2_with fail
    refine S.out.mono ?_
    rintro e w2 ⟨rfl, q, os, hw2⟩
    have O2 : Hid (w2.ownsRow w.heap.size 3 1 (.slice (some ⟨g, 0, none⟩) m c') m ((sortL zs).map (Value.int .i64))) := by unfold Hid; rw [hw2]; exact own_sorted O.out
    have B2 : Hid (Below w.heap.size w w2) := by unfold Hid; rw [hw2]; exact below_sorted B.out hg1.out
    clear hw2
    go_wp2
    go_ret
    exact ⟨_, rfl, O2.out, B2.out⟩

/-- So many of the greatest. -/
def greatL (zs : List Int) (m : Nat) : List Int := (sortL zs).drop (zs.length - m)
def GreatRes (w : World) (L : List Int) (e : Ending) (w' : World) : Prop := ∃ A c, e = .returned (.slice A L.length c) ∧ Ints w' A L.length L ∧ Below w.heap.size w w'
theorem ints_drop {w : World} {b off n k : Nat} {xs : List Int} (h : Ints w (some ⟨b, off, none⟩) n xs) (hk : k ≤ n) : Ints w (some ⟨b, off + k, none⟩) (n - k) (xs.drop k) := by
  have hl := h.len
  refine ⟨by simp [hl], fun hp => ⟨b, off + k, rfl, ?_, fun j u hj => ?_⟩⟩
  · obtain ⟨b', o', e, hb, _⟩ := h.2 (by omega)
    simp only [Option.some.injEq, Addr.mk.injEq, and_true] at e
    rw [e.1]; exact hb
  · obtain ⟨b', o', e, hb, hc⟩ := h.2 (by omega)
    simp only [Option.some.injEq, Addr.mk.injEq, and_true] at e
    obtain ⟨rfl, rfl⟩ := e
    rw [Nat.add_assoc]
    exact hc (k + j) u (by simpa [List.getElem?_drop] using hj)
theorem ints_none (w : World) (A : Option Addr) : Ints w A 0 [] := ⟨rfl, fun h => absurd h (by omega)⟩
set_option maxRecDepth 100000 in
set_option maxHeartbeats 1000000 in
theorem greatest_any (zs : List Int) (A : Option Addr) (n c m : Nat) (w : World) (h : Ints w A n zs) (hn : n ≤ 1000) (hm : m ≤ 1000) :
    Calls Try.prog 110 #[.slice A n c, .int .i64 m] w (GreatRes w (greatL zs m)) := by
  have hl := h.len
  have bs := below_self w (.cells #[.slice A n c] 54)
  have B0 := Lib.hid bs
  have V := Lib.hid (Values_any A n c w)
  have S := Lib.hid (Sorted_any w.heap.size A n c zs (by omega) (w.alloc (.cells #[.slice A n c] 54)) (by simp) (by simp) (h.below bs))
  have hL : (greatL zs m).length = n - (n - m) := by unfold greatL; rw [List.length_drop, sortL_length, hl]
  have HL := Lib.hid (show greatL zs m = (sortL zs).drop (n - m) from by unfold greatL; rw [hl])
  have Hlen := Lib.hid hL
  have Hs := Lib.hid (show (sortL zs).length = n from by rw [sortL_length, hl])
  clear h bs hl hL
  generalize greatL zs m = L at *
  generalize sortL zs = ys at *
  obtain ⟨k, hk⟩ : ∃ k, k = n - m := ⟨_, rfl⟩
  have hmax : max (0 : Int) ((n : Int) - (m : Int)) = (k : Int) := by omega
  have hkn : k ≤ n := by omega
  rw [← hk] at HL Hlen
  clear hk
  have hknI : (k : Int) ≤ (n : Int) := by omega
  have hk0 : (0 : Int) ≤ (k : Int) := by omega
  have Hmax := Lib.hid hmax
  clear hmax
  go_enter Try.func110, Try.ntmps110
  go_wp2_with fail
  refine V.out.mono ?_
  rintro e w1 ⟨rfl, hw1⟩
  rw [hw1]
  clear hw1
  go_wp2_with fail
  refine S.out.mono ?_
  rintro e w2 ⟨v, rfl, ho, hb⟩
  obtain ⟨A2, c2, hv, hi⟩ := own_ints ho
  subst hv
  have hcap := own_cap ho
  have I2 := Lib.hid hi
  have B2 := Lib.hid (below_then B0.out hb)
  clear ho hb hi
  unfold maxLen at hcap
  have hmax := Hmax.out
  by_cases hkc : k = c2
  · have hn0 : n - k = 0 := by omega
    have Hn0 := Lib.hid hn0
    clear hn0
    subst hkc
    go_wp2
    go_ret
    exact ⟨_, _, by rw [Hlen.out, Hn0.out]; rfl, by rw [Hlen.out, HL.out, Hn0.out, List.drop_eq_nil_of_le (by have := Hs.out; have := Hn0.out; omega)]; exact ints_none _ _, B2.out⟩
  · cases A2 with
    | none =>
      have hn0 : n = 0 := by
        rcases Nat.eq_zero_or_pos n with h | h
        · exact h
        · obtain ⟨b, off, e, _⟩ := I2.out.2 h
          simp at e
      have Hn0 := Lib.hid (show n - k = 0 by omega)
      clear hn0
      go_wp2
      go_ret
      exact ⟨_, _, by rw [Hlen.out]; rfl, by rw [Hlen.out, HL.out, Hn0.out, List.drop_eq_nil_of_le (by have := Hs.out; have := Hn0.out; omega)]; exact ints_none _ _, B2.out⟩
    | some ad =>
      go_wp2
      go_ret
      refine ⟨_, _, by rw [Hlen.out]; rfl, ?_, B2.out⟩
      rw [Hlen.out, HL.out]
      rcases Nat.eq_zero_or_pos (n - k) with h | h
      · rw [h, List.drop_eq_nil_of_le (by have := Hs.out; omega)]
        exact ints_none _ _
      · obtain ⟨b, off, e, hb, hc⟩ := I2.out.2 (by omega)
        simp only [Option.some.injEq] at e
        subst e
        simp only [addr_add]
        exact ints_drop I2.out hkn
end Go.Proofs.Ytdekickmplkdiaa

/- Walks: fewestWrong's closure; pure facts of fewestWrong. -/
namespace Go.Proofs.Ytdekickmplkdiaa
open Go.RowKit

theorem int1_get {W : World} {g1 g2 g3 : Nat} {x y z : Value} (h1 : Blk W g1 3 #[x]) (h2 : Blk W g2 3 #[y]) (h3 : Blk W g3 3 #[z]) : W.cell? ⟨g1, 0, none⟩ = some x ∧ W.cell? ⟨g2, 0, none⟩ = some y ∧ W.cell? ⟨g3, 0, none⟩ = some z := ⟨h1.cell 0, h2.cell 0, h3.cell 0⟩
set_option maxRecDepth 100000 in
set_option maxHeartbeats 1000000 in
theorem enough_any (x all parts d : Int) (g1 g2 g3 : Nat) (w : World) (h1 : Blk w g1 3 #[.int .i64 all]) (h2 : Blk w g2 3 #[.int .i64 parts]) (h3 : Blk w g3 3 #[.int .i64 d]) (hx : 0 ≤ x) (hxa : x ≤ all) (ha : all ≤ 1000000000) (hp1 : 1 ≤ parts) (hp2 : parts ≤ 25000000) :
    Calls Try.prog 109 #[.int .i64 x, .pointer (some ⟨g1, 0, none⟩), .pointer (some ⟨g2, 0, none⟩), .pointer (some ⟨g3, 0, none⟩)] w fun e w' => e = .returned (.bool (decide (degF (all - x) parts ≤ d))) ∧ Below w.heap.size w w' := by
  have C := Lib.hid (fun W => inDegrees_any (all - x) parts W (by omega) (by omega) hp1 hp2)
  have q1 : IntKind.i64.wrap (all - x) = all - x := IntWalk.i64_in _ (by omega)
  have D1 : Hid (Blk w.drew g1 3 #[.int .i64 all]) := h1
  have D2 : Hid (Blk w.drew g2 3 #[.int .i64 parts]) := h2
  have D3 : Hid (Blk w.drew g3 3 #[.int .i64 d]) := h3
  have B0 := Lib.hid (Below.refl w.heap.size w).drew
  clear h1 h2 h3 hx hxa ha hp1 hp2
  generalize degF (all - x) parts = r at *
  go_enter Try.func109, Try.ntmps109
  go_wp2_with fail
  go_region_held3 (fun W => W.cell? ⟨g1, 0, none⟩ = some (.int .i64 all) ∧ W.cell? ⟨g2, 0, none⟩ = some (.int .i64 parts) ∧ W.cell? ⟨g3, 0, none⟩ = some (.int .i64 d))
    (first | with_reducible exact int1_get D1.out D2.out D3.out | with_reducible exact int1_get F1.out F2.out F3.out)
    (first | (go_at_call 95; refine (C.out _).mono ?_; rintro e W1 ⟨rfl, hb1⟩; have F1 := Lib.hid (blk_keep hb1 D1.out); have F2 := Lib.hid (blk_keep hb1 D2.out); have F3 := Lib.hid (blk_keep hb1 D3.out); have B1 := Lib.hid (below_then B0.out hb1); clear hb1))
  all_goals
    go_wp2
    go_ret
    exact ⟨rfl, B1.out⟩

theorem ints_new3 (w : World) (x y z : Int) (t : TypeId) {g : Nat} (hg : g = w.heap.size) : Ints (w.alloc (.cells #[.int .i64 x, .int .i64 y, .int .i64 z] t)) (some ⟨g, 0, none⟩) 3 [x, y, z] := by
  subst hg
  refine ⟨rfl, fun _ => ⟨w.heap.size, 0, rfl, by simp, fun j u hj => ?_⟩⟩
  have : (w.alloc (.cells #[.int .i64 x, .int .i64 y, .int .i64 z] t)).cell? ⟨w.heap.size, 0 + j, none⟩ = (#[.int .i64 x, .int .i64 y, .int .i64 z] : Array Value)[j]? := by
    rw [Nat.zero_add]; exact (Blk.new w t _ rfl).cell j
  rw [this]
  simpa using hj

/-- Enough without so much. -/
def enoughB (f : Fan) (d : Int) (x : Int) : Bool := decide (degF (openN false f - x) (partsL false f) ≤ d)
def manyGo (p : Nat → Bool) : Nat → Nat → Nat
  | 0, m => m
  | k + 1, m => if p m = true then m else manyGo p k (m + 1)
def manyP (f : Fan) (d : Int) (m : Nat) : Bool := enoughB f d (greatL (anglesF false f) m).sum
def manyL (f : Fan) (d : Int) : Nat := manyGo (manyP f d) f.gs.length 1
def stepOk (f : Fan) (d : Int) (k : Nat) (s : List Int × Int) : Bool := enoughB f d (s.2 + (anglesF false f).getD k 0 + (greatL ((anglesF false f).drop (k + 1)) (manyL f d - s.1.length - 1)).sum)
/-- The wrong gaps among the first k. -/
def wrongGo (f : Fan) (d : Int) : Nat → List Int × Int
  | 0 => ([], 0)
  | k + 1 => if manyL f d - (wrongGo f d k).1.length = 0 then wrongGo f d k else if stepOk f d k (wrongGo f d k) = true then ((wrongGo f d k).1 ++ [(k : Int)], (wrongGo f d k).2 + (anglesF false f).getD k 0) else wrongGo f d k
def fewestL (f : Fan) (d : Int) : List Int := (wrongGo f d f.gs.length).1

theorem sum_perm {a b : List Int} (h : a.Perm b) : a.sum = b.sum := by
  induction h with
  | nil => rfl
  | cons x _ ih => simp [ih]
  | swap x y l => simp only [List.sum_cons]; omega
  | trans _ _ h1 h2 => exact h1.trans h2
theorem sum_nonneg {a : List Int} (h : ∀ v ∈ a, 0 ≤ v) : 0 ≤ a.sum := by
  induction a with
  | nil => simp
  | cons x r ih => simp only [List.sum_cons]; have := h x (by simp); have := ih (fun v hv => h v (by simp [hv])); omega
theorem great_mem {zs : List Int} {m : Nat} {v : Int} (h : v ∈ greatL zs m) : v ∈ zs := (List.mergeSort_perm zs _).mem_iff.1 (List.mem_of_mem_drop h)
theorem great_sum (zs : List Int) (m : Nat) (h : ∀ v ∈ zs, 0 ≤ v) : 0 ≤ (greatL zs m).sum ∧ (greatL zs m).sum ≤ zs.sum := by
  have hp : (sortL zs).sum = zs.sum := sum_perm (List.mergeSort_perm zs _)
  have ha : (sortL zs).sum = ((sortL zs).take (zs.length - m)).sum + (greatL zs m).sum := by
    unfold greatL
    rw [← List.sum_append, List.take_append_drop]
  have hs : ∀ v ∈ sortL zs, 0 ≤ v := fun v hv => h v ((List.mergeSort_perm zs _).mem_iff.1 hv)
  have h1 : 0 ≤ ((sortL zs).take (zs.length - m)).sum := sum_nonneg fun v hv => hs v (List.mem_of_mem_take hv)
  exact ⟨sum_nonneg fun v hv => h v (great_mem hv), by omega⟩
theorem great_all (zs : List Int) (m : Nat) (h : zs.length ≤ m) : (greatL zs m).sum = zs.sum := by
  unfold greatL
  rw [show zs.length - m = 0 by omega, List.drop_zero]
  exact sum_perm (List.mergeSort_perm zs _)
theorem great_length (zs : List Int) (m : Nat) : (greatL zs m).length ≤ zs.length := by unfold greatL; rw [List.length_drop, sortL_length]; omega
theorem manyP_all {f : Fan} {d : Int} (hd : 0 ≤ d) (m : Nat) (hm : f.gs.length ≤ m) : manyP f d m = true := by
  unfold manyP enoughB
  rw [great_all _ _ (by simpa [anglesF] using hm)]
  simp only [openN, decide_eq_true_eq, Int.sub_self]
  unfold degF
  simp only [Int.mul_zero, Int.zero_ediv]
  omega
theorem wrong_sum {f : Fan} (h : FanB f) (d : Int) (k : Nat) (hk : k ≤ f.gs.length) : 0 ≤ (wrongGo f d k).2 ∧ (wrongGo f d k).2 ≤ ((anglesF false f).take k).sum ∧ (wrongGo f d k).1.length ≤ k ∧ (wrongGo f d k).1.length ≤ manyL f d := by
  induction k with
  | zero => simp [wrongGo]
  | succ k ih =>
    have := ih (by omega)
    have hs := sum_take (anglesF false f) k (by simp only [anglesF, List.length_map]; omega)
    have hb : 0 ≤ (anglesF false f).getD k 0 := by
      have e : (anglesF false f).getD k 0 = (anglesF false f)[k]'(by simp only [anglesF, List.length_map]; omega) := by simp [List.getD, anglesF, show k < f.gs.length from hk]
      rw [e]; exact (angles_bd h false _ (List.getElem_mem _)).1
    rw [wrongGo]
    split
    · omega
    · split
      · simp only [List.length_append, List.length_cons, List.length_nil]; omega
      · omega
theorem sum_split (xs : List Int) (k : Nat) (hk : k < xs.length) : xs.sum = (xs.take k).sum + xs.getD k 0 + (xs.drop (k + 1)).sum := by
  have h1 := sum_take xs k hk
  have h2 : xs.sum = (xs.take (k + 1)).sum + (xs.drop (k + 1)).sum := by rw [← List.sum_append, List.take_append_drop]
  omega
theorem wrong_stay {f : Fan} {d : Int} {k : Nat} (h : manyL f d - (wrongGo f d k).1.length = 0) : ∀ j, k ≤ j → wrongGo f d j = wrongGo f d k := by
  intro j hj
  induction j with
  | zero => rw [show k = 0 by omega]
  | succ j ih =>
    rcases Nat.lt_or_ge k (j + 1) with h1 | h1
    · have e := ih (by omega)
      rw [wrongGo, e, if_pos h]
    · rw [show k = j + 1 by omega]
theorem manyGo_le {p : Nat → Bool} (k m : Nat) : m ≤ manyGo p k m ∧ manyGo p k m ≤ m + k := by
  induction k generalizing m with
  | zero => simp [manyGo]
  | succ k ih =>
    rw [manyGo]
    split
    · omega
    · have := ih (m + 1); omega
end Go.Proofs.Ytdekickmplkdiaa
