/- Walks: fewestWrong's closure; pure facts of fewestWrong. -/
import Derived.Test.YtdekickmplkdiaaRw
namespace Go.Proofs.Ytdekickmplkdiaa
open Go.RowKit

theorem int1_get {W : World} {g1 g2 g3 : Nat} {x y z : Value} (h1 : Blk W g1 3 #[x]) (h2 : Blk W g2 3 #[y]) (h3 : Blk W g3 3 #[z]) : W.cell? ⟨g1, 0, none⟩ = some x ∧ W.cell? ⟨g2, 0, none⟩ = some y ∧ W.cell? ⟨g3, 0, none⟩ = some z := ⟨h1.cell 0, h2.cell 0, h3.cell 0⟩
set_option maxRecDepth 100000 in
set_option maxHeartbeats 1000000 in
theorem enough_any (x all parts d : Int) (g1 g2 g3 : Nat) (w : World) (h1 : Blk w g1 3 #[.int .i64 all]) (h2 : Blk w g2 3 #[.int .i64 parts]) (h3 : Blk w g3 3 #[.int .i64 d]) (hx : 0 ≤ x) (hxa : x ≤ all) (ha : all ≤ 1000000000) (hp1 : 1 ≤ parts) (hp2 : parts ≤ 25000000) :
    Calls Try.prog 109 #[.int .i64 x, .pointer (some ⟨g1, 0, none⟩), .pointer (some ⟨g2, 0, none⟩), .pointer (some ⟨g3, 0, none⟩)] w fun e w' => e = .returned (.bool (decide (degF (all - x) parts ≤ d))) ∧ Below w.heap.size w w' := by
  have C := Lib.hid (fun W => inDegrees_any (all - x) parts W (by omega) (by omega) hp1 hp2)
  have q1 : IntKind.i64.wrap (all - x) = all - x := IntWalk.i64_in _ (by omega)
  have D1 : Hid (Blk w.drew g1 3 #[.int .i64 all]) := h1
  have D2 : Hid (Blk w.drew g2 3 #[.int .i64 parts]) := h2
  have D3 : Hid (Blk w.drew g3 3 #[.int .i64 d]) := h3
  have B0 := Lib.hid (Below.refl w.heap.size w).drew
  clear h1 h2 h3 hx hxa ha hp1 hp2
  generalize degF (all - x) parts = r at *
  go_enter Try.func109, Try.ntmps109
  go_wp2_with fail
  go_region_held3 (fun W => W.cell? ⟨g1, 0, none⟩ = some (.int .i64 all) ∧ W.cell? ⟨g2, 0, none⟩ = some (.int .i64 parts) ∧ W.cell? ⟨g3, 0, none⟩ = some (.int .i64 d))
    (first | with_reducible exact int1_get D1.out D2.out D3.out | with_reducible exact int1_get F1.out F2.out F3.out)
    (first | (go_at_call 95; refine (C.out _).mono ?_; rintro e W1 ⟨rfl, hb1⟩; have F1 := Lib.hid (blk_keep hb1 D1.out); have F2 := Lib.hid (blk_keep hb1 D2.out); have F3 := Lib.hid (blk_keep hb1 D3.out); have B1 := Lib.hid (below_then B0.out hb1); clear hb1))
  all_goals
    go_wp2
    go_ret
    exact ⟨rfl, B1.out⟩

theorem ints_new3 (w : World) (x y z : Int) (t : TypeId) {g : Nat} (hg : g = w.heap.size) : Ints (w.alloc (.cells #[.int .i64 x, .int .i64 y, .int .i64 z] t)) (some ⟨g, 0, none⟩) 3 [x, y, z] := by
  subst hg
  refine ⟨rfl, fun _ => ⟨w.heap.size, 0, rfl, by simp, fun j u hj => ?_⟩⟩
  have : (w.alloc (.cells #[.int .i64 x, .int .i64 y, .int .i64 z] t)).cell? ⟨w.heap.size, 0 + j, none⟩ = (#[.int .i64 x, .int .i64 y, .int .i64 z] : Array Value)[j]? := by
    rw [Nat.zero_add]; exact (Blk.new w t _ rfl).cell j
  rw [this]
  simpa using hj

/-- Enough without so much. -/
def enoughB (f : Fan) (d : Int) (x : Int) : Bool := decide (degF (openN false f - x) (partsL false f) ≤ d)
def manyGo (p : Nat → Bool) : Nat → Nat → Nat
  | 0, m => m
  | k + 1, m => if p m = true then m else manyGo p k (m + 1)
def manyP (f : Fan) (d : Int) (m : Nat) : Bool := enoughB f d (greatL (anglesF false f) m).sum
def manyL (f : Fan) (d : Int) : Nat := manyGo (manyP f d) f.gs.length 1
def stepOk (f : Fan) (d : Int) (k : Nat) (s : List Int × Int) : Bool := enoughB f d (s.2 + (anglesF false f).getD k 0 + (greatL ((anglesF false f).drop (k + 1)) (manyL f d - s.1.length - 1)).sum)
/-- The wrong gaps among the first k. -/
def wrongGo (f : Fan) (d : Int) : Nat → List Int × Int
  | 0 => ([], 0)
  | k + 1 => if manyL f d - (wrongGo f d k).1.length = 0 then wrongGo f d k else if stepOk f d k (wrongGo f d k) = true then ((wrongGo f d k).1 ++ [(k : Int)], (wrongGo f d k).2 + (anglesF false f).getD k 0) else wrongGo f d k
def fewestL (f : Fan) (d : Int) : List Int := (wrongGo f d f.gs.length).1

theorem sum_perm {a b : List Int} (h : a.Perm b) : a.sum = b.sum := by
  induction h with
  | nil => rfl
  | cons x _ ih => simp [ih]
  | swap x y l => simp only [List.sum_cons]; omega
  | trans _ _ h1 h2 => exact h1.trans h2
theorem sum_nonneg {a : List Int} (h : ∀ v ∈ a, 0 ≤ v) : 0 ≤ a.sum := by
  induction a with
  | nil => simp
  | cons x r ih => simp only [List.sum_cons]; have := h x (by simp); have := ih (fun v hv => h v (by simp [hv])); omega
theorem great_mem {zs : List Int} {m : Nat} {v : Int} (h : v ∈ greatL zs m) : v ∈ zs := (List.mergeSort_perm zs _).mem_iff.1 (List.mem_of_mem_drop h)
theorem great_sum (zs : List Int) (m : Nat) (h : ∀ v ∈ zs, 0 ≤ v) : 0 ≤ (greatL zs m).sum ∧ (greatL zs m).sum ≤ zs.sum := by
  have hp : (sortL zs).sum = zs.sum := sum_perm (List.mergeSort_perm zs _)
  have ha : (sortL zs).sum = ((sortL zs).take (zs.length - m)).sum + (greatL zs m).sum := by
    unfold greatL
    rw [← List.sum_append, List.take_append_drop]
  have hs : ∀ v ∈ sortL zs, 0 ≤ v := fun v hv => h v ((List.mergeSort_perm zs _).mem_iff.1 hv)
  have h1 : 0 ≤ ((sortL zs).take (zs.length - m)).sum := sum_nonneg fun v hv => hs v (List.mem_of_mem_take hv)
  exact ⟨sum_nonneg fun v hv => h v (great_mem hv), by omega⟩
theorem great_all (zs : List Int) (m : Nat) (h : zs.length ≤ m) : (greatL zs m).sum = zs.sum := by
  unfold greatL
  rw [show zs.length - m = 0 by omega, List.drop_zero]
  exact sum_perm (List.mergeSort_perm zs _)
theorem great_length (zs : List Int) (m : Nat) : (greatL zs m).length ≤ zs.length := by unfold greatL; rw [List.length_drop, sortL_length]; omega
theorem manyP_all {f : Fan} {d : Int} (hd : 0 ≤ d) (m : Nat) (hm : f.gs.length ≤ m) : manyP f d m = true := by
  unfold manyP enoughB
  rw [great_all _ _ (by simpa [anglesF] using hm)]
  simp only [openN, decide_eq_true_eq, Int.sub_self]
  unfold degF
  simp only [Int.mul_zero, Int.zero_ediv]
  omega
theorem wrong_sum {f : Fan} (h : FanB f) (d : Int) (k : Nat) (hk : k ≤ f.gs.length) : 0 ≤ (wrongGo f d k).2 ∧ (wrongGo f d k).2 ≤ ((anglesF false f).take k).sum ∧ (wrongGo f d k).1.length ≤ k ∧ (wrongGo f d k).1.length ≤ manyL f d := by
  induction k with
  | zero => simp [wrongGo]
  | succ k ih =>
    have := ih (by omega)
    have hs := sum_take (anglesF false f) k (by simp only [anglesF, List.length_map]; omega)
    have hb : 0 ≤ (anglesF false f).getD k 0 := by
      have e : (anglesF false f).getD k 0 = (anglesF false f)[k]'(by simp only [anglesF, List.length_map]; omega) := by simp [List.getD, anglesF, show k < f.gs.length from hk]
      rw [e]; exact (angles_bd h false _ (List.getElem_mem _)).1
    rw [wrongGo]
    split
    · omega
    · split
      · simp only [List.length_append, List.length_cons, List.length_nil]; omega
      · omega
theorem sum_split (xs : List Int) (k : Nat) (hk : k < xs.length) : xs.sum = (xs.take k).sum + xs.getD k 0 + (xs.drop (k + 1)).sum := by
  have h1 := sum_take xs k hk
  have h2 : xs.sum = (xs.take (k + 1)).sum + (xs.drop (k + 1)).sum := by rw [← List.sum_append, List.take_append_drop]
  omega
theorem wrong_stay {f : Fan} {d : Int} {k : Nat} (h : manyL f d - (wrongGo f d k).1.length = 0) : ∀ j, k ≤ j → wrongGo f d j = wrongGo f d k := by
  intro j hj
  induction j with
  | zero => rw [show k = 0 by omega]
  | succ j ih =>
    rcases Nat.lt_or_ge k (j + 1) with h1 | h1
    · have e := ih (by omega)
      rw [wrongGo, e, if_pos h]
    · rw [show k = j + 1 by omega]
theorem manyGo_le {p : Nat → Bool} (k m : Nat) : m ≤ manyGo p k m ∧ manyGo p k m ≤ m + k := by
  induction k generalizing m with
  | zero => simp [manyGo]
  | succ k ih =>
    rw [manyGo]
    split
    · omega
    · have := ih (m + 1); omega
end Go.Proofs.Ytdekickmplkdiaa
