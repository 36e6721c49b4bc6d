/- Walks: the iterator over all lists of columns of the cracks: one list that changes. -/
import Derived.Test.YtiflhimmieflpaaTold
import Derived.Test.YtiflhimmieflpaaM1
import Derived.RangeFuncBound
import Derived.RangeFuncLeaves
import Derived.Shelf.Abstract
import Derived.Shelf.RegionOpen
import Derived.OwnWalkIn
import Derived.TacticsInMore
import Derived.LoopNIn
import Derived.LoopIn
import Derived.Deep.OwnRows
import Derived.Laws.EntriesVeiled
namespace Go.Proofs.Ytiflhimmieflpaa
open Go.RowKit Go.Maps Go.Shelf
attribute [local go_sem] Oper.semAt_some

/-- All lists of columns that begin so. -/
def colsFrom : List Crack → List Int → List (List Int)
  | [], p => [p]
  | c :: cs, p => (List.range (c.ch + 1 - c.cl).toNat).flatMap fun (i : Nat) => colsFrom cs (p ++ [c.cl + i])
def colsTo (cs : List Crack) (cl : Int) (p : List Int) (i : Nat) : List (List Int) := (List.range i).flatMap fun (j : Nat) => colsFrom cs (p ++ [cl + j])
theorem colsTo_succ (cs : List Crack) (cl : Int) (p : List Int) (i : Nat) : colsTo cs cl p (i + 1) = colsTo cs cl p i ++ colsFrom cs (p ++ [cl + i]) := by
  unfold colsTo
  rw [List.range_succ, List.flatMap_append, List.flatMap_singleton]
theorem grownBy_set (W : World) (a : Addr) (v : Value) : W.grownBy (W.setCell a v) (some a.block) :=
  ⟨rfl, rfl, rfl, by simp [World.setCell], fun k _ h => Below.heap_setCell W a v k (fun e => h (by rw [e]))⟩

/-- What a round leaves as it was: what lay ahead of n₀, the box of the cracks, and the iterator's own blocks. -/
structure KI (n₀ b1 B : Nat) (W W' : World) : Prop where
  size : W.heap.size ≤ W'.heap.size
  same : ∀ k, k < W.heap.size → k < n₀ ∨ k = b1 ∨ (B ≤ k ∧ k < B + 4) → W'.heap[k]? = W.heap[k]?
section
variable {n₀ b1 B : Nat} {W W' W'' : World}
theorem KI.refl : KI n₀ b1 B W W := ⟨Nat.le_refl _, fun _ _ _ => rfl⟩
theorem KI.trans (h : KI n₀ b1 B W W') (k : KI n₀ b1 B W' W'') : KI n₀ b1 B W W'' := ⟨Nat.le_trans h.size k.size, fun i hi hc => (k.same i (Nat.lt_of_lt_of_le hi h.size) hc).trans (h.same i hi hc)⟩
theorem KI.of_below (h : Below W.heap.size W W') : KI n₀ b1 B W W' := ⟨h.size, fun k hk _ => h.block k hk⟩
theorem KI.set (a : Addr) (v : Value) (h1 : n₀ ≤ a.block) (h2 : a.block ≠ b1) (h3 : a.block < B) : KI n₀ b1 B W (W.setCell a v) :=
  ⟨by simp [World.setCell], fun k _ hc => Below.heap_setCell W a v k (by omega)⟩
theorem KI.put (r' : Loop) (h1 : n₀ ≤ B) (h2 : b1 < B) : KI n₀ b1 (B + 2) W (W.putObj (B + 1) (.loop r')) :=
  ⟨by simp [World.putObj], fun k _ hc => World.putObj_heap_other (by omega)⟩
end
/-- What the iterator works with. -/
structure CI (n₀ b1 B l m d : Nat) (K : Option Addr) (cr : List Crack) (f : Nat → Int) (W : World) : Prop where
  z : B + 4 ≤ W.heap.size
  lt1 : b1 < B
  c1 : W.cell? ⟨b1, 0, none⟩ = some (.slice K m d)
  ck : Cracks W K m cr
  lk : ∀ b o, K = some ⟨b, o, none⟩ → 0 < m → b < n₀ ∧ b < B
  c2 : W.cell? ⟨B, 0, none⟩ = some (.func (.yield l) #[] #[])
  rw : W.rowIs (B + 1) 3 m (fun i => .int .i64 (f i))
  c3 : W.cell? ⟨B + 2, 0, none⟩ = some (.slice (some ⟨B + 1, 0, none⟩) m m)
  c4 : W.cell? ⟨B + 3, 0, none⟩ = some (.func (.func 106) #[] #[.pointer (some ⟨b1, 0, none⟩), .pointer (some ⟨B, 0, none⟩), .pointer (some ⟨B + 2, 0, none⟩), .pointer (some ⟨B + 3, 0, none⟩)])
theorem Reads.keepBy {w w' : World} {size n : Nat} {A : Option Addr} {xs : List Value} (h : Reads w size A n xs) (hk : ∀ b o, A = some ⟨b, o, none⟩ → 0 < n → b < w.heap.size → b < w'.heap.size ∧ w'.heap[b]? = w.heap[b]?) : Reads w' size A n xs :=
  ⟨h.1, fun hn => by
    obtain ⟨b, off, e, hlt, hc⟩ := h.2 hn
    obtain ⟨h1, h2⟩ := hk b off e hn hlt
    exact ⟨b, off, e, h1, fun j u hu => (World.cell?_of_block (w := w) (a := ⟨b, off + j, none⟩) h2).trans (hc j u hu)⟩⟩
theorem CI.keep {n₀ b1 B l m d : Nat} {K : Option Addr} {cr : List Crack} {f : Nat → Int} {W W' : World} (h : CI n₀ b1 B l m d K cr f W) (hk : KI n₀ b1 B W W') : CI n₀ b1 B l m d K cr f W' := by
  have hz := h.z
  have h1 := h.lt1
  have c : ∀ k v, k = b1 ∨ (B ≤ k ∧ k < B + 4) → W.cell? ⟨k, 0, none⟩ = some v → W'.cell? ⟨k, 0, none⟩ = some v := fun k v hc e => (World.cell?_of_block (w := W) (a := ⟨k, 0, none⟩) (hk.same k (by omega) (.inr hc))).trans e
  exact ⟨Nat.le_trans h.z hk.size, h.lt1, c _ _ (by omega) h.c1, Reads.keepBy h.ck (fun b o e hm hb => ⟨Nat.lt_of_lt_of_le hb hk.size, hk.same b hb (.inl (h.lk b o e hm).1)⟩), h.lk,
    c _ _ (by omega) h.c2, h.rw.of_block (hk.same _ (by omega) (by omega)), c _ _ (by omega) h.c3, c _ _ (by omega) h.c4⟩
theorem CI.set {n₀ b1 B l m d : Nat} {K : Option Addr} {cr : List Crack} {f : Nat → Int} {W : World} (h : CI n₀ b1 B l m d K cr f W) (k : Nat) (x : Int) :
    CI n₀ b1 B l m d K cr (fun i => if i = k then x else f i) (W.setCell ⟨B + 1, k, none⟩ (.int .i64 x)) := by
  have hz := h.z
  have h1 := h.lt1
  have hs : (W.setCell ⟨B + 1, k, none⟩ (.int .i64 x)).heap.size = W.heap.size := by simp [World.setCell]
  have b : ∀ j, j ≠ B + 1 → (W.setCell ⟨B + 1, k, none⟩ (.int .i64 x)).heap[j]? = W.heap[j]? := fun j hj => Below.heap_setCell W _ _ j hj
  have c : ∀ j v, j ≠ B + 1 → W.cell? ⟨j, 0, none⟩ = some v → (W.setCell ⟨B + 1, k, none⟩ (.int .i64 x)).cell? ⟨j, 0, none⟩ = some v := fun j v hj e => (World.cell?_of_block (w := W) (a := ⟨j, 0, none⟩) (b j hj)).trans e
  refine ⟨by rw [hs]; exact hz, h1, c _ _ (by omega) h.c1, Reads.keepBy h.ck (fun j o e hm hb => ⟨by rw [hs]; exact hb, b j (by have := (h.lk j o e hm).2; omega)⟩), h.lk, c _ _ (by omega) h.c2, ?_, c _ _ (by omega) h.c3, c _ _ (by omega) h.c4⟩
  refine (h.rw.set k (.int .i64 x)).congr fun i _ => ?_
  split <;> rfl
/-- What a round is told: the list. -/
def Cols (B m : Nat) (all : List (List Int)) (x : List Int) (W : World) : Prop := x.length = m ∧ W.rowIs (B + 1) 3 m (fun i => .int .i64 (x.getD i 0)) ∧ B + 4 ≤ W.heap.size ∧ x ∈ all
theorem Cols.put {B m : Nat} {all : List (List Int)} {x : List Int} {W : World} (h : Cols (B + 2) m all x W) (r : Loop) : Cols (B + 2) m all x (W.putObj (B + 1) (.loop r)) :=
  ⟨h.1, h.2.1.of_block (World.putObj_heap_other (by omega)), by have := h.2.2.1; simp [World.putObj]; omega, h.2.2.2⟩

set_option maxRecDepth 100000 in
set_option maxHeartbeats 2000000 in
theorem crackFrom_in (F : Fence) (hd : F.depth = none) (h6 : F.fn 106) (hro : F.round = none) (J Jx : List (List Int) → World → Prop) (n₀ b1 B l m d : Nat) (K : Option Addr) (cr : List Crack)
    (hm4 : m ≤ 1000) (hcb : ∀ k, k < m → 0 ≤ (cr.getD k Crack.zero).cl ∧ (cr.getD k Crack.zero).cl ≤ 1000 ∧ 0 ≤ (cr.getD k Crack.zero).ch ∧ (cr.getD k Crack.zero).ch ≤ 1000) (hJ : StaysBut B (B + 4) J)
    (hY : ∀ j pre x W1, J pre W1 → Cols B m (colsFrom cr []) x W1 → YieldAt F j Try.prog l #[.slice (some ⟨B + 1, 0, none⟩) m m] W1 fun e W' =>
      (e = .returned (.bool true) ∧ J (pre ++ [x]) W' ∧ KI n₀ b1 B W1 W') ∨ (e = .returned (.bool false) ∧ Jx (pre ++ [x]) W')) :
    ∀ (rest : List Crack) (k n : Nat) (p : List Int) (pre : List (List Int)) (f : Nat → Int) (W : World), cr.drop k = rest → k + rest.length = m → p.length = k → (∀ q ∈ colsFrom rest p, q ∈ colsFrom cr []) → (∀ i, i < k → f i = p.getD i 0) → CI n₀ b1 B l m d K cr f W → J pre W →
      CallsIn F n Try.prog 106 #[.int .i64 k, .pointer (some ⟨b1, 0, none⟩), .pointer (some ⟨B, 0, none⟩), .pointer (some ⟨B + 2, 0, none⟩), .pointer (some ⟨B + 3, 0, none⟩)] W fun e W' =>
        (e = .returned (.bool true) ∧ J (pre ++ colsFrom rest p) W' ∧ ∃ f', (∀ i, i < k → f' i = p.getD i 0) ∧ CI n₀ b1 B l m d K cr f' W') ∨ (e = .returned (.bool false) ∧ ∃ q, Jx q W') := by
  have hdd : ∀ k : Nat, (F.depth.isSome = true → 1 ≤ k) := fun k h => by rw [hd] at h; cases h
  intro rest
  induction rest with
  | nil =>
    intro k n p pre f W hdr hk hp hsub hf hC hj
    obtain rfl : k = m := by simpa using hk
    obtain ⟨fn, tmps, assign, body, hy, hR⟩ := hY (n - 1) pre p W hj ⟨hp, hC.rw.congr fun i hi => (by rw [hf i hi]), hC.z, hsub p (by simp [colsFrom])⟩
    have hK := Lib.hid (fun W' => hC.keep (W' := W'))
    have c1 := hC.c1
    have c2 := hC.c2
    have c3 := hC.c3
    have HF := Lib.hid hf
    clear hf hC hcb hY hp hdr hk hsub
    refine callsIn_of_wp Try.func106 rfl h6 ?_ hro
    simp only [Try.ntmps106, List.size_toArray, List.length_cons, List.length_nil, Nat.reduceAdd, Nat.reduceSub, Array.replicate_succ, Array.replicate_zero, List.push_toArray, List.append_toArray, List.nil_append, List.cons_append]
    gi_wp2_with ((try refine ⟨hdd _, ?_⟩); refine hR.mono ?_; clear hR; rintro e W2 (⟨rfl, hJ2, hb2⟩ | ⟨rfl, hx2⟩))
    · go_ret
      exact .inl ⟨rfl, by simpa [colsFrom] using hJ2, f, HF.out, hK.out _ hb2⟩
    · go_ret
      exact .inr ⟨rfl, _, hx2⟩
  | cons c cs ih =>
    intro k n p pre f W hdr hk hp hsub hf hC hj
    have hkm : k < m := by simp at hk; omega
    have hlen : cr.length = m := hC.ck.len
    have hcr : cr.getD k Crack.zero = c := by
      have h := congrArg (·.head?) hdr
      simp only [List.head?_drop, List.head?_cons] at h
      simp [List.getD, h]
    have hdr' : cr.drop (k + 1) = cs := by
      have h := congrArg (·.tail) hdr
      simpa [List.tail_drop] using h
    obtain ⟨q1, q2, q3, q4⟩ := hcb k hkm
    rw [hcr] at q1 q2 q3 q4
    have HIH := Lib.hid (fun (i : Nat) (hi : i < (c.ch + 1 - c.cl).toNat) (n : Nat) (pre : List (List Int)) (f : Nat → Int) (W : World) h1 h2 h3 => ih (k + 1) n (p ++ [c.cl + (i : Int)]) pre f W hdr' (by simp at hk; omega) (by simp [hp]) (fun q hq => hsub q (by unfold colsFrom; exact List.mem_flatMap.2 ⟨i, List.mem_range.2 hi, hq⟩)) h1 h2 h3)
    have HP := Lib.hid hp
    have HJ := Lib.hid hJ
    have HALL : Hid (∀ i, i = (c.ch + 1 - c.cl).toNat → colsFrom (c :: cs) p = colsTo cs c.cl p i) := fun i e => by rw [e]; rfl
    obtain ⟨b, off, hA, hb, r0, r1, -⟩ := Cracks.at_ hC.ck hkm
    rw [hcr] at r0 r1
    subst hA
    have c1 := hC.c1
    have HC := Lib.hid hC
    have HF := Lib.hid hf
    have hkm2 : (k : Int) < (m : Int) := by omega
    have hkm3 : ((k : Int) == (m : Int)) = false := by simp; omega
    have HCR := Lib.hid hcr
    clear hC hf hcb hY hp hdr hdr' hk ih hJ hb hlen hcr hsub
    refine callsIn_of_wp Try.func106 rfl h6 ?_ hro
    simp only [Try.ntmps106, List.size_toArray, List.length_cons, List.length_nil, Nat.reduceAdd, Nat.reduceSub, Array.replicate_succ, Array.replicate_zero, List.push_toArray, List.append_toArray, List.nil_append, List.cons_append]
    gi_wp2_with fail
    clear c1 r0 r1
    gi_loopw [7] (fun x wr => ∃ (i : Nat) (f' : Nat → Int), i ≤ (c.ch + 1 - c.cl).toNat ∧ x = .int .i64 (c.cl + i) ∧ J (pre ++ colsTo cs c.cl p i) wr ∧ (∀ j, j < k → f' j = p.getD j 0) ∧ CI n₀ b1 B l m d (some ⟨b, off, none⟩) cr f' wr) (fun x _ => (c.ch + 1 - intOf x).toNat)
    case atStart => exact ⟨0, f, Nat.zero_le _, by simp, by simpa [colsTo] using hj, HF.out, HC.out⟩
    case round =>
      obtain ⟨i, f', hi, rfl, hji, hfi, hC⟩ := hrel
      obtain ⟨b', off', hA, hb, r0, r1, -⟩ := Cracks.at_ hC.ck hkm
      rw [HCR.out] at r0 r1
      simp only [Option.some.injEq, Addr.mk.injEq, and_true] at hA
      obtain ⟨rfl, rfl⟩ := hA
      have c1 := hC.c1
      by_cases hlt : c.cl + i ≤ c.ch
      · have c3 := hC.c3
        have c4 := hC.c4
        have w0 := hC.rw.cell (i := k) hkm
        have w1 := hC.rw.frozen k
        have C2 := hC.set k (c.cl + i)
        have c4' := C2.c4
        have J2 := HJ.out _ _ _ _ hji (grownBy_set wr ⟨B + 1, k, none⟩ (.int .i64 (c.cl + i))) (fun r e => by cases e; exact ⟨by simp, by simp⟩)
        have hf2 : ∀ j, j < k + 1 → (fun j => if j = k then c.cl + i else f' j) j = (p ++ [c.cl + (i : Int)]).getD j 0 := fun j hj => by
          by_cases e : j = k
          · subst e; simp [← HP.out]
          · simp only [e, if_false]
            rw [hfi j (by omega)]
            simp [List.getD, List.getElem?_append_left (show j < p.length by rw [HP.out]; omega)]
        have ih1 := fun n => HIH.out i (by omega) n _ _ _ hf2 C2 J2
        have ec : ((k + 1 : Nat) : Int) = (k : Int) + 1 := by omega
        rw [ec] at ih1
        have HI := Lib.hid ih1
        have HFI := Lib.hid hfi
        clear hfi hf2 ih1 J2 C2 hC hji ec
        gi_wp2_with ((try refine ⟨hdd _, ?_⟩); gi_at_call 106; refine (HI.out _).mono ?_; clear HI; rintro e W1 (⟨rfl, hJ1, f2, hf2, hC1⟩ | ⟨rfl, q, hq⟩))
        · go_roundw
          case rel => exact ⟨i + 1, f2, by omega, by go_num, by rw [colsTo_succ, ← List.append_assoc]; exact hJ1, fun j hj => by rw [hf2 j (by omega)]; simp [List.getD, List.getElem?_append_left (show j < p.length by rw [HP.out]; omega)], hC1⟩
          case measure => simp [intOf]; omega
        · go_ret
          exact .inr ⟨rfl, q, hq⟩
      · have hlt' : c.ch < c.cl + i := by omega
        have HCI := Lib.hid hC
        have HFI := Lib.hid hfi
        have HJI := Lib.hid hji
        clear hC hfi hji
        gi_wp2_with fail
        go_ret
        exact .inl ⟨rfl, by rw [HALL.out i (by omega)]; exact HJI.out, f', HFI.out, HCI.out⟩
theorem Try.zeroInt94 : (Try.prog.info? 3).map (fun i => (i.zero, i.size, i.bytes)) = some (some (.int .i64 0), 1, 8) := by kernel_rfl
set_option maxRecDepth 100000 in
set_option maxHeartbeats 2000000 in
theorem cracks_told (F : Fence) (hd : F.depth = none) (n : Nat) (h5 : F.fn 105) (h6 : F.fn 106) (hro : F.round = none) (n₀ b1 m d : Nat) (K : Option Addr) (cr : List Crack) (w : World)
    (hm4 : m ≤ 1000) (hcb : ∀ k, k < m → 0 ≤ (cr.getD k Crack.zero).cl ∧ (cr.getD k Crack.zero).cl ≤ 1000 ∧ 0 ≤ (cr.getD k Crack.zero).ch ∧ (cr.getD k Crack.zero).ch ≤ 1000)
    (hb1 : b1 < w.heap.size) (c1 : w.cell? ⟨b1, 0, none⟩ = some (.slice K m d)) (ck : Cracks w K m cr) (lk : ∀ b o, K = some ⟨b, o, none⟩ → 0 < m → b < n₀ ∧ b < w.heap.size) :
    SeqTold F n Try.prog 105 #[.pointer (some ⟨b1, 0, none⟩)] (fun _ => #[.slice (some ⟨w.heap.size + 2 + 1, 0, none⟩) m m]) (Cols (w.heap.size + 2) m (colsFrom cr [])) (KI n₀ b1 (w.heap.size + 2)) (fun xs => xs = colsFrom cr []) (fun _ => True) (w.heap.size + 2 + 4) w := by
  intro l J Jx W hW hz hJ hY h0
  have hdd : ∀ k : Nat, (F.depth.isSome = true → 1 ≤ k) := fun k h => by rw [hd] at h; cases h
  rw [hz] at hJ
  have HFR := Lib.hid (crackFrom_in F hd h6 hro J Jx n₀ b1 (w.heap.size + 2) l m d K cr hm4 hcb hJ (fun j pre x W1 hj ht => by
    obtain ⟨fn, tmps, assign, body, hy, hR⟩ := hY pre x W1 hj ht
    exact ⟨fn, tmps, assign, body, hy, hR.1, fun c cs _ => hR.2 c cs (fun d h => by rw [hd] at h; cases h)⟩) cr 0 (n - 1) [] [] (fun _ => 0))
  have hc1 : W.cell? ⟨b1, 0, none⟩ = some (.slice K m d) := (hW.cell (p := ⟨b1, 0, none⟩) hb1).trans c1
  have HCK := Lib.hid (ck.below hW)
  have HZ := Lib.hid hz
  have hmk := fun W => run_make_row' (P := Try.prog) 44 3 (.int .i64 0) 8 Try.underlying44 Try.zeroInt94 rfl .i64 .i64 m (by omega) (by omega) W
  have hb1W : b1 < W.heap.size := Nat.lt_of_lt_of_le hb1 hW.size
  have hal : ∀ o, (W.alloc o).cell? ⟨b1, 0, none⟩ = some (.slice K m d) := fun o => (World.cell?_of_block (w := W) (a := ⟨b1, 0, none⟩) (Below.heap_alloc W o b1 hb1W)).trans hc1
  have hnew : ∀ (o1 o2 o3 : Obj) (t : TypeId), ((((W.alloc o1).alloc o2).alloc o3).alloc (.cells #[.nilFunc] t)).cell? ⟨W.heap.size + 1 + 1 + 1, 0, none⟩ = some .nilFunc := fun o1 o2 o3 t => by
    have h := World.alloc_heap_new (((W.alloc o1).alloc o2).alloc o3) (.cells #[.nilFunc] t)
    simp only [World.size_alloc] at h
    exact Boxed.cell (t := t) h
  have hnewf : ∀ (o1 o2 o3 : Obj) (t : TypeId), ((((W.alloc o1).alloc o2).alloc o3).alloc (.cells #[.nilFunc] t)).frozen? ⟨W.heap.size + 1 + 1 + 1, 0, none⟩ = false := fun o1 o2 o3 t => by
    have h := World.alloc_heap_new (((W.alloc o1).alloc o2).alloc o3) (.cells #[.nilFunc] t)
    simp only [World.size_alloc] at h
    exact Boxed.frozen (t := t) h
  clear hY hcb c1 ck hW hz
  refine callsIn_of_wp Try.func105 rfl h5 ?_ hro
  simp only [Try.ntmps105, List.size_toArray, List.length_cons, List.length_nil, Nat.reduceAdd, Nat.reduceSub, Array.replicate_succ, Array.replicate_zero, List.push_toArray, List.append_toArray, List.nil_append, List.cons_append]
  gi_wp2_with fail
  clear hal hnew hnewf hmk
  rw [← HZ.out] at HFR hJ
  have al : ∀ {X : World} (o : Obj), J [] X → J [] (X.alloc o) := fun o h => hJ _ _ _ none h (World.grownBy_alloc _ o none) (fun r e => by cases e)
  refine (HFR.out _ rfl (by simp [HCK.out.len]) rfl (fun _ h => h) (fun i h => absurd h (by omega)) ⟨?z, hb1W, ?c1, ?ck, ?lk, ?c2, ?rw, ?c3, ?c4⟩ (al _ (al _ (al _ (al _ h0))))).mono ?_
  case z => simp
  case c1 => exact ((((((Below.refl _ W).alloc (Nat.le_refl _) _).alloc (by simp) _).alloc (by simp; omega) _).alloc (by simp; omega) _).cell (p := ⟨b1, 0, none⟩) hb1W).trans hc1
  case ck => exact HCK.out.below (((((Below.refl _ W).alloc (Nat.le_refl _) _).alloc (by simp) _).alloc (by simp; omega) _).alloc (by simp; omega) _)
  case lk => intro b o e hm; have h := lk b o e hm; have := HZ.out; exact ⟨h.1, by omega⟩
  case c2 => exact ((((Boxed.new W _ _).alloc _).alloc _).alloc _).cell
  case rw =>
    have h := World.rowIs_made (W.alloc (.cells #[.func (.yield l) #[] #[]] 166)) (.int .i64 0) m 3
    rw [World.size_alloc] at h
    exact (h.alloc _).alloc _
  case c3 =>
    have h := Boxed.new ((W.alloc (.cells #[.func (.yield l) #[] #[]] 166)).alloc (.cells (madeCells #[.int .i64 0] m) 3)) 44 (.slice (some ⟨W.heap.size + 1, 0, none⟩) m m)
    simp only [World.size_alloc] at h
    exact (h.alloc _).cell
  case c4 =>
    have h := Boxed.new (((W.alloc (.cells #[.func (.yield l) #[] #[]] 166)).alloc (.cells (madeCells #[.int .i64 0] m) 3)).alloc (.cells #[.slice (some ⟨W.heap.size + 1, 0, none⟩) m m] 44)) 146 (.func (.func 106) #[] #[.pointer (some ⟨b1, 0, none⟩), .pointer (some ⟨W.heap.size, 0, none⟩), .pointer (some ⟨W.heap.size + 2, 0, none⟩), .pointer (some ⟨W.heap.size + 3, 0, none⟩)])
    simp only [World.size_alloc] at h
    exact h.cell
  rintro e W6 (⟨rfl, hJ6, -⟩ | ⟨rfl, q, hq⟩)
  · gi_wp2_with fail
    go_end0
    exact ⟨⟨_, rfl⟩, .inl ⟨_, rfl, by simpa using hJ6⟩⟩
  · gi_wp2_with fail
    go_end0
    exact ⟨⟨_, rfl⟩, .inr ⟨q, trivial, hq⟩⟩
theorem crackColumns_in (F : Fence) (n : Nat) (h : F.fn 81) (hro : F.round = none) (K : Option Addr) (m d : Nat) (w : World) :
    CallsIn F n Try.prog 81 #[.slice K m d] w fun e w' => e = .returned (.func (.func 105) #[] #[.pointer (some ⟨w.heap.size, 0, none⟩)]) ∧ w' = w.alloc (.cells #[.slice K m d] 23) := by
  refine callsIn_of_wp Try.func81 rfl h ?_ hro
  simp only [Try.ntmps81, List.size_toArray, List.length_cons, List.length_nil, Nat.reduceAdd, Nat.reduceSub, Array.replicate_succ, Array.replicate_zero, List.push_toArray, List.append_toArray, List.nil_append, List.cons_append]
  gi_wp2
  go_ret
  exact ⟨rfl, rfl⟩
end Go.Proofs.Ytiflhimmieflpaa
