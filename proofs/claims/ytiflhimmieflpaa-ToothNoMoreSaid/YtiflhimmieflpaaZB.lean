/- Merged: Told, W94, W95, W96, W100, W101, W99, W102, Rnd, W97, W103, W104. -/
import Derived.RangeFuncNested
import Derived.Test.YtiflhimmieflpaaM1
import Derived.RangeFuncBound
import Derived.RangeFuncLeaves
import Derived.Shelf.Abstract
import Derived.Shelf.RegionOpen
import Derived.OwnWalkIn
import Derived.TacticsInMore
import Derived.LoopNIn
import Derived.LoopIn
import Derived.Deep.OwnRows
import Derived.Laws.EntriesVeiled
import Derived.Test.YtiflhimmieflpaaM2
import Derived.Test.YtiflhimmieflpaaUntil
import Derived.Deep.AppendLies
import Derived.Test.YtiflhimmieflpaaM4
import Derived.Lib.Hide
import Derived.Deep.RegionHeld3
import Derived.Test.YtiflhimmieflpaaW75
import Derived.Test.YtiflhimmieflpaaHeld
import Derived.Test.YtiflhimmieflpaaW46
import Derived.Test.YtiflhimmieflpaaW64
import Derived.Test.YtiflhimmieflpaaM6
import Derived.OrdersIn
import Derived.RangeFuncCalls
import Derived.TacticsIn
import Derived.Test.YtiflhimmieflpaaW60
import Derived.Test.YtiflhimmieflpaaW55
import Derived.Test.YtiflhimmieflpaaW51

/- A range over a function whose iterator hands out one list of its own that changes: each round is told what it holds. -/
namespace Go.Proofs.Ytiflhimmieflpaa
open Go.RowKit
variable {F : Fence} {n : Nat} {P : Program} {w : World}

/-- What abides changes of the blocks from B on, ahead of C: those that the iterator keeps for itself. -/
def StaysBut (B C : Nat) {β : Type} (I : β → World → Prop) : Prop :=
  ∀ s W W' row, I s W → W.grownBy W' row → (∀ r, row = some r → B ≤ r ∧ r < C) → I s W'
theorem StaysBut.and {B C : Nat} {β : Type} {I I' : β → World → Prop} (h : StaysBut B C I) (h' : StaysBut B C I') : StaysBut B C (fun s W => I s W ∧ I' s W) :=
  fun s W W' row hs hg hr => ⟨h s W W' row hs.1 hg hr, h' s W W' row hs.2 hg hr⟩
/-- An iterator that tells each round what its own list holds (Tell), and leaves alone what lies elsewhere. Its blocks lie from B on, ahead of C. -/
def SeqTold {α : Type} (F : Fence) (n : Nat) (P : Program) (g : Nat) (lb : Array Value) (encs : α → Array Value) (Tell : α → World → Prop) (Kp : World → World → Prop) (S Sp : List α → Prop) (C : Nat) (w : World) : Prop :=
  ∀ (l : Nat) (J Jx : List α → World → Prop) (W : World), Below w.heap.size w W → W.heap.size = w.heap.size + 2 → StaysBut W.heap.size C J →
    (∀ pre x W1, J pre W1 → Tell x W1 → YieldAt F (n - 1) P l (encs x) W1 fun e W' =>
      (e = .returned (.bool true) ∧ J (pre ++ [x]) W' ∧ Kp W1 W') ∨ (e = .returned (.bool false) ∧ Jx (pre ++ [x]) W')) →
    J [] W →
    CallsIn F n P g (#[.func (.yield l) #[] #[]] ++ lb) W fun e W' => (∃ v, e = .returned v) ∧ ((∃ xs, S xs ∧ J xs W') ∨ (∃ pre, Sp pre ∧ Jx pre W'))
/-- The book of a loop: its record, and the block for what its rounds defer. -/
structure Book (B : Nat) (r : Loop) (W : World) : Prop where
  lp : W.heap[B + 1]? = some (.loop r)
  dfr : W.heap[B]? = some (.deferred (some []))
theorem Book.grown {B : Nat} {r : Loop} {W W' : World} {row : Option Nat} (h : Book B r W) (hg : W.grownBy W' row) (hr : ∀ k, row = some k → B + 2 ≤ k) : Book B r W' :=
  ⟨(hg.block _ (Array.getElem?_eq_some_iff.1 h.lp).1 (fun e => by have := hr _ e.symm; omega)).trans h.lp,
    (hg.block _ (Array.getElem?_eq_some_iff.1 h.dfr).1 (fun e => by have := hr _ e.symm; omega)).trans h.dfr⟩
theorem Book.keeps {B : Nat} {r : Loop} {W W' : World} (h : Book B r W) (hk : KeepsFrom B W W') : Book B r W' :=
  ⟨hk.same _ _ (by omega) h.lp rfl, hk.same _ _ (Nat.le_refl _) h.dfr rfl⟩
theorem Book.turn {B : Nat} {r : Loop} {W : World} (h : Book B r W) (r' : Loop) : Book B r' (W.putObj (B + 1) (.loop r')) :=
  ⟨World.putObj_heap_same (Array.getElem?_eq_some_iff.1 h.lp).1, (World.putObj_heap_other (by omega)).trans h.dfr⟩
set_option maxHeartbeats 1000000 in
/-- THE LAW: the caller's body is walked once, told what the list holds. -/
theorem wpIn_range_told {α : Type} {g : Operand} {ps : Array Tmp} {assign body : Code} {Q : Exit → Act → World → Prop} {a : Act}
    (hro : F.round = none) (h1 : 1 ≤ n) {gf : Nat} {lb : Array Value} (hg : a.eval g = .func (.func gf) #[] lb) (hFg : F.fn gf) (eg : ∀ args w, (callFunc gf args).run P w = .ok (.enter gf args) w)
    {encs : α → Array Value} {Tell : α → World → Prop} {Kp : World → World → Prop} {S Sp : List α → Prop} {C : Nat} (hseq : SeqTold F (n - 1) P gf lb encs Tell Kp S Sp C w)
    (hTell : ∀ x W r r', Book w.heap.size r W → Tell x W → Tell x (W.putObj (w.heap.size + 1) (.loop r')))
    (hKt : ∀ {A B C : World}, Kp A B → Kp B C → Kp A C) (hKb : ∀ (W : World) (r r' : Loop), Book w.heap.size r W → Kp W (W.putObj (w.heap.size + 1) (.loop r'))) (hps : ∀ x, (encs x).size = ps.size)
    (I : List α → World → Prop) (Ix : Code → List α → World → Prop) (hI : OwnFrom w.heap.size I) (hIx : ∀ c, OwnFrom w.heap.size (Ix c)) (hI2 : StaysBut (w.heap.size + 2) C I) (h0 : I [] w) (a₁ : α → Act)
    (hassign : ∀ (l : Nat) (x : α) (W : World) (K : Act → World → Prop), K (a₁ x) W →
      assign.wpIn (F.inRound l) (n - 1 - 1) P (Exit.then K (fun _ _ _ => False)) { tmps := (ps.zip (encs x)).foldl (fun t (p, v) => t.setIfInBounds p v) a.tmps, defers := [] } W)
    (hbody : ∀ (l : Nat) (pre : List α) (x : α) (W : World), w.heap.size + 2 ≤ W.heap.size → I pre W → Tell x W → body.wpIn (F.inRound l) (n - 1 - 1) P (ownPostG w.heap.size Kp I Ix (pre ++ [x]) W) (a₁ x) W)
    (hdone : ∀ (D : Nat) (xs : List α) (W : World), w.heap.size ≤ D → S xs → I xs W → W.heap[D]? = some (.deferred (some [])) → Q .normal { a with defers := { target := .collected D, args := #[] } :: a.defers } W)
    (hstop : ∀ (D : Nat) (c : Code) (pre : List α) (W : World), w.heap.size ≤ D → Sp pre → Ix c pre W → W.heap[D]? = some (.deferred (some [])) → c.wpIn F n P Q { a with defers := { target := .collected D, args := #[] } :: a.defers } W) :
    (Code.rangeFunc g ps assign body).wpIn F n P Q a w := by
  refine wpIn_rangeFunc fun fn hfn => ?_
  rw [hro]
  obtain ⟨rec, hrec⟩ : ∃ rec : LoopState → Option Code → Loop, rec = fun st pe => { state := st, pending := pe, fn, tmps := a.tmps, params := ps, assign, body, defers := w.heap.size } := ⟨_, rfl⟩
  obtain ⟨W1, hW1⟩ : ∃ W1, (w.alloc (.deferred (some []))).alloc (.loop (rec .ready none)) = W1 := ⟨_, rfl⟩
  have hB1 : Book w.heap.size (rec .ready none) W1 := by
    rw [← hW1]
    refine ⟨?_, (Below.heap_alloc _ _ _ (by simp)).trans (World.alloc_heap_new w _)⟩
    have := World.alloc_heap_new (w.alloc (.deferred (some []))) (.loop (rec .ready none))
    rwa [World.size_alloc] at this
  have hz1 : W1.heap.size = w.heap.size + 2 := by rw [← hW1]; simp
  have hI1 : I [] W1 := by rw [← hW1]; exact hI.alloc _ (hI.alloc _ h0)
  have hb1 : Below w.heap.size w W1 := by rw [← hW1]; exact ((Below.refl _ w).alloc (Nat.le_refl _) _).alloc (by simp) _
  have put : ∀ {J : List α → World → Prop} (_ : OwnFrom w.heap.size J) {s : List α} {W : World} {r r' : Loop}, Book w.heap.size r W → J s W → J s (W.putObj (w.heap.size + 1) (.loop r')) :=
    by intro J hJ s W r r' hbk hs; exact hJ.putObj _ hs (by omega) hbk.lp rfl
  refine ⟨w.heap.size + 1, [{ target := .collected w.heap.size, args := #[] }], W1, { target := .fn (.func gf) lb, args := #[.func (.yield (w.heap.size + 1)) #[] #[]] }, W1, gf,
    #[.func (.yield (w.heap.size + 1)) #[] #[]] ++ lb, W1, ?_, ?_, ?_, ?_, fun _ => h1, ?_⟩
  · rw [← hW1, hrec]; exact run_enterLoop_outer _ _ _ _ _
  · simp only [resolve, hg]
    simp [go_sem]
  · intro f' hf'; simp [Target.leads] at hf'; subst hf'; exact hFg
  · simp [invoke, go_sem, eg]
  refine (hseq (w.heap.size + 1) (fun pre W => I pre W ∧ Book w.heap.size (rec .ready none) W) (fun pre W => ∃ c, Ix c pre W ∧ Book w.heap.size (rec .done (some c)) W) W1 hb1 hz1 ?_ ?_ ⟨hI1, hB1⟩).mono ?_
  · intro s W W' row hs hgr hr
    rw [hz1] at hr
    exact ⟨hI2 s W W' row hs.1 hgr hr, hs.2.grown hgr (fun k e => (hr k e).1)⟩
  · -- a round
    rintro pre x W ⟨hi, hbk⟩ htell
    have hy := run_yield (P := P) (args := encs x) hbk.lp (by rw [hrec]; exact hps x)
    rw [hrec] at hy
    refine ⟨fn, _, assign, body, hy, roundIn_of_wpIn hfn (hassign _ x W _ ⟨_, run_beginRound hbk.lp (by rw [hrec]), ?_⟩)⟩
    clear hy
    have hbk2 := hbk.turn { rec .ready none with state := .busy }
    have hlt : w.heap.size + 1 < W.heap.size := (Array.getElem?_eq_some_iff.1 hbk.lp).1
    refine wpIn_mono (hbody _ pre x _ (by simp [World.putObj]; omega) (put hI hbk hi) (hTell x W _ _ hbk htell)) ?_
    have fin : ∀ (jump : Option Code) (W3 : World), KeepsFrom w.heap.size (W.putObj (w.heap.size + 1) (.loop { rec .ready none with state := .busy })) W3 →
        (Instr.endRound (w.heap.size + 1) jump).run P W3 = .ok (.bool jump.isNone) (W3.putObj (w.heap.size + 1) (.loop (rec (if jump.isNone then .ready else .done) jump))) ∧ Book w.heap.size { rec .ready none with state := .busy } W3 := fun jump W3 hk3 => by
      have hb3 := hbk2.keeps hk3
      have := run_endRound (P := P) jump hb3.lp
      rw [hrec] at this hb3 ⊢
      exact ⟨this, hb3⟩
    have left : ∀ (c : Code) (W3 : World), KeepsFrom w.heap.size (W.putObj (w.heap.size + 1) (.loop { rec .ready none with state := .busy })) W3 → Ix c (pre ++ [x]) W3 →
        ∃ v W4, (Instr.endRound (w.heap.size + 1) (some c)).run P W3 = .ok v W4 ∧ ((Ending.returned v = .returned (.bool true) ∧ (I (pre ++ [x]) W4 ∧ Book w.heap.size (rec .ready none) W4) ∧ Kp W W4) ∨ (Ending.returned v = .returned (.bool false) ∧ ∃ c, Ix c (pre ++ [x]) W4 ∧ Book w.heap.size (rec .done (some c)) W4)) := fun c W3 hk3 hi3 => by
      obtain ⟨hr, hb3⟩ := fin (some c) W3 hk3
      exact ⟨_, _, hr, .inr ⟨rfl, c, put (hIx c) hb3 hi3, hb3.turn _⟩⟩
    rintro e a3 W3 hp
    cases e with
    | normal =>
      obtain ⟨hk3, hkp3, hi3⟩ := hp
      obtain ⟨hr, hb3⟩ := fin none W3 hk3
      exact ⟨_, _, hr, .inl ⟨rfl, ⟨put hI hb3 hi3, hb3.turn _⟩, hKt (hKb _ _ _ hbk) (hKt hkp3 (hKb _ _ _ hb3))⟩⟩
    | ret => exact left .ret W3 hp.1 hp.2
    | exit id => exact left (.exit id) W3 hp.1 hp.2
    | goto t => exact left (.goto t) W3 hp.1 hp.2
    | panic ch => exact hp.elim
    | outgrown => exact hp.elim
  · -- behind the iterator
    rintro e W2 ⟨⟨v, rfl⟩, (⟨xs, hS, hi, hbk⟩ | ⟨pre, hSp, c, hi, hbk⟩)⟩
    · exact ⟨none, _, by have := run_endLoop (P := P) hbk.lp (by rw [hrec]; simp); rw [hrec] at this; exact this, hdone _ xs _ (Nat.le_refl _) hS (put hI hbk hi) ((World.putObj_heap_other (by omega)).trans hbk.dfr)⟩
    · exact ⟨some c, _, by have := run_endLoop (P := P) hbk.lp (by rw [hrec]; simp); rw [hrec] at this; exact this, hstop _ c pre _ (Nat.le_refl _) hSp (put (hIx c) hbk hi) ((World.putObj_heap_other (by omega)).trans hbk.dfr)⟩
end Go.Proofs.Ytiflhimmieflpaa

/- Walks: the iterator over all lists of columns of the cracks: one list that changes. -/
namespace Go.Proofs.Ytiflhimmieflpaa
open Go.RowKit Go.Maps Go.Shelf
attribute [local go_sem] Oper.semAt_some

/-- All lists of columns that begin so. -/
def colsFrom : List Crack → List Int → List (List Int)
  | [], p => [p]
  | c :: cs, p => (List.range (c.ch + 1 - c.cl).toNat).flatMap fun (i : Nat) => colsFrom cs (p ++ [c.cl + i])
def colsTo (cs : List Crack) (cl : Int) (p : List Int) (i : Nat) : List (List Int) := (List.range i).flatMap fun (j : Nat) => colsFrom cs (p ++ [cl + j])
theorem colsTo_succ (cs : List Crack) (cl : Int) (p : List Int) (i : Nat) : colsTo cs cl p (i + 1) = colsTo cs cl p i ++ colsFrom cs (p ++ [cl + i]) := by
  unfold colsTo
  rw [List.range_succ, List.flatMap_append, List.flatMap_singleton]
theorem grownBy_set (W : World) (a : Addr) (v : Value) : W.grownBy (W.setCell a v) (some a.block) :=
  ⟨rfl, rfl, rfl, by simp [World.setCell], fun k _ h => Below.heap_setCell W a v k (fun e => h (by rw [e]))⟩

/-- What a round leaves as it was: what lay ahead of n₀, the box of the cracks, and the iterator's own blocks. -/
structure KX (n₀ b1 B : Nat) (W W' : World) : Prop where
  size : W.heap.size ≤ W'.heap.size
  same : ∀ k, k < W.heap.size → k < n₀ ∨ k = b1 ∨ (B ≤ k ∧ k < B + 4) → W'.heap[k]? = W.heap[k]?
section
variable {n₀ b1 B : Nat} {W W' W'' : World}
theorem KX.refl : KX n₀ b1 B W W := ⟨Nat.le_refl _, fun _ _ _ => rfl⟩
theorem KX.trans (h : KX n₀ b1 B W W') (k : KX n₀ b1 B W' W'') : KX n₀ b1 B W W'' := ⟨Nat.le_trans h.size k.size, fun i hi hc => (k.same i (Nat.lt_of_lt_of_le hi h.size) hc).trans (h.same i hi hc)⟩
theorem KX.of_below (h : Below W.heap.size W W') : KX n₀ b1 B W W' := ⟨h.size, fun k hk _ => h.block k hk⟩
theorem KX.set (a : Addr) (v : Value) (h1 : n₀ ≤ a.block) (h2 : a.block ≠ b1) (h3 : a.block < B) : KX n₀ b1 B W (W.setCell a v) :=
  ⟨by simp [World.setCell], fun k _ hc => Below.heap_setCell W a v k (by omega)⟩
theorem KX.put (r' : Loop) (h1 : n₀ ≤ B) (h2 : b1 < B) : KX n₀ b1 (B + 2) W (W.putObj (B + 1) (.loop r')) :=
  ⟨by simp [World.putObj], fun k _ hc => World.putObj_heap_other (by omega)⟩
end
/-- What the iterator works with. -/
structure CI (n₀ b1 B l m d : Nat) (K : Option Addr) (cr : List Crack) (f : Nat → Int) (W : World) : Prop where
  z : B + 4 ≤ W.heap.size
  lt1 : b1 < B
  c1 : W.cell? ⟨b1, 0, none⟩ = some (.slice K m d)
  ck : Cracks W K m cr
  lk : ∀ b o, K = some ⟨b, o, none⟩ → 0 < m → b < n₀ ∧ b < B
  c2 : W.cell? ⟨B, 0, none⟩ = some (.func (.yield l) #[] #[])
  rw : W.rowIs (B + 1) 3 m (fun i => .int .i64 (f i))
  c3 : W.cell? ⟨B + 2, 0, none⟩ = some (.slice (some ⟨B + 1, 0, none⟩) m m)
  c4 : W.cell? ⟨B + 3, 0, none⟩ = some (.func (.func 106) #[] #[.pointer (some ⟨b1, 0, none⟩), .pointer (some ⟨B, 0, none⟩), .pointer (some ⟨B + 2, 0, none⟩), .pointer (some ⟨B + 3, 0, none⟩)])
theorem Reads.keepBy {w w' : World} {size n : Nat} {A : Option Addr} {xs : List Value} (h : Reads w size A n xs) (hk : ∀ b o, A = some ⟨b, o, none⟩ → 0 < n → b < w.heap.size → b < w'.heap.size ∧ w'.heap[b]? = w.heap[b]?) : Reads w' size A n xs :=
  ⟨h.1, fun hn => by
    obtain ⟨b, off, e, hlt, hc⟩ := h.2 hn
    obtain ⟨h1, h2⟩ := hk b off e hn hlt
    exact ⟨b, off, e, h1, fun j u hu => (World.cell?_of_block (w := w) (a := ⟨b, off + j, none⟩) h2).trans (hc j u hu)⟩⟩
theorem CI.keep {n₀ b1 B l m d : Nat} {K : Option Addr} {cr : List Crack} {f : Nat → Int} {W W' : World} (h : CI n₀ b1 B l m d K cr f W) (hk : KX n₀ b1 B W W') : CI n₀ b1 B l m d K cr f W' := by
  have hz := h.z
  have h1 := h.lt1
  have c : ∀ k v, k = b1 ∨ (B ≤ k ∧ k < B + 4) → W.cell? ⟨k, 0, none⟩ = some v → W'.cell? ⟨k, 0, none⟩ = some v := fun k v hc e => (World.cell?_of_block (w := W) (a := ⟨k, 0, none⟩) (hk.same k (by omega) (.inr hc))).trans e
  exact ⟨Nat.le_trans h.z hk.size, h.lt1, c _ _ (by omega) h.c1, Reads.keepBy h.ck (fun b o e hm hb => ⟨Nat.lt_of_lt_of_le hb hk.size, hk.same b hb (.inl (h.lk b o e hm).1)⟩), h.lk,
    c _ _ (by omega) h.c2, h.rw.of_block (hk.same _ (by omega) (by omega)), c _ _ (by omega) h.c3, c _ _ (by omega) h.c4⟩
theorem CI.set {n₀ b1 B l m d : Nat} {K : Option Addr} {cr : List Crack} {f : Nat → Int} {W : World} (h : CI n₀ b1 B l m d K cr f W) (k : Nat) (x : Int) :
    CI n₀ b1 B l m d K cr (fun i => if i = k then x else f i) (W.setCell ⟨B + 1, k, none⟩ (.int .i64 x)) := by
  have hz := h.z
  have h1 := h.lt1
  have hs : (W.setCell ⟨B + 1, k, none⟩ (.int .i64 x)).heap.size = W.heap.size := by simp [World.setCell]
  have b : ∀ j, j ≠ B + 1 → (W.setCell ⟨B + 1, k, none⟩ (.int .i64 x)).heap[j]? = W.heap[j]? := fun j hj => Below.heap_setCell W _ _ j hj
  have c : ∀ j v, j ≠ B + 1 → W.cell? ⟨j, 0, none⟩ = some v → (W.setCell ⟨B + 1, k, none⟩ (.int .i64 x)).cell? ⟨j, 0, none⟩ = some v := fun j v hj e => (World.cell?_of_block (w := W) (a := ⟨j, 0, none⟩) (b j hj)).trans e
  refine ⟨by rw [hs]; exact hz, h1, c _ _ (by omega) h.c1, Reads.keepBy h.ck (fun j o e hm hb => ⟨by rw [hs]; exact hb, b j (by have := (h.lk j o e hm).2; omega)⟩), h.lk, c _ _ (by omega) h.c2, ?_, c _ _ (by omega) h.c3, c _ _ (by omega) h.c4⟩
  refine (h.rw.set k (.int .i64 x)).congr fun i _ => ?_
  split <;> rfl
/-- What a round is told: the list. -/
def Cols (B m : Nat) (all : List (List Int)) (x : List Int) (W : World) : Prop := x.length = m ∧ W.rowIs (B + 1) 3 m (fun i => .int .i64 (x.getD i 0)) ∧ B + 4 ≤ W.heap.size ∧ x ∈ all
theorem Cols.put {B m : Nat} {all : List (List Int)} {x : List Int} {W : World} (h : Cols (B + 2) m all x W) (r : Loop) : Cols (B + 2) m all x (W.putObj (B + 1) (.loop r)) :=
  ⟨h.1, h.2.1.of_block (World.putObj_heap_other (by omega)), by have := h.2.2.1; simp [World.putObj]; omega, h.2.2.2⟩

set_option maxRecDepth 100000 in
set_option maxHeartbeats 2000000 in
theorem crackFrom_in (F : Fence) (hd : F.depth = none) (h6 : F.fn 106) (hro : F.round = none) (J Jx : List (List Int) → World → Prop) (n₀ b1 B l m d : Nat) (K : Option Addr) (cr : List Crack)
    (hm4 : m ≤ 1000) (hcb : ∀ k, k < m → 0 ≤ (cr.getD k Crack.zero).cl ∧ (cr.getD k Crack.zero).cl ≤ 1000 ∧ 0 ≤ (cr.getD k Crack.zero).ch ∧ (cr.getD k Crack.zero).ch ≤ 1000) (hJ : StaysBut B (B + 4) J)
    (hY : ∀ j pre x W1, J pre W1 → Cols B m (colsFrom cr []) x W1 → YieldAt F j Try.prog l #[.slice (some ⟨B + 1, 0, none⟩) m m] W1 fun e W' =>
      (e = .returned (.bool true) ∧ J (pre ++ [x]) W' ∧ KX n₀ b1 B W1 W') ∨ (e = .returned (.bool false) ∧ Jx (pre ++ [x]) W')) :
    ∀ (rest : List Crack) (k n : Nat) (p : List Int) (pre : List (List Int)) (f : Nat → Int) (W : World), cr.drop k = rest → k + rest.length = m → p.length = k → (∀ q ∈ colsFrom rest p, q ∈ colsFrom cr []) → (∀ i, i < k → f i = p.getD i 0) → CI n₀ b1 B l m d K cr f W → J pre W →
      CallsIn F n Try.prog 106 #[.int .i64 k, .pointer (some ⟨b1, 0, none⟩), .pointer (some ⟨B, 0, none⟩), .pointer (some ⟨B + 2, 0, none⟩), .pointer (some ⟨B + 3, 0, none⟩)] W fun e W' =>
        (e = .returned (.bool true) ∧ J (pre ++ colsFrom rest p) W' ∧ ∃ f', (∀ i, i < k → f' i = p.getD i 0) ∧ CI n₀ b1 B l m d K cr f' W') ∨ (e = .returned (.bool false) ∧ ∃ q, Jx q W') := by
  have hdd : ∀ k : Nat, (F.depth.isSome = true → 1 ≤ k) := fun k h => by rw [hd] at h; cases h
  intro rest
  induction rest with
  | nil =>
    intro k n p pre f W hdr hk hp hsub hf hC hj
    obtain rfl : k = m := by simpa using hk
    obtain ⟨fn, tmps, assign, body, hy, hR⟩ := hY (n - 1) pre p W hj ⟨hp, hC.rw.congr fun i hi => (by rw [hf i hi]), hC.z, hsub p (by simp [colsFrom])⟩
    have hK := Lib.hid (fun W' => hC.keep (W' := W'))
    have c1 := hC.c1
    have c2 := hC.c2
    have c3 := hC.c3
    have HF := Lib.hid hf
    clear hf hC hcb hY hp hdr hk hsub
    refine callsIn_of_wp Try.func106 rfl h6 ?_ hro
    simp only [Try.ntmps106, List.size_toArray, List.length_cons, List.length_nil, Nat.reduceAdd, Nat.reduceSub, Array.replicate_succ, Array.replicate_zero, List.push_toArray, List.append_toArray, List.nil_append, List.cons_append]
    gi_wp2_with ((try refine ⟨hdd _, ?_⟩); refine hR.mono ?_; clear hR; rintro e W2 (⟨rfl, hJ2, hb2⟩ | ⟨rfl, hx2⟩))
    · go_ret
      exact .inl ⟨rfl, by simpa [colsFrom] using hJ2, f, HF.out, hK.out _ hb2⟩
    · go_ret
      exact .inr ⟨rfl, _, hx2⟩
  | cons c cs ih =>
    intro k n p pre f W hdr hk hp hsub hf hC hj
    have hkm : k < m := by simp at hk; omega
    have hlen : cr.length = m := hC.ck.len
    have hcr : cr.getD k Crack.zero = c := by
      have h := congrArg (·.head?) hdr
      simp only [List.head?_drop, List.head?_cons] at h
      simp [List.getD, h]
    have hdr' : cr.drop (k + 1) = cs := by
      have h := congrArg (·.tail) hdr
      simpa [List.tail_drop] using h
    obtain ⟨q1, q2, q3, q4⟩ := hcb k hkm
    rw [hcr] at q1 q2 q3 q4
    have HIH := Lib.hid (fun (i : Nat) (hi : i < (c.ch + 1 - c.cl).toNat) (n : Nat) (pre : List (List Int)) (f : Nat → Int) (W : World) h1 h2 h3 => ih (k + 1) n (p ++ [c.cl + (i : Int)]) pre f W hdr' (by simp at hk; omega) (by simp [hp]) (fun q hq => hsub q (by unfold colsFrom; exact List.mem_flatMap.2 ⟨i, List.mem_range.2 hi, hq⟩)) h1 h2 h3)
    have HP := Lib.hid hp
    have HJ := Lib.hid hJ
    have HALL : Hid (∀ i, i = (c.ch + 1 - c.cl).toNat → colsFrom (c :: cs) p = colsTo cs c.cl p i) := fun i e => by rw [e]; rfl
    obtain ⟨b, off, hA, hb, r0, r1, -⟩ := Cracks.at_ hC.ck hkm
    rw [hcr] at r0 r1
    subst hA
    have c1 := hC.c1
    have HC := Lib.hid hC
    have HF := Lib.hid hf
    have hkm2 : (k : Int) < (m : Int) := by omega
    have hkm3 : ((k : Int) == (m : Int)) = false := by simp; omega
    have HCR := Lib.hid hcr
    clear hC hf hcb hY hp hdr hdr' hk ih hJ hb hlen hcr hsub
    refine callsIn_of_wp Try.func106 rfl h6 ?_ hro
    simp only [Try.ntmps106, List.size_toArray, List.length_cons, List.length_nil, Nat.reduceAdd, Nat.reduceSub, Array.replicate_succ, Array.replicate_zero, List.push_toArray, List.append_toArray, List.nil_append, List.cons_append]
    gi_wp2_with fail
    clear c1 r0 r1
    gi_loopw [7] (fun x wr => ∃ (i : Nat) (f' : Nat → Int), i ≤ (c.ch + 1 - c.cl).toNat ∧ x = .int .i64 (c.cl + i) ∧ J (pre ++ colsTo cs c.cl p i) wr ∧ (∀ j, j < k → f' j = p.getD j 0) ∧ CI n₀ b1 B l m d (some ⟨b, off, none⟩) cr f' wr) (fun x _ => (c.ch + 1 - intOf x).toNat)
    case atStart => exact ⟨0, f, Nat.zero_le _, by simp, by simpa [colsTo] using hj, HF.out, HC.out⟩
    case round =>
      obtain ⟨i, f', hi, rfl, hji, hfi, hC⟩ := hrel
      obtain ⟨b', off', hA, hb, r0, r1, -⟩ := Cracks.at_ hC.ck hkm
      rw [HCR.out] at r0 r1
      simp only [Option.some.injEq, Addr.mk.injEq, and_true] at hA
      obtain ⟨rfl, rfl⟩ := hA
      have c1 := hC.c1
      by_cases hlt : c.cl + i ≤ c.ch
      · have c3 := hC.c3
        have c4 := hC.c4
        have w0 := hC.rw.cell (i := k) hkm
        have w1 := hC.rw.frozen k
        have C2 := hC.set k (c.cl + i)
        have c4' := C2.c4
        have J2 := HJ.out _ _ _ _ hji (grownBy_set wr ⟨B + 1, k, none⟩ (.int .i64 (c.cl + i))) (fun r e => by cases e; exact ⟨by simp, by simp⟩)
        have hf2 : ∀ j, j < k + 1 → (fun j => if j = k then c.cl + i else f' j) j = (p ++ [c.cl + (i : Int)]).getD j 0 := fun j hj => by
          by_cases e : j = k
          · subst e; simp [← HP.out]
          · simp only [e, if_false]
            rw [hfi j (by omega)]
            simp [List.getD, List.getElem?_append_left (show j < p.length by rw [HP.out]; omega)]
        have ih1 := fun n => HIH.out i (by omega) n _ _ _ hf2 C2 J2
        have ec : ((k + 1 : Nat) : Int) = (k : Int) + 1 := by omega
        rw [ec] at ih1
        have HI := Lib.hid ih1
        have HFI := Lib.hid hfi
        clear hfi hf2 ih1 J2 C2 hC hji ec
        gi_wp2_with ((try refine ⟨hdd _, ?_⟩); gi_at_call 106; refine (HI.out _).mono ?_; clear HI; rintro e W1 (⟨rfl, hJ1, f2, hf2, hC1⟩ | ⟨rfl, q, hq⟩))
        · go_roundw
          case rel => exact ⟨i + 1, f2, by omega, by go_num, by rw [colsTo_succ, ← List.append_assoc]; exact hJ1, fun j hj => by rw [hf2 j (by omega)]; simp [List.getD, List.getElem?_append_left (show j < p.length by rw [HP.out]; omega)], hC1⟩
          case measure => simp [intOf]; omega
        · go_ret
          exact .inr ⟨rfl, q, hq⟩
      · have hlt' : c.ch < c.cl + i := by omega
        have HCI := Lib.hid hC
        have HFI := Lib.hid hfi
        have HJI := Lib.hid hji
        clear hC hfi hji
        gi_wp2_with fail
        go_ret
        exact .inl ⟨rfl, by rw [HALL.out i (by omega)]; exact HJI.out, f', HFI.out, HCI.out⟩
theorem Try.zeroInt94 : (Try.prog.info? 3).map (fun i => (i.zero, i.size, i.bytes)) = some (some (.int .i64 0), 1, 8) := by kernel_rfl
set_option maxRecDepth 100000 in
set_option maxHeartbeats 2000000 in
theorem cracks_told (F : Fence) (hd : F.depth = none) (n : Nat) (h5 : F.fn 105) (h6 : F.fn 106) (hro : F.round = none) (n₀ b1 m d : Nat) (K : Option Addr) (cr : List Crack) (w : World)
    (hm4 : m ≤ 1000) (hcb : ∀ k, k < m → 0 ≤ (cr.getD k Crack.zero).cl ∧ (cr.getD k Crack.zero).cl ≤ 1000 ∧ 0 ≤ (cr.getD k Crack.zero).ch ∧ (cr.getD k Crack.zero).ch ≤ 1000)
    (hb1 : b1 < w.heap.size) (c1 : w.cell? ⟨b1, 0, none⟩ = some (.slice K m d)) (ck : Cracks w K m cr) (lk : ∀ b o, K = some ⟨b, o, none⟩ → 0 < m → b < n₀ ∧ b < w.heap.size) :
    SeqTold F n Try.prog 105 #[.pointer (some ⟨b1, 0, none⟩)] (fun _ => #[.slice (some ⟨w.heap.size + 2 + 1, 0, none⟩) m m]) (Cols (w.heap.size + 2) m (colsFrom cr [])) (KX n₀ b1 (w.heap.size + 2)) (fun xs => xs = colsFrom cr []) (fun _ => True) (w.heap.size + 2 + 4) w := by
  intro l J Jx W hW hz hJ hY h0
  have hdd : ∀ k : Nat, (F.depth.isSome = true → 1 ≤ k) := fun k h => by rw [hd] at h; cases h
  rw [hz] at hJ
  have HFR := Lib.hid (crackFrom_in F hd h6 hro J Jx n₀ b1 (w.heap.size + 2) l m d K cr hm4 hcb hJ (fun j pre x W1 hj ht => by
    obtain ⟨fn, tmps, assign, body, hy, hR⟩ := hY pre x W1 hj ht
    exact ⟨fn, tmps, assign, body, hy, hR.1, fun c cs _ => hR.2 c cs (fun d h => by rw [hd] at h; cases h)⟩) cr 0 (n - 1) [] [] (fun _ => 0))
  have hc1 : W.cell? ⟨b1, 0, none⟩ = some (.slice K m d) := (hW.cell (p := ⟨b1, 0, none⟩) hb1).trans c1
  have HCK := Lib.hid (ck.below hW)
  have HZ := Lib.hid hz
  have hmk := fun W => run_make_row' (P := Try.prog) 44 3 (.int .i64 0) 8 Try.underlying44 Try.zeroInt94 rfl .i64 .i64 m (by omega) (by omega) W
  have hb1W : b1 < W.heap.size := Nat.lt_of_lt_of_le hb1 hW.size
  have hal : ∀ o, (W.alloc o).cell? ⟨b1, 0, none⟩ = some (.slice K m d) := fun o => (World.cell?_of_block (w := W) (a := ⟨b1, 0, none⟩) (Below.heap_alloc W o b1 hb1W)).trans hc1
  have hnew : ∀ (o1 o2 o3 : Obj) (t : TypeId), ((((W.alloc o1).alloc o2).alloc o3).alloc (.cells #[.nilFunc] t)).cell? ⟨W.heap.size + 1 + 1 + 1, 0, none⟩ = some .nilFunc := fun o1 o2 o3 t => by
    have h := World.alloc_heap_new (((W.alloc o1).alloc o2).alloc o3) (.cells #[.nilFunc] t)
    simp only [World.size_alloc] at h
    exact Boxed.cell (t := t) h
  have hnewf : ∀ (o1 o2 o3 : Obj) (t : TypeId), ((((W.alloc o1).alloc o2).alloc o3).alloc (.cells #[.nilFunc] t)).frozen? ⟨W.heap.size + 1 + 1 + 1, 0, none⟩ = false := fun o1 o2 o3 t => by
    have h := World.alloc_heap_new (((W.alloc o1).alloc o2).alloc o3) (.cells #[.nilFunc] t)
    simp only [World.size_alloc] at h
    exact Boxed.frozen (t := t) h
  clear hY hcb c1 ck hW hz
  refine callsIn_of_wp Try.func105 rfl h5 ?_ hro
  simp only [Try.ntmps105, List.size_toArray, List.length_cons, List.length_nil, Nat.reduceAdd, Nat.reduceSub, Array.replicate_succ, Array.replicate_zero, List.push_toArray, List.append_toArray, List.nil_append, List.cons_append]
  gi_wp2_with fail
  clear hal hnew hnewf hmk
  rw [← HZ.out] at HFR hJ
  have al : ∀ {X : World} (o : Obj), J [] X → J [] (X.alloc o) := fun o h => hJ _ _ _ none h (World.grownBy_alloc _ o none) (fun r e => by cases e)
  refine (HFR.out _ rfl (by simp [HCK.out.len]) rfl (fun _ h => h) (fun i h => absurd h (by omega)) ⟨?z, hb1W, ?c1, ?ck, ?lk, ?c2, ?rw, ?c3, ?c4⟩ (al _ (al _ (al _ (al _ h0))))).mono ?_
  case z => simp
  case c1 => exact ((((((Below.refl _ W).alloc (Nat.le_refl _) _).alloc (by simp) _).alloc (by simp; omega) _).alloc (by simp; omega) _).cell (p := ⟨b1, 0, none⟩) hb1W).trans hc1
  case ck => exact HCK.out.below (((((Below.refl _ W).alloc (Nat.le_refl _) _).alloc (by simp) _).alloc (by simp; omega) _).alloc (by simp; omega) _)
  case lk => intro b o e hm; have h := lk b o e hm; have := HZ.out; exact ⟨h.1, by omega⟩
  case c2 => exact ((((Boxed.new W _ _).alloc _).alloc _).alloc _).cell
  case rw =>
    have h := World.rowIs_made (W.alloc (.cells #[.func (.yield l) #[] #[]] 166)) (.int .i64 0) m 3
    rw [World.size_alloc] at h
    exact (h.alloc _).alloc _
  case c3 =>
    have h := Boxed.new ((W.alloc (.cells #[.func (.yield l) #[] #[]] 166)).alloc (.cells (madeCells #[.int .i64 0] m) 3)) 44 (.slice (some ⟨W.heap.size + 1, 0, none⟩) m m)
    simp only [World.size_alloc] at h
    exact (h.alloc _).cell
  case c4 =>
    have h := Boxed.new (((W.alloc (.cells #[.func (.yield l) #[] #[]] 166)).alloc (.cells (madeCells #[.int .i64 0] m) 3)).alloc (.cells #[.slice (some ⟨W.heap.size + 1, 0, none⟩) m m] 44)) 146 (.func (.func 106) #[] #[.pointer (some ⟨b1, 0, none⟩), .pointer (some ⟨W.heap.size, 0, none⟩), .pointer (some ⟨W.heap.size + 2, 0, none⟩), .pointer (some ⟨W.heap.size + 3, 0, none⟩)])
    simp only [World.size_alloc] at h
    exact h.cell
  rintro e W6 (⟨rfl, hJ6, -⟩ | ⟨rfl, q, hq⟩)
  · gi_wp2_with fail
    go_end0
    exact ⟨⟨_, rfl⟩, .inl ⟨_, rfl, by simpa using hJ6⟩⟩
  · gi_wp2_with fail
    go_end0
    exact ⟨⟨_, rfl⟩, .inr ⟨q, trivial, hq⟩⟩
theorem crackColumns_in (F : Fence) (n : Nat) (h : F.fn 81) (hro : F.round = none) (K : Option Addr) (m d : Nat) (w : World) :
    CallsIn F n Try.prog 81 #[.slice K m d] w fun e w' => e = .returned (.func (.func 105) #[] #[.pointer (some ⟨w.heap.size, 0, none⟩)]) ∧ w' = w.alloc (.cells #[.slice K m d] 23) := by
  refine callsIn_of_wp Try.func81 rfl h ?_ hro
  simp only [Try.ntmps81, List.size_toArray, List.length_cons, List.length_nil, Nat.reduceAdd, Nat.reduceSub, Array.replicate_succ, Array.replicate_zero, List.push_toArray, List.append_toArray, List.nil_append, List.cons_append]
  gi_wp2
  go_ret
  exact ⟨rfl, rfl⟩
end Go.Proofs.Ytiflhimmieflpaa

/- Walks: best: the blade of the truth that spoils the fewest sticks, of those with the cracks in these columns. -/
namespace Go.Proofs.Ytiflhimmieflpaa
open Go.RowKit

def bestSplit (x : Int) (k : Crack) : Split := ⟨x, x, k.fh, k.tl⟩
def bestSplits (xs : List Int) (cr : List Crack) : List Split := List.zipWith bestSplit xs cr
def bestL (long wide kerf across : Int) (bot top : List (Int × Int)) (cr : List Crack) (xs : List Int) : Sawing := ⟨long, wide, kerf, across, bot.map (·.1), top.map (·.2), bestSplits xs cr⟩
theorem bestSplits_length (xs : List Int) (cr : List Crack) : (bestSplits xs cr).length = min xs.length cr.length := by simp [bestSplits]
theorem flat4_best_snoc (xs : List Int) (cr : List Crack) (k : Nat) (hx : k < xs.length) (hk : k < cr.length) : flat4 ((bestSplits xs cr).take (k + 1)) = flat4 ((bestSplits xs cr).take k) ++ [.int .i64 (xs.getD k 0), .int .i64 (xs.getD k 0), .int .i64 (cr.getD k Crack.zero).fh, .int .i64 (cr.getD k Crack.zero).tl] := by
  rw [flat4_snoc _ _ (by rw [bestSplits_length]; omega)]
  have : (bestSplits xs cr).getD k Split.zero = bestSplit (xs.getD k 0) (cr.getD k Crack.zero) := by
    have e1 : xs[k]? = some xs[k] := List.getElem?_eq_getElem hx
    have e2 : cr[k]? = some cr[k] := List.getElem?_eq_getElem hk
    simp only [bestSplits, List.getD, List.getElem?_zipWith, e1, e2, Option.getD_some]
  rw [this]
  rfl
def S5 (g p b o : Nat) (sv V : Value) (x y : Int) (W : World) : Prop := W.cell? ⟨g, 6, none⟩ = some sv ∧ W.cell? ⟨p, 3, none⟩ = some V ∧ W.cell? ⟨b, o + 3, none⟩ = some (.int .i64 x) ∧ W.cell? ⟨b, o + 4, none⟩ = some (.int .i64 y)

set_option maxRecDepth 100000 in
set_option maxHeartbeats 8000000 in
theorem best_any (A A' K X : Option Addr) (c c' m d cx gb ob gt ot n cb ct : Nat) (bend long wide kerf across : Int) (bot top : List (Int × Int)) (cr : List Crack) (xs : List Int) (w : World)
    (h : Pairs w (some ⟨gb, ob, none⟩) n bot) (h' : Pairs w (some ⟨gt, ot, none⟩) n top) (hk : Cracks w K m cr) (hx : Ints w X m xs) (h0 : 0 < n) (hn : n ≤ 30) (hm : m ≤ 4) :
    Calls Try.prog 82 #[.agg #[.slice A n c, .slice A' n c', .int .i64 bend, .slice K m d, .slice (some ⟨gb, ob, none⟩) n cb, .slice (some ⟨gt, ot, none⟩) n ct], .agg #[.int .i64 long, .int .i64 wide, .int .i64 kerf, .int .i64 across], .slice X m cx] w
      (WorstRes w n m (bestL long wide kerf across bot top cr xs)) := by
  have Hp := Lib.hid (fun W (hb : Below w.heap.size w W) => h.below hb)
  have Hp' := Lib.hid (fun W (hb : Below w.heap.size w W) => h'.below hb)
  have Hk := Lib.hid (fun W (hb : Below w.heap.size w W) => hk.below hb)
  have Hx := Lib.hid (fun W (hb : Below w.heap.size w W) => hx.below hb)
  clear h h' hk hx
  go_enter Try.func82, Try.ntmps82
  go_upto_region 1 with (fail)
  go_cut [7] (fun s5 W => ∃ g v1 v2, s5 = .pointer (some ⟨g, 0, none⟩) ∧ WorstMid w W #[.slice A n c, .slice A' n c', .int .i64 bend, .slice K m d, .slice (some ⟨gb, ob, none⟩) n cb, .slice (some ⟨gt, ot, none⟩) n ct] #[.int .i64 long, .int .i64 wide, .int .i64 kerf, .int .i64 across] g v1 v2 (.slice none 0 0) n ((bot.map (·.1)).map (Value.int .i64)) ((top.map (·.2)).map (Value.int .i64)) 0 [])
  case first =>
    have hs0 : ∀ Z, WS w (((w.alloc (.cells #[.slice A n c, .slice A' n c', .int .i64 bend, .slice K m d, .slice (some ⟨gb, ob, none⟩) n cb, .slice (some ⟨gt, ot, none⟩) n ct] 106)).alloc (.cells #[.int .i64 long, .int .i64 wide, .int .i64 kerf, .int .i64 across] 37)).alloc (.cells Z 120)).drew #[.slice A n c, .slice A' n c', .int .i64 bend, .slice K m d, .slice (some ⟨gb, ob, none⟩) n cb, .slice (some ⟨gt, ot, none⟩) n ct] #[.int .i64 long, .int .i64 wide, .int .i64 kerf, .int .i64 across] Z :=
      fun Z => ⟨((Blk.new w _ _ rfl).alloc _).alloc _, (Blk.new _ _ _ (by simp)).alloc _, Blk.new _ _ _ (by simp)⟩
    have b0 : ∀ Z, Below w.heap.size w (((w.alloc (.cells #[.slice A n c, .slice A' n c', .int .i64 bend, .slice K m d, .slice (some ⟨gb, ob, none⟩) n cb, .slice (some ⟨gt, ot, none⟩) n ct] 106)).alloc (.cells #[.int .i64 long, .int .i64 wide, .int .i64 kerf, .int .i64 across] 37)).alloc (.cells Z 120)).drew := fun _ =>
      ((((Below.refl _ _).alloc (Nat.le_refl _) _).alloc (by simp) _).alloc (by simp <;> omega) _).drew
    have Hs0 := Lib.hid hs0
    have Hb0 := Lib.hid b0
    clear hs0 b0
    go_region_held3 (fun W' => W'.cell? ⟨w.heap.size + 1, 0, none⟩ = some (.int .i64 long) ∧ W'.cell? ⟨w.heap.size + 1, 1, none⟩ = some (.int .i64 wide) ∧ W'.cell? ⟨w.heap.size + 1, 2, none⟩ = some (.int .i64 kerf) ∧ W'.cell? ⟨w.heap.size + 1, 3, none⟩ = some (.int .i64 across) ∧
      W'.cell? ⟨w.heap.size, 4, none⟩ = some (.slice (some ⟨gb, ob, none⟩) n cb) ∧ W'.cell? ⟨w.heap.size, 5, none⟩ = some (.slice (some ⟨gt, ot, none⟩) n ct)) (first | with_reducible exact WS.get (Hs0.out _) | with_reducible exact WS.get ((Hs0.out _).allocd _) | with_reducible exact WS.get Hs2.out | with_reducible exact WS.get (Hs2.out.alloc _) | with_reducible exact WS.get (Hs2.out.set7 Hg.out _ _ _ _ _ _ _) | with_reducible exact WS.get Hs1.out | with_reducible exact WS.get (Hs1.out.alloc _))
      (first
        | (go_at_call_of 98 (Value.slice (some ⟨gb, ob, none⟩) n cb); refine (heightsLow_any gb ob n cb bot _ (Hp.out _ ?_) h0 (by omega)).mono ?_; (first | with_reducible exact Hb0.out _ | with_reducible exact below_allocd (Hb0.out _) _); rintro e W1 ⟨h1, c1, rfl, ho1, hb1⟩; (first | (with_reducible have Z1 : Hid (Blk W1 (w.heap.size + 1 + 1 + 1) 120 zero7) := Lib.hid (z1_of hb1)) | skip); have Hs1 : Hid (WS w W1 _ _ zero7) := (by first | with_reducible exact Lib.hid ((Hs0.out _).below hb1) | with_reducible exact Lib.hid (((Hs0.out _).allocd _).below hb1)); have Ho1 : Hid (HO w W1 _ n _) := (by first | with_reducible exact Lib.hid (ho_of (Hb0.out _) ho1 hb1) | with_reducible exact Lib.hid (ho_of (below_allocd (Hb0.out _) _) ho1 hb1)); clear ho1)
        | (go_at_call_of 98 (Value.slice (some ⟨gt, ot, none⟩) n ct); refine (heightsHigh_any gt ot n ct top _ (Hp'.out _ ?_) h0 (by omega)).mono ?_; (first | with_reducible exact Ho1.out.bel | with_reducible exact (Ho1.out.alloc _).bel); rintro e W2 ⟨h2, c2, rfl, ho2, hb2⟩; (first | ((with_reducible have Z2 : Hid (Blk W2 (w.heap.size + 1 + 1 + 1) 120 zero7) := Lib.hid (blk_keep hb2 Z1.out)); have Hg := Lib.hid (show w.heap.size + 2 < w.heap.size + 1 + 1 + 1 from by omega); obtain ⟨y0, y1, y2, y3, y4, y5, y6, f0, f1, f2, f3, f4, f5, f6⟩ := blk7 Z2.out) | ((with_reducible have Z3 : Hid (Blk W2 W1.heap.size 120 zero7) := Lib.hid (z2_of hb2)); have Hg := Lib.hid (show w.heap.size + 2 < W1.heap.size from Hs1.out.bz.lt); obtain ⟨y0, y1, y2, y3, y4, y5, y6, f0, f1, f2, f3, f4, f5, f6⟩ := blk7 Z3.out) | skip); have Hs2 : Hid (WS w W2 _ _ zero7) := (by first | with_reducible exact Lib.hid (Hs1.out.below hb2) | with_reducible exact Lib.hid ((Hs1.out.alloc _).below hb2)); have Hm2 : Hid (HM w W2 _ _ n _ _) := (by first | with_reducible exact Lib.hid (hm_of Ho1.out ho2 hb2) | with_reducible exact Lib.hid (hm_of (Ho1.out.alloc _) ho2 hb2)); clear ho2))
    all_goals (go_wp2_with fail; go_meet)
    · exact ⟨_, _, _, rfl, meet3 Hs2.out Hm2.out⟩
    · exact ⟨_, _, _, rfl, meet12 Hs2.out Hm2.out Z3.out Hg.out⟩
    · exact ⟨_, _, _, rfl, meet12 Hs2.out Hm2.out Z2.out Hg.out⟩
  case rest =>
    obtain ⟨g, v1, v2, rfl, hM⟩ := hcut
    have HM0 := Lib.hid hM
    clear hM
    obtain ⟨i0, hi, hz0, hz1, hz2⟩ := info_parts Try.infoSplit
    have hlen : cr.length = m := (Hk.out w (Below.refl _ _)).len
    have hxl : xs.length = m := (Hx.out w (Below.refl _ _)).len
    have Hlen := Lib.hid hlen
    have HXL := Lib.hid hxl
    clear hlen hxl
    have hcc := HM0.out.fc.cell
    go_wp2_with fail
    clear hcc
    go_loopw [20] (fun i wr => ∃ (k : Nat) (sv : Value), k ≤ m ∧ i = .int .i64 k ∧ WorstMid w wr #[.slice A n c, .slice A' n c', .int .i64 bend, .slice K m d, .slice (some ⟨gb, ob, none⟩) n cb, .slice (some ⟨gt, ot, none⟩) n ct] #[.int .i64 long, .int .i64 wide, .int .i64 kerf, .int .i64 across] g v1 v2 sv n ((bot.map (·.1)).map (Value.int .i64)) ((top.map (·.2)).map (Value.int .i64)) k (flat4 ((bestSplits xs cr).take k))) (fun i _ => m - (intOf i).toNat)
    case atStart => exact ⟨0, _, Nat.zero_le _, rfl, HM0.out⟩
    case round =>
      obtain ⟨k, sv, hk, rfl, hM⟩ := hrel
      have HM := Lib.hid hM
      clear hM
      by_cases hlt : k < m
      · obtain ⟨b, off, rfl, hb, -, -, -, hc3, hc4, -⟩ := (Hk.out w (Below.refl _ _)).at_ hlt
        obtain ⟨bx, ox, rfl, hbx, hx0⟩ := (Hx.out _ HM.out.bel).at_ hlt
        have HS := Lib.hid (flat4_best_snoc xs cr k (by rw [HXL.out]; exact hlt) (by rw [Hlen.out]; exact hlt))
        generalize cr.getD k Crack.zero = y at *
        generalize xs.getD k 0 = x at *
        have HLT := Lib.hid hlt
        have hkm : (k : Int) < (m : Int) := by omega
        obtain ⟨SA, sc, rfl⟩ := own_slice HM.out.os
        have HSS : Hid (∀ W, W.cell? ⟨g, 6, none⟩ = some (.slice SA k sc) → W.cell? ⟨w.heap.size, 3, none⟩ = some (.slice (some ⟨b, off, none⟩) m d) → Below w.heap.size w W → S5 g w.heap.size b (off + k * 6) (.slice SA k sc) (.slice (some ⟨b, off, none⟩) m d) y.fh y.tl W) := fun W h1 h2 hW => ⟨h1, h2, (hW.cell (p := ⟨b, off + k * 6 + 3, none⟩) hb).trans hc3, (hW.cell (p := ⟨b, off + k * 6 + 4, none⟩) hb).trans hc4⟩
        have HSM : Hid (∀ W, Below wr.heap.size wr W → S5 g w.heap.size b (off + k * 6) (.slice SA k sc) (.slice (some ⟨b, off, none⟩) m d) y.fh y.tl W) := fun W hW => HSS.out W (by simpa using (HM.out.below hW).fg.cell 6) ((HM.out.below hW).fc.cell 3) (HM.out.below hW).bel
        clear hc3 hc4
        go_upto_region 5 with (fail)
        clear hx0
        have D0 : Hid (Below wr.heap.size wr wr.drew) := (Below.refl _ _).drew
        have S0 := HSM.out _ D0.out
        refine wp_region_untl (S := S5 g w.heap.size b (off + k * 6) (.slice SA k sc) (.slice (some ⟨b, off, none⟩) m d) y.fh y.tl) [25] (by kernel_rfl) S0 (fun _ => ?_)
        generalize wr.drew = wd at *
        refine untlTake (i := 0) 25 (v := ?v1) rfl (by kernel_rfl) (by kernel_rfl) (by kernel_rfl) (by kernel_rfl) (by kernel_rfl) (by kernel_rfl) (fun _ _ _ h => h) (Or.inl ⟨by rfl, ?y1⟩) (by assumption) ?r1
        case y1 => (intro w hSw; obtain ⟨g0, g1, g2, g3⟩ := hSw; go_simp; try with_reducible rfl)
        refine untlTake (i := 1) 26 (v := ?v2) rfl (by kernel_rfl) (by kernel_rfl) (by kernel_rfl) (by kernel_rfl) (by kernel_rfl) (by kernel_rfl) (fun _ _ _ h => h) (Or.inl ⟨by rfl, ?y2⟩) (by assumption) ?r2
        case y2 => (intro w hSw; obtain ⟨g0, g1, g2, g3⟩ := hSw; go_simp; try with_reducible rfl)
        refine untlTake (i := 2) 27 (v := ?v3) rfl (by kernel_rfl) (by kernel_rfl) (by kernel_rfl) (by kernel_rfl) (by kernel_rfl) (by kernel_rfl) (fun _ _ _ h => h) (Or.inl ⟨by rfl, ?y3⟩) (by assumption) ?r3
        case y3 => (intro w hSw; obtain ⟨g0, g1, g2, g3⟩ := hSw; go_simp; try with_reducible rfl)
        refine untlTake (i := 3) 28 (v := ?v4) rfl (by kernel_rfl) (by kernel_rfl) (by kernel_rfl) (by kernel_rfl) (by kernel_rfl) (by kernel_rfl) (fun _ _ _ h => h) (Or.inl ⟨by rfl, ?y4⟩) (by assumption) ?r4
        case y4 => (intro w hSw; obtain ⟨g0, g1, g2, g3⟩ := hSw; go_simp; try with_reducible rfl)
        refine untlTake (i := 4) 29 (v := ?v5) rfl (by kernel_rfl) (by kernel_rfl) (by kernel_rfl) (by kernel_rfl) (by kernel_rfl) (by kernel_rfl) (fun _ _ _ h => h) (Or.inl ⟨by rfl, ?y5⟩) (by assumption) ?r5
        case y5 => (intro w hSw; obtain ⟨g0, g1, g2, g3⟩ := hSw; go_simp; try with_reducible rfl)
        refine untlTake (i := 5) 30 (v := ?v6) rfl (by kernel_rfl) (by kernel_rfl) (by kernel_rfl) (by kernel_rfl) (by kernel_rfl) (by kernel_rfl) (fun _ _ _ h => h) (Or.inl ⟨by rfl, ?y6⟩) (by assumption) ?r6
        case y6 => (intro w hSw; obtain ⟨g0, g1, g2, g3⟩ := hSw; go_simp; try with_reducible rfl)
        refine untlTake (i := 6) 31 (v := ?v7) rfl (by kernel_rfl) (by kernel_rfl) (by kernel_rfl) (by kernel_rfl) (by kernel_rfl) (by kernel_rfl) (fun _ _ _ h => h) (Or.inl ⟨by rfl, ?y7⟩) (by assumption) ?r7
        case y7 => (intro w hSw; obtain ⟨g0, g1, g2, g3⟩ := hSw; go_simp; try with_reducible rfl)
        refine untlTake (i := 7) 32 (v := ?v8) rfl (by kernel_rfl) (by kernel_rfl) (by kernel_rfl) (by kernel_rfl) (by kernel_rfl) (by kernel_rfl) (fun _ _ _ h => h) (Or.inl ⟨by rfl, ?y8⟩) (by assumption) ?r8
        case y8 => (intro w hSw; obtain ⟨g0, g1, g2, g3⟩ := hSw; go_simp; try with_reducible rfl)
        refine untlTake (i := 8) 33 (v := ?v9) rfl (by kernel_rfl) (by kernel_rfl) (by kernel_rfl) (by kernel_rfl) (by kernel_rfl) (by kernel_rfl) (fun _ _ _ h => h) (Or.inl ⟨by rfl, ?y9⟩) (by assumption) ?r9
        case y9 => (intro w hSw; obtain ⟨g0, g1, g2, g3⟩ := hSw; go_simp; try with_reducible rfl)
        refine untlTake (i := 9) 34 (v := ?v10) rfl (by kernel_rfl) (by kernel_rfl) (by kernel_rfl) (by kernel_rfl) (by kernel_rfl) (by kernel_rfl) (fun _ _ _ h => h) (Or.inl ⟨by rfl, ?y10⟩) (by assumption) ?r10
        case y10 => (intro w hSw; obtain ⟨g0, g1, g2, g3⟩ := hSw; go_simp; try with_reducible rfl)
        refine untlTake (i := 10) 35 (v := ?v11) rfl (by kernel_rfl) (by kernel_rfl) (by kernel_rfl) (by kernel_rfl) (by kernel_rfl) (by kernel_rfl) (fun _ _ _ h => h) (Or.inl ⟨by rfl, ?y11⟩) (by assumption) ?r11
        case y11 => (intro w hSw; obtain ⟨g0, g1, g2, g3⟩ := hSw; go_simp; try with_reducible rfl)
        refine untlTake (i := 11) 36 (v := ?v12) rfl (by kernel_rfl) (by kernel_rfl) (by kernel_rfl) (by kernel_rfl) (by kernel_rfl) (by kernel_rfl) (fun _ _ _ h => h) (Or.inl ⟨by rfl, ?y12⟩) (by assumption) ?r12
        case y12 => (intro w hSw; obtain ⟨g0, g1, g2, g3⟩ := hSw; go_simp; try with_reducible rfl)
        refine untlTake (i := 12) 37 (v := ?v13) rfl (by kernel_rfl) (by kernel_rfl) (by kernel_rfl) (by kernel_rfl) (by kernel_rfl) (by kernel_rfl) (fun _ _ _ h => h) (Or.inl ⟨by rfl, ?y13⟩) (by assumption) ?r13
        case y13 => (intro w hSw; obtain ⟨g0, g1, g2, g3⟩ := hSw; go_simp; try with_reducible rfl)
        refine untlTake (i := 13) 38 (v := ?v14) rfl (by kernel_rfl) (by kernel_rfl) (by kernel_rfl) (by kernel_rfl) (by kernel_rfl) (by kernel_rfl) (fun _ _ _ h => h) (Or.inl ⟨by rfl, ?y14⟩) (by assumption) ?r14
        case y14 => (intro w hSw; obtain ⟨g0, g1, g2, g3⟩ := hSw; go_simp; try with_reducible rfl)
        refine untlTake (i := 14) 39 (v := ?v15) rfl (by kernel_rfl) (by kernel_rfl) (by kernel_rfl) (by kernel_rfl) (by kernel_rfl) (by kernel_rfl) (fun _ _ _ h => h) (Or.inl ⟨by rfl, ?y15⟩) (by assumption) ?r15
        case y15 => (intro w hSw; obtain ⟨g0, g1, g2, g3⟩ := hSw; go_simp; try with_reducible rfl)
        refine untlTake (i := 15) 40 (v := ?v16) rfl (by kernel_rfl) (by kernel_rfl) (by kernel_rfl) (by kernel_rfl) (by kernel_rfl) (by kernel_rfl) (fun _ _ _ h => h) (Or.inl ⟨by rfl, ?y16⟩) (by assumption) ?r16
        case y16 => (intro w hSw; obtain ⟨g0, g1, g2, g3⟩ := hSw; go_simp; try with_reducible rfl)
        refine untlTake (i := 16) 41 (v := ?v17) rfl (by kernel_rfl) (by kernel_rfl) (by kernel_rfl) (by kernel_rfl) (by kernel_rfl) (by kernel_rfl) (fun _ _ _ h => h) (Or.inl ⟨by rfl, ?y17⟩) (by assumption) ?r17
        case y17 => (intro w hSw; obtain ⟨g0, g1, g2, g3⟩ := hSw; go_simp; try with_reducible rfl)
        refine untlTake (i := 17) 42 (v := ?v18) rfl (by kernel_rfl) (by kernel_rfl) (by kernel_rfl) (by kernel_rfl) (by kernel_rfl) (by kernel_rfl) (fun _ _ _ h => h) (Or.inl ⟨by rfl, ?y18⟩) (by assumption) ?r18
        case y18 => (intro w hSw; obtain ⟨g0, g1, g2, g3⟩ := hSw; go_simp; try with_reducible rfl)
        refine untlTake (i := 18) 43 (v := ?v19) rfl (by kernel_rfl) (by kernel_rfl) (by kernel_rfl) (by kernel_rfl) (by kernel_rfl) (by kernel_rfl) (fun _ _ _ h => h) (Or.inl ⟨by rfl, ?y19⟩) (by assumption) ?r19
        case y19 => (intro w hSw; obtain ⟨g0, g1, g2, g3⟩ := hSw; go_simp; try with_reducible rfl)
        refine untlTake (i := 19) 44 (v := ?v20) rfl (by kernel_rfl) (by kernel_rfl) (by kernel_rfl) (by kernel_rfl) (by kernel_rfl) (by kernel_rfl) (fun _ _ _ h => h) (Or.inl ⟨by rfl, ?y20⟩) (by assumption) ?r20
        case y20 => (intro w hSw; obtain ⟨g0, g1, g2, g3⟩ := hSw; go_simp; try with_reducible rfl)
        refine untlTake (i := 20) 45 (v := ?v21) rfl (by kernel_rfl) (by kernel_rfl) (by kernel_rfl) (by kernel_rfl) (by kernel_rfl) (by kernel_rfl) (fun _ _ _ h => h) (Or.inl ⟨by rfl, ?y21⟩) (by assumption) ?r21
        case y21 => (intro w hSw; obtain ⟨g0, g1, g2, g3⟩ := hSw; go_simp; try with_reducible rfl)
        refine untlTake (i := 21) 46 (v := ?v22) rfl (by kernel_rfl) (by kernel_rfl) (by kernel_rfl) (by kernel_rfl) (by kernel_rfl) (by kernel_rfl) (fun _ _ _ h => h) (Or.inl ⟨by rfl, ?y22⟩) (by assumption) ?r22
        case y22 => (intro w hSw; obtain ⟨g0, g1, g2, g3⟩ := hSw; go_simp; try with_reducible rfl)
        simp only [Act.put, List.setIfInBounds_toArray, List.set_cons_zero, List.set_cons_succ]
        refine untlReady (rs := [22]) (by kernel_rfl) (by simp) ?_
        refine UReady.cons rfl (fun K1 hK1 => ?_) UReady.nil
        go_simp
        have B1 : Hid (Below wr.heap.size wr (wd.alloc (.cells #[.int .i64 x, .int .i64 x, .int .i64 y.fh, .int .i64 y.tl] 161))) := below_then D0.out (below_self _ _)
        have N1 := Lib.hid (Blk.new wd 161 #[.int .i64 x, .int .i64 x, .int .i64 y.fh, .int .i64 y.tl] (g := wd.heap.size) rfl)
        have M1 := Lib.hid (HM.out.below B1.out)
        refine hK1.out _ _ (.inr (HSM.out _ B1.out)) ?_
        generalize hW1 : wd.alloc (.cells #[.int .i64 x, .int .i64 x, .int .i64 y.fh, .int .i64 y.tl] 161) = W1 at *
        generalize wd.heap.size = gn at *
        clear hW1
        refine untlReady (rs := [23]) (by kernel_rfl) (by simp) ?_
        refine UReady.cons rfl (fun K2 hK2 => ?_) UReady.nil
        refine step_append_lies _ rfl (.tmp 26) (.tmp 47) 118 rfl w.heap.size 161 i0 _ 4 32 Try.underlying118 hi hz0 hz1 hz2 rfl (by decide) (.slice SA k sc) k _ (by rfl) M1.out.os ⟨gn, 0, none⟩ 1 1 [.int .i64 x, .int .i64 x, .int .i64 y.fh, .int .i64 y.tl] (by rfl) rfl (World.news_of_block N1.out) ?ca (by decide) ?cb ?cc ?cd W1.heap.size rfl ?_
        case ca => intro u hu; simp only [List.mem_cons, List.not_mem_nil, or_false] at hu; rcases hu with rfl | rfl | rfl | rfl <;> rfl
        case cb => have := HLT.out; unfold maxLen; omega
        case cc => have := HLT.out; omega
        case cd => exact M1.out.bel.size
        intro gv cv W2 hown hgrow hor hlt2
        have hown5 : Hid (W2.ownsRow w.heap.size 161 4 (.slice (some ⟨gv, 0, none⟩) (k + 1) cv) (k + 1) (flat4 ((bestSplits xs cr).take (k + 1)))) := by unfold Hid; rw [HS.out]; exact hown
        have HN := Lib.hid (M1.out.appended hgrow hown5.out rfl)
        have gg := M1.out.fg.grown hgrow (own_blk_ne M1.out.os M1.out.fg (by decide))
        have g6 : W2.cell? ⟨g, 6, none⟩ = some (.slice SA k sc) := by simpa using gg.cell 6
        have f6 := gg.frozen 6
        have gc := M1.out.fc.grown hgrow (own_blk_ne M1.out.os M1.out.fc (by decide))
        have S2 := HSS.out _ g6 (gc.cell 3) (M1.out.bel.grown hgrow M1.out.bel.size (fun q hq => (M1.out.os.lt q hq).1))
        clear hown hgrow hor hlt2 gg gc
        refine hK2.out _ _ (.inr S2) ?_
        refine untlTake (i := 24) 49 (v := ?v23) rfl (by kernel_rfl) (by kernel_rfl) (by kernel_rfl) (by kernel_rfl) (by kernel_rfl) (by kernel_rfl) (fun _ _ _ h => h) (Or.inl ⟨by rfl, ?y23⟩) (by assumption) ?r23
        case y23 => (intro w hSw; obtain ⟨g0, g1, g2, g3⟩ := hSw; go_simp; try with_reducible rfl)
        refine untlStep (i := 25) (by kernel_rfl) rfl (fun KE hKE => ?_)
        go_simp
        refine hKE.out _ _ (.inl (by decide)) ?_
        refine untlDone (by kernel_rfl) ?_ _
        go_wp2
        go_roundw
        case rel => exact ⟨k + 1, _, by have := HLT.out; omega, by go_num, HN.out⟩
        case measure => have := HLT.out; simp [intOf]; omega
      · obtain rfl : k = m := by omega
        have hM := HM.out
        rw [List.take_of_length_le (by rw [bestSplits_length, Hlen.out, HXL.out, Nat.min_self]; exact Nat.le_refl _)] at hM
        obtain ⟨g1, k1, rfl⟩ := own_form hM.o1 h0
        obtain ⟨g2, k2, rfl⟩ := own_form hM.o2 h0
        obtain ⟨SA, sc, rfl⟩ := own_slice hM.os
        have hg : Blk wr g 120 #[.int .i64 long, .int .i64 wide, .int .i64 kerf, .int .i64 across, .slice (some ⟨g1, 0, none⟩) n k1, .slice (some ⟨g2, 0, none⟩) n k2, .slice SA k sc] := hM.fg
        have hr := hM.fr
        have HF := Lib.hid (own_setRow hM.o1 hM.fr (by decide) #[.int .i64 long, .int .i64 wide, .int .i64 kerf, .int .i64 across, .slice (some ⟨g1, 0, none⟩) n k1, .slice (some ⟨g2, 0, none⟩) n k2, .slice SA k sc])
        have HF2 := Lib.hid (own_setRow hM.o2 hM.fr (by decide) #[.int .i64 long, .int .i64 wide, .int .i64 kerf, .int .i64 across, .slice (some ⟨g1, 0, none⟩) n k1, .slice (some ⟨g2, 0, none⟩) n k2, .slice SA k sc])
        have HF3 := Lib.hid (own_setRow hM.os hM.fr (by decide) #[.int .i64 long, .int .i64 wide, .int .i64 kerf, .int .i64 across, .slice (some ⟨g1, 0, none⟩) n k1, .slice (some ⟨g2, 0, none⟩) n k2, .slice SA k sc])
        have HB := Lib.hid hM.bel
        have Hr := Lib.hid hr
        have Hg := Lib.hid hg
        clear hM hr hg HM HM0
        go_wp2_with (first | (refine wpList_load_row rfl 120 _ rfl g rfl 120 _ _ _ Hg.out Try.underlying120 rfl (by kernel_rfl) ?_) | (refine wpList_store_row rfl 120 _ _ rfl (w.heap.size + 2) _ rfl rfl 120 _ Hr.out (by kernel_rfl) rfl (by kernel_rfl) ?_))
        exact bodyPost_ret (results_c rfl _ _ _ _ _ _ _ rfl (Hr.out.setRow _) Try.underlying120 (by kernel_rfl)) rfl ⟨below_setR HB.out (by omega) _, ⟨g1, 0, none⟩, ⟨g2, 0, none⟩, k1, k2, SA, sc, rfl, ⟨ints_of_own HF.out, ints_of_own HF2.out, splits_of_own HF3.out⟩, own_cap HF.out, own_cap HF2.out, rfl, rfl⟩
end Go.Proofs.Ytiflhimmieflpaa

/- Walks: Possible, all lists of columns tried. -/
namespace Go.Proofs.Ytiflhimmieflpaa
open Go.RowKit Go.Maps Go.Shelf
attribute [local go_sem] Oper.semAt_some

/-- The blade of the best truth with the cracks in these columns. -/
def Bl.bestX (B : Bl) (s : Sw) (xs : List Int) : Sawing := bestL s.long s.wide s.kerf s.across (bentL B.bot B.bend) (bentL B.top B.bend) B.cr xs
theorem err_cracks {B : Bl} (h : curveErr B.n B.n' B.m B.bend B.bot B.top B.cr = 0) : ∀ k ∈ B.cr, crackOk B.n k = true := by
  unfold curveErr at h
  split at h
  · omega
  split at h
  · omega
  split at h
  · omega
  split at h
  · omega
  split at h
  · omega
  rename_i e1 e2 e3 e4 e5
  intro k hk
  simp only [Bool.not_eq_true, List.any_eq_false] at e5
  simpa using e5 k hk
theorem crackOk_in {n : Nat} {k : Crack} (h : crackOk n k = true) : 0 ≤ k.cl ∧ k.cl ≤ k.ch ∧ k.ch < n ∧ 0 ≤ k.fl ∧ k.fl ≤ k.fh ∧ k.fh ≤ k.tl ∧ k.tl ≤ k.th ∧ k.th ≤ 300 := by
  simp only [crackOk, validS, Bool.and_eq_true, List.all_eq_true, decide_eq_true_eq, List.mem_cons, List.not_mem_nil, or_false, forall_eq, forall_eq_or_imp] at h
  omega
theorem best_bounds {B : Bl} {s : Sw} (h : B.Ok) (hs : s.Ok) (hc : ∀ k ∈ B.cr, crackOk B.n k = true) (xs : List Int) : SawBounds (B.bestX s xs) := by
  refine ⟨hs.l1, hs.l2, hs.w1, hs.w2, hs.k1, hs.k2, hs.a1, hs.a2, fun v hv => ?_, fun v hv => ?_, fun k hk => ?_⟩
  · obtain ⟨p, hp, rfl⟩ := List.mem_map.1 hv
    have := bentL_in h.bot h.b0 p hp
    exact ⟨this.1, this.2.1⟩
  · obtain ⟨p, hp, rfl⟩ := List.mem_map.1 hv
    have := bentL_in h.top h.b0 p hp
    exact ⟨this.2.2.1, this.2.2.2⟩
  · have hk' : k ∈ List.zipWith bestSplit xs B.cr := hk
    obtain ⟨i, hi, rfl⟩ := List.getElem_of_mem hk'
    rw [List.getElem_zipWith]
    have := crackOk_in (hc _ (List.getElem_mem (show i < B.cr.length by simp at hi; omega)))
    show 0 ≤ (B.cr[i]'_).tl ∧ (B.cr[i]'_).tl ≤ 300
    omega
theorem best_top (B : Bl) (s : Sw) (g cap g' cap' cx : Nat) (X : Option Addr) (xs : List Int) (w : World) (hB : B.Ok) (h : Pairs w (some ⟨g, 0, none⟩) B.n (bentL B.bot B.bend)) (h' : Pairs w (some ⟨g', 0, none⟩) B.n (bentL B.top B.bend)) (hk : Cracks w B.K B.m B.cr) (hx : Ints w X B.m xs) :
    Calls Try.prog 82 #[B.curved g cap g' cap', s.val, .slice X B.m cx] w (WorstTop w B.n B.m (B.bestX s xs)) := by
  unfold Bl.curved
  rw [hB.nn]
  refine (best_any B.A B.A' B.K X B.c B.c' B.m B.d cx g 0 g' 0 B.n cap cap' B.bend s.long s.wide s.kerf s.across (bentL B.bot B.bend) (bentL B.top B.bend) B.cr xs w h h' hk hx (by have := hB.n1; omega) hB.n2 hB.m4).mono ?_
  rintro e w' ⟨hb, ⟨b, o, so⟩, ⟨b', o', so'⟩, c, c', K, d, rfl, hs, hc, hc', rfl, rfl⟩
  exact ⟨hb, b, o, b', o', c, c', K, d, rfl, hs, hc.1, hc'.1, hc.2⟩

set_option maxRecDepth 100000 in
set_option maxHeartbeats 400000 in
theorem cloneInts_any (b off n c : Nat) (xs : List Int) (w : World) (h : Ints w (some ⟨b, off, none⟩) n xs) (hb : b < w.heap.size) (hn : n ≤ 1000000) :
    Calls Try.prog 84 #[.slice (some ⟨b, off, none⟩) n c] w fun e w' => ∃ v, e = .returned v ∧ w'.ownsRow w.heap.size 3 1 v n (xs.map (Value.int .i64)) ∧ Below w.heap.size w w' := by
  obtain ⟨i0, hi, hz0, hz1, hz2⟩ := info_parts Try.infoInt
  have hl : (xs.map (Value.int .i64)).length = n * 1 := h.1
  have heq := fun w => Lib.run_eql_slice_nil (P := Try.prog) w 44 3 (some ⟨b, off, none⟩) n c 0 0 Try.underlying44
  have hm : n ≤ maxLen := by unfold maxLen; omega
  have hnews : ∀ j u, (xs.map (Value.int .i64))[j]? = some u → (w.alloc (.cells #[] 3)).cell? ((⟨b, off, none⟩ : Addr).add j) = some u := fun j u hj => by
    have hjl : j < n := by have := (List.getElem?_eq_some_iff.1 hj).1; omega
    obtain ⟨b', off', hA, _, hc⟩ := h.2 (by omega)
    simp only [Option.some.injEq, Addr.mk.injEq, and_true] at hA
    obtain ⟨rfl, rfl⟩ := hA
    rw [addr_add, World.cell?_alloc_past _ _ _ hb]
    exact hc j u hj
  have hl' := Lib.hid hl
  have Hnews := Lib.hid hnews
  clear hl hnews h
  go_enter Try.func84, Try.ntmps84
  go_wp2_with (first
    | (at_builtin; refine wpList_append_own _ rfl _ _ 44 rfl w.heap.size 3 i0 (.int .i64 0) 1 8 Try.underlying44 hi hz0 hz1 hz2 rfl (by decide) _ _ _ rfl (World.ownsRow_lit w #[] 0 (Nat.le_refl _) (by decide) rfl) ⟨b, off, none⟩ n c (xs.map (Value.int .i64)) rfl hl'.out Hnews.out ?c1 ?c2 ?c3 ?c4 ?_))
  case c1 => intro u hu; obtain ⟨x, _, rfl⟩ := List.mem_map.1 hu; rfl
  case c2 => simpa using hm
  case c3 => omega
  case c4 => simp
  intro v' w1 hown hgrow hnil
  have Hnil := Lib.hid hnil
  clear hnil
  go_wp2
  go_ret
  refine ⟨_, rfl, by simpa using hown, ((Below.refl _ _).alloc (Nat.le_refl _) _).grown hgrow (by simp) (by rintro k hk; simp [Value.ownBlock] at hk; omega)⟩

/-- The best of some lists of columns, the first one of several. -/
def possStep (B : Bl) (s : Sw) (a : Int × List Int) (xs : List Int) : Int × List Int := if a.1 < countL (B.bestX s xs) B.n then (countL (B.bestX s xs) B.n, xs) else a
def possTo (B : Bl) (s : Sw) (l : List (List Int)) : Int × List Int := l.foldl (possStep B s) (-1, [])
theorem possTo_snoc (B : Bl) (s : Sw) (l : List (List Int)) (xs : List Int) : possTo B s (l ++ [xs]) = possStep B s (possTo B s l) xs := by simp [possTo]
theorem possTo_in (B : Bl) (s : Sw) (h : B.n ≤ 30) (l : List (List Int)) : -1 ≤ (possTo B s l).1 ∧ (possTo B s l).1 ≤ 9060 := by
  unfold possTo
  suffices ∀ a : Int × List Int, -1 ≤ a.1 ∧ a.1 ≤ 9060 → -1 ≤ (l.foldl (possStep B s) a).1 ∧ (l.foldl (possStep B s) a).1 ≤ 9060 from this _ ⟨by simp, by simp⟩
  induction l with
  | nil => exact fun a h => h
  | cons x l ih =>
    intro a ha
    refine ih _ ?_
    unfold possStep
    have := countL_in (B.bestX s x) B.n h
    split
    · dsimp only; omega
    · exact ha
theorem KeepsFrom.of_below {B : Nat} {W W' : World} (h : Below W.heap.size W W') : KeepsFrom B W W' :=
  ⟨h.size, fun k _ _ hk _ => (h.block k (Array.getElem?_eq_some_iff.1 hk).1).trans hk⟩
theorem range_getD_self (x : List Int) (m : Nat) (h : x.length = m) : (List.range m).map (fun i => x.getD i 0) = x := by
  subst h
  apply List.ext_getElem
  · simp
  · intro i h1 h2
    simp [List.getD, h2]
/-- What lay in W0 and lies in W, but for the boxes p and p + 1. -/
structure Save (p : Nat) (W0 W : World) : Prop where
  os : W.os = W0.os
  tape : W.tape = W0.tape
  output : W.output = W0.output
  size : W0.heap.size ≤ W.heap.size
  block : ∀ k, k < W0.heap.size → k ≠ p → k ≠ p + 1 → W.heap[k]? = W0.heap[k]?
theorem Save.refl (p : Nat) (W : World) : Save p W W := ⟨rfl, rfl, rfl, Nat.le_refl _, fun _ _ _ _ => rfl⟩
theorem Save.grown {p : Nat} {W0 W W' : World} {row : Option Nat} (h : Save p W0 W) (hg : W.grownBy W' row) (hr : ∀ r, row = some r → r = p ∨ r = p + 1 ∨ W0.heap.size ≤ r) : Save p W0 W' :=
  ⟨hg.os.trans h.os, hg.tape.trans h.tape, hg.output.trans h.output, Nat.le_trans h.size hg.size, fun k hk h1 h2 => (hg.block k (Nat.lt_of_lt_of_le hk h.size) (fun e => by have := hr k e.symm; omega)).trans (h.block k hk h1 h2)⟩
theorem Save.below {p : Nat} {W0 W W' : World} (h : Save p W0 W) (hb : Below W.heap.size W W') : Save p W0 W' :=
  ⟨hb.os.trans h.os, hb.tape.trans h.tape, hb.output.trans h.output, Nat.le_trans h.size hb.size, fun k hk h1 h2 => (hb.block k (Nat.lt_of_lt_of_le hk h.size)).trans (h.block k hk h1 h2)⟩
/-- What the rounds read. -/
structure PE (B : Bl) (s : Sw) (r q g cap g' cap' : Nat) (W : World) : Prop where
  bc : Blk W q 106 #[.slice B.A B.n B.c, .slice B.A' B.n' B.c', .int .i64 B.bend, .slice B.K B.m B.d, .slice (some ⟨g, 0, none⟩) B.n cap, .slice (some ⟨g', 0, none⟩) B.n cap']
  bs : Blk W r 37 #[.int .i64 s.long, .int .i64 s.wide, .int .i64 s.kerf, .int .i64 s.across]
  pa : Pairs W (some ⟨g, 0, none⟩) B.n (bentL B.bot B.bend)
  pb : Pairs W (some ⟨g', 0, none⟩) B.n (bentL B.top B.bend)
  ck : Cracks W B.K B.m B.cr
theorem PE.below {W W' : World} {B : Bl} {s : Sw} {r q g cap g' cap' : Nat} (h : PE B s r q g cap g' cap' W) (hb : Below W.heap.size W W') : PE B s r q g cap g' cap' W' :=
  ⟨blk_keep hb h.bc, blk_keep hb h.bs, h.pa.below hb, h.pb.below hb, h.ck.below hb⟩
/-- The blocks that are read lie elsewhere than the boxes p and p + 1. -/
structure Apart (B : Bl) (p r q g g' : Nat) : Prop where
  r : r ≠ p ∧ r ≠ p + 1
  q : q ≠ p ∧ q ≠ p + 1
  g : g ≠ p ∧ g ≠ p + 1
  g' : g' ≠ p ∧ g' ≠ p + 1
  k : ∀ b o, B.K = some ⟨b, o, none⟩ → 0 < B.m → b ≠ p ∧ b ≠ p + 1
theorem PE.save {W0 W : World} {B : Bl} {s : Sw} {p r q g cap g' cap' : Nat} (h : PE B s r q g cap g' cap' W0) (hs : Save p W0 W) (ha : Apart B p r q g g') : PE B s r q g cap g' cap' W := by
  have k : ∀ {size n : Nat} {A : Option Addr} {xs : List Value}, Reads W0 size A n xs → (∀ b o, A = some ⟨b, o, none⟩ → 0 < n → b ≠ p ∧ b ≠ p + 1) → Reads W size A n xs := by
    intro size n A xs h hA
    exact Reads.keepBy h fun b o e hn hb => ⟨Nat.lt_of_lt_of_le hb hs.size, hs.block b hb (hA b o e hn).1 (hA b o e hn).2⟩
  exact ⟨(hs.block q h.bc.lt ha.q.1 ha.q.2).trans h.bc, (hs.block _ h.bs.lt ha.r.1 ha.r.2).trans h.bs, k h.pa (fun b o e _ => by cases e; exact ha.g), k h.pb (fun b o e _ => by cases e; exact ha.g'), k h.ck ha.k⟩
/-- Between two rounds. -/
structure PI (B : Bl) (s : Sw) (p : Nat) (W0 : World) (pre : List (List Int)) (W : World) : Prop where
  sv : Save p W0 W
  cA : Boxed W p 3 (.int .i64 (possTo B s pre).1)
  cB : ∃ v, Boxed W (p + 1) 44 v ∧ W.ownsRow (W0.heap.size + 6) 3 1 v (possTo B s pre).2.length ((possTo B s pre).2.map (Value.int .i64))
theorem PI.grown {B : Bl} {s : Sw} {p : Nat} {W0 W W' : World} {row : Option Nat} {pre : List (List Int)} (hp : p + 1 < W0.heap.size) (h : PI B s p W0 pre W) (hg : W.grownBy W' row) (hr : ∀ r, row = some r → W0.heap.size ≤ r ∧ (r < W0.heap.size + 6 ∨ ∃ o : Obj, W.heap[r]? = some o ∧ o.isCells = false)) : PI B s p W0 pre W' := by
  refine ⟨h.sv.grown hg (fun r e => .inr (.inr (hr r e).1)), h.cA.kept hg (fun e => by have := (hr _ e.symm).1; omega), ?_⟩
  obtain ⟨v, hv, ho⟩ := h.cB
  refine ⟨v, hv.kept hg (fun e => by have := (hr _ e.symm).1; omega), ho.kept hg ?_⟩
  rcases ho.2 with ⟨rfl, _⟩ | ⟨gv, cv, cur, rfl, hgv, hgb, _⟩
  · exact .inl rfl
  · refine .inr fun e' => ?_
    obtain ⟨_, h1 | ⟨o, ho', hc⟩⟩ := hr gv (by simpa [Value.ownBlock] using e'.symm)
    · omega
    · rw [hgb] at ho'; cases ho'; cases hc
theorem PI.left {B : Bl} {s : Sw} {p : Nat} {W0 W W3 : World} {pre : List (List Int)} {x : List Int} (h : PI B s p W0 pre W) (hb : Below W.heap.size W W3) (hn : ¬ (possTo B s pre).1 < countL (B.bestX s x) B.n) : PI B s p W0 (pre ++ [x]) W3 := by
  have e : possTo B s (pre ++ [x]) = possTo B s pre := by rw [possTo_snoc]; unfold possStep; rw [if_neg hn]
  obtain ⟨v, hv, ho⟩ := h.cB
  exact ⟨h.sv.below hb, by rw [e]; exact blk_keep hb h.cA, v, blk_keep hb hv, by rw [e]; exact ownsRow_below ho hb⟩
theorem PI.took {B : Bl} {s : Sw} {p b : Nat} {v : Value} {W0 W W3 : World} {pre : List (List Int)} {x : List Int} (hp : p + 1 < W0.heap.size) (h : PI B s p W0 pre W) (hb : Below W.heap.size W W3) (ho : W3.ownsRow b 3 1 v x.length (x.map (Value.int .i64))) (hbb : W0.heap.size + 6 ≤ b)
    (hn : (possTo B s pre).1 < countL (B.bestX s x) B.n) : PI B s p W0 (pre ++ [x]) ((W3.setCell ⟨p, 0, none⟩ (.int .i64 (countL (B.bestX s x) B.n))).setCell ⟨p + 1, 0, none⟩ v) := by
  have e : possTo B s (pre ++ [x]) = (countL (B.bestX s x) B.n, x) := by rw [possTo_snoc]; unfold possStep; rw [if_pos hn]
  obtain ⟨u, hu, -⟩ := h.cB
  have h1 : Boxed W3 p 3 (.int .i64 (possTo B s pre).1) := blk_keep hb h.cA
  have h2 : Boxed W3 (p + 1) 44 u := blk_keep hb hu
  have hne : v.ownBlock ≠ some p ∧ v.ownBlock ≠ some (p + 1) := by
    constructor
    · intro e'; have := ho.lt _ e'; omega
    · intro e'; have := ho.lt _ e'; omega
  refine ⟨((h.sv.below hb).grown (grownBy_set _ _ _) (fun r e => by cases e; exact .inl rfl)).grown (grownBy_set _ _ _) (fun r e => by cases e; exact .inr (.inl rfl)), ?_, v, ?_, ?_⟩
  · rw [e]; exact (h1.set _).other (by omega) _
  · exact (h2.other (by omega) _).set v
  · rw [e]; exact own_base ((ho.kept (grownBy_set _ _ _) (.inr hne.1)).kept (grownBy_set _ _ _) (.inr hne.2)) hbb
theorem run_loadVar_cell {P : Program} {t : TypeId} {w : World} {a : Addr} {v : Value} {d : TypeDesc} (hu : P.underlying t = some d) (hd : (match d with | .struct _ | .array _ _ => true | _ => false) = false) (hc : w.cell? a = some v) : (loadVar t a).run P w = .ok v w := by
  unfold loadVar
  rw [Sem.run_bind, run_isAgg_plain hu hd]
  simp [Result.andThen, load, Sem.run, hc]
theorem results_cct {fn : Func} {p q r : Tmp} {ty tz : TypeId} (h : fn.results = #[.cell p ty, .cell q tz, .tmp r]) (tmps : Array Value) (P : Program) (w : World) (g g' : Nat) (v u x : Value)
    (hp : tmps.getD p undef = .pointer (some ⟨g, 0, none⟩)) (hg : (loadVar ty ⟨g, 0, none⟩).run P w = .ok v w) (hq : tmps.getD q undef = .pointer (some ⟨g', 0, none⟩)) (hg' : (loadVar tz ⟨g', 0, none⟩).run P w = .ok u w) (hr : tmps.getD r undef = x) :
    (results fn tmps).run P w = .ok (.tuple #[v, u, x]) w := by
  have hp' : tmps[p]?.getD undef = .pointer (some ⟨g, 0, none⟩) := by simpa using hp
  have hq' : tmps[q]?.getD undef = .pointer (some ⟨g', 0, none⟩) := by simpa using hq
  have hr' : tmps[r]?.getD undef = x := by simpa using hr
  simp [results, h, hp', hq', hr', asAddr, hg, hg']
def PossRes (w : World) (B : Bl) (s : Sw) (e : Ending) (w' : World) : Prop :=
  Below w.heap.size w w' ∧ ((B.err s ≠ 0 ∧ e = .returned (.tuple #[.int .i64 0, .slice none 0 0, .int .i64 (B.err s)])) ∨
    (B.err s = 0 ∧ ∃ v, e = .returned (.tuple #[.int .i64 (possTo B s (colsFrom B.cr [])).1, v, .int .i64 0]) ∧ w'.ownsRow w.heap.size 3 1 v (possTo B s (colsFrom B.cr [])).2.length ((possTo B s (colsFrom B.cr [])).2.map (Value.int .i64))))

set_option maxRecDepth 100000 in
set_option maxHeartbeats 4000000 in
theorem Possible_any (B : Bl) (s : Sw) (w : World) (h : B.At w) : Calls Try.prog 42 #[B.val, s.val] w (PossRes w B s) := by
  have E0 : Hid (Below w.heap.size w ((((w.alloc (.cells #[.slice B.A B.n B.c, .slice B.A' B.n' B.c', .int .i64 B.bend, .slice B.K B.m B.d] 25)).alloc (.cells #[.int .i64 s.long, .int .i64 s.wide, .int .i64 s.kerf, .int .i64 s.across] 37)).alloc (.cells #[.int .i64 0] 3)).alloc (.cells #[.slice none 0 0] 44))) := below_alloc' (below_alloc' (below_alloc' (below_self _ _) _) _) _
  have S0 := Lib.hid (((Blk.new (w.alloc (.cells #[.slice B.A B.n B.c, .slice B.A' B.n' B.c', .int .i64 B.bend, .slice B.K B.m B.d] 25)) 37 #[.int .i64 s.long, .int .i64 s.wide, .int .i64 s.kerf, .int .i64 s.across] (g := w.heap.size + 1) (by simp)).alloc (.cells #[.int .i64 0] 3)).alloc (.cells #[.slice none 0 0] 44))
  have N0 := Lib.hid ((Blk.new ((w.alloc (.cells #[.slice B.A B.n B.c, .slice B.A' B.n' B.c', .int .i64 B.bend, .slice B.K B.m B.d] 25)).alloc (.cells #[.int .i64 s.long, .int .i64 s.wide, .int .i64 s.kerf, .int .i64 s.across] 37)) 3 #[.int .i64 0] (g := w.heap.size + 1 + 1) (by simp)).alloc (.cells #[.slice none 0 0] 44))
  have M0 := Lib.hid (Blk.new (((w.alloc (.cells #[.slice B.A B.n B.c, .slice B.A' B.n' B.c', .int .i64 B.bend, .slice B.K B.m B.d] 25)).alloc (.cells #[.int .i64 s.long, .int .i64 s.wide, .int .i64 s.kerf, .int .i64 s.across] 37)).alloc (.cells #[.int .i64 0] 3)) 44 #[.slice none 0 0] (g := w.heap.size + 1 + 1 + 1) (by simp))
  have HC := Lib.hid (ready_top B s _ (h.below E0.out))
  have HK := Lib.hid h
  clear h
  unfold Bl.val Sw.val at *
  refine (callsIn_wide (n := 9)).1 ?_
  refine callsIn_of_wp_marks Try.func42 rfl trivial ?_ rfl
  simp only [Try.ntmps42, List.size_toArray, List.length_cons, List.length_nil, Nat.reduceAdd, Nat.reduceSub, Array.replicate_succ, Array.replicate_zero, List.push_toArray, List.append_toArray, List.nil_append, List.cons_append]
  refine wpIn_wide.2 ?_
  go_wp2_with fail
  refine HC.out.mono ?_
  rintro e w2 ⟨hb2, ⟨herr, rfl⟩ | ⟨hok, g, cap, g', cap', rfl, P, P', hg⟩⟩
  · have B2 := Lib.hid (below_then E0.out hb2)
    have N2 := Lib.hid (blk_keep hb2 N0.out)
    have M2 := Lib.hid (blk_keep hb2 M0.out)
    have L2 := Lib.hid hb2.size
    have Herr := Lib.hid herr
    have hz : (B.err s == 0) = false := by simpa using herr
    have hz2 : (B.err s != 0) = true := by simpa using herr
    have n2 := (N2.out.alloc (.cells #[.slice none 0 0, .slice none 0 0, .int .i64 0, .slice none 0 0, .slice none 0 0, .slice none 0 0] 106)).cell 0
    have f2 := (N2.out.alloc (.cells #[.slice none 0 0, .slice none 0 0, .int .i64 0, .slice none 0 0, .slice none 0 0, .slice none 0 0] 106)).frozen 0
    have m2 := (M2.out.alloc (.cells #[.slice none 0 0, .slice none 0 0, .int .i64 0, .slice none 0 0, .slice none 0 0, .slice none 0 0] 106)).cell 0
    have e2 := (M2.out.alloc (.cells #[.slice none 0 0, .slice none 0 0, .int .i64 0, .slice none 0 0, .slice none 0 0, .slice none 0 0] 106)).frozen 0
    clear hb2 herr HC
    unfold zeroCurved
    go_wp2
    refine ⟨_, results_cct rfl _ _ _ (w.heap.size + 2) (w.heap.size + 3) _ _ _ rfl (run_loadVar_cell Try.underlying3 rfl ?_) rfl (run_loadVar_cell Try.underlying44 rfl ?_) rfl, ?_, .inl ⟨Herr.out, rfl⟩⟩
    · exact (Boxed.other (t := 3) (Boxed.set _ (N2.out.alloc _)) (by omega) _).cell
    · exact (Boxed.set (t := 44) _ (Boxed.other (M2.out.alloc _) (by omega) _)).cell
    · exact ((below_alloc' B2.out _).setCell (p := ⟨w.heap.size + 1 + 1, 0, none⟩) (by show w.heap.size ≤ w.heap.size + 1 + 1; omega) _).setCell (p := ⟨w.heap.size + 1 + 1 + 1, 0, none⟩) (by show w.heap.size ≤ w.heap.size + 1 + 1 + 1; omega) _
  · have B2 := Lib.hid (below_then E0.out hb2)
    have S2 := Lib.hid (blk_keep hb2 S0.out)
    have N2 := Lib.hid (blk_keep hb2 N0.out)
    have M2 := Lib.hid (blk_keep hb2 M0.out)
    have L2 := Lib.hid hb2.size
    have Hok := Lib.hid (err_ok hok)
    have Hok0 := Lib.hid hok
    have hP := Lib.hid P
    have hP' := Lib.hid P'
    have HG := Lib.hid hg
    have n2 := (N2.out.alloc (.cells #[.slice B.A B.n B.c, .slice B.A' B.n' B.c', .int .i64 B.bend, .slice B.K B.m B.d, .slice (some ⟨g, 0, none⟩) B.n cap, .slice (some ⟨g', 0, none⟩) B.n cap'] 106)).cell 0
    have f2 := (N2.out.alloc (.cells #[.slice B.A B.n B.c, .slice B.A' B.n' B.c', .int .i64 B.bend, .slice B.K B.m B.d, .slice (some ⟨g, 0, none⟩) B.n cap, .slice (some ⟨g', 0, none⟩) B.n cap'] 106)).frozen 0
    clear hb2 hok P P' hg HC
    unfold Bl.curved
    go_wp2_with (go_at_call 81; refine (callsIn_wide.1 (crackColumns_in Fence.wide 1 trivial rfl _ _ _ _)).mono ?_; rintro e w' ⟨rfl, rfl⟩)
    have hl2 := L2.out
    simp only [World.size_alloc] at hl2
    have hg1 := HG.out
    simp only [World.size_alloc] at hg1
    have E3 : Hid (Below w.heap.size w (((w2.alloc (.cells #[.slice B.A B.n B.c, .slice B.A' B.n' B.c', .int .i64 B.bend, .slice B.K B.m B.d, .slice (some ⟨g, 0, none⟩) B.n cap, .slice (some ⟨g', 0, none⟩) B.n cap'] 106)).setCell ⟨w.heap.size + 1 + 1, 0, none⟩ (.int .i64 (-1))).alloc (.cells #[.slice B.K B.m B.d] 23))) :=
      below_alloc' ((below_alloc' B2.out _).setCell (p := ⟨w.heap.size + 1 + 1, 0, none⟩) (by show w.heap.size ≤ w.heap.size + 1 + 1; omega) _) _
    have hz0 : (((w2.alloc (.cells #[.slice B.A B.n B.c, .slice B.A' B.n' B.c', .int .i64 B.bend, .slice B.K B.m B.d, .slice (some ⟨g, 0, none⟩) B.n cap, .slice (some ⟨g', 0, none⟩) B.n cap'] 106)).setCell ⟨w.heap.size + 1 + 1, 0, none⟩ (.int .i64 (-1))).alloc (.cells #[.slice B.K B.m B.d] 23)).heap.size = w2.heap.size + 2 := by simp [World.setCell]
    have hkb : ∀ b o, B.K = some ⟨b, o, none⟩ → 0 < B.m → b < w.heap.size := fun b o e hm => by
      obtain ⟨b', o', e', hb', _⟩ := HK.out.hk.2 hm
      rw [e] at e'; cases e'; exact hb'
    have hAP : Apart B (w.heap.size + 1 + 1) (w.heap.size + 1) w2.heap.size g g' := ⟨by omega, by omega, by omega, by omega, fun b o e hm => by have := hkb b o e hm; omega⟩
    have hkeep : ∀ {size n : Nat} {A : Option Addr} {xs : List Value}, Reads w2 size A n xs → (∀ b o, A = some ⟨b, o, none⟩ → 0 < n → b ≠ w.heap.size + 1 + 1) → Reads (((w2.alloc (.cells #[.slice B.A B.n B.c, .slice B.A' B.n' B.c', .int .i64 B.bend, .slice B.K B.m B.d, .slice (some ⟨g, 0, none⟩) B.n cap, .slice (some ⟨g', 0, none⟩) B.n cap'] 106)).setCell ⟨w.heap.size + 1 + 1, 0, none⟩ (.int .i64 (-1))).alloc (.cells #[.slice B.K B.m B.d] 23)) size A n xs := by
      intro size n A xs h hA
      refine Reads.keepBy h fun b o e hn hb => ⟨by rw [hz0]; omega, ?_⟩
      exact ((Below.heap_alloc _ _ b (by simp [World.setCell]; omega)).trans (Below.heap_setCell _ _ _ b (hA b o e hn))).trans (Below.heap_alloc _ _ b hb)
    have hPE : PE B s (w.heap.size + 1) w2.heap.size g cap g' cap' (((w2.alloc (.cells #[.slice B.A B.n B.c, .slice B.A' B.n' B.c', .int .i64 B.bend, .slice B.K B.m B.d, .slice (some ⟨g, 0, none⟩) B.n cap, .slice (some ⟨g', 0, none⟩) B.n cap'] 106)).setCell ⟨w.heap.size + 1 + 1, 0, none⟩ (.int .i64 (-1))).alloc (.cells #[.slice B.K B.m B.d] 23)) :=
      ⟨((Blk.new w2 _ _ rfl).far (p := ⟨w.heap.size + 1 + 1, 0, none⟩) (by show w2.heap.size ≠ w.heap.size + 1 + 1; omega) _).alloc _, ((S2.out.alloc _).far (p := ⟨w.heap.size + 1 + 1, 0, none⟩) (by show w.heap.size + 1 ≠ w.heap.size + 1 + 1; omega) _).alloc _,
        hkeep hP.out (fun b o e _ => by cases e; omega), hkeep hP'.out (fun b o e _ => by cases e; omega), hkeep (HK.out.below B2.out).hk (fun b o e hm => by have := hkb b o e hm; omega)⟩
    have hPI : PI B s (w.heap.size + 1 + 1) (((w2.alloc (.cells #[.slice B.A B.n B.c, .slice B.A' B.n' B.c', .int .i64 B.bend, .slice B.K B.m B.d, .slice (some ⟨g, 0, none⟩) B.n cap, .slice (some ⟨g', 0, none⟩) B.n cap'] 106)).setCell ⟨w.heap.size + 1 + 1, 0, none⟩ (.int .i64 (-1))).alloc (.cells #[.slice B.K B.m B.d] 23)) [] (((w2.alloc (.cells #[.slice B.A B.n B.c, .slice B.A' B.n' B.c', .int .i64 B.bend, .slice B.K B.m B.d, .slice (some ⟨g, 0, none⟩) B.n cap, .slice (some ⟨g', 0, none⟩) B.n cap'] 106)).setCell ⟨w.heap.size + 1 + 1, 0, none⟩ (.int .i64 (-1))).alloc (.cells #[.slice B.K B.m B.d] 23)) :=
      ⟨Save.refl _ _, (Boxed.set (t := 3) _ (N2.out.alloc _)).alloc _, .slice none 0 0, (Boxed.other (t := 44) (M2.out.alloc _) (by omega) _).alloc _, World.ownsRow_nil _ _ _ _⟩
    have hc1 : ((((w2.alloc (.cells #[.slice B.A B.n B.c, .slice B.A' B.n' B.c', .int .i64 B.bend, .slice B.K B.m B.d, .slice (some ⟨g, 0, none⟩) B.n cap, .slice (some ⟨g', 0, none⟩) B.n cap'] 106)).setCell ⟨w.heap.size + 1 + 1, 0, none⟩ (.int .i64 (-1))).alloc (.cells #[.slice B.K B.m B.d] 23))).cell? ⟨w2.heap.size + 1, 0, none⟩ = some (.slice B.K B.m B.d) := by
      have h := Boxed.new ((w2.alloc (.cells #[.slice B.A B.n B.c, .slice B.A' B.n' B.c', .int .i64 B.bend, .slice B.K B.m B.d, .slice (some ⟨g, 0, none⟩) B.n cap, .slice (some ⟨g', 0, none⟩) B.n cap'] 106)).setCell ⟨w.heap.size + 1 + 1, 0, none⟩ (.int .i64 (-1))) 23 (.slice B.K B.m B.d)
      have e : ((w2.alloc (.cells #[.slice B.A B.n B.c, .slice B.A' B.n' B.c', .int .i64 B.bend, .slice B.K B.m B.d, .slice (some ⟨g, 0, none⟩) B.n cap, .slice (some ⟨g', 0, none⟩) B.n cap'] 106)).setCell ⟨w.heap.size + 1 + 1, 0, none⟩ (.int .i64 (-1))).heap.size = w2.heap.size + 1 := by simp [World.setCell]
      rw [e] at h
      exact h.cell
    have hOK := Hok.out.2.1
    have hCR := err_cracks Hok.out.1
    have hcb : ∀ k, k < B.m → 0 ≤ (B.cr.getD k Crack.zero).cl ∧ (B.cr.getD k Crack.zero).cl ≤ 1000 ∧ 0 ≤ (B.cr.getD k Crack.zero).ch ∧ (B.cr.getD k Crack.zero).ch ≤ 1000 := fun k hk => by
      have hl : k < B.cr.length := by rw [hPE.ck.len]; exact hk
      have h := crackOk_in (hCR _ (List.getElem_mem hl))
      have e : B.cr.getD k Crack.zero = B.cr[k] := by simp [List.getD, hl]
      rw [e]
      have := hOK.n2
      omega
    generalize hW0 : (((w2.alloc (.cells #[.slice B.A B.n B.c, .slice B.A' B.n' B.c', .int .i64 B.bend, .slice B.K B.m B.d, .slice (some ⟨g, 0, none⟩) B.n cap, .slice (some ⟨g', 0, none⟩) B.n cap'] 106)).setCell ⟨w.heap.size + 1 + 1, 0, none⟩ (.int .i64 (-1))).alloc (.cells #[.slice B.K B.m B.d] 23)) = W0 at *
    clear hW0
    have HPE := Lib.hid hPE
    have HPI := Lib.hid hPI
    have HAP := Lib.hid hAP
    have HZ0 := Lib.hid hz0
    have HOK := Lib.hid hOK
    have HTO := cracks_told Fence.wide rfl 8 trivial trivial rfl w.heap.size (w2.heap.size + 1) B.m B.d B.K B.cr W0 (by have := hOK.m4; omega) hcb (by omega) hc1 hPE.ck (fun b o e hm => by have := hkb b o e hm; omega)
    have HBB := Lib.hid (fun xs => best_bounds hOK Hok.out.2.2 hCR xs)
    have HCI := Lib.hid (fun x => countL_in x B.n hOK.n2)
    have HPO := Lib.hid (possTo_in B s hOK.n2)
    have q1 : w.heap.size + 1 + 1 + 1 < W0.heap.size := by omega
    have HQ2 : Hid (w.heap.size + 1 + 1 + 1 < w2.heap.size) := by unfold Hid; omega
    clear hz0 hPE hPI hAP hOK hcb hc1 hkeep hkb n2 f2 N2 M2 S2 hP hP' HK L2 hl2 hg1 HG S0 N0 M0
    refine (wpIn_wide (n := 9)).1 ?_
    refine wpIn_range_told (F := Fence.wide) (n := 9) rfl (by omega) (gf := 105) (lb := #[.pointer (some ⟨w2.heap.size + 1, 0, none⟩)]) rfl trivial (enters_of Try.func105 (by kernel_rfl) rfl)
      HTO (fun x W r r' _ ht => ht.put r') KX.trans (fun W r r' _ => KX.put r' (by have := HZ0.out; have := E3.out.size; omega) (by have := HZ0.out; omega)) (fun _ => rfl)
      (PI B s (w.heap.size + 1 + 1) W0) (fun _ _ _ => False) (fun pre W W' row h hg hr => h.grown q1 hg (fun r e => ⟨(hr r e).1, .inr (hr r e).2⟩)) (fun _ _ _ _ _ h _ _ => h)
      (fun pre W W' row h hg hr => h.grown q1 hg (fun r e => by have := hr r e; exact ⟨by omega, .inl (by omega)⟩)) HPI.out (fun _ => ?act) ?assign ?body ?done ?stop
    case assign =>
      intro l x W K hK
      gi_wp2
      exact hK
    case stop => intro D c pre W _ _ h; exact h.elim
    case body =>
      rintro l pre x W hz hI ht
      have HE := Lib.hid (HPE.out.save hI.sv HAP.out)
      have HI := Lib.hid hI
      obtain ⟨hxl, hrow, hz6, -⟩ := ht
      have HX : Hid (Ints W (some ⟨W0.heap.size + 2 + 1, 0, none⟩) B.m x) := by have h := ints_of_row hrow; rw [range_getD_self x B.m hxl] at h; exact h
      have HXL := Lib.hid hxl
      have HZ6 := Lib.hid hz6
      have e7 := HE.out.bc.cell
      have s7 := HE.out.bs.cell
      have HBT := Lib.hid (best_top B s g cap g' cap' B.m (some ⟨W0.heap.size + 2 + 1, 0, none⟩) x W HOK.out HE.out.pa HE.out.pb HE.out.ck HX.out)
      unfold Bl.curved Sw.val at HBT
      clear hI hxl hrow hz6
      gi_wp2_with fail
      refine ⟨trivial, ?_⟩
      refine (CallsIn.inRound l (callsIn_wide.2 HBT.out)).mono ?_
      rintro e W1 ⟨hb1, b, o, b', o', c, c', K, d, rfl, hs, hc, hc', hm⟩
      have B1 := Lib.hid hb1
      have HCT := Lib.hid (count_top B (B.bestX s x) b o b' o' c c' K B.m d W1 HOK.out (HBB.out x) HOK.out.m4 hs hc hc' hm)
      clear hb1 hs hc hc' hm HBT e7 s7
      gi_wp2_with fail
      refine ⟨trivial, ?_⟩
      refine (CallsIn.inRound l (callsIn_wide.2 HCT.out)).mono ?_
      rintro e W2 ⟨rfl, hb2⟩
      have B2' := Lib.hid (below_then B1.out hb2)
      have cA := (blk_keep B2'.out HI.out.cA : Boxed _ _ _ _).cell
      have fA := (blk_keep B2'.out HI.out.cA : Boxed _ _ _ _).frozen
      clear hb2 HCT B1
      have HX2 := Lib.hid (HX.out.below B2'.out)
      have hxb : W0.heap.size + 2 + 1 < W2.heap.size := by have := B2'.out.size; have := HZ6.out; omega
      have hi1 := HCI.out (B.bestX s x)
      have hi2 := HPO.out pre
      have HT := Lib.hid (fun (W3 : World) (v : Value) (hb : Below W.heap.size W W3) (ho : W3.ownsRow W2.heap.size 3 1 v x.length (x.map (Value.int .i64))) hn => PI.took q1 HI.out hb ho (by have := B2'.out.size; have := HZ6.out; omega) hn)
      have HL := Lib.hid (PI.left HI.out B2'.out (x := x))
      have HA2 : Hid (Boxed W2 (w.heap.size + 1 + 1) 3 (.int .i64 (possTo B s pre).1)) := blk_keep B2'.out HI.out.cA
      have HU : Hid (∃ u, Boxed W2 (w.heap.size + 1 + 1 + 1) 44 u) := by obtain ⟨u, hu, _⟩ := HI.out.cB; exact ⟨u, blk_keep B2'.out hu⟩
      by_cases hlt : (possTo B s pre).1 < countL (B.bestX s x) B.n
      · have HN := Lib.hid hlt
        have HCL := Lib.hid (cloneInts_any (W0.heap.size + 2 + 1) 0 B.m B.m x W2 HX2.out hxb (by have := HOK.out.m4; omega))
        generalize (possTo B s pre).1 = a1 at *
        generalize countL (B.bestX s x) B.n = n1 at *
        gi_wp2_with fail
        refine ⟨trivial, ?_⟩
        refine (CallsIn.inRound l (callsIn_wide.2 HCL.out)).mono ?_
        rintro e W3 ⟨v, rfl, hown, hb3⟩
        obtain ⟨VA, vc, rfl⟩ := own_slice hown
        have HO := Lib.hid hown
        have B3 := Lib.hid (below_then B2'.out hb3)
        obtain ⟨u, hu⟩ := HU.out
        have hu3 : Boxed W3 (w.heap.size + 1 + 1 + 1) 44 u := blk_keep hb3 hu
        have hA3 : Boxed W3 (w.heap.size + 1 + 1) 3 (.int .i64 a1) := blk_keep hb3 HA2.out
        have c3 := hA3.cell
        have f3 := hA3.frozen
        have c4 := hu3.cell
        have f4 := hu3.frozen
        clear hown hb3 hu hu3 hA3 cA fA HCL
        gi_wp2_with fail
        have HW := Lib.hid (HT.out W3 _ B3.out (by rw [HXL.out]; exact HO.out) HN.out)
        exact ⟨(KeepsFrom.of_below B3.out).trans (((KeepsOthers.setCell _ _ _).from _).trans ((KeepsOthers.setCell _ _ _).from _)),
          (KX.of_below B3.out).trans ((KX.set _ _ (by show w.heap.size ≤ w.heap.size + 1 + 1; omega) (by show w.heap.size + 1 + 1 ≠ w2.heap.size + 1; have := HQ2.out; omega) (by show w.heap.size + 1 + 1 < W0.heap.size + 2; omega)).trans
            (KX.set _ _ (by show w.heap.size ≤ w.heap.size + 1 + 1 + 1; omega) (by show w.heap.size + 1 + 1 + 1 ≠ w2.heap.size + 1; have := HQ2.out; omega) (by show w.heap.size + 1 + 1 + 1 < W0.heap.size + 2; omega))), HW.out⟩
      · have HN := Lib.hid hlt
        have hle : countL (B.bestX s x) B.n ≤ (possTo B s pre).1 := by omega
        generalize (possTo B s pre).1 = a1 at *
        generalize countL (B.bestX s x) B.n = n1 at *
        clear hlt
        gi_wp2_with fail
        exact ⟨KeepsFrom.of_below B2'.out, KX.of_below B2'.out, HL.out HN.out⟩
    case done =>
      rintro D xs W hD rfl hI hK
      have HI := Lib.hid hI
      have cA := hI.cA.cell
      have fA := hI.cA.frozen
      obtain ⟨v, hv, ho⟩ := hI.cB
      obtain ⟨VA, vc, rfl⟩ := own_slice ho
      have HV := Lib.hid hv
      have HO := Lib.hid ho
      have cB := hv.cell
      have fB := hv.frozen
      have HK := Lib.hid hK
      clear hI hv ho hK
      go_wp2_with fail
      go_region
      all_goals go_wp2
      have hp : w.heap.size + 1 + 1 ≠ D ∧ w.heap.size + 1 + 1 + 1 ≠ D := by omega
      have hne : (Value.slice VA (possTo B s (colsFrom B.cr [])).2.length vc).ownBlock ≠ some (w.heap.size + 1 + 1) ∧ (Value.slice VA (possTo B s (colsFrom B.cr [])).2.length vc).ownBlock ≠ some (w.heap.size + 1 + 1 + 1) := by
        constructor
        · intro e'; have := HO.out.lt _ e'; omega
        · intro e'; have := HO.out.lt _ e'; omega
      have hb1 : Below w.heap.size w W := ⟨HI.out.sv.os.trans E3.out.os, HI.out.sv.tape.trans E3.out.tape, HI.out.sv.output.trans E3.out.output, Nat.le_trans E3.out.size HI.out.sv.size, fun k hk => (HI.out.sv.block k (by omega) (by omega) (by omega)).trans (E3.out.block k hk)⟩
      have hA : Boxed _ (w.heap.size + 1 + 1) 3 _ := Boxed.other (B' := w.heap.size + 1 + 1 + 1) (HI.out.cA.set (.int .i64 (possTo B s (colsFrom B.cr [])).1)) (by omega) (.slice VA (possTo B s (colsFrom B.cr [])).2.length vc)
      have hB : Boxed _ (w.heap.size + 1 + 1 + 1) 44 _ := Boxed.set (.slice VA (possTo B s (colsFrom B.cr [])).2.length vc) (Boxed.other (B' := w.heap.size + 1 + 1) HV.out (by omega) (.int .i64 (possTo B s (colsFrom B.cr [])).1))
      have hO := (HO.out.kept (grownBy_set W ⟨w.heap.size + 1 + 1, 0, none⟩ (.int .i64 (possTo B s (colsFrom B.cr [])).1)) (.inr hne.1)).kept (grownBy_set _ ⟨w.heap.size + 1 + 1 + 1, 0, none⟩ (.slice VA (possTo B s (colsFrom B.cr [])).2.length vc)) (.inr hne.2)
      have hb2 := ((hb1.setCell (p := ⟨w.heap.size + 1 + 1, 0, none⟩) (by show w.heap.size ≤ w.heap.size + 1 + 1; omega) (.int .i64 (possTo B s (colsFrom B.cr [])).1)).setCell (p := ⟨w.heap.size + 1 + 1 + 1, 0, none⟩) (by show w.heap.size ≤ w.heap.size + 1 + 1 + 1; omega) (.slice VA (possTo B s (colsFrom B.cr [])).2.length vc)).drew
      have hKf := ((Below.heap_setCell _ ⟨w.heap.size + 1 + 1 + 1, 0, none⟩ (.slice VA (possTo B s (colsFrom B.cr [])).2.length vc) D (Ne.symm hp.2)).trans (Below.heap_setCell W ⟨w.heap.size + 1 + 1, 0, none⟩ (.int .i64 (possTo B s (colsFrom B.cr [])).1) D (Ne.symm hp.1))).trans HK.out
      generalize hWf : (W.setCell ⟨w.heap.size + 1 + 1, 0, none⟩ (.int .i64 (possTo B s (colsFrom B.cr [])).1)).setCell ⟨w.heap.size + 1 + 1 + 1, 0, none⟩ (.slice VA (possTo B s (colsFrom B.cr [])).2.length vc) = Wf at *
      have hKd : Wf.drew.heap[D]? = some (.deferred (some [])) := hKf
      refine ⟨by simp, .inl ⟨D, _, rfl, run_takeDeferred hKd, ?_⟩⟩
      refine ⟨_, results_cct rfl _ _ _ (w.heap.size + 1 + 1) (w.heap.size + 1 + 1 + 1) _ _ _ rfl (run_loadVar_cell Try.underlying3 rfl (Boxed.kept (show Boxed Wf.drew _ _ _ from hA) (grownBy_putObj' _ D (.deferred none)) (fun e => hp.1 (Option.some.inj e))).cell) rfl (run_loadVar_cell Try.underlying44 rfl (Boxed.kept (show Boxed Wf.drew _ _ _ from hB) (grownBy_putObj' _ D (.deferred none)) (fun e => hp.2 (Option.some.inj e))).cell) rfl, ?_, .inr ⟨Hok0.out, _, rfl, ?_⟩⟩
      · exact hb2.trans (belowK_b (w := w) (Nat.le_refl _) Wf.drew D _ (.deferred none) (by omega) hKd rfl rfl)
      · exact own_base (ownsRow_putObj (show Wf.drew.ownsRow _ _ _ _ _ _ from hO) (.deferred none) hKd rfl) (by have := E3.out.size; omega)
end Go.Proofs.Ytiflhimmieflpaa

/- Lists of lists of ints. -/
namespace Go.Proofs.Ytiflhimmieflpaa
open Go.RowKit Go.Maps

/-- A slice value reads as a list of ints, in a block of ints. -/
def IntRow (W : World) (v : Value) (xs : List Int) : Prop := ∃ A c, v = .slice A xs.length c ∧ Ints W A xs.length xs ∧ (0 < xs.length → ∃ b o cs, A = some ⟨b, o, none⟩ ∧ Blk W b 3 cs)
/-- A slice value reads as lists of ints. -/
def Lists (base : Nat) (W : World) (v : Value) (ls : List (List Int)) : Prop := ∃ vs, W.ownsRow base 44 1 v ls.length vs ∧ ∀ i, i < ls.length → ∃ u, vs[i]? = some u ∧ IntRow W u (ls.getD i [])
section
variable {W W' : World} {base base' : Nat} {u v : Value} {xs : List Int} {ls ls' : List (List Int)}
theorem IntRow.below (h : IntRow W v xs) (hb : Below W.heap.size W W') : IntRow W' v xs := by
  obtain ⟨A, c, rfl, hi, ht⟩ := h
  exact ⟨A, c, rfl, hi.below hb, fun hn => by obtain ⟨b, o, cs, e, hk⟩ := ht hn; exact ⟨b, o, cs, e, blk_keep hb hk⟩⟩
theorem IntRow.grown {n : Nat} {ys : List Value} (h : IntRow W v xs) (ho : W.ownsRow base 44 1 u n ys) (hg : W.grownBy W' u.ownBlock) : IntRow W' v xs := by
  obtain ⟨A, c, rfl, hi, ht⟩ := h
  refine ⟨A, c, rfl, ?_, fun hn => ?_⟩
  · refine Reads.keepBy hi fun b o e hn hb => ?_
    obtain ⟨b', o', cs, e', hk⟩ := ht hn
    rw [e] at e'; cases e'
    exact ⟨Nat.lt_of_lt_of_le hb hg.size, hg.block b hb (fun e2 => own_blk_ne ho hk (by decide) e2.symm)⟩
  · obtain ⟨b, o, cs, e, hk⟩ := ht hn
    exact ⟨b, o, cs, e, hk.grown hg (own_blk_ne ho hk (by decide))⟩
theorem Lists.below (h : Lists base W v ls) (hb : Below W.heap.size W W') : Lists base W' v ls := by
  obtain ⟨vs, ho, hi⟩ := h
  exact ⟨vs, ownsRow_below ho hb, fun i hl => by obtain ⟨u, e, hr⟩ := hi i hl; exact ⟨u, e, hr.below hb⟩⟩
theorem Lists.lower (h : Lists base W v ls) (hb : base' ≤ base) : Lists base' W v ls := by
  obtain ⟨vs, ho, hi⟩ := h
  exact ⟨vs, own_base ho hb, hi⟩
/-- Behind an append of lists to lists. -/
theorem Lists.append {b2 : Nat} {vs vs' : List Value} {u' : Value} (ho : W.ownsRow base 44 1 u ls.length vs) (hi : ∀ i, i < ls.length → ∃ z, vs[i]? = some z ∧ IntRow W z (ls.getD i [])) (hi' : ∀ i, i < ls'.length → ∃ z, vs'[i]? = some z ∧ IntRow W z (ls'.getD i []))
    (hl : vs.length = ls.length) (hg : W.grownBy W' u.ownBlock) (ho' : W'.ownsRow b2 44 1 u' (ls.length + ls'.length) (vs ++ vs')) : Lists b2 W' u' (ls ++ ls') := by
  refine ⟨vs ++ vs', by rw [List.length_append]; exact ho', fun i hlt => ?_⟩
  rw [List.length_append] at hlt
  by_cases hc : i < ls.length
  · obtain ⟨z, e, hr⟩ := hi i hc
    refine ⟨z, by rw [List.getElem?_append_left (by omega)]; exact e, ?_⟩
    have e2 : (ls ++ ls').getD i [] = ls.getD i [] := by simp [List.getD, List.getElem?_append_left hc]
    rw [e2]; exact hr.grown ho hg
  · obtain ⟨z, e, hr⟩ := hi' (i - ls.length) (by omega)
    refine ⟨z, by rw [List.getElem?_append_right (by omega), hl]; exact e, ?_⟩
    have e2 : (ls ++ ls').getD i [] = ls'.getD (i - ls.length) [] := by simp [List.getD, List.getElem?_append_right (show ls.length ≤ i by omega)]
    rw [e2]; exact hr.grown ho hg
theorem Lists.nil (W : World) : Lists base W (.slice none 0 0) [] := ⟨[], World.ownsRow_nil _ _ _ _, fun i h => absurd h (by simp)⟩
theorem Lists.at_ (h : Lists base W v ls) {i : Nat} (hi : i < ls.length) : ∃ g cap u, v = .slice (some ⟨g, 0, none⟩) ls.length cap ∧ W.cell? ⟨g, i, none⟩ = some u ∧ IntRow W u (ls.getD i []) := by
  obtain ⟨vs, ho, hr⟩ := h
  obtain ⟨u, e, hu⟩ := hr i hi
  obtain ⟨g, cap, rfl⟩ := own_form ho (by omega)
  exact ⟨g, cap, u, rfl, by rw [ho.cellAt i (by omega)]; exact e, hu⟩
end
theorem intRow_of_own {W : World} {base : Nat} {v : Value} {xs : List Int} (h : W.ownsRow base 3 1 v xs.length (xs.map (Value.int .i64))) : IntRow W v xs := by
  obtain ⟨A, c, rfl⟩ := own_slice h
  refine ⟨A, c, rfl, (reads_of_own h).r, fun hn => ?_⟩
  obtain ⟨g, cap, e⟩ := own_form h hn
  simp only [Value.slice.injEq, true_and] at e
  obtain ⟨rfl, rfl⟩ := e
  obtain ⟨cs, hk, _⟩ := own_blk h
  exact ⟨g, 0, cs, rfl, hk⟩
/-- How many lists there are at most. -/
theorem flatMap_len {α β : Type} (f : α → List β) (m : Nat) : ∀ l : List α, (∀ a ∈ l, (f a).length ≤ m) → (l.flatMap f).length ≤ l.length * m
  | [], _ => by simp
  | a :: l, h => by
    rw [List.flatMap_cons, List.length_append, List.length_cons, Nat.succ_mul]
    have := flatMap_len f m l (fun b hb => h b (List.mem_cons_of_mem _ hb))
    have := h a List.mem_cons_self
    omega
theorem colsFrom_len {n : Nat} : ∀ (cs : List Crack) (p : List Int), (∀ k ∈ cs, crackOk n k = true) → (colsFrom cs p).length ≤ 5 ^ cs.length
  | [], p, _ => by simp [colsFrom]
  | c :: cs, p, h => by
    have hc : c.ch - c.cl < 5 := by
      have := h c List.mem_cons_self
      simp only [crackOk, Bool.and_eq_true, decide_eq_true_eq] at this
      exact this.1.1.2
    unfold colsFrom
    have h1 := flatMap_len (fun (i : Nat) => colsFrom cs (p ++ [c.cl + i])) (5 ^ cs.length) (List.range (c.ch + 1 - c.cl).toNat) (fun i _ => colsFrom_len cs _ (fun k hk => h k (List.mem_cons_of_mem _ hk)))
    rw [List.length_range] at h1
    have h2 : (c.ch + 1 - c.cl).toNat ≤ 5 := by omega
    have h3 := Nat.mul_le_mul_right (5 ^ cs.length) h2
    rw [List.length_cons, Nat.pow_succ]
    omega
theorem colsFrom_pos {n : Nat} : ∀ (cs : List Crack) (p : List Int), (∀ k ∈ cs, crackOk n k = true) → 0 < (colsFrom cs p).length
  | [], p, _ => by simp [colsFrom]
  | c :: cs, p, h => by
    have hc := crackOk_in (h c List.mem_cons_self)
    obtain ⟨m, hm⟩ : ∃ m, (c.ch + 1 - c.cl).toNat = m + 1 := ⟨(c.ch + 1 - c.cl).toNat - 1, by omega⟩
    unfold colsFrom
    rw [hm, List.range_succ_eq_map, List.flatMap_cons, List.length_append]
    have := colsFrom_pos cs (p ++ [c.cl + (0 : Nat)]) (fun k hk => h k (List.mem_cons_of_mem _ hk))
    omega
theorem colsFrom_each : ∀ (cs : List Crack) (p q : List Int), q ∈ colsFrom cs p → q.length = p.length + cs.length
  | [], p, q, h => by simp [colsFrom] at h; simp [h]
  | c :: cs, p, q, h => by
    unfold colsFrom at h
    obtain ⟨i, _, hi⟩ := List.mem_flatMap.1 h
    have := colsFrom_each cs _ q hi
    simp at this ⊢
    omega
end Go.Proofs.Ytiflhimmieflpaa

/- Walks: the reference's Columns. -/
namespace Go.Proofs.Ytiflhimmieflpaa
open Go.RowKit Go.Maps

def SB3 (w0 kb o : Nat) (V : Value) (a b : Int) (W : World) : Prop := W.cell? ⟨w0, 3, none⟩ = some V ∧ W.cell? ⟨kb, o, none⟩ = some (.int .i64 a) ∧ W.cell? ⟨kb, o + 1, none⟩ = some (.int .i64 b)
theorem colsFrom_len3 {n : Nat} (cs : List Crack) (p : List Int) (h : ∀ k ∈ cs, crackOk n k = true) (h3 : cs.length ≤ 3) : (colsFrom cs p).length ≤ 125 := by
  have h1 := colsFrom_len cs p h
  have h2 : 5 ^ cs.length ≤ 5 ^ 3 := Nat.pow_le_pow_right (by omega) h3
  omega
theorem colsTo_len {n : Nat} (cs : List Crack) (cl : Int) (p : List Int) (i : Nat) (hi : i ≤ 5) (h : ∀ k ∈ cs, crackOk n k = true) (h3 : cs.length ≤ 3) : (colsTo cs cl p i).length ≤ 625 := by
  unfold colsTo
  have h1 := flatMap_len (fun (j : Nat) => colsFrom cs (p ++ [cl + j])) 125 (List.range i) (fun j _ => colsFrom_len3 cs _ h h3)
  rw [List.length_range] at h1
  omega
theorem reads_one {W : World} {g : Nat} {t : TypeId} {v : Value} (h : Blk W g t #[v]) : Reads W 1 (some ⟨g, 0, none⟩) 1 [v] := by
  refine ⟨rfl, fun _ => ⟨g, 0, rfl, h.lt, fun j u hj => ?_⟩⟩
  rw [Nat.zero_add, h.cell]
  simpa using hj
def S7 (b : Nat) (V0 V1 V2 V3 : Value) (W : World) : Prop := W.cell? ⟨b, 0, none⟩ = some V0 ∧ W.cell? ⟨b, 1, none⟩ = some V1 ∧ W.cell? ⟨b, 2, none⟩ = some V2 ∧ W.cell? ⟨b, 3, none⟩ = some V3
theorem Try.infoInts : (Try.prog.info? 44).map (fun i => (i.zero, i.size, i.bytes)) = some (some (.slice none 0 0), 1, 24) := by kernel_rfl
theorem ones2c (a b : Int) : (#[Value.int .i64 a, Value.int .i64 b]).all (·.oneCell') = true := all_oneCell_toArray (cs := [.int .i64 a, .int .i64 b]) (fun v hv => by simp only [List.mem_cons, List.not_mem_nil, or_false] at hv; rcases hv with rfl | rfl <;> rfl)
end Go.Proofs.Ytiflhimmieflpaa

/- Walks: the reference's Best. -/
namespace Go.Proofs.Ytiflhimmieflpaa
open Go.RowKit Go.Maps

def bestCrack (x : Int) (k : Crack) : Crack := ⟨x, x, k.fh, k.fh, k.tl, k.tl⟩
def bestCracks (xs : List Int) (cr : List Crack) : List Crack := List.zipWith bestCrack xs cr
theorem bestCracks_length (xs : List Int) (cr : List Crack) : (bestCracks xs cr).length = min xs.length cr.length := by simp [bestCracks]
theorem bestCracks_snoc (xs : List Int) (cr : List Crack) (k : Nat) (hx : k < xs.length) (hk : k < cr.length) : flat6 ((bestCracks xs cr).take (k + 1)) = flat6 ((bestCracks xs cr).take k) ++ [.int .i64 (xs.getD k 0), .int .i64 (xs.getD k 0), .int .i64 (cr.getD k Crack.zero).fh, .int .i64 (cr.getD k Crack.zero).fh, .int .i64 (cr.getD k Crack.zero).tl, .int .i64 (cr.getD k Crack.zero).tl] := by
  rw [flat6_snoc _ _ (by rw [bestCracks_length]; omega)]
  have : (bestCracks xs cr).getD k Crack.zero = bestCrack (xs.getD k 0) (cr.getD k Crack.zero) := by
    have e1 : xs[k]? = some xs[k] := List.getElem?_eq_getElem hx
    have e2 : cr[k]? = some cr[k] := List.getElem?_eq_getElem hk
    simp only [bestCracks, List.getD, List.getElem?_zipWith, e1, e2, Option.getD_some]
  rw [this]
  rfl
structure S2L (wc : World) (g : Nat) (v1 v2 : Value) (L : List Crack) (k : Nat) (sv : Value) (W : World) : Prop where
  gr : wc.grownBy W (some g)
  box : Blk W g 46 #[v1, v2, sv]
  os : W.ownsRow wc.heap.size 111 6 sv k (flat6 (L.take k))
theorem S2L.alloc {wc W : World} {g k : Nat} {v1 v2 sv : Value} {L : List Crack} (h : S2L wc g v1 v2 L k sv W) (o : Obj) : S2L wc g v1 v2 L k sv (W.alloc o) := ⟨grownBy_alloc h.gr o, h.box.alloc o, h.os.alloc o⟩
theorem S2L.appended {wc W W' : World} {g k : Nat} {v1 v2 sv sv' : Value} {L : List Crack} (h : S2L wc g v1 v2 L k sv W) (hg : W.grownBy W' sv.ownBlock) (ho : W'.ownsRow wc.heap.size 111 6 sv' (k + 1) (flat6 (L.take (k + 1)))) : S2L wc g v1 v2 L (k + 1) sv' (W'.setCell ⟨g, 2, none⟩ sv') := by
  have hb := h.box.grown hg (own_blk_ne h.os h.box (by decide))
  exact ⟨grown_set (grown_own h.gr h.os hg (Nat.le_refl _)) _, hb.set_ 2 sv', own_setCell ho hb (by decide) 2 sv'⟩
def S10L (g b o c : Nat) (sv : Value) (x y z : Int) (W : World) : Prop := W.cell? ⟨g, 2, none⟩ = some sv ∧ W.cell? ⟨b, o, none⟩ = some (.int .i64 x) ∧ W.cell? ⟨c, 3, none⟩ = some (.int .i64 y) ∧ W.cell? ⟨c, 4, none⟩ = some (.int .i64 z)
/-- What Best answers. -/
def refBestV (B : Bl) (xs : List Int) (TA TB K : Option Addr) (c c' d : Nat) : Vw := ⟨TA, TB, K, B.n, c, c', B.m, d, (bentL B.bot B.bend).map (·.1), (bentL B.top B.bend).map (·.2), bestCracks xs B.cr⟩

attribute [local go_sem ↓] Go.wp_at_zero Go.wp_at_succ
end Go.Proofs.Ytiflhimmieflpaa

/- Pure facts: the best truth with the cracks in some columns is the worst one of a blade that is known better. -/
namespace Go.Proofs.Ytiflhimmieflpaa
open Go.RowKit Go.Maps

def lowsL (xs : List (Int × Int)) (bend : Int) : List (Int × Int) := (bentL xs bend).map fun p => (p.1, p.1)
def highsL (xs : List (Int × Int)) (bend : Int) : List (Int × Int) := (bentL xs bend).map fun p => (p.2, p.2)
theorem mapg (f : Int × Int → Int × Int) (hf : f (0, 0) = (0, 0)) (xs : List (Int × Int)) (i : Nat) : (xs.map f).getD i (0, 0) = f (xs.getD i (0, 0)) := by
  simp only [List.getD, List.getElem?_map]
  cases xs[i]? with
  | none => simp [hf]
  | some v => simp
/-- A list of single heights that are a truth is its own curve. -/
theorem bent_single {D : List (Int × Int)} {bend : Int} {t : Nat → Int} (hb : 0 ≤ bend) (hD : ∀ i, i < D.length → D.getD i (0, 0) = (t i, t i)) (ht : Truth D bend t) : bentOk D bend = true ∧ bentL D bend = D := by
  have hok := truth_ok ht
  refine ⟨hok, ?_⟩
  have hl := truth_lows hb hok
  have hh := truth_highs hb hok
  apply List.ext_getElem
  · rw [bentL_length]
  · intro i h1 h2
    have a := truth_bent ht i h2
    have b := hl.lo i h2
    have c := hh.hi i h2
    rw [hD i h2] at b c
    have e1 : (bentL D bend).getD i (0, 0) = (bentL D bend)[i] := by simp [List.getD, h1]
    have e2 : D.getD i (0, 0) = D[i] := by simp [List.getD, h2]
    rw [← e1, ← e2, hD i h2]
    dsimp only at b c
    exact Prod.ext (by omega) (by omega)
theorem lows_single {xs : List (Int × Int)} {bend : Int} (hb : 0 ≤ bend) (h : bentOk xs bend = true) : bentOk (lowsL xs bend) bend = true ∧ bentL (lowsL xs bend) bend = lowsL xs bend := by
  have ht := truth_lows hb h
  have hD : ∀ i, (lowsL xs bend).getD i (0, 0) = (((bentL xs bend).getD i (0, 0)).1, ((bentL xs bend).getD i (0, 0)).1) := fun i => mapg (fun p => (p.1, p.1)) rfl _ i
  have hl : (lowsL xs bend).length = xs.length := by simp [lowsL, bentL_length]
  refine bent_single hb (fun i _ => hD i) ⟨fun i _ => ?_, fun i _ => ?_, fun i hi => ?_, fun i hi => ?_⟩
  · rw [hD i]; exact Int.le_refl _
  · rw [hD i]; exact Int.le_refl _
  · exact ht.up i (by omega)
  · exact ht.dn i (by omega)
theorem highs_single {xs : List (Int × Int)} {bend : Int} (hb : 0 ≤ bend) (h : bentOk xs bend = true) : bentOk (highsL xs bend) bend = true ∧ bentL (highsL xs bend) bend = highsL xs bend := by
  have ht := truth_highs hb h
  have hD : ∀ i, (highsL xs bend).getD i (0, 0) = (((bentL xs bend).getD i (0, 0)).2, ((bentL xs bend).getD i (0, 0)).2) := fun i => mapg (fun p => (p.2, p.2)) rfl _ i
  have hl : (highsL xs bend).length = xs.length := by simp [highsL, bentL_length]
  refine bent_single hb (fun i _ => hD i) ⟨fun i _ => ?_, fun i _ => ?_, fun i hi => ?_, fun i hi => ?_⟩
  · rw [hD i]; exact Int.le_refl _
  · rw [hD i]; exact Int.le_refl _
  · exact ht.up i (by omega)
  · exact ht.dn i (by omega)
/-- The blade of one truth: the edges that spoil the fewest sticks, and cracks in these columns, as short as they can be. -/
def Bl.tight (B : Bl) (xs : List Int) : Bl := ⟨B.A, B.A', B.K, B.n, B.c, B.n', B.c', B.m, B.d, B.bend, lowsL B.bot B.bend, highsL B.top B.bend, bestCracks xs B.cr⟩
theorem curveErr_parts {n n' m : Nat} {bend : Int} {bot top : List (Int × Int)} {cr : List Crack} (h : curveErr n n' m bend bot top cr = 0) : n = n' ∧ within 1 30 [(n : Int)] = true ∧ m ≤ 4 ∧ edgesOk bend bot top = true ∧ (cr.any fun k => !crackOk n k) = false ∧ bentOk bot bend = true ∧ bentOk top bend = true := by
  unfold curveErr at h
  split at h
  · omega
  split at h
  · omega
  split at h
  · omega
  split at h
  · omega
  split at h
  · omega
  split at h
  · omega
  split at h
  · omega
  rename_i e1 e2 e3 e4 e5 e6 e7
  exact ⟨by omega, by simpa using e2, by omega, by simpa using e4, by simpa using e5, by simpa using e6, by simpa using e7⟩
theorem worst_tight {B : Bl} {s : Sw} (xs : List Int) (hc : B.cerr = 0) : (B.tight xs).worst s = B.bestX s xs := by
  obtain ⟨-, -, -, he, -, h1, h2⟩ := curveErr_parts hc
  have b0 := (edgesOk_in he).1.1
  unfold Bl.worst worstL Bl.bestX bestL Bl.tight
  dsimp only
  rw [(lows_single b0 h1).2, (highs_single b0 h2).2]
  have e1 : (lowsL B.bot B.bend).map (·.2) = (bentL B.bot B.bend).map (·.1) := by simp [lowsL, Function.comp_def]
  have e2 : (highsL B.top B.bend).map (·.1) = (bentL B.top B.bend).map (·.2) := by simp [highsL, Function.comp_def]
  have e3 : (bestCracks xs B.cr).map worstSplit = bestSplits xs B.cr := by simp [bestCracks, bestSplits, List.map_zipWith]; rfl
  rw [e1, e2, e3]
theorem sure_tight {B : Bl} (xs : List Int) (TA TB K : Option Addr) (c c' d : Nat) (hc : B.cerr = 0) : sureV (B.tight xs) TA TB K c c' d = refBestV B xs TA TB K c c' d := by
  obtain ⟨-, -, -, he, -, h1, h2⟩ := curveErr_parts hc
  have b0 := (edgesOk_in he).1.1
  unfold sureV refBestV Bl.tight
  dsimp only
  rw [(lows_single b0 h1).2, (highs_single b0 h2).2]
  have e1 : (lowsL B.bot B.bend).map (·.2) = (bentL B.bot B.bend).map (·.1) := by simp [lowsL, Function.comp_def]
  have e2 : (highsL B.top B.bend).map (·.1) = (bentL B.top B.bend).map (·.2) := by simp [highsL, Function.comp_def]
  have e3 : (bestCracks xs B.cr).map splitOf = bestCracks xs B.cr := by simp [bestCracks, List.map_zipWith]; rfl
  rw [e1, e2, e3]
/-- Lists of columns of the cracks: each column lies in its span. -/
theorem colsFrom_in : ∀ (cs : List Crack) (p q : List Int), q ∈ colsFrom cs p → ∃ r, q = p ++ r ∧ r.length = cs.length ∧ ∀ i, i < cs.length → (cs.getD i Crack.zero).cl ≤ r.getD i 0 ∧ r.getD i 0 ≤ (cs.getD i Crack.zero).ch
  | [], p, q, h => ⟨[], by simpa [colsFrom] using h, rfl, fun i hi => absurd hi (by simp)⟩
  | c :: cs, p, q, h => by
    unfold colsFrom at h
    obtain ⟨i, hi, hq⟩ := List.mem_flatMap.1 h
    rw [List.mem_range] at hi
    obtain ⟨r, e, hl, hr⟩ := colsFrom_in cs _ q hq
    refine ⟨(c.cl + i) :: r, by rw [e]; simp, by simp [hl], fun j hj => ?_⟩
    cases j with
    | zero => simp; omega
    | succ j => simpa using hr j (by simpa using hj)
theorem tight_cracks {B : Bl} {xs : List Int} (h : (B.cr.any fun k => !crackOk B.n k) = false) (hx : xs ∈ colsFrom B.cr []) : ((bestCracks xs B.cr).any fun k => !crackOk B.n k) = false := by
  obtain ⟨r, e, hl, hr⟩ := colsFrom_in _ _ _ hx
  rw [List.nil_append] at e
  subst e
  rw [List.any_eq_false] at h ⊢
  intro k hk
  have hk' : k ∈ List.zipWith bestCrack xs B.cr := hk
  obtain ⟨i, hi, rfl⟩ := List.getElem_of_mem hk'
  rw [List.getElem_zipWith]
  have hi2 : i < B.cr.length := by simp at hi; omega
  have hi1 : i < xs.length := by omega
  have a := crackOk_in (by simpa using h _ (List.getElem_mem hi2))
  have b := hr i hi2
  have e1 : B.cr.getD i Crack.zero = B.cr[i] := by simp [List.getD, hi2]
  have e2 : xs.getD i 0 = xs[i] := by simp [List.getD, hi1]
  rw [e1, e2] at b
  obtain ⟨k, hk0⟩ : ∃ k, k = bestCrack xs[i] B.cr[i] := ⟨_, rfl⟩
  have f1 : k.cl = xs[i] := by rw [hk0]; rfl
  have f2 : k.ch = xs[i] := by rw [hk0]; rfl
  have f3 : k.fl = B.cr[i].fh := by rw [hk0]; rfl
  have f4 : k.fh = B.cr[i].fh := by rw [hk0]; rfl
  have f5 : k.tl = B.cr[i].tl := by rw [hk0]; rfl
  have f6 : k.th = B.cr[i].tl := by rw [hk0]; rfl
  rw [← hk0]
  clear hk0
  simp only [Bool.not_eq_true', Bool.not_eq_false]
  simp only [crackOk, validS, Bool.and_eq_true, List.all_eq_true, decide_eq_true_eq, List.mem_cons, List.not_mem_nil, or_false, forall_eq, forall_eq_or_imp]
  omega
/-- The blade of the truth is valid. -/
theorem tight_cerr {B : Bl} {xs : List Int} (hb : B.bot.length = B.n) (ht : B.top.length = B.n') (hc : B.cerr = 0) (hx : xs ∈ colsFrom B.cr []) : (B.tight xs).cerr = 0 := by
  obtain ⟨e1, e2, e3, e4, e5, e6, e7⟩ := curveErr_parts hc
  obtain ⟨q1, q2, q3⟩ := edgesOk_in e4
  have b0 := q1.1
  have hk := tight_cracks e5 hx
  have k1 := (lows_single b0 e6).1
  have k2 := (highs_single b0 e7).1
  have lb : (lowsL B.bot B.bend).length = B.n := by simp [lowsL, bentL_length, hb]
  have lt : (highsL B.top B.bend).length = B.n := by simp [highsL, bentL_length, ht, ← e1]
  have hlo := truth_lows b0 e6
  have hhi := truth_highs b0 e7
  have below : ∀ i, i < B.n → ((bentL B.bot B.bend).getD i (0, 0)).1 ≤ ((bentL B.top B.bend).getD i (0, 0)).2 ∧ 0 ≤ ((bentL B.bot B.bend).getD i (0, 0)).1 ∧ ((bentL B.top B.bend).getD i (0, 0)).2 ≤ 300 := fun i hi => by
    have a := hlo.lo i (by omega)
    have a' := hlo.hi i (by omega)
    have b := hhi.lo i (by omega)
    have b' := hhi.hi i (by omega)
    have hB : below2 B.bot B.top B.bot.length = true := by
      unfold edgesOk at e4
      simp only [Bool.and_eq_true] at e4
      exact e4.2
    unfold below2 at hB
    rw [List.all_eq_true] at hB
    have c := hB i (List.mem_range.2 (by omega))
    rw [decide_eq_true_eq] at c
    have d := (q2 (B.bot.getD i (0, 0)) (by have h : i < B.bot.length := by omega
                                            have e : B.bot.getD i (0, 0) = B.bot[i] := by simp [List.getD, h]
                                            rw [e]; exact List.getElem_mem h)).1
    have d' := (q3 (B.top.getD i (0, 0)) (by have h : i < B.top.length := by omega
                                             have e : B.top.getD i (0, 0) = B.top[i] := by simp [List.getD, h]
                                             rw [e]; exact List.getElem_mem h)).1
    unfold InR at d d'
    omega
  have gl : ∀ i, (lowsL B.bot B.bend).getD i (0, 0) = (((bentL B.bot B.bend).getD i (0, 0)).1, ((bentL B.bot B.bend).getD i (0, 0)).1) := fun i => mapg (fun p => (p.1, p.1)) rfl _ i
  have gh : ∀ i, (highsL B.top B.bend).getD i (0, 0) = (((bentL B.top B.bend).getD i (0, 0)).2, ((bentL B.top B.bend).getD i (0, 0)).2) := fun i => mapg (fun p => (p.2, p.2)) rfl _ i
  have he : edgesOk B.bend (lowsL B.bot B.bend) (highsL B.top B.bend) = true := by
    have w1 : within 0 300 [B.bend] = true := by simp [within]; omega
    have w2 : validS 0 300 (lowsL B.bot B.bend) = true := validS_iff.2 fun i hi => spanB_iff.2 (by rw [gl i]; have := below i (by omega); dsimp only; omega)
    have w3 : validS 0 300 (highsL B.top B.bend) = true := validS_iff.2 fun i hi => spanB_iff.2 (by rw [gh i]; have := below i (by omega); dsimp only; omega)
    have w4 : below2 (lowsL B.bot B.bend) (highsL B.top B.bend) (lowsL B.bot B.bend).length = true := by
      unfold below2
      rw [List.all_eq_true]
      intro j hj
      rw [List.mem_range] at hj
      rw [gl j, gh j, decide_eq_true_eq]
      have := below j (by omega)
      dsimp only
      omega
    unfold edgesOk
    rw [w1, w2, w3, w4]
    rfl
  show curveErr B.n B.n' B.m B.bend (lowsL B.bot B.bend) (highsL B.top B.bend) (bestCracks xs B.cr) = 0
  unfold curveErr
  rw [he, hk, k1, k2, e2]
  simp [← e1]
  omega
end Go.Proofs.Ytiflhimmieflpaa

/- A region that draws its order, in a round of a range over a function: as everywhere. -/
namespace Go.Proofs.Ytiflhimmieflpaa
open Go.RowKit

section
variable {P : Program} {l n : Nat} {Q : Exit → Act → World → Prop} {ops : Array Oper} {md : Region.Mode}
def notDefer (o : Oper) : Bool := match o.op with
  | .defer _ => false
  | _ => true
theorem notDefer_spec {o : Oper} (h : notDefer o = true) : ∀ c, o.op ≠ .defer c := fun c e => by unfold notDefer at h; rw [e] at h; cases h
theorem rowsIn_round {row : String} {args : Array Value} {w : World} {R : Value → World → Prop} (h : Rows P row args w R) : RowsIn (Fence.wide.inRound l) n P row args w R := by
  intro c cs _
  obtain ⟨v, w', r, s⟩ := h c cs
  exact ⟨v, w', r, stepsIn_wide.2 s⟩
theorem round_of_wp {o : Oper} {a : Act} {w : World} {K : Act → World → Prop} (hd : ∀ c, o.op ≠ .defer c) (h : o.wp P a w K Q) : o.wpIn (Fence.wide.inRound l) n P a w K Q := by
  refine ⟨fun _ _ => trivial, ?_⟩
  show o.uponIn (Fence.wide.inRound l) n P a K Q ((o.semAt (some l) a.eval).run P w)
  rw [Oper.semAt_some l a.eval o hd]
  unfold Oper.wp at h
  generalize (execOp a.eval o).run P w = r at *
  cases r with
  | ok x w' =>
    cases x with
    | enter f args => exact ⟨fun h => (by cases h), CallsIn.inRound l (callsIn_wide.2 h)⟩
    | row row args => exact ⟨fun h => (by cases h), rowsIn_round h⟩
    | value v => exact h
    | skip => exact h
    | defer d => exact h
    | _ => exact h.elim
  | halt x w' => cases x <;> first | exact h | exact h.elim
theorem roundOp_of_wp {i : Nat} {a : Act} {w : World} {K : Act → World → Prop} (hQ : ¬ LetsOut Q) (hd : ops.all notDefer = true) (h : wpOp P ops Q i K a w) : wpOpIn (Fence.wide.inRound l) n P ops Q i K a w := by
  unfold wpOp at h
  unfold wpOpIn
  cases hi : ops[i]? with
  | none => rw [hi] at h; exact h
  | some o =>
    rw [hi] at h
    simp only at h ⊢
    split
    · rename_i hw
      rw [if_pos hw] at h
      exact round_of_wp (notDefer_spec (by rw [Array.all_eq_true] at hd; obtain ⟨hlt, rfl⟩ := Array.getElem?_eq_some_iff.1 hi; exact hd i hlt)) (h.resolve_right fun h' => hQ h'.2)
    · rename_i hw
      rw [if_neg hw] at h
      exact ⟨fun _ _ => trivial, h⟩
theorem roundAny_of_wp (hQ : ¬ LetsOut Q) (hd : ops.all notDefer = true) : ∀ (fuel : Nat) (listed : Array Bool) (a : Act) (w : World), wpAny P md ops Q fuel listed a w → wpAnyIn (Fence.wide.inRound l) n P md ops Q fuel listed a w
  | 0, _, _, _, h => h
  | fuel + 1, _, _, _, h => ⟨h.1, fun i hi => roundOp_of_wp hQ hd (wpOp_mono (fun a' w' h' => roundAny_of_wp hQ hd fuel _ a' w' h') (h.2 i hi))⟩
theorem round_region_held {S : World → Prop} {id : Nat} {a : Act} {w : World} (hm : P.follows .mixedOrders = true) (hQ : ¬ LetsOut Q) (hd : ops.all notDefer = true) (hS : S w.drew)
    (h : S w.drew → wpAnyH P .any ops Q S ops.size (Array.replicate ops.size false) a w.drew) : (Code.region id ops true).wpIn (Fence.wide.inRound l) n P Q a w :=
  wpIn_region_any hm (roundAny_of_wp hQ hd _ _ _ _ (wpAny_of_held _ _ _ _ (h hS)))
end
end Go.Proofs.Ytiflhimmieflpaa

/- Walks: possibly: whether a stick is sound in some truth. -/
namespace Go.Proofs.Ytiflhimmieflpaa
open Go.RowKit Go.Maps Go.Shelf
attribute [local go_sem] Oper.semAt_some

def possB (B : Bl) (s : Sw) (x : Nat) (y : Int) : Bool := (colsFrom B.cr []).any fun xs => soundS (B.bestX s xs) x y
theorem results_c1 {fn : Func} {p : Tmp} {ty : TypeId} (h : fn.results = #[.cell p ty]) (tmps : Array Value) (P : Program) (w : World) (g : Nat) (v : Value)
    (hp : tmps.getD p undef = .pointer (some ⟨g, 0, none⟩)) (hg : (loadVar ty ⟨g, 0, none⟩).run P w = .ok v w) : (results fn tmps).run P w = .ok v w := by
  have hp' : tmps[p]?.getD undef = .pointer (some ⟨g, 0, none⟩) := by simpa using hp
  simp [results, h, hp', asAddr, hg]
def S3 (B : Bl) (s : Sw) (g cap g' cap' w0 : Nat) (x y : Int) (W : World) : Prop := W.cell? ⟨w0, 0, none⟩ = some (.slice B.A B.n B.c) ∧ W.cell? ⟨w0, 1, none⟩ = some (.slice B.A' B.n' B.c') ∧ W.cell? ⟨w0, 2, none⟩ = some (.int .i64 B.bend) ∧ W.cell? ⟨w0, 3, none⟩ = some (.slice B.K B.m B.d) ∧ W.cell? ⟨w0, 4, none⟩ = some (.slice (some ⟨g, 0, none⟩) B.n cap) ∧ W.cell? ⟨w0, 5, none⟩ = some (.slice (some ⟨g', 0, none⟩) B.n cap') ∧ W.cell? ⟨w0 + 1, 0, none⟩ = some (.int .i64 s.long) ∧ W.cell? ⟨w0 + 1, 1, none⟩ = some (.int .i64 s.wide) ∧ W.cell? ⟨w0 + 1, 2, none⟩ = some (.int .i64 s.kerf) ∧ W.cell? ⟨w0 + 1, 3, none⟩ = some (.int .i64 s.across) ∧ W.cell? ⟨w0 + 1 + 1, 0, none⟩ = some (.int .i64 x) ∧ W.cell? ⟨w0 + 1 + 1, 1, none⟩ = some (.int .i64 y)
/-- Between two rounds. -/
structure QI (B : Bl) (s : Sw) (p x : Nat) (y : Int) (W0 : World) (pre : List (List Int)) (W : World) : Prop where
  sv : Save p W0 W
  cR : Boxed W p 4 (.bool false)
  no : ∀ xs ∈ pre, soundS (B.bestX s xs) x y = false
/-- Behind a round that has found a truth. -/
structure QX (B : Bl) (s : Sw) (p x : Nat) (y : Int) (W0 : World) (W : World) : Prop where
  sv : Save p W0 W
  cR : Boxed W p 4 (.bool true)
  yes : possB B s x y = true
theorem QI.grown {B : Bl} {s : Sw} {p x : Nat} {y : Int} {W0 W W' : World} {row : Option Nat} {pre : List (List Int)} (hp : p < W0.heap.size) (h : QI B s p x y W0 pre W) (hg : W.grownBy W' row) (hr : ∀ r, row = some r → W0.heap.size ≤ r) : QI B s p x y W0 pre W' :=
  ⟨h.sv.grown hg (fun r e => .inr (.inr (hr r e))), h.cR.kept hg (fun e => by have := hr _ e.symm; omega), h.no⟩
theorem QX.grown {B : Bl} {s : Sw} {p x : Nat} {y : Int} {W0 W W' : World} {row : Option Nat} (hp : p < W0.heap.size) (h : QX B s p x y W0 W) (hg : W.grownBy W' row) (hr : ∀ r, row = some r → W0.heap.size ≤ r) : QX B s p x y W0 W' :=
  ⟨h.sv.grown hg (fun r e => .inr (.inr (hr r e))), h.cR.kept hg (fun e => by have := hr _ e.symm; omega), h.yes⟩

set_option maxRecDepth 100000 in
set_option maxHeartbeats 4000000 in
theorem possibly_any (B : Bl) (s : Sw) (g cap g' cap' x : Nat) (y : Int) (w : World) (hOK : B.Ok) (hs : s.Ok) (hCR : ∀ k ∈ B.cr, crackOk B.n k = true) (hP : Pairs w (some ⟨g, 0, none⟩) B.n (bentL B.bot B.bend)) (hP' : Pairs w (some ⟨g', 0, none⟩) B.n (bentL B.top B.bend)) (hk : Cracks w B.K B.m B.cr)
    (hx : (x : Int) + s.long ≤ B.n) (y0 : 0 ≤ y) (y3 : y ≤ 300) (hg1 : g < w.heap.size) (hg2 : g' < w.heap.size) :
    Calls Try.prog 68 #[B.curved g cap g' cap', s.val, .agg #[.int .i64 x, .int .i64 y]] w fun e w' => e = .returned (.bool (possB B s x y)) ∧ Below w.heap.size w w' := by
  have E0 : Hid (Below w.heap.size w (((((w.alloc (.cells #[.slice B.A B.n B.c, .slice B.A' B.n' B.c', .int .i64 B.bend, .slice B.K B.m B.d, .slice (some ⟨g, 0, none⟩) B.n cap, .slice (some ⟨g', 0, none⟩) B.n cap'] 106)).alloc (.cells #[.int .i64 s.long, .int .i64 s.wide, .int .i64 s.kerf, .int .i64 s.across] 37)).alloc (.cells #[.int .i64 x, .int .i64 y] 39)).alloc (.cells #[.bool false] 4)).alloc (.cells #[.slice B.K B.m B.d] 23))) := below_alloc' (below_alloc' (below_alloc' (below_alloc' (below_self _ _) _) _) _) _
  have hkb : ∀ b o, B.K = some ⟨b, o, none⟩ → 0 < B.m → b < w.heap.size := fun b o e hm => by
    obtain ⟨b', o', e', hb', _⟩ := hk.2 hm
    rw [e] at e'; cases e'; exact hb'
  have hcb : ∀ k, k < B.m → 0 ≤ (B.cr.getD k Crack.zero).cl ∧ (B.cr.getD k Crack.zero).cl ≤ 1000 ∧ 0 ≤ (B.cr.getD k Crack.zero).ch ∧ (B.cr.getD k Crack.zero).ch ≤ 1000 := fun k hkm => by
    have hl : k < B.cr.length := by rw [hk.len]; exact hkm
    have h := crackOk_in (hCR _ (List.getElem_mem hl))
    have e : B.cr.getD k Crack.zero = B.cr[k] := by simp [List.getD, hl]
    rw [e]
    have := hOK.n2
    omega
  have hz0 : ((((((w.alloc (.cells #[.slice B.A B.n B.c, .slice B.A' B.n' B.c', .int .i64 B.bend, .slice B.K B.m B.d, .slice (some ⟨g, 0, none⟩) B.n cap, .slice (some ⟨g', 0, none⟩) B.n cap'] 106)).alloc (.cells #[.int .i64 s.long, .int .i64 s.wide, .int .i64 s.kerf, .int .i64 s.across] 37)).alloc (.cells #[.int .i64 x, .int .i64 y] 39)).alloc (.cells #[.bool false] 4)).alloc (.cells #[.slice B.K B.m B.d] 23))).heap.size = w.heap.size + 5 := by simp
  have hPE : PE B s (w.heap.size + 1) w.heap.size g cap g' cap' (((((w.alloc (.cells #[.slice B.A B.n B.c, .slice B.A' B.n' B.c', .int .i64 B.bend, .slice B.K B.m B.d, .slice (some ⟨g, 0, none⟩) B.n cap, .slice (some ⟨g', 0, none⟩) B.n cap'] 106)).alloc (.cells #[.int .i64 s.long, .int .i64 s.wide, .int .i64 s.kerf, .int .i64 s.across] 37)).alloc (.cells #[.int .i64 x, .int .i64 y] 39)).alloc (.cells #[.bool false] 4)).alloc (.cells #[.slice B.K B.m B.d] 23)) :=
    ⟨((((Blk.new w _ _ rfl).alloc _).alloc _).alloc _).alloc _, (((Blk.new (w.alloc _) _ _ (by simp)).alloc _).alloc _).alloc _, hP.below E0.out, hP'.below E0.out, hk.below E0.out⟩
  have hPL : Blk (((((w.alloc (.cells #[.slice B.A B.n B.c, .slice B.A' B.n' B.c', .int .i64 B.bend, .slice B.K B.m B.d, .slice (some ⟨g, 0, none⟩) B.n cap, .slice (some ⟨g', 0, none⟩) B.n cap'] 106)).alloc (.cells #[.int .i64 s.long, .int .i64 s.wide, .int .i64 s.kerf, .int .i64 s.across] 37)).alloc (.cells #[.int .i64 x, .int .i64 y] 39)).alloc (.cells #[.bool false] 4)).alloc (.cells #[.slice B.K B.m B.d] 23)) (w.heap.size + 1 + 1) 39 #[.int .i64 x, .int .i64 y] := ((Blk.new ((w.alloc (.cells #[.slice B.A B.n B.c, .slice B.A' B.n' B.c', .int .i64 B.bend, .slice B.K B.m B.d, .slice (some ⟨g, 0, none⟩) B.n cap, .slice (some ⟨g', 0, none⟩) B.n cap'] 106)).alloc (.cells #[.int .i64 s.long, .int .i64 s.wide, .int .i64 s.kerf, .int .i64 s.across] 37)) 39 #[.int .i64 x, .int .i64 y] (g := w.heap.size + 1 + 1) (by simp)).alloc _).alloc _
  have hRB : Boxed (((((w.alloc (.cells #[.slice B.A B.n B.c, .slice B.A' B.n' B.c', .int .i64 B.bend, .slice B.K B.m B.d, .slice (some ⟨g, 0, none⟩) B.n cap, .slice (some ⟨g', 0, none⟩) B.n cap'] 106)).alloc (.cells #[.int .i64 s.long, .int .i64 s.wide, .int .i64 s.kerf, .int .i64 s.across] 37)).alloc (.cells #[.int .i64 x, .int .i64 y] 39)).alloc (.cells #[.bool false] 4)).alloc (.cells #[.slice B.K B.m B.d] 23)) (w.heap.size + 1 + 1 + 1) 4 (.bool false) := (Blk.new (((w.alloc (.cells #[.slice B.A B.n B.c, .slice B.A' B.n' B.c', .int .i64 B.bend, .slice B.K B.m B.d, .slice (some ⟨g, 0, none⟩) B.n cap, .slice (some ⟨g', 0, none⟩) B.n cap'] 106)).alloc (.cells #[.int .i64 s.long, .int .i64 s.wide, .int .i64 s.kerf, .int .i64 s.across] 37)).alloc (.cells #[.int .i64 x, .int .i64 y] 39)) 4 #[.bool false] (g := w.heap.size + 1 + 1 + 1) (by simp)).alloc _
  have hc1 : ((((((w.alloc (.cells #[.slice B.A B.n B.c, .slice B.A' B.n' B.c', .int .i64 B.bend, .slice B.K B.m B.d, .slice (some ⟨g, 0, none⟩) B.n cap, .slice (some ⟨g', 0, none⟩) B.n cap'] 106)).alloc (.cells #[.int .i64 s.long, .int .i64 s.wide, .int .i64 s.kerf, .int .i64 s.across] 37)).alloc (.cells #[.int .i64 x, .int .i64 y] 39)).alloc (.cells #[.bool false] 4)).alloc (.cells #[.slice B.K B.m B.d] 23))).cell? ⟨w.heap.size + 1 + 1 + 1 + 1, 0, none⟩ = some (.slice B.K B.m B.d) := by
    have h := Boxed.new ((((w.alloc (.cells #[.slice B.A B.n B.c, .slice B.A' B.n' B.c', .int .i64 B.bend, .slice B.K B.m B.d, .slice (some ⟨g, 0, none⟩) B.n cap, .slice (some ⟨g', 0, none⟩) B.n cap'] 106)).alloc (.cells #[.int .i64 s.long, .int .i64 s.wide, .int .i64 s.kerf, .int .i64 s.across] 37)).alloc (.cells #[.int .i64 x, .int .i64 y] 39)).alloc (.cells #[.bool false] 4)) 23 (.slice B.K B.m B.d)
    simp only [World.size_alloc] at h
    exact h.cell
  have hAP : Apart B (w.heap.size + 1 + 1 + 1) (w.heap.size + 1) w.heap.size g g' := ⟨by omega, by omega, by omega, by omega, fun b o e hm => by have := hkb b o e hm; omega⟩
  unfold Bl.curved Sw.val
  refine (callsIn_wide (n := 9)).1 ?_
  refine callsIn_of_wp_marks Try.func68 rfl trivial ?_ rfl
  simp only [Try.ntmps68, List.size_toArray, List.length_cons, List.length_nil, Nat.reduceAdd, Nat.reduceSub, Array.replicate_succ, Array.replicate_zero, List.push_toArray, List.append_toArray, List.nil_append, List.cons_append]
  refine wpIn_wide.2 ?_
  have HOK := Lib.hid hOK
  have HS := Lib.hid hs
  have HPE0 := Lib.hid hPE
  have HPL0 := Lib.hid hPL
  have HRB0 := Lib.hid hRB
  have HC10 := Lib.hid hc1
  have HZ00 := Lib.hid hz0
  have HAP := Lib.hid hAP
  have HKB := Lib.hid hkb
  have HCB := Lib.hid hcb
  have HCR := Lib.hid hCR
  have HYY := Lib.hid (And.intro y0 y3)
  have HXX := Lib.hid hx
  clear hOK hs hPE hPL hRB hc1 hz0 hAP hkb hcb hCR y0 y3 hx hP hP' hk
  go_wp2_with (go_at_call 81; refine (callsIn_wide.1 (crackColumns_in Fence.wide 1 trivial rfl _ _ _ _)).mono ?_; rintro e w' ⟨rfl, rfl⟩)
  generalize hW0 : (((((w.alloc (.cells #[.slice B.A B.n B.c, .slice B.A' B.n' B.c', .int .i64 B.bend, .slice B.K B.m B.d, .slice (some ⟨g, 0, none⟩) B.n cap, .slice (some ⟨g', 0, none⟩) B.n cap'] 106)).alloc (.cells #[.int .i64 s.long, .int .i64 s.wide, .int .i64 s.kerf, .int .i64 s.across] 37)).alloc (.cells #[.int .i64 x, .int .i64 y] 39)).alloc (.cells #[.bool false] 4)).alloc (.cells #[.slice B.K B.m B.d] 23)) = W0 at *
  clear hW0
  have HTO := Lib.hid (cracks_told Fence.wide rfl 8 trivial trivial rfl w.heap.size (w.heap.size + 1 + 1 + 1 + 1) B.m B.d B.K B.cr W0 (by have := HOK.out.m4; omega) HCB.out (by have := HZ00.out; omega) HC10.out HPE0.out.ck (fun b o e hm => by have := HKB.out b o e hm; have := HZ00.out; omega))
  have HBB := Lib.hid (fun xs => best_bounds HOK.out HS.out HCR.out xs)
  have q1 : w.heap.size + 1 + 1 + 1 < W0.heap.size := by have := HZ00.out; omega
  have HQ : Hid (QI B s (w.heap.size + 1 + 1 + 1) x y W0 [] W0) := ⟨Save.refl _ _, HRB0.out, by simp⟩
  refine (wpIn_wide (n := 9)).1 ?_
  refine wpIn_range_told (F := Fence.wide) (n := 9) rfl (by omega) (gf := 105) (lb := #[.pointer (some ⟨w.heap.size + 1 + 1 + 1 + 1, 0, none⟩)]) rfl trivial (enters_of Try.func105 (by kernel_rfl) rfl)
    HTO.out (fun x W r r' _ ht => ht.put r') KX.trans (fun W r r' _ => KX.put r' (by have := HZ00.out; omega) (by have := HZ00.out; omega)) (fun _ => rfl)
    (QI B s (w.heap.size + 1 + 1 + 1) x y W0) (fun c _ W => c = .ret ∧ QX B s (w.heap.size + 1 + 1 + 1) x y W0 W) (fun pre W W' row h hg hr => h.grown q1 hg (fun r e => (hr r e).1)) (fun c pre W W' row h hg hr => ⟨h.1, h.2.grown q1 hg (fun r e => (hr r e).1)⟩)
    (fun pre W W' row h hg hr => h.grown q1 hg (fun r e => by have := hr r e; omega)) HQ.out (fun _ => ?act) ?assign ?body ?done ?stop
  case assign =>
    intro l x W K hK
    gi_wp2
    exact hK
  case body =>
    rintro l pre xs W hz hI ht
    have HE := Lib.hid (HPE0.out.save hI.sv HAP.out)
    have HI := Lib.hid hI
    have HPL : Hid (Blk W (w.heap.size + 1 + 1) 39 #[.int .i64 x, .int .i64 y]) := (hI.sv.block _ HPL0.out.lt (by omega) (by omega)).trans HPL0.out
    obtain ⟨hxl, hrow, hz6, hmem⟩ := ht
    have HX : Hid (Ints W (some ⟨W0.heap.size + 2 + 1, 0, none⟩) B.m xs) := by have h := ints_of_row hrow; rw [range_getD_self xs B.m hxl] at h; exact h
    have HM := Lib.hid hmem
    clear hI hxl hrow hz6 hmem
    gi_wp2_with fail
    have DW : Hid (Below W.heap.size W W.drew) := (Below.refl _ _).drew
    have HSS : Hid (∀ V, Below W.heap.size W V → S3 B s g cap g' cap' w.heap.size x y V) := fun V hV => by
      have e := HE.out.below hV
      have pl := blk_keep hV HPL.out
      exact ⟨e.bc.cell 0, e.bc.cell 1, e.bc.cell 2, e.bc.cell 3, e.bc.cell 4, e.bc.cell 5, e.bs.cell 0, e.bs.cell 1, e.bs.cell 2, e.bs.cell 3, pl.cell 0, pl.cell 1⟩
    have HBT : Hid (∀ V, Below W.heap.size W V → Calls Try.prog 82 #[B.curved g cap g' cap', s.val, .slice (some ⟨W0.heap.size + 2 + 1, 0, none⟩) B.m B.m] V (WorstTop V B.n B.m (B.bestX s xs))) := fun V hV =>
      best_top B s g cap g' cap' B.m (some ⟨W0.heap.size + 2 + 1, 0, none⟩) xs V HOK.out (HE.out.below hV).pa (HE.out.below hV).pb (HE.out.below hV).ck (HX.out.below hV)
    unfold Bl.curved Sw.val at HBT
    refine round_region_held (S := S3 B s g cap g' cap' w.heap.size x y) (by kernel_rfl) (by rintro ⟨a, w, h⟩; exact h) (by kernel_rfl) (HSS.out _ DW.out) (fun _ => ?_)
    generalize W.drew = wd at *
    refine heldTake (i := 0) 13 (v := ?v1) rfl (by kernel_rfl) (by kernel_rfl) (by kernel_rfl) (by kernel_rfl) (fun _ _ _ h => h) (Or.inl ⟨by rfl, ?y1⟩) (by assumption) ?r1
    case y1 => (intro w hSw; obtain ⟨g0, g1, g2, g3, g4, g5, g6, g7, g8, g9, g10, g11⟩ := hSw; go_simp; try with_reducible rfl)
    refine heldTake (i := 1) 14 (v := ?v2) rfl (by kernel_rfl) (by kernel_rfl) (by kernel_rfl) (by kernel_rfl) (fun _ _ _ h => h) (Or.inl ⟨by rfl, ?y2⟩) (by assumption) ?r2
    case y2 => (intro w hSw; obtain ⟨g0, g1, g2, g3, g4, g5, g6, g7, g8, g9, g10, g11⟩ := hSw; go_simp; try with_reducible rfl)
    refine heldTake (i := 2) 15 (v := ?v3) rfl (by kernel_rfl) (by kernel_rfl) (by kernel_rfl) (by kernel_rfl) (fun _ _ _ h => h) (Or.inl ⟨by rfl, ?y3⟩) (by assumption) ?r3
    case y3 => (intro w hSw; obtain ⟨g0, g1, g2, g3, g4, g5, g6, g7, g8, g9, g10, g11⟩ := hSw; go_simp; try with_reducible rfl)
    refine heldTake (i := 4) 17 (v := ?v4) rfl (by kernel_rfl) (by kernel_rfl) (by kernel_rfl) (by kernel_rfl) (fun _ _ _ h => h) (Or.inl ⟨by rfl, ?y4⟩) (by assumption) ?r4
    case y4 => (intro w hSw; obtain ⟨g0, g1, g2, g3, g4, g5, g6, g7, g8, g9, g10, g11⟩ := hSw; go_simp; try with_reducible rfl)
    simp only [Act.put, List.setIfInBounds_toArray, List.set_cons_zero, List.set_cons_succ]
    refine wpAnyH_ready (rs := [3]) (by kernel_rfl) (by simp) ?_
    refine AllReadyH.cons rfl (fun K1 hK1 => ?_) AllReadyH.nil
    go_simp
    refine (HBT.out _ DW.out).mono ?_
    rintro e W1 ⟨hb1, b, o, b', o', c, c', K, d, rfl, hs, hc, hc', hm⟩
    have D1 := Lib.hid (below_then DW.out hb1)
    have HSO := Lib.hid (sound_any (B.bestX s xs) b o b' o' B.n c c' K B.m d x y W1 hs hc hc' hm (HBB.out xs) HXX.out HOK.out.n2 HOK.out.m4 HYY.out.1 HYY.out.2)
    refine hK1.out _ _ (HSS.out _ D1.out) (fun _ => ?_)
    clear hb1 hs hc hc' hm
    refine wpAnyH_ready (rs := [5]) (by kernel_rfl) (by simp) ?_
    refine AllReadyH.cons rfl (fun K2 hK2 => ?_) AllReadyH.nil
    go_simp
    refine HSO.out.mono ?_
    rintro e W2 ⟨rfl, hb2⟩
    have D2 := Lib.hid (below_then D1.out hb2)
    refine hK2.out _ _ (HSS.out _ D2.out) (fun _ => ?_)
    refine wpAnyH_done (by kernel_rfl) ?_ _
    have HR2 : Hid (Boxed W2 (w.heap.size + 1 + 1 + 1) 4 (.bool false)) := blk_keep D2.out HI.out.cR
    have c2 := HR2.out.cell
    have f2 := HR2.out.frozen
    have HV : Hid (∃ v, v = soundS (B.bestX s xs) x y) := ⟨_, rfl⟩
    obtain ⟨v, hv⟩ := HV.out
    have HVV := Lib.hid hv
    rw [← hv]
    clear hv hb2 HSO
    cases v
    · gi_wp2_with fail
      exact ⟨KeepsFrom.of_below D2.out, KX.of_below D2.out, HI.out.sv.below D2.out, HR2.out, fun q hq => by
        rcases List.mem_append.1 hq with h | h
        · exact HI.out.no q h
        · rw [List.mem_singleton.1 h]; exact HVV.out.symm⟩
    · gi_wp2_with fail
      exact ⟨(KeepsFrom.of_below D2.out).trans ((KeepsOthers.setCell _ _ _).from _), rfl, (HI.out.sv.below D2.out).grown (grownBy_set _ _ _) (fun r e => by cases e; exact .inl rfl), HR2.out.set _, List.any_eq_true.2 ⟨xs, HM.out, HVV.out.symm⟩⟩
  case done =>
    rintro D ys W hD rfl hI hK
    have HI := Lib.hid hI
    have HK := Lib.hid hK
    have cA := hI.cR.cell
    have fA := hI.cR.frozen
    have HNO : Hid (possB B s x y = false) := by unfold Hid possB; rw [List.any_eq_false]; exact fun q hq => by rw [hI.no q hq]; simp
    clear hI hK
    go_wp2_with fail
    have hp : w.heap.size + 1 + 1 + 1 ≠ D := by omega
    have hb1 : Below w.heap.size w W := ⟨HI.out.sv.os.trans E0.out.os, HI.out.sv.tape.trans E0.out.tape, HI.out.sv.output.trans E0.out.output, Nat.le_trans E0.out.size HI.out.sv.size, fun k hk => (HI.out.sv.block k (by omega) (by omega) (by omega)).trans (E0.out.block k hk)⟩
    have hA : Boxed _ (w.heap.size + 1 + 1 + 1) 4 _ := HI.out.cR.set (.bool false)
    have hKf := (Below.heap_setCell W ⟨w.heap.size + 1 + 1 + 1, 0, none⟩ (.bool false) D (Ne.symm hp)).trans HK.out
    have hb2 := hb1.setCell (p := ⟨w.heap.size + 1 + 1 + 1, 0, none⟩) (by show w.heap.size ≤ w.heap.size + 1 + 1 + 1; omega) (.bool false)
    refine ⟨by simp, .inl ⟨D, _, rfl, run_takeDeferred hKf, ?_⟩⟩
    exact ⟨_, results_c1 rfl _ _ _ (w.heap.size + 1 + 1 + 1) _ rfl (run_loadVar_cell Try.underlying4 rfl (hA.kept (grownBy_putObj' _ D (.deferred none)) (fun e => hp (Option.some.inj e))).cell), by rw [HNO.out], hb2.trans (belowK_b (w := w) (Nat.le_refl _) _ D _ (.deferred none) (by omega) hKf rfl rfl)⟩
  case stop =>
    rintro D c pre W hD _ ⟨rfl, hX⟩ hK
    have HI := Lib.hid hX
    have HK := Lib.hid hK
    clear hX hK
    refine wpIn_wide.2 ?_
    go_wp2_with fail
    have hp : w.heap.size + 1 + 1 + 1 ≠ D := by omega
    have hb1 : Below w.heap.size w W := ⟨HI.out.sv.os.trans E0.out.os, HI.out.sv.tape.trans E0.out.tape, HI.out.sv.output.trans E0.out.output, Nat.le_trans E0.out.size HI.out.sv.size, fun k hk => (HI.out.sv.block k (by omega) (by omega) (by omega)).trans (E0.out.block k hk)⟩
    have hA : Boxed _ (w.heap.size + 1 + 1 + 1) 4 _ := HI.out.cR
    have hKf := HK.out
    have hb2 := hb1
    refine ⟨by simp, .inl ⟨D, _, rfl, run_takeDeferred hKf, ?_⟩⟩
    exact ⟨_, results_c1 rfl _ _ _ (w.heap.size + 1 + 1 + 1) _ rfl (run_loadVar_cell Try.underlying4 rfl (hA.kept (grownBy_putObj' _ D (.deferred none)) (fun e => hp (Option.some.inj e))).cell), by rw [HI.out.yes], hb2.trans (belowK_b (w := w) (Nat.le_refl _) _ D _ (.deferred none) (by omega) hKf rfl rfl)⟩
end Go.Proofs.Ytiflhimmieflpaa

/- Walks: the reference's Possibly and Possible. -/
namespace Go.Proofs.Ytiflhimmieflpaa
open Go.RowKit Go.Maps

def SP (B : Bl) (s : Sw) (w0 gl i : Nat) (u : Value) (W : World) : Prop := W.cell? ⟨w0, 0, none⟩ = some (.slice B.A B.n B.c) ∧ W.cell? ⟨w0, 1, none⟩ = some (.slice B.A' B.n' B.c') ∧ W.cell? ⟨w0, 2, none⟩ = some (.int .i64 B.bend) ∧ W.cell? ⟨w0, 3, none⟩ = some (.slice B.K B.m B.d) ∧ W.cell? ⟨w0 + 1, 0, none⟩ = some (.int .i64 s.long) ∧ W.cell? ⟨w0 + 1, 1, none⟩ = some (.int .i64 s.wide) ∧ W.cell? ⟨w0 + 1, 2, none⟩ = some (.int .i64 s.kerf) ∧ W.cell? ⟨w0 + 1, 3, none⟩ = some (.int .i64 s.across) ∧ W.cell? ⟨gl, i, none⟩ = some u
def SP2 (B : Bl) (s : Sw) (w0 gl i : Nat) (u : Value) (x y : Int) (W : World) : Prop := W.cell? ⟨w0, 0, none⟩ = some (.slice B.A B.n B.c) ∧ W.cell? ⟨w0, 1, none⟩ = some (.slice B.A' B.n' B.c') ∧ W.cell? ⟨w0, 2, none⟩ = some (.int .i64 B.bend) ∧ W.cell? ⟨w0, 3, none⟩ = some (.slice B.K B.m B.d) ∧ W.cell? ⟨w0 + 1, 0, none⟩ = some (.int .i64 s.long) ∧ W.cell? ⟨w0 + 1, 1, none⟩ = some (.int .i64 s.wide) ∧ W.cell? ⟨w0 + 1, 2, none⟩ = some (.int .i64 s.kerf) ∧ W.cell? ⟨w0 + 1, 3, none⟩ = some (.int .i64 s.across) ∧ W.cell? ⟨gl, i, none⟩ = some u ∧ W.cell? ⟨w0 + 1 + 1, 0, none⟩ = some (.int .i64 x) ∧ W.cell? ⟨w0 + 1 + 1, 1, none⟩ = some (.int .i64 y)
theorem possTo_take {B : Bl} {s : Sw} {ls : List (List Int)} {i : Nat} (h : i < ls.length) : possTo B s (ls.take (i + 1)) = possStep B s (possTo B s (ls.take i)) (ls.getD i []) := by
  have e : ls.getD i [] = ls[i] := by simp [List.getD, h]
  rw [e, List.take_add_one, List.getElem?_eq_getElem h]
  exact possTo_snoc B s _ _
end Go.Proofs.Ytiflhimmieflpaa

/- Walks: the law ToothPossibles. -/
namespace Go.Proofs.Ytiflhimmieflpaa
open Go.RowKit Go.Maps

theorem Bl.Like.bestX {B B' : Bl} (h : B.Like B') (s : Sw) (xs : List Int) : B'.bestX s xs = B.bestX s xs := by
  unfold Bl.bestX
  rw [h.bend, h.bot, h.top, h.cr]
theorem Bl.Like.possTo {B B' : Bl} (h : B.Like B') (s : Sw) (ls : List (List Int)) : possTo B' s ls = possTo B s ls := by
  unfold Go.Proofs.Ytiflhimmieflpaa.possTo
  congr 1
  funext a xs
  unfold possStep
  rw [h.bestX, h.n]
theorem Bl.Like.possB {B B' : Bl} (h : B.Like B') (s : Sw) (x : Nat) (y : Int) : possB B' s x y = possB B s x y := by
  unfold Go.Proofs.Ytiflhimmieflpaa.possB
  rw [h.cr]
  congr 1
  funext xs
  rw [h.bestX]
theorem possTo_len4 {B : Bl} {s : Sw} : ∀ (l : List (List Int)) (a : Int × List Int), a.2.length ≤ 4 → (∀ q ∈ l, q.length ≤ 4) → (l.foldl (possStep B s) a).2.length ≤ 4
  | [], a, h, _ => h
  | x :: l, a, h, hl => by
    refine possTo_len4 l _ ?_ fun q hq => hl q (by simp [hq])
    unfold possStep
    split
    · exact hl x (by simp)
    · exact h

end Go.Proofs.Ytiflhimmieflpaa
