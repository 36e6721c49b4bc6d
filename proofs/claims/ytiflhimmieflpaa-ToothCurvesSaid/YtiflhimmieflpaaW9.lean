/- Walks: worst. -/
import Derived.Test.YtiflhimmieflpaaW8
import Derived.Deep.RegionHeld3
import Derived.Deep.DeepCutAuto
namespace Go.Proofs.Ytiflhimmieflpaa
open Go.RowKit

structure Split where
  cl : Int
  ch : Int
  fr : Int
  up : Int
def Split.cells (k : Split) : List Value := [.int .i64 k.cl, .int .i64 k.ch, .int .i64 k.fr, .int .i64 k.up]
def Split.zero : Split := ⟨0, 0, 0, 0⟩
def flat4 (xs : List Split) : List Value := xs.flatMap Split.cells
def Splits (w : World) (A : Option Addr) (n : Nat) (xs : List Split) : Prop := Reads w 4 A n (flat4 xs)
theorem flat4_length (xs : List Split) : (flat4 xs).length = xs.length * 4 := by
  unfold flat4; induction xs with
  | nil => rfl
  | cons a r ih => simp only [List.flatMap_cons, List.length_append, ih, List.length_cons, Split.cells, List.length_nil]; omega
theorem flat4_at (xs : List Split) (k j : Nat) (h : k < xs.length) (hj : j < 4) : (flat4 xs)[k * 4 + j]? = (xs[k]).cells[j]? := by
  unfold flat4; induction xs generalizing k with
  | nil => simp at h
  | cons a r ih =>
    cases k with
    | zero => rw [List.flatMap_cons, List.getElem?_append_left (by simp [Split.cells]; omega)]; simp
    | succ m =>
      rw [List.flatMap_cons, List.getElem?_append_right (by simp [Split.cells]; omega)]
      have := ih m (by simpa using h)
      simp only [Split.cells, List.length_cons, List.length_nil] at this ⊢
      rw [show (m + 1) * 4 + j - (0 + 1 + 1 + 1 + 1) = m * 4 + j from by omega, this]
      simp
theorem flat4_snoc (xs : List Split) (k : Nat) (hk : k < xs.length) : flat4 (xs.take (k + 1)) = flat4 (xs.take k) ++ (xs.getD k Split.zero).cells := by
  have hx : xs.getD k Split.zero = xs[k] := by simp [hk, List.getD]
  rw [List.take_succ_eq_append_getElem hk, hx]
  simp only [flat4, List.flatMap_append, List.flatMap_cons, List.flatMap_nil, List.append_nil]
section
variable {w w' : World} {n k : Nat} {A : Option Addr} {xs : List Split}
theorem Splits.len (h : Splits w A n xs) : xs.length = n := by have := h.1; rw [flat4_length] at this; omega
theorem Splits.below (h : Splits w A n xs) (hb : Below w.heap.size w w') : Splits w' A n xs := Reads.below h hb
theorem Splits.at_ (h : Splits w A n xs) (hk : k < n) : ∃ b off, A = some ⟨b, off, none⟩ ∧ b < w.heap.size ∧ w.cell? ⟨b, off + k * 4, none⟩ = some (.int .i64 (xs.getD k Split.zero).cl) ∧ w.cell? ⟨b, off + k * 4 + 1, none⟩ = some (.int .i64 (xs.getD k Split.zero).ch) ∧
    w.cell? ⟨b, off + k * 4 + 2, none⟩ = some (.int .i64 (xs.getD k Split.zero).fr) ∧ w.cell? ⟨b, off + k * 4 + 3, none⟩ = some (.int .i64 (xs.getD k Split.zero).up) := by
  obtain ⟨b, off, e, hb, hc⟩ := h.2 (by omega)
  have hl : k < xs.length := by rw [h.len]; exact hk
  have hx : xs.getD k Split.zero = xs[k] := by simp [hl, List.getD]
  have g : ∀ j u, j < 4 → (xs[k]).cells[j]? = some u → w.cell? ⟨b, off + k * 4 + j, none⟩ = some u := fun j u hj hu => by
    rw [Nat.add_assoc]
    exact hc _ _ ((flat4_at xs k j hl hj).trans hu)
  rw [hx]
  exact ⟨b, off, e, hb, g 0 _ (by omega) rfl, g 1 _ (by omega) rfl, g 2 _ (by omega) rfl, g 3 _ (by omega) rfl⟩
end

/-- A saw and what it saws. -/
structure Sawing where
  long : Int
  wide : Int
  kerf : Int
  across : Int
  bottom : List Int
  top : List Int
  splits : List Split
def sawVal (s : Sawing) (b b' : Addr) (n c c' : Nat) (K : Option Addr) (m d : Nat) : Value :=
  .agg #[.int .i64 s.long, .int .i64 s.wide, .int .i64 s.kerf, .int .i64 s.across, .slice (some b) n c, .slice (some b') n c', .slice K m d]
def SawAt (w : World) (s : Sawing) (b b' : Addr) (n : Nat) (K : Option Addr) (m : Nat) : Prop :=
  Ints w (some b) n s.bottom ∧ Ints w (some b') n s.top ∧ Splits w K m s.splits
theorem SawAt.below {w w' : World} {s : Sawing} {b b' : Addr} {n : Nat} {K : Option Addr} {m : Nat} (h : SawAt w s b b' n K m) (hb : Below w.heap.size w w') : SawAt w' s b b' n K m := ⟨h.1.below hb, h.2.1.below hb, h.2.2.below hb⟩

def worstSplit (k : Crack) : Split := ⟨k.cl, k.ch, k.fl, k.th⟩
def worstL (long wide kerf across : Int) (bot top : List (Int × Int)) (cr : List Crack) : Sawing := ⟨long, wide, kerf, across, bot.map (·.2), top.map (·.1), cr.map worstSplit⟩

theorem own_blk_ne {w : World} {base : Nat} {e t : TypeId} {size n g : Nat} {v : Value} {xs : List Value} {cs : Array Value} (h : w.ownsRow base e size v n xs) (hg : Blk w g t cs) (hne : e ≠ t) : v.ownBlock ≠ some g := by
  rcases h.2 with ⟨rfl, _⟩ | ⟨g', cap, cur, rfl, _, hh, _⟩
  · simp [Value.ownBlock]
  · intro he
    have : g' = g := by simpa [Value.ownBlock] using he
    subst this
    unfold Blk at hg
    rw [hh] at hg
    simp only [Option.some.injEq, Obj.cells.injEq] at hg
    exact hne hg.2.1
theorem own_own_ne {w : World} {base base' : Nat} {e e' : TypeId} {size n size' n' : Nat} {v v' : Value} {xs xs' : List Value} (h : w.ownsRow base e size v n xs) (h' : w.ownsRow base' e' size' v' n' xs') (hne : e ≠ e') : v.ownBlock = none ∨ v.ownBlock ≠ v'.ownBlock := by
  rcases h.2 with ⟨rfl, _⟩ | ⟨g, cap, cur, rfl, _, hh, _⟩
  · left; rfl
  · right
    rcases h'.2 with ⟨rfl, _⟩ | ⟨g', cap', cur', rfl, _, hh', _⟩
    · simp [Value.ownBlock]
    · intro he
      have : g = g' := by simpa [Value.ownBlock] using he
      subst this
      rw [hh] at hh'
      simp only [Option.some.injEq, Obj.cells.injEq] at hh'
      exact hne hh'.2.1
theorem Blk.grown {w w' : World} {g : Nat} {t : TypeId} {cs : Array Value} {row : Option Nat} (h : Blk w g t cs) (hb : w.grownBy w' row) (hg : row ≠ some g) : Blk w' g t cs := (hb.block g h.lt (fun e => hg e.symm)).trans h
theorem own_setRow {w : World} {base : Nat} {e t : TypeId} {size n g : Nat} {v : Value} {xs : List Value} {cs : Array Value} (h : w.ownsRow base e size v n xs) (hg : Blk w g t cs) (hne : e ≠ t) (cs' : Array Value) : (w.setRow g cs').ownsRow base e size v n xs :=
  h.kept (row := some g) ⟨rfl, rfl, rfl, by simp, fun k _ hk => setRow_other w g k cs' (fun e => hk (by rw [e]))⟩ (by have := own_blk_ne h hg hne; right; exact this)
theorem own_setCell {w : World} {base : Nat} {e t : TypeId} {size n g : Nat} {v : Value} {xs : List Value} {cs : Array Value} (h : w.ownsRow base e size v n xs) (hg : Blk w g t cs) (hne : e ≠ t) (i : Nat) (u : Value) : (w.setCell ⟨g, i, none⟩ u).ownsRow base e size v n xs :=
  ownsRow_setCell_other h (own_blk_ne h hg hne) u

/-- In the midst of worst: block g is the new sawing. -/
structure WorstMid (w W : World) (cur : Array Value) (saw : Array Value) (g : Nat) (v1 v2 sv : Value) (n : Nat) (H L : List Value) (k : Nat) (sp : List Value) : Prop where
  fc : Blk W w.heap.size 106 cur
  fr : Blk W (w.heap.size + 2) 120 #[.int .i64 0, .int .i64 0, .int .i64 0, .int .i64 0, .slice none 0 0, .slice none 0 0, .slice none 0 0]
  fg : Blk W g 120 (saw ++ #[v1, v2, sv])
  ng : g ≠ w.heap.size + 2
  lg : w.heap.size ≤ g
  o1 : W.ownsRow w.heap.size 3 1 v1 n H
  o2 : W.ownsRow w.heap.size 3 1 v2 n L
  os : W.ownsRow w.heap.size 161 4 sv k sp
  bel : Below w.heap.size w W
theorem WorstMid.below {w W W' : World} {cur saw : Array Value} {g n k : Nat} {v1 v2 sv : Value} {H L sp : List Value} (h : WorstMid w W cur saw g v1 v2 sv n H L k sp) (hb : Below W.heap.size W W') : WorstMid w W' cur saw g v1 v2 sv n H L k sp :=
  ⟨h.fc.below hb h.fc.lt, h.fr.below hb h.fr.lt, h.fg.below hb h.fg.lt, h.ng, h.lg, ownsRow_below h.o1 hb, ownsRow_below h.o2 hb, ownsRow_below h.os hb, h.bel.trans (hb.mono h.bel.size)⟩
/-- Behind an append to the splits. -/
theorem WorstMid.appended {w W W' : World} {cur saw : Array Value} {g n k k' : Nat} {v1 v2 sv sv' : Value} {H L sp sp' : List Value} (h : WorstMid w W cur saw g v1 v2 sv n H L k sp) (hg : W.grownBy W' sv.ownBlock) (ho : W'.ownsRow w.heap.size 161 4 sv' k' sp')
    (hsz : saw.size = 4) : WorstMid w (W'.setCell ⟨g, 6, none⟩ sv') cur saw g v1 v2 sv' n H L k' sp' := by
  have gc := h.fc.grown hg (own_blk_ne h.os h.fc (by decide))
  have gr := h.fr.grown hg (own_blk_ne h.os h.fr (by decide))
  have gg := h.fg.grown hg (own_blk_ne h.os h.fg (by decide))
  have g1 := h.o1.kept hg (own_own_ne h.o1 h.os (by decide))
  have g2 := h.o2.kept hg (own_own_ne h.o2 h.os (by decide))
  refine ⟨gc.far (p := ⟨g, 6, none⟩) ?_ _, gr.far (p := ⟨g, 6, none⟩) (fun e => h.ng e.symm) _, ?_, h.ng, h.lg, own_setCell g1 gg (by decide) 6 _, own_setCell g2 gg (by decide) 6 _, own_setCell ho gg (by decide) 6 _, (h.bel.grown hg h.bel.size (fun q hq => (h.os.lt q hq).1)).setCell (p := ⟨g, 6, none⟩) h.lg _⟩
  · intro e
    have := h.fg
    simp only at e
    subst e
    have hc := h.fc
    unfold Blk at this hc
    rw [this] at hc
    simp at hc
  · have := gg.set_ 6 sv'
    have e : (saw ++ #[v1, v2, sv]).setIfInBounds 6 sv' = saw ++ #[v1, v2, sv'] := by
      obtain ⟨l⟩ := saw
      match l, hsz with
      | [a, b, c, d], _ => rfl
    rw [e] at this
    exact this
end Go.Proofs.Ytiflhimmieflpaa
