/- The invariant of 'v.Bottom, v.Top = append(v.Bottom, x), append(v.Top, y)', a box of a view: its operations are 1, 6, 7, 8 (the first load, x, its row, the append), 10, 15, 16, 17 (the same of the second), 19, 21 (the stores). -/
import Derived.Test.YtiflhimmieflpaaW45
import Derived.Test.YtiflhimmieflpaaTame
namespace Go.Proofs.Ytiflhimmieflpaa
open Go Go.RowKit Go.Maps

structure J2 (wl : World) (g : Nat) (v1 v2 v3 : Value) (n : Nat) (H T : List Value) (x1 x2 : Int) (L : Nat → Bool) (σ : Nat → Value) (W : World) : Prop where
  k : wl.grownBy W (some g)
  gl : g < wl.heap.size
  box : Blk W g 46 #[if L 19 = true then σ 8 else v1, if L 21 = true then σ 17 else v2, v3]
  p1 : L 1 = true → σ 1 = v1
  p6 : L 6 = true → σ 6 = .int .i64 x1
  p10 : L 10 = true → σ 10 = v2
  p15 : L 15 = true → σ 15 = .int .i64 x2
  p7 : L 7 = true → L 8 = false → ∃ q, σ 7 = .slice (some ⟨q, 0, none⟩) 1 1 ∧ Blk W q 3 #[.int .i64 x1]
  p16 : L 16 = true → L 17 = false → ∃ q, σ 16 = .slice (some ⟨q, 0, none⟩) 1 1 ∧ Blk W q 3 #[.int .i64 x2] ∧ (L 8 = false → v1.ownBlock ≠ some q)
  o1 : W.ownsRow wl.heap.size 3 1 (if L 8 = true then σ 8 else v1) (if L 8 = true then n + 1 else n) (if L 8 = true then H ++ [.int .i64 x1] else H)
  o2 : W.ownsRow wl.heap.size 3 1 (if L 17 = true then σ 17 else v2) (if L 17 = true then n + 1 else n) (if L 17 = true then T ++ [.int .i64 x2] else T)
  sep : (if L 8 = true then σ 8 else v1).ownBlock = none ∨ (if L 17 = true then σ 17 else v2).ownBlock = none ∨ (if L 8 = true then σ 8 else v1).ownBlock ≠ (if L 17 = true then σ 17 else v2).ownBlock
  c8 : L 8 = true → ∃ q cap, σ 8 = .slice (some ⟨q, 0, none⟩) (n + 1) cap
  c17 : L 17 = true → ∃ q cap, σ 17 = .slice (some ⟨q, 0, none⟩) (n + 1) cap

section
variable {wl : World} {g : Nat} {v1 v2 v3 : Value} {n : Nat} {H T : List Value} {x1 x2 : Int} {L : Nat → Bool} {σ : Nat → Value} {W W' : World}
theorem J2.load1 (h : J2 wl g v1 v2 v3 n H T x1 x2 L σ W) : J2 wl g v1 v2 v3 n H T x1 x2 (upd L 1) (updv σ 1 v1) W :=
  ⟨h.k, h.gl, by simpa [upd, updv] using h.box, by simp [upd, updv], by simpa [upd, updv] using h.p6, by simpa [upd, updv] using h.p10, by simpa [upd, updv] using h.p15, by simpa [upd, updv] using h.p7, by simpa [upd, updv] using h.p16, by simpa [upd, updv] using h.o1, by simpa [upd, updv] using h.o2, by simpa [upd, updv] using h.sep, by simpa [upd, updv] using h.c8, by simpa [upd, updv] using h.c17⟩
theorem J2.load18 (h : J2 wl g v1 v2 v3 n H T x1 x2 L σ W) (u : Value) : J2 wl g v1 v2 v3 n H T x1 x2 (upd L 18) (updv σ 18 u) W :=
  ⟨h.k, h.gl, by simpa [upd, updv] using h.box, by simpa [upd, updv] using h.p1, by simpa [upd, updv] using h.p6, by simpa [upd, updv] using h.p10, by simpa [upd, updv] using h.p15, by simpa [upd, updv] using h.p7, by simpa [upd, updv] using h.p16, by simpa [upd, updv] using h.o1, by simpa [upd, updv] using h.o2, by simpa [upd, updv] using h.sep, by simpa [upd, updv] using h.c8, by simpa [upd, updv] using h.c17⟩
theorem J2.load20 (h : J2 wl g v1 v2 v3 n H T x1 x2 L σ W) (u : Value) : J2 wl g v1 v2 v3 n H T x1 x2 (upd L 20) (updv σ 20 u) W :=
  ⟨h.k, h.gl, by simpa [upd, updv] using h.box, by simpa [upd, updv] using h.p1, by simpa [upd, updv] using h.p6, by simpa [upd, updv] using h.p10, by simpa [upd, updv] using h.p15, by simpa [upd, updv] using h.p7, by simpa [upd, updv] using h.p16, by simpa [upd, updv] using h.o1, by simpa [upd, updv] using h.o2, by simpa [upd, updv] using h.sep, by simpa [upd, updv] using h.c8, by simpa [upd, updv] using h.c17⟩
theorem J2.load6 (h : J2 wl g v1 v2 v3 n H T x1 x2 L σ W) : J2 wl g v1 v2 v3 n H T x1 x2 (upd L 6) (updv σ 6 (.int .i64 x1)) W :=
  ⟨h.k, h.gl, by simpa [upd, updv] using h.box, by simpa [upd, updv] using h.p1, by simp [upd, updv], by simpa [upd, updv] using h.p10, by simpa [upd, updv] using h.p15, by simpa [upd, updv] using h.p7, by simpa [upd, updv] using h.p16, by simpa [upd, updv] using h.o1, by simpa [upd, updv] using h.o2, by simpa [upd, updv] using h.sep, by simpa [upd, updv] using h.c8, by simpa [upd, updv] using h.c17⟩
theorem J2.load10 (h : J2 wl g v1 v2 v3 n H T x1 x2 L σ W) : J2 wl g v1 v2 v3 n H T x1 x2 (upd L 10) (updv σ 10 v2) W :=
  ⟨h.k, h.gl, by simpa [upd, updv] using h.box, by simpa [upd, updv] using h.p1, by simpa [upd, updv] using h.p6, by simp [upd, updv], by simpa [upd, updv] using h.p15, by simpa [upd, updv] using h.p7, by simpa [upd, updv] using h.p16, by simpa [upd, updv] using h.o1, by simpa [upd, updv] using h.o2, by simpa [upd, updv] using h.sep, by simpa [upd, updv] using h.c8, by simpa [upd, updv] using h.c17⟩
theorem J2.load15 (h : J2 wl g v1 v2 v3 n H T x1 x2 L σ W) : J2 wl g v1 v2 v3 n H T x1 x2 (upd L 15) (updv σ 15 (.int .i64 x2)) W :=
  ⟨h.k, h.gl, by simpa [upd, updv] using h.box, by simpa [upd, updv] using h.p1, by simpa [upd, updv] using h.p6, by simpa [upd, updv] using h.p10, by simp [upd, updv], by simpa [upd, updv] using h.p7, by simpa [upd, updv] using h.p16, by simpa [upd, updv] using h.o1, by simpa [upd, updv] using h.o2, by simpa [upd, updv] using h.sep, by simpa [upd, updv] using h.c8, by simpa [upd, updv] using h.c17⟩
theorem grownBy_alloc {a w : World} {row : Option Nat} (h : a.grownBy w row) (o : Obj) : a.grownBy (w.alloc o) row :=
  ⟨h.os, h.tape, h.output, Nat.le_trans h.size (by simp), fun i hi hne => (Below.heap_alloc w o i (Nat.lt_of_lt_of_le hi h.size)).trans (h.block i hi hne)⟩
theorem J2.build7 (h : J2 wl g v1 v2 v3 n H T x1 x2 L σ W) : J2 wl g v1 v2 v3 n H T x1 x2 (upd L 7) (updv σ 7 (.slice (some ⟨W.heap.size, 0, none⟩) 1 1)) (W.alloc (.cells #[.int .i64 x1] 3)) := by
  refine ⟨grownBy_alloc h.k _, h.gl, by simpa [upd, updv] using h.box.alloc _, by simpa [upd, updv] using h.p1, by simpa [upd, updv] using h.p6, by simpa [upd, updv] using h.p10, by simpa [upd, updv] using h.p15, ?_, ?_, by simpa [upd, updv] using h.o1.alloc _, by simpa [upd, updv] using h.o2.alloc _, by simpa [upd, updv] using h.sep, by simpa [upd, updv] using h.c8, by simpa [upd, updv] using h.c17⟩
  · intro _ _
    exact ⟨W.heap.size, by simp [updv], Blk.new W _ _ rfl⟩
  · intro h1 h2
    obtain ⟨q, e, hb, hn⟩ := h.p16 (by simpa [upd] using h1) (by simpa [upd] using h2)
    exact ⟨q, by simpa [updv] using e, hb.alloc _, by simpa [upd] using hn⟩
theorem J2.build16 (h : J2 wl g v1 v2 v3 n H T x1 x2 L σ W) : J2 wl g v1 v2 v3 n H T x1 x2 (upd L 16) (updv σ 16 (.slice (some ⟨W.heap.size, 0, none⟩) 1 1)) (W.alloc (.cells #[.int .i64 x2] 3)) := by
  refine ⟨grownBy_alloc h.k _, h.gl, by simpa [upd, updv] using h.box.alloc _, by simpa [upd, updv] using h.p1, by simpa [upd, updv] using h.p6, by simpa [upd, updv] using h.p10, by simpa [upd, updv] using h.p15, ?_, ?_, by simpa [upd, updv] using h.o1.alloc _, by simpa [upd, updv] using h.o2.alloc _, by simpa [upd, updv] using h.sep, by simpa [upd, updv] using h.c8, by simpa [upd, updv] using h.c17⟩
  · intro h1 h2
    obtain ⟨q, e, hb⟩ := h.p7 (by simpa [upd] using h1) (by simpa [upd] using h2)
    exact ⟨q, by simpa [updv] using e, hb.alloc _⟩
  · intro _ _
    refine ⟨W.heap.size, by simp [updv], Blk.new W _ _ rfl, fun h8 he => ?_⟩
    have h8' : L 8 = false := by simpa [upd] using h8
    have := h.o1
    rw [h8'] at this
    have := this.lt _ he
    omega
theorem J2.sets19 (h : J2 wl g v1 v2 v3 n H T x1 x2 L σ W) (h8 : L 8 = true) (h17 : L 17 = true) (u : Value) : J2 wl g v1 v2 v3 n H T x1 x2 (upd L 19) (updv σ 19 u) (W.setCell ⟨g, 0, none⟩ (σ 8)) := by
  have hb := h.box.set_ 0 (σ 8)
  refine ⟨⟨h.k.os, h.k.tape, h.k.output, by simpa using h.k.size, fun i hi hne => (Below.heap_setCell W ⟨g, 0, none⟩ _ i (fun e => hne (by rw [e]))).trans (h.k.block i hi hne)⟩, h.gl, ?_, by simpa [upd, updv] using h.p1, by simpa [upd, updv] using h.p6, by simpa [upd, updv] using h.p10, by simpa [upd, updv] using h.p15, fun _ e => by simp [upd, h8] at e, fun _ e => by simp [upd, h17] at e, ?_, ?_, by simpa [upd, updv] using h.sep, by simpa [upd, updv] using h.c8, by simpa [upd, updv] using h.c17⟩
  · simpa [upd, updv] using hb
  · simpa [upd, updv] using own_setCell h.o1 h.box (by decide) 0 (σ 8)
  · simpa [upd, updv] using own_setCell h.o2 h.box (by decide) 0 (σ 8)
theorem J2.sets21 (h : J2 wl g v1 v2 v3 n H T x1 x2 L σ W) (h8 : L 8 = true) (h17 : L 17 = true) (u : Value) : J2 wl g v1 v2 v3 n H T x1 x2 (upd L 21) (updv σ 21 u) (W.setCell ⟨g, 1, none⟩ (σ 17)) := by
  have hb := h.box.set_ 1 (σ 17)
  refine ⟨⟨h.k.os, h.k.tape, h.k.output, by simpa using h.k.size, fun i hi hne => (Below.heap_setCell W ⟨g, 1, none⟩ _ i (fun e => hne (by rw [e]))).trans (h.k.block i hi hne)⟩, h.gl, ?_, by simpa [upd, updv] using h.p1, by simpa [upd, updv] using h.p6, by simpa [upd, updv] using h.p10, by simpa [upd, updv] using h.p15, fun _ e => by simp [upd, h8] at e, fun _ e => by simp [upd, h17] at e, ?_, ?_, by simpa [upd, updv] using h.sep, by simpa [upd, updv] using h.c8, by simpa [upd, updv] using h.c17⟩
  · simpa [upd, updv] using hb
  · simpa [upd, updv] using own_setCell h.o1 h.box (by decide) 1 (σ 17)
  · simpa [upd, updv] using own_setCell h.o2 h.box (by decide) 1 (σ 17)
theorem grown_own {a w w' : World} {v : Value} {base n size : Nat} {e : TypeId} {xs : List Value} {row : Option Nat} (h : a.grownBy w row) (ho : w.ownsRow base e size v n xs) (hg : w.grownBy w' v.ownBlock) (hb : a.heap.size ≤ base) : a.grownBy w' row :=
  ⟨hg.os.trans h.os, hg.tape.trans h.tape, hg.output.trans h.output, Nat.le_trans h.size hg.size, fun i hi hne => (hg.block i (Nat.lt_of_lt_of_le hi h.size) (fun e => by
    have := ho.lt i e.symm
    omega)).trans (h.block i hi hne)⟩
theorem blk_grown' {w w' : World} {gb : Nat} {t : TypeId} {cs : Array Value} {row : Option Nat} (h : Blk w gb t cs) (hg : w.grownBy w' row) (hne : row ≠ some gb) : Blk w' gb t cs := h.grown hg hne
theorem J2.app8 (h : J2 wl g v1 v2 v3 n H T x1 x2 L σ W) (h8 : L 8 = false) (h17 : L 17 = false) (h19 : L 19 = false) (h21 : L 21 = false) {v' : Value} (hown : W'.ownsRow wl.heap.size 3 1 v' (n + 1) (H ++ [.int .i64 x1])) (hg : W.grownBy W' v1.ownBlock) (hat : v'.ownBlock = v1.ownBlock ∨ v'.ownBlock = some W.heap.size) :
    J2 wl g v1 v2 v3 n H T x1 x2 (upd L 8) (updv σ 8 v') W' := by
  have o1 := h.o1
  have o2 := h.o2
  have sep := h.sep
  have box := h.box
  rw [h8] at o1 sep
  rw [h17] at o2 sep
  rw [h19, h21] at box
  simp only [Bool.false_eq_true, if_false] at o1 o2 sep box
  refine ⟨grown_own h.k o1 hg (Nat.le_refl _), h.gl, ?_, by simpa [upd, updv] using h.p1, by simpa [upd, updv] using h.p6, by simpa [upd, updv] using h.p10, by simpa [upd, updv] using h.p15, fun _ e => by simp [upd] at e, ?_, by simpa [upd, updv] using hown, ?_, ?_, ?_, fun e => by simp [upd, h17] at e⟩
  · have := box.grown hg (own_blk_ne o1 box (by decide))
    simpa [upd, updv, h19, h21] using this
  · intro h1 h2
    obtain ⟨q, e, hb, hn⟩ := h.p16 (by simpa [upd] using h1) (by simpa [upd] using h2)
    exact ⟨q, by simpa [updv] using e, hb.grown hg (hn h8), fun e => by simp [upd] at e⟩
  · have := o2.kept hg (by
      rcases sep with e | e | e
      · rw [e]; cases v2.ownBlock <;> simp
      · exact .inl e
      · exact .inr (fun e2 => e e2.symm))
    simpa [upd, updv, h17] using this
  · simp only [upd, updv, h17]
    simp only [if_true, Bool.false_eq_true, if_false, show (17 : Nat) ≠ 8 from by decide]
    rcases hat with e | e
    · rw [e]; exact sep
    · refine .inr (.inr fun e2 => ?_)
      have := o2.lt W.heap.size (by rw [← e2, e])
      omega
  · intro _
    obtain ⟨q, cap, hv⟩ := own_form hown (by omega)
    exact ⟨q, cap, by simpa [updv] using hv⟩
theorem J2.app17 (h : J2 wl g v1 v2 v3 n H T x1 x2 L σ W) (h8 : L 8 = true) (h17 : L 17 = false) (h19 : L 19 = false) (h21 : L 21 = false) {v' : Value} (hown : W'.ownsRow wl.heap.size 3 1 v' (n + 1) (T ++ [.int .i64 x2])) (hg : W.grownBy W' v2.ownBlock) (hat : v'.ownBlock = v2.ownBlock ∨ v'.ownBlock = some W.heap.size) :
    J2 wl g v1 v2 v3 n H T x1 x2 (upd L 17) (updv σ 17 v') W' := by
  have o1 := h.o1
  have o2 := h.o2
  have sep := h.sep
  have box := h.box
  rw [h8] at o1 sep
  rw [h17] at o2 sep
  rw [h19, h21] at box
  simp only [Bool.false_eq_true, if_false, if_true] at o1 o2 sep box
  refine ⟨grown_own h.k o2 hg (Nat.le_refl _), h.gl, ?_, by simpa [upd, updv] using h.p1, by simpa [upd, updv] using h.p6, by simpa [upd, updv] using h.p10, by simpa [upd, updv] using h.p15, fun _ e => by simp [upd, h8] at e, fun _ e => by simp [upd] at e, ?_, by simpa [upd, updv] using hown, ?_, by simpa [upd, updv] using h.c8, ?_⟩
  · have := box.grown hg (own_blk_ne o2 box (by decide))
    simpa [upd, updv, h19, h21] using this
  · have := o1.kept hg (by
      rcases sep with e | e | e
      · exact .inl e
      · rw [e]; cases (σ 8).ownBlock <;> simp
      · exact .inr e)
    simpa [upd, updv, h8] using this
  · simp only [upd, updv, h8]
    simp only [if_true, show (8 : Nat) ≠ 17 from by decide, if_false]
    rcases hat with e | e
    · rw [e]; exact sep
    · refine .inr (.inr fun e2 => ?_)
      have := o1.lt W.heap.size (by rw [e2, e])
      omega
  · intro _
    obtain ⟨q, cap, hv⟩ := own_form hown (by omega)
    exact ⟨q, cap, by simpa [updv] using hv⟩
/-- The same with the two addresses that come up late. -/
def J2L (wl : World) (g : Nat) (v1 v2 v3 : Value) (n : Nat) (H T : List Value) (x1 x2 : Int) (L : Nat → Bool) (σ : Nat → Value) (W : World) : Prop :=
  J2 wl g v1 v2 v3 n H T x1 x2 L σ W ∧ (L 18 = true → σ 18 = .pointer (some ⟨g, 0, none⟩)) ∧ (L 20 = true → σ 20 = .pointer (some ⟨g, 1, none⟩))
theorem J2L.up {k : Nat} {u : Value} (h : J2L wl g v1 v2 v3 n H T x1 x2 L σ W) (hj : J2 wl g v1 v2 v3 n H T x1 x2 (upd L k) (updv σ k u) W') (h18 : k = 18 → u = .pointer (some ⟨g, 0, none⟩)) (h20 : k = 20 → u = .pointer (some ⟨g, 1, none⟩)) : J2L wl g v1 v2 v3 n H T x1 x2 (upd L k) (updv σ k u) W' := by
  refine ⟨hj, fun h1 => ?_, fun h1 => ?_⟩
  · simp only [updv]
    by_cases e : 18 = k
    · rw [if_pos e]; exact h18 e.symm
    · rw [if_neg e]; simp only [upd, if_neg e] at h1; exact h.2.1 h1
  · simp only [updv]
    by_cases e : 20 = k
    · rw [if_pos e]; exact h20 e.symm
    · rw [if_neg e]; simp only [upd, if_neg e] at h1; exact h.2.2 h1
end
end Go.Proofs.Ytiflhimmieflpaa
