/- Walks: crackValid, curve's closure, slices.IndexFunc and ContainsFunc over cracks. -/
import Derived.Test.YtiflhimmieflpaaW2
namespace Go.Proofs.Ytiflhimmieflpaa
open Go.RowKit

structure Crack where
  cl : Int
  ch : Int
  fl : Int
  fh : Int
  tl : Int
  th : Int
def Crack.cells (k : Crack) : List Value := [.int .i64 k.cl, .int .i64 k.ch, .int .i64 k.fl, .int .i64 k.fh, .int .i64 k.tl, .int .i64 k.th]
def Crack.zero : Crack := ⟨0, 0, 0, 0, 0, 0⟩
def flat6 (xs : List Crack) : List Value := xs.flatMap Crack.cells
def Cracks (w : World) (A : Option Addr) (n : Nat) (xs : List Crack) : Prop := Reads w 6 A n (flat6 xs)

theorem flat6_length (xs : List Crack) : (flat6 xs).length = xs.length * 6 := by
  unfold flat6; induction xs with
  | nil => rfl
  | cons a r ih => simp only [List.flatMap_cons, List.length_append, ih, List.length_cons, Crack.cells, List.length_nil]; omega
theorem flat6_at (xs : List Crack) (k j : Nat) (h : k < xs.length) (hj : j < 6) : (flat6 xs)[k * 6 + j]? = (xs[k]).cells[j]? := by
  unfold flat6; induction xs generalizing k with
  | nil => simp at h
  | cons a r ih =>
    cases k with
    | zero => rw [List.flatMap_cons, List.getElem?_append_left (by simp [Crack.cells]; omega)]; simp
    | succ m =>
      rw [List.flatMap_cons, List.getElem?_append_right (by simp [Crack.cells]; omega)]
      have := ih m (by simpa using h)
      simp only [Crack.cells, List.length_cons, List.length_nil] at this ⊢
      rw [show (m + 1) * 6 + j - (0 + 1 + 1 + 1 + 1 + 1 + 1) = m * 6 + j from by omega, this]
      simp
section
variable {w w' : World} {n k : Nat} {A : Option Addr} {xs : List Crack}
theorem Cracks.len (h : Cracks w A n xs) : xs.length = n := by have := h.1; rw [flat6_length] at this; omega
theorem Cracks.below (h : Cracks w A n xs) (hb : Below w.heap.size w w') : Cracks w' A n xs := Reads.below h hb
theorem Cracks.at_ (h : Cracks w A n xs) (hk : k < n) : ∃ b off, A = some ⟨b, off, none⟩ ∧ b < w.heap.size ∧ w.cell? ⟨b, off + k * 6, none⟩ = some (.int .i64 (xs.getD k Crack.zero).cl) ∧ w.cell? ⟨b, off + k * 6 + 1, none⟩ = some (.int .i64 (xs.getD k Crack.zero).ch) ∧
    w.cell? ⟨b, off + k * 6 + 2, none⟩ = some (.int .i64 (xs.getD k Crack.zero).fl) ∧ w.cell? ⟨b, off + k * 6 + 3, none⟩ = some (.int .i64 (xs.getD k Crack.zero).fh) ∧
    w.cell? ⟨b, off + k * 6 + 4, none⟩ = some (.int .i64 (xs.getD k Crack.zero).tl) ∧ w.cell? ⟨b, off + k * 6 + 5, none⟩ = some (.int .i64 (xs.getD k Crack.zero).th) := by
  obtain ⟨b, off, e, hb, hc⟩ := h.2 (by omega)
  have hl : k < xs.length := by rw [h.len]; exact hk
  have hx : xs.getD k Crack.zero = xs[k] := by simp [hl, List.getD]
  have g : ∀ j u, j < 6 → (xs[k]).cells[j]? = some u → w.cell? ⟨b, off + k * 6 + j, none⟩ = some u := fun j u hj hu => by
    rw [Nat.add_assoc]
    exact hc _ _ ((flat6_at xs k j hl hj).trans hu)
  rw [hx]
  exact ⟨b, off, e, hb, g 0 _ (by omega) rfl, g 1 _ (by omega) rfl, g 2 _ (by omega) rfl, g 3 _ (by omega) rfl, g 4 _ (by omega) rfl, g 5 _ (by omega) rfl⟩
end

def crackOk (columns : Int) (k : Crack) : Bool := validS 0 (columns - 1) [(k.cl, k.ch)] && decide (k.ch - k.cl < 5) && validS 0 300 [(k.fl, k.fh), (k.tl, k.th)] && decide (k.fh ≤ k.tl)

theorem valid1 (lo hi x y : Int) (t : TypeId) (g : Nat) (w : World) (hg : g = w.heap.size) : Calls Try.prog 111 #[.int .i64 lo, .int .i64 hi, .slice (some ⟨g, 0, none⟩) 1 1] (w.alloc (.cells #[.int .i64 x, .int .i64 y] t))
    fun e w' => e = .returned (.bool (validS lo hi [(x, y)])) ∧ Below (w.heap.size + 1) (w.alloc (.cells #[.int .i64 x, .int .i64 y] t)) w' := (valid_any lo hi _ 1 1 [(x, y)] _ (pairs_new1 w x y t hg) (by decide)).mono fun e w' h => ⟨h.1, by have := h.2; simpa using this⟩
theorem valid2 (lo hi x y x' y' : Int) (t : TypeId) (g : Nat) (w : World) (hg : g = w.heap.size) : Calls Try.prog 111 #[.int .i64 lo, .int .i64 hi, .slice (some ⟨g, 0, none⟩) 2 2] (w.alloc (.cells #[.int .i64 x, .int .i64 y, .int .i64 x', .int .i64 y'] t))
    fun e w' => e = .returned (.bool (validS lo hi [(x, y), (x', y')])) ∧ Below (w.heap.size + 1) (w.alloc (.cells #[.int .i64 x, .int .i64 y, .int .i64 x', .int .i64 y'] t)) w' := (valid_any lo hi _ 2 2 [(x, y), (x', y')] _ (pairs_new2 w x y x' y' t hg) (by decide)).mono fun e w' h => ⟨h.1, by have := h.2; simpa using this⟩

set_option maxHeartbeats 800000 in
theorem crackValid_any (k : Crack) (columns : Int) (w : World) (h0 : 1 ≤ columns) (h30 : columns ≤ 30) :
    Calls Try.prog 94 #[.agg #[.int .i64 k.cl, .int .i64 k.ch, .int .i64 k.fl, .int .i64 k.fh, .int .i64 k.tl, .int .i64 k.th], .int .i64 columns] w
      fun e w' => e = .returned (.bool (crackOk columns k)) ∧ Below w.heap.size w w' := by
  obtain ⟨cl, ch, fl, fh, tl, th⟩ := k
  have HE : Hid (crackOk columns ⟨cl, ch, fl, fh, tl, th⟩ = (validS 0 (columns - 1) [(cl, ch)] && decide (ch - cl < 5) && validS 0 300 [(fl, fh), (tl, th)] && decide (fh ≤ tl))) := rfl
  generalize crackOk columns ⟨cl, ch, fl, fh, tl, th⟩ = r at *
  simp only
  have B1 : Below w.heap.size w ((w.alloc (.cells #[.int .i64 cl, .int .i64 ch, .int .i64 fl, .int .i64 fh, .int .i64 tl, .int .i64 th] 111)).alloc (.cells #[.int .i64 cl, .int .i64 ch] 98)) := ((Below.refl _ _).alloc (Nat.le_refl _) _).alloc (by simp) _
  cases q1 : validS 0 (columns - 1) [(cl, ch)]
  · go_enter Try.func94, Try.ntmps94
    go_wp2_with (go_at_call 111; refine (valid1 _ _ _ _ _ _ _ (by simp)).mono ?_; rintro e w' ⟨rfl, hb⟩)
    go_ret
    exact ⟨ret_bool (by rw [HE.out, q1]; rfl), B1.trans (hb.mono (by simp <;> omega))⟩
  have hq : 0 ≤ cl ∧ cl ≤ ch ∧ ch ≤ columns - 1 := by simp [validS] at q1; omega
  obtain ⟨hq1, hq2, hq3⟩ := hq
  go_enter Try.func94, Try.ntmps94
  go_wp2_with fail
  refine (valid1 _ _ _ _ _ _ _ (by simp)).mono ?_
  rintro e w2 ⟨rfl, hb2⟩
  have hz2 : w.heap.size + 2 ≤ w2.heap.size := by have := hb2.size; simpa using this
  have B2 := B1.trans (hb2.mono (by simp <;> omega))
  have c0 : w2.cell? ⟨w.heap.size, 0, none⟩ = some (.int .i64 cl) := (hb2.cell (p := ⟨w.heap.size, 0, none⟩) (by simp <;> omega)).trans (by simp)
  have c1 : w2.cell? ⟨w.heap.size, 1, none⟩ = some (.int .i64 ch) := (hb2.cell (p := ⟨w.heap.size, 1, none⟩) (by simp <;> omega)).trans (by simp)
  have c2 : w2.cell? ⟨w.heap.size, 2, none⟩ = some (.int .i64 fl) := (hb2.cell (p := ⟨w.heap.size, 2, none⟩) (by simp <;> omega)).trans (by simp)
  have c3 : w2.cell? ⟨w.heap.size, 3, none⟩ = some (.int .i64 fh) := (hb2.cell (p := ⟨w.heap.size, 3, none⟩) (by simp <;> omega)).trans (by simp)
  have c4 : w2.cell? ⟨w.heap.size, 4, none⟩ = some (.int .i64 tl) := (hb2.cell (p := ⟨w.heap.size, 4, none⟩) (by simp <;> omega)).trans (by simp)
  have c5 : w2.cell? ⟨w.heap.size, 5, none⟩ = some (.int .i64 th) := (hb2.cell (p := ⟨w.heap.size, 5, none⟩) (by simp <;> omega)).trans (by simp)
  clear hb2 B1
  by_cases h5 : ch - cl < 5
  · cases q3 : validS 0 300 [(fl, fh), (tl, th)]
    · go_wp2_with (go_at_call 111; refine (valid2 _ _ _ _ _ _ _ _ _ (by simp)).mono ?_; rintro e w3 ⟨rfl, hb3⟩)
      go_ret
      exact ⟨ret_bool (by rw [HE.out, q1, q3]; simp), (B2.alloc (by omega) _).trans (hb3.mono (by omega))⟩
    · go_wp2_with fail
      refine (valid2 _ _ _ _ _ _ _ _ _ (by simp)).mono ?_
      rintro e w3 ⟨rfl, hb3⟩
      have d3 : w3.cell? ⟨w.heap.size, 3, none⟩ = some (.int .i64 fh) := (hb3.cell (p := ⟨w.heap.size, 3, none⟩) (by show w.heap.size < _; omega)).trans ((World.cell?_alloc_past _ _ _ (by omega)).trans c3)
      have d4 : w3.cell? ⟨w.heap.size, 4, none⟩ = some (.int .i64 tl) := (hb3.cell (p := ⟨w.heap.size, 4, none⟩) (by show w.heap.size < _; omega)).trans ((World.cell?_alloc_past _ _ _ (by omega)).trans c4)
      have B3 := (B2.alloc (by omega) _).trans (hb3.mono (by omega))
      clear hb3
      go_wp2
      go_ret
      exact ⟨ret_bool (by rw [HE.out, q1, q3]; simp [h5]), B3⟩
  · go_wp2
    go_ret
    exact ⟨ret_bool (by rw [HE.out, q1]; simp; omega), B2⟩

set_option maxHeartbeats 800000 in
theorem curve1_any (k : Crack) (columns : Int) (B : Nat) (w : World) (h0 : 1 ≤ columns) (h30 : columns ≤ 30) (hc : w.cell? ⟨B, 0, none⟩ = some (.int .i64 columns)) (hB : B < w.heap.size) :
    Calls Try.prog 93 #[.agg #[.int .i64 k.cl, .int .i64 k.ch, .int .i64 k.fl, .int .i64 k.fh, .int .i64 k.tl, .int .i64 k.th], .pointer (some ⟨B, 0, none⟩)] w
      fun e w' => e = .returned (.bool (!crackOk columns k)) ∧ Below w.heap.size w w' := by
  have B1 : Below w.heap.size w (w.alloc (.cells #[.int .i64 k.cl, .int .i64 k.ch, .int .i64 k.fl, .int .i64 k.fh, .int .i64 k.tl, .int .i64 k.th] 111)) := (Below.refl _ _).alloc (Nat.le_refl _) _
  go_enter Try.func93, Try.ntmps93
  go_wp2_with (go_at_call 94; refine (crackValid_any _ _ _ h0 h30).mono ?_; rintro e w2 ⟨rfl, hb⟩)
  go_ret
  exact ⟨rfl, B1.trans (hb.mono (by simp <;> omega))⟩

def idx {α : Type} (p : α → Bool) (xs : List α) : Int := match xs.findIdx? p with
  | some i => i
  | none => -1
def noneOf {α : Type} (p : α → Bool) (xs : List α) : Bool := xs.all fun x => !p x
theorem noneOf_succ {α : Type} {p : α → Bool} {xs : List α} {k : Nat} (z : α) (hk : k < xs.length) : noneOf p (xs.take (k + 1)) = (noneOf p (xs.take k) && !p (xs.getD k z)) := by
  unfold noneOf
  rw [List.take_succ_eq_append_getElem hk, List.all_append]
  simp [hk, List.getD]
theorem idx_none {α : Type} {p : α → Bool} {xs : List α} (h : noneOf p xs = true) : idx p xs = -1 := by
  have : xs.findIdx? p = none := by
    rw [List.findIdx?_eq_none_iff]
    intro x hx
    have := (List.all_eq_true.1 h) x hx
    simpa using this
  rw [idx, this]
theorem idx_hit {α : Type} {p : α → Bool} {xs : List α} {k : Nat} (z : α) (hk : k < xs.length) (h : noneOf p (xs.take k) = true) (hp : p (xs.getD k z) = true) : idx p xs = k := by
  have hx : xs.getD k z = xs[k] := by simp [hk, List.getD]
  rw [hx] at hp
  have : xs.findIdx? p = some k := by
    rw [List.findIdx?_eq_some_iff_getElem]
    refine ⟨hk, hp, fun j hj => ?_⟩
    have hm : xs[j]'(by omega) ∈ xs.take k := by
      rw [List.mem_take_iff_getElem]
      exact ⟨j, by omega, rfl⟩
    have := (List.all_eq_true.1 h) _ hm
    simpa using this
  rw [idx, this]
theorem idx_any {α : Type} {p : α → Bool} {xs : List α} : decide (0 ≤ idx p xs) = xs.any p := by
  unfold idx
  cases h : xs.findIdx? p with
  | none =>
    rw [List.findIdx?_eq_none_iff] at h
    have h2 : xs.any p = false := by rw [List.any_eq_false]; intro x hx; simp [h x hx]
    rw [h2]; decide
  | some i =>
    rw [List.findIdx?_eq_some_iff_getElem] at h
    obtain ⟨hi, hp, _⟩ := h
    have h2 : xs.any p = true := List.any_eq_true.2 ⟨_, List.getElem_mem hi, hp⟩
    rw [h2]; simp

set_option maxHeartbeats 1000000 in
theorem indexCrack_any (columns : Int) (B : Nat) (A : Option Addr) (n c : Nat) (xs : List Crack) (w : World) (h0 : 1 ≤ columns) (h30 : columns ≤ 30) (hc : w.cell? ⟨B, 0, none⟩ = some (.int .i64 columns)) (hB : B < w.heap.size)
    (h : Cracks w A n xs) (hn : n ≤ maxLen) :
    Calls Try.prog 112 #[.slice A n c, .func (.func 93) #[] #[.pointer (some ⟨B, 0, none⟩)]] w
      fun e w' => e = .returned (.int .i64 (idx (fun k => !crackOk columns k) xs)) ∧ Below w.heap.size w w' := by
  unfold maxLen at hn
  have hl := h.len
  generalize hp : (fun k => !crackOk columns k) = p
  have hcall := fun k W (hb : Below w.heap.size w W) => curve1_any k columns B W h0 h30 ((hb.cell (p := ⟨B, 0, none⟩) hB).trans hc) (Nat.lt_of_lt_of_le hB hb.size)
  have hpk : ∀ k, (!crackOk columns k) = p k := fun k => by rw [← hp]
  simp only [hpk] at hcall
  clear hp hpk
  have Hcall := Lib.hid hcall
  clear hcall
  go_enter Try.func112, Try.ntmps112
  go_wp2
  go_loopw [8] (fun i wr => ∃ k : Nat, k ≤ n ∧ i = .int .i64 k ∧ noneOf p (xs.take k) = true ∧ Below w.heap.size w wr) (fun i _ => n - (intOf i).toNat)
  case atStart => exact ⟨0, Nat.zero_le _, rfl, rfl, Below.refl _ _⟩
  case round =>
    obtain ⟨k, hk, rfl, hin, hbel⟩ := hrel
    by_cases hlt : k < n
    · obtain ⟨b, off, rfl, hb, hc0, hc1, hc2, hc3, hc4, hc5⟩ := (h.below hbel).at_ hlt
      have H := Lib.hid (noneOf_succ (p := p) Crack.zero (xs := xs) (k := k) (by omega))
      have Hin := Lib.hid hin
      have Hit := Lib.hid (idx_hit (p := p) Crack.zero (xs := xs) (k := k) (by omega) hin)
      clear hin hl
      generalize xs.getD k Crack.zero = y at *
      have C := Lib.hid (Hcall.out y wr hbel)
      cases hq : p y
      · go_wp2_with (go_at_call 93; refine C.out.mono ?_; rintro e w2 ⟨rfl, hb2⟩)
        go_roundw
        case rel => exact ⟨k + 1, by omega, by go_num, by rw [H.out, Hin.out, hq]; rfl, hbel.trans (hb2.mono hbel.size)⟩
        case measure => simp [intOf]; omega
      · go_wp2_with (go_at_call 93; refine C.out.mono ?_; rintro e w2 ⟨rfl, hb2⟩)
        go_ret
        exact ⟨ret_int (Hit.out hq).symm, hbel.trans (hb2.mono hbel.size)⟩
    · have he : idx p xs = -1 := idx_none (by rw [← hin, List.take_of_length_le (by omega)])
      clear hin
      have He := Lib.hid he
      clear he
      go_wp2
      go_ret
      exact ⟨ret_int He.out.symm, hbel⟩

theorem containsCrack_any (columns : Int) (B : Nat) (A : Option Addr) (n c : Nat) (xs : List Crack) (w : World) (h0 : 1 ≤ columns) (h30 : columns ≤ 30) (hc : w.cell? ⟨B, 0, none⟩ = some (.int .i64 columns)) (hB : B < w.heap.size)
    (h : Cracks w A n xs) (hn : n ≤ maxLen) :
    Calls Try.prog 96 #[.slice A n c, .func (.func 93) #[] #[.pointer (some ⟨B, 0, none⟩)]] w
      fun e w' => e = .returned (.bool (xs.any fun k => !crackOk columns k)) ∧ Below w.heap.size w w' := by
  have C := Lib.hid (indexCrack_any columns B A n c xs w h0 h30 hc hB h hn)
  have HE := Lib.hid (idx_any (p := fun k => !crackOk columns k) (xs := xs))
  generalize (xs.any fun k => !crackOk columns k) = r at *
  generalize idx (fun k => !crackOk columns k) xs = i at *
  go_enter Try.func96, Try.ntmps96
  go_wp2_with (go_at_call 112; refine C.out.mono ?_; rintro e w2 ⟨rfl, hb2⟩)
  go_ret
  exact ⟨ret_bool HE.out, hb2⟩
end Go.Proofs.Ytiflhimmieflpaa
