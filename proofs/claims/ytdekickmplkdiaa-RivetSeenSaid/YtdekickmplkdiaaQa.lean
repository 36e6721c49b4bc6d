/- Pure facts and small contracts of the law RivetSeen. -/
import Derived.Test.YtdekickmplkdiaaWo
import Derived.Test.YtdekickmplkdiaaWr
namespace Go.Proofs.Ytdekickmplkdiaa
open Go.RowKit

/-- Twelve truths in a box. -/
def bl (b : Nat → Bool) : Array Value := #[.bool (b 0), .bool (b 1), .bool (b 2), .bool (b 3), .bool (b 4), .bool (b 5), .bool (b 6), .bool (b 7), .bool (b 8), .bool (b 9), .bool (b 10), .bool (b 11)]
theorem bl_at (b : Nat → Bool) (p : Nat) (h : p < 12) : (bl b)[p]? = some (.bool (b p)) := by
  rcases (by omega : p = 0 ∨ p = 1 ∨ p = 2 ∨ p = 3 ∨ p = 4 ∨ p = 5 ∨ p = 6 ∨ p = 7 ∨ p = 8 ∨ p = 9 ∨ p = 10 ∨ p = 11) with rfl | rfl | rfl | rfl | rfl | rfl | rfl | rfl | rfl | rfl | rfl | rfl <;> rfl
theorem bl_set (b : Nat → Bool) (p : Nat) (z : Bool) (h : p < 12) : (bl b).setIfInBounds p (.bool z) = bl (fun q => if q = p then z else b q) := by
  rcases (by omega : p = 0 ∨ p = 1 ∨ p = 2 ∨ p = 3 ∨ p = 4 ∨ p = 5 ∨ p = 6 ∨ p = 7 ∨ p = 8 ∨ p = 9 ∨ p = 10 ∨ p = 11) with rfl | rfl | rfl | rfl | rfl | rfl | rfl | rfl | rfl | rfl | rfl | rfl <;> rfl
/-- What the law writes for the first i of the gaps that are said to be wrong, but one. -/
def bR (G : List Nat) (kk : Int) : Nat → Nat → Bool
  | 0 => fun _ => false
  | i + 1 => fun q => if q = G.getD i 0 then !(decide ((i : Int) = kk)) else bR G kk i q
/-- The gaps of a list, but the one at a place. -/
def butL (G : List Nat) (kk : Int) : List Nat := ((List.range G.length).filter fun i : Nat => !(decide ((i : Int) = kk))).map fun i => G.getD i 0
theorem getD_lt {G : List Nat} (h : G.Pairwise (· < ·)) {i j : Nat} (hij : i < j) (hj : j < G.length) : G.getD i 0 < G.getD j 0 := by
  have e1 : G.getD i 0 = G[i]'(by omega) := by simp [List.getD, show i < G.length by omega]
  have e2 : G.getD j 0 = G[j] := by simp [List.getD, hj]
  rw [e1, e2]
  exact List.pairwise_iff_getElem.1 h i j (by omega) hj hij
theorem bR_eq {G : List Nat} (h : G.Pairwise (· < ·)) (kk : Int) (i : Nat) (hi : i ≤ G.length) (p : Nat) : bR G kk i p = (List.range i).any fun q => decide (G.getD q 0 = p) && !(decide ((q : Int) = kk)) := by
  induction i with
  | zero => rfl
  | succ i ih =>
    rw [bR, List.range_succ, List.any_append, ← ih (by omega)]
    show (if p = G.getD i 0 then !(decide ((i : Int) = kk)) else bR G kk i p) = _
    by_cases e : p = G.getD i 0
    · rw [if_pos e]
      have hz : bR G kk i p = false := by
        rw [ih (by omega), List.any_eq_false]
        intro q hq
        have hq := List.mem_range.1 hq
        have := getD_lt h hq (by omega)
        intro hcon
        rw [Bool.and_eq_true, decide_eq_true_eq] at hcon
        omega
      rw [hz]
      simp [e]
    · rw [if_neg e]
      simp only [List.any_cons, List.any_nil, Bool.or_false]
      rw [decide_eq_false (fun e2 => e e2.symm : ¬ G.getD i 0 = p)]
      simp
theorem bR_mem {G : List Nat} (h : G.Pairwise (· < ·)) (kk : Int) (p : Nat) : bR G kk G.length p = decide (p ∈ butL G kk) := by
  rw [bR_eq h kk _ (Nat.le_refl _), Bool.eq_iff_iff]
  rw [List.any_eq_true, decide_eq_true_eq]
  constructor
  · rintro ⟨q, h1, h2⟩
    rw [Bool.and_eq_true, decide_eq_true_eq] at h2
    exact List.mem_map.2 ⟨q, List.mem_filter.2 ⟨h1, h2.2⟩, h2.1⟩
  · intro hm
    obtain ⟨q, hq, e⟩ := List.mem_map.1 hm
    obtain ⟨h1, h2⟩ := List.mem_filter.1 hq
    refine ⟨q, h1, ?_⟩
    rw [Bool.and_eq_true, decide_eq_true_eq]
    exact ⟨e, h2⟩
theorem but_pair {G : List Nat} (h : G.Pairwise (· < ·)) (kk : Int) : (butL G kk).Pairwise (· < ·) := by
  unfold butL
  rw [List.pairwise_map]
  refine List.Pairwise.imp_of_mem ?_ (List.Pairwise.filter _ (List.pairwise_lt_range (n := G.length)))
  intro a b ha hb hab
  exact getD_lt h hab (List.mem_range.1 (List.mem_filter.1 hb).1)
theorem but_lt {G : List Nat} {n : Nat} (h : ∀ i ∈ G, i < n) (kk : Int) : ∀ i ∈ butL G kk, i < n := fun i hi => by
  obtain ⟨q, hq, rfl⟩ := List.mem_map.1 hi
  have hq := List.mem_range.1 (List.mem_filter.1 hq).1
  have e : G.getD q 0 = G[q] := by simp [List.getD, hq]
  rw [e]; exact h _ (List.getElem_mem hq)
theorem filter_ne_len (n k : Nat) (hk : k < n) : ((List.range n).filter fun i => !(decide (((i : Nat) : Int) = (k : Int)))).length = n - 1 := by
  induction n with
  | zero => omega
  | succ n ih =>
    rw [List.range_succ, List.filter_append, List.length_append]
    by_cases e : k = n
    · subst e
      have e1 : ((List.range k).filter fun i => !(decide (((i : Nat) : Int) = (k : Int)))) = List.range k := by
        rw [List.filter_eq_self]
        intro a ha
        have := List.mem_range.1 ha
        simp; omega
      rw [e1]
      simp
    · rw [ih (by omega)]
      have : ((n : Int) = (k : Int)) = False := by simp; omega
      simp [this]
      try omega
theorem but_len {G : List Nat} {k : Nat} (hk : k < G.length) : (butL G k).length = G.length - 1 := by
  unfold butL
  rw [List.length_map, filter_ne_len _ _ hk]
theorem but_all (G : List Nat) : butL G (-1) = G := by
  have e1 : ((List.range G.length).filter fun i => !(decide (((i : Nat) : Int) = -1))) = List.range G.length := by
    rw [List.filter_eq_self]
    intro a _
    simp
  unfold butL
  rw [e1]
  apply List.ext_getElem (by simp)
  intro i h1 h2
  simp [List.getD, h2]
/-- What the law's first loop asks of each round. -/
theorem seen_round {f : Fan} {G : List Nat} {d : Int} (hp : G.Pairwise (· < ·)) (hl : ∀ i ∈ G, i < f.gs.length) (hd : degL false (f.some (castL G)) ≤ d)
    (hf : ∀ L' : List Nat, L'.Pairwise (· < ·) → (∀ i ∈ L', i < f.gs.length) → 1 ≤ L'.length → L'.length < G.length → d < degL false (f.some (castL L'))) (j : Nat) (hj : j < G.length + 1) :
    (j = 0 → degL false (f.some (castL (butL G ((j : Int) - 1)))) ≤ d) ∧ (1 ≤ j → 1 < G.length → d < degL false (f.some (castL (butL G ((j : Int) - 1))))) := by
  refine ⟨fun e => ?_, fun hj1 hg => ?_⟩
  · subst e
    rw [show ((0 : Nat) : Int) - 1 = -1 from rfl, but_all]
    exact hd
  · obtain ⟨k, rfl⟩ : ∃ k, j = k + 1 := ⟨j - 1, by omega⟩
    rw [show ((k + 1 : Nat) : Int) - 1 = (k : Int) by omega]
    have hk : k < G.length := by omega
    exact hf _ (but_pair hp _) (but_lt hl _) (by rw [but_len hk]; omega) (by rw [but_len hk]; omega)
/-- The gaps that the bytes leave out: what is chosen, and how many are to be chosen yet. -/
def chT (xs : List Int) (n r : Nat) : Nat → List Nat × Nat
  | 0 => ([], r)
  | i + 1 => if (decide (0 < (chT xs n r i).2) && (decide (byteAt xs i % 2 = 0) || decide (n ≤ i + (chT xs n r i).2))) = true then ((chT xs n r i).1 ++ [i], (chT xs n r i).2 - 1) else chT xs n r i
theorem chT_spec (xs : List Int) (n r : Nat) (hr : r ≤ n) (i : Nat) (hi : i ≤ n) : (chT xs n r i).1.length + (chT xs n r i).2 = r ∧ (chT xs n r i).2 + i ≤ n ∧ (chT xs n r i).1.Pairwise (· < ·) ∧ ∀ k ∈ (chT xs n r i).1, k < i := by
  induction i with
  | zero => exact ⟨by simp [chT], by simpa [chT] using hr, by simp [chT], by simp [chT]⟩
  | succ i ih =>
    obtain ⟨a, b, c, d⟩ := ih (by omega)
    rw [chT]
    split
    · rename_i h
      simp only [Bool.and_eq_true, decide_eq_true_eq] at h
      refine ⟨by simp only [List.length_append, List.length_singleton]; omega, by simp only; omega, ?_, ?_⟩
      · rw [List.pairwise_append]
        exact ⟨c, by simp, fun x hx y hy => by rw [List.mem_singleton.1 hy]; exact d x hx⟩
      · intro k hk
        rcases List.mem_append.1 hk with h | h
        · have := d k h; omega
        · rw [List.mem_singleton.1 h]; omega
    · rename_i h
      refine ⟨a, ?_, c, fun k hk => by have := d k hk; omega⟩
      simp only [Bool.and_eq_true, decide_eq_true_eq, Bool.or_eq_true, not_and, not_or] at h
      rcases Nat.eq_zero_or_pos (chT xs n r i).2 with h0 | h0
      · omega
      · have := (h h0).2
        omega
theorem chT_mono (xs : List Int) (n r i j : Nat) (hij : i ≤ j) : ∀ k, k < i → (k ∈ (chT xs n r j).1 ↔ k ∈ (chT xs n r i).1) := by
  obtain ⟨d, rfl⟩ : ∃ d, j = i + d := ⟨j - i, by omega⟩
  clear hij
  induction d with
  | zero => intro k _; exact Iff.rfl
  | succ d ih =>
    intro k hk
    rw [← ih k hk, show i + (d + 1) = (i + d) + 1 from rfl, chT]
    split
    · rw [List.mem_append, List.mem_singleton]
      exact ⟨fun h => h.elim id (fun e => by omega), Or.inl⟩
    · exact Iff.rfl
theorem some_congr (gs : List Gap) (L L' : List Int) (k : Nat) (h : ∀ i < k, ((i : Int) ∈ L ↔ (i : Int) ∈ L')) : someTo gs L k = someTo gs L' k := by
  induction k with
  | zero => rfl
  | succ k ih =>
    rw [someTo, someTo, ih (fun i hi => h i (by omega))]
    have := h k (by omega)
    by_cases e : (k : Int) ∈ L
    · rw [if_pos (decide_eq_true e), if_pos (decide_eq_true (this.1 e))]
    · rw [if_neg (by simpa using e), if_neg (by simpa using fun h => e (this.2 h))]
theorem castL_mem (L : List Nat) (k : Nat) : (k : Int) ∈ castL L ↔ k ∈ L := by
  have := mem_castL L k
  simpa using this
/-- The gaps that are left of the first i. -/
def leftL (gs : List Gap) (xs : List Int) (n r i : Nat) : List Gap := someTo gs (castL (chT xs n r i).1) i
theorem left_zero (gs : List Gap) (xs : List Int) (n r : Nat) : leftL gs xs n r 0 = [] := rfl
theorem left_succ (gs : List Gap) (xs : List Int) (n r i : Nat) (hr : r ≤ n) (hi : i < n) : leftL gs xs n r (i + 1) = if (decide (0 < (chT xs n r i).2) && (decide (byteAt xs i % 2 = 0) || decide (n ≤ i + (chT xs n r i).2))) = true then leftL gs xs n r i else leftL gs xs n r i ++ [gs.getD i Gap.zero] := by
  have hs := chT_spec xs n r hr i (by omega)
  have e : someTo gs (castL (chT xs n r (i + 1)).1) i = leftL gs xs n r i := some_congr gs _ _ i fun k hk => by
    rw [castL_mem, castL_mem]
    exact chT_mono xs n r i (i + 1) (by omega) k hk
  unfold leftL at e ⊢
  rw [someTo, e]
  by_cases hc : (decide (0 < (chT xs n r i).2) && (decide (byteAt xs i % 2 = 0) || decide (n ≤ i + (chT xs n r i).2))) = true
  · rw [if_pos hc]
    have hm : (i : Int) ∈ castL (chT xs n r (i + 1)).1 := by
      rw [castL_mem, chT, if_pos hc]
      simp
    rw [if_pos (decide_eq_true hm)]
  · rw [if_neg hc]
    have hm : ¬ (i : Int) ∈ castL (chT xs n r (i + 1)).1 := by
      rw [castL_mem, chT, if_neg hc]
      intro h
      have := hs.2.2.2 i h
      omega
    rw [if_neg (by simpa using hm)]
/-- What the law's last fan opens to. -/
theorem seen_last {f : Fan} {G : List Nat} {d : Int} (hg : G.length ≤ f.gs.length) (hf : ∀ L' : List Nat, L'.Pairwise (· < ·) → (∀ i ∈ L', i < f.gs.length) → 1 ≤ L'.length → L'.length < G.length → d < degL false (f.some (castL L')))
    (xs : List Int) (h1 : 1 < G.length) : d < degL false { f with gs := leftL f.gs xs f.gs.length (G.length - 1) f.gs.length } := by
  have hs := chT_spec xs f.gs.length (G.length - 1) (by omega) f.gs.length (Nat.le_refl _)
  exact hf _ hs.2.2.1 hs.2.2.2 (by omega) (by omega)
theorem left_err {f : Fan} (h : fanErr f = 0) (xs : List Int) (r : Nat) : fanErr { f with gs := leftL f.gs xs f.gs.length r f.gs.length } = 0 := some_err h _
end Go.Proofs.Ytdekickmplkdiaa
