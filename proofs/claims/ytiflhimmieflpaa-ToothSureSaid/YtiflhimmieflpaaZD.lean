/- Merged: W109, W110, W111, W112, W113, W114, W115, W116, W117. -/
import Derived.Test.YtiflhimmieflpaaW56
import Derived.Test.YtiflhimmieflpaaW64
import Derived.Test.YtiflhimmieflpaaZC
import Derived.Test.YtiflhimmieflpaaW87
import Derived.Test.YtiflhimmieflpaaZB
import Derived.Test.YtiflhimmieflpaaZA
import Derived.Test.YtiflhimmieflpaaUntil

/- Pure facts: the places of Most are in order, apart, on the blade, and each of them is surely sound. -/
namespace Go.Proofs.Ytiflhimmieflpaa
open Go.RowKit Go.Maps

def Behind (st ac : Int) (p q : Int × Int) : Prop := (p.1 = q.1 ∧ p.2 + st ≤ q.2) ∨ p.1 + ac ≤ q.1
theorem layoutGo_pw (S : Sawing) (n : Nat) (st : Int) (hK : ∀ x, (LL S (n + 1 - S.long.toNat) x).Pairwise (fun a b => a + st ≤ b)) : ∀ f x, (layoutGo S n f x).Pairwise (Behind st (stepN S)) ∧ ∀ p ∈ layoutGo S n f x, ∃ z : Nat, x ≤ z ∧ z < n ∧ p.1 = z ∧ p.2 ∈ LL S (n + 1 - S.long.toNat) z
  | 0, x => ⟨List.Pairwise.nil, fun p hp => absurd hp (by simp [layoutGo])⟩
  | f + 1, x => by
    unfold layoutGo
    split
    · rename_i hx
      split
      · obtain ⟨h1, h2⟩ := layoutGo_pw S n st hK f (x + 1)
        exact ⟨h1, fun p hp => by obtain ⟨z, a, b⟩ := h2 p hp; exact ⟨z, by omega, b⟩⟩
      · obtain ⟨h1, h2⟩ := layoutGo_pw S n st hK f (x + stepN S)
        have hc : ∀ p ∈ colPlaces S n x, p.1 = x ∧ p.2 ∈ LL S (n + 1 - S.long.toNat) x := fun p hp => by
          obtain ⟨y, hy, rfl⟩ := List.mem_map.1 hp
          exact ⟨rfl, hy⟩
        refine ⟨List.pairwise_append.2 ⟨?_, h1, fun p hp q hq => ?_⟩, fun p hp => ?_⟩
        · unfold colPlaces
          rw [List.pairwise_map]
          exact (hK x).imp fun h => .inl ⟨rfl, h⟩
        · obtain ⟨e, -⟩ := hc p hp
          obtain ⟨z, hz, -, e2, -⟩ := h2 q hq
          exact .inr (by rw [e, e2]; omega)
        · rcases List.mem_append.1 hp with hp | hp
          · obtain ⟨e, hm⟩ := hc p hp
            exact ⟨x, by omega, hx, e, hm⟩
          · obtain ⟨z, a, b⟩ := h2 p hp
            exact ⟨z, by omega, b⟩
    · exact ⟨List.Pairwise.nil, fun p hp => absurd hp (by simp)⟩
section
variable {B : Bl} {s : Sw}
theorem LL_places (hok : B.Ok) (hs : s.Ok) (hc : B.cerr = 0) (hb : B.bot.length = B.n) (ht : B.top.length = B.n') (x : Nat) :
    (LL (B.worst s) (B.n + 1 - s.long.toNat) x).Pairwise (fun a b => a + (s.wide + s.kerf) ≤ b) ∧ ∀ y ∈ LL (B.worst s) (B.n + 1 - s.long.toNat) x, (x : Int) + s.long ≤ B.n ∧ 0 ≤ y ∧ y ≤ 300 ∧ soundS (B.worst s) x y = true := by
  obtain ⟨l, hl⟩ := Int.eq_ofNat_of_zero_le (show 0 ≤ s.long by have := hs.l1; omega)
  have hl1 := hs.l1
  have e : s.long.toNat = l := by omega
  rw [e]
  by_cases hx : x + l ≤ B.n
  · rw [← ref_LL (TA := none) (TB := none) (K := none) (c := 0) (c' := 0) (d := 0) hok hs hc hb ht hl x hx]
    have hst : 1 ≤ stV s := by unfold stV; have := hs.w1; omega
    have hst2 : (stV s : Int) = s.wide + s.kerf := by unfold stV; have := hs.w1; have := hs.k1; omega
    unfold refBlockL
    refine ⟨?_, fun y hy => ?_⟩
    · rw [List.pairwise_map]
      exact (gl_apart hst 301 0 (by omega)).imp fun h => by omega
    · obtain ⟨z, hz, rfl⟩ := List.mem_map.1 hy
      obtain ⟨h1, h2, -⟩ := gl_mem hst 301 0 (by omega) z hz
      unfold fineV at h1
      rw [sound_sure hs hc z] at h1
      exact ⟨by omega, by omega, by omega, h1⟩
  · have e : LL (B.worst s) (B.n + 1 - l) x = [] := by unfold LL; rw [if_neg (by omega)]
    rw [e]
    exact ⟨List.Pairwise.nil, fun y hy => absurd hy (by simp)⟩
/-- The places of Most. -/
theorem layout_places (hok : B.Ok) (hs : s.Ok) (hc : B.cerr = 0) (hb : B.bot.length = B.n) (ht : B.top.length = B.n') :
    (layoutL (B.worst s) B.n).Pairwise (Behind (s.wide + s.kerf) (s.long + s.across)) ∧ ∀ p ∈ layoutL (B.worst s) B.n, ∃ z : Nat, p.1 = z ∧ (z : Int) + s.long ≤ B.n ∧ 0 ≤ p.2 ∧ p.2 ≤ 300 ∧ soundS (B.worst s) z p.2 = true := by
  have h := layoutGo_pw (B.worst s) B.n (s.wide + s.kerf) (fun x => (LL_places hok hs hc hb ht x).1) (B.n + 1) 0
  have e : (stepN (B.worst s) : Int) = s.long + s.across := by
    have := hs.l1
    have := hs.a1
    show ((s.long.toNat + s.across.toNat : Nat) : Int) = _
    omega
  rw [e] at h
  refine ⟨h.1, fun p hp => ?_⟩
  obtain ⟨z, -, -, e1, hm⟩ := h.2 p hp
  exact ⟨z, e1, (LL_places hok hs hc hb ht z).2 _ hm⟩
end
end Go.Proofs.Ytiflhimmieflpaa

/- Pure facts: what is surely sound is sound in the truth; no layout of Most is faulty. -/
namespace Go.Proofs.Ytiflhimmieflpaa
open Go.RowKit Go.Maps

/-- Cracks as they truly are: each in its spans. -/
structure RealOf (cr : List Crack) (ck : List Tri) : Prop where
  len : ck.length = cr.length
  at_ : ∀ i, i < cr.length → (cr.getD i Crack.zero).cl ≤ (ck.getD i (0, 0, 0)).1 ∧ (ck.getD i (0, 0, 0)).1 ≤ (cr.getD i Crack.zero).ch ∧ (cr.getD i Crack.zero).fl ≤ (ck.getD i (0, 0, 0)).2.1 ∧ (ck.getD i (0, 0, 0)).2.1 ≤ (cr.getD i Crack.zero).fh ∧ (cr.getD i Crack.zero).tl ≤ (ck.getD i (0, 0, 0)).2.2 ∧ (ck.getD i (0, 0, 0)).2.2 ≤ (cr.getD i Crack.zero).th
theorem window (xs : List Int) (x l j : Nat) (h : j < l) : ((xs.drop x).take l).getD j 0 = xs.getD (x + j) 0 := by
  simp [List.getD, h, List.getElem?_drop]
theorem map_getD2 (xs : List (Int × Int)) (i : Nat) : (xs.map (·.2)).getD i 0 = (xs.getD i (0, 0)).2 ∧ (xs.map (·.1)).getD i 0 = (xs.getD i (0, 0)).1 := by
  simp only [List.getD, List.getElem?_map]
  cases xs[i]? with
  | none => simp
  | some v => simp
theorem sound_truth {B : Bl} {L H : Nat → Int} {s : Sw} {lo hi : List Int} {ck : List Tri} (hF : BF B L H) (hs : s.Ok) (hlo : ∀ i, i < B.n → lo.getD i 0 = L i) (hhi : ∀ i, i < B.n → hi.getD i 0 = H i) (hck : RealOf B.cr ck) {z y : Nat} (hz : (z : Int) + s.long ≤ B.n)
    (h : soundS (B.worst s) z y = true) : soundT lo hi ck s.long s.wide z y = true := by
  have hl1 := hs.l1
  unfold soundS at h
  simp only [Bool.and_eq_true, decide_eq_true_eq] at h
  obtain ⟨⟨h1, h2⟩, h3⟩ := h
  have h1 : maxTo (((B.worst s).bottom.drop z).take s.long.toNat) (s.long.toNat - 1) ≤ y := h1
  have h2 : (y : Int) + s.wide ≤ minTo (((B.worst s).top.drop z).take s.long.toNat) (s.long.toNat - 1) := h2
  rw [maxTo_le] at h1
  rw [le_minTo] at h2
  refine soundT_all (fun i hi2 => ?_) fun i hi2 => ?_
  · have a := h1 i (by omega)
    have b := h2 i (by omega)
    rw [window _ _ _ _ (by omega)] at a b
    have e1 : (B.worst s).bottom = (bentL B.bot B.bend).map (·.2) := rfl
    have e2 : (B.worst s).top = (bentL B.top B.bend).map (·.1) := rfl
    rw [e1, (map_getD2 _ _).1] at a
    rw [e2, (map_getD2 _ _).2] at b
    have c := truth_bent hF.tb (z + i) (by rw [hF.lb]; omega)
    have d := truth_bent hF.tt (z + i) (by rw [hF.lt]; omega)
    unfold colT
    rw [hlo _ (by omega), hhi _ (by omega), Bool.and_eq_true, decide_eq_true_eq, decide_eq_true_eq]
    omega
  · rw [hck.len] at hi2
    have e3 : (B.worst s).splits = B.cr.map worstSplit := rfl
    rw [e3] at h3
    unfold noneOf at h3
    rw [List.all_eq_true] at h3
    have a := h3 (worstSplit B.cr[i]) (List.mem_map.2 ⟨_, List.getElem_mem hi2, rfl⟩)
    have e4 : B.cr.getD i Crack.zero = B.cr[i] := by simp [List.getD, hi2]
    have b := hck.at_ i hi2
    rw [e4] at b
    have e5 : (B.worst s).long = s.long := rfl
    have e6 : (B.worst s).wide = s.wide := rfl
    unfold spoilB worstSplit at a
    rw [e5, e6] at a
    simp only [Bool.not_eq_true', Bool.and_eq_false_iff, decide_eq_false_iff_not] at a
    unfold crkT
    simp only [Bool.and_eq_false_iff, decide_eq_false_iff_not]
    omega
end Go.Proofs.Ytiflhimmieflpaa

/- Pure facts: more places are sound, so more sticks; Most is never more than Possible. -/
namespace Go.Proofs.Ytiflhimmieflpaa
open Go.RowKit Go.Maps

theorem count_sound {B B' : Bl} {s : Sw} (hn : B'.n = B.n) (hs : s.Ok) (hc : B.cerr = 0) (hc' : B'.cerr = 0) (hb : B.bot.length = B.n) (ht : B.top.length = B.n') (hb' : B'.bot.length = B'.n) (ht' : B'.top.length = B'.n')
    (h : ∀ x y : Nat, (x : Int) + s.long ≤ B.n → soundS (B.worst s) x y = true → soundS (B'.worst s) x y = true) : countL (B.worst s) B.n ≤ countL (B'.worst s) B.n := by
  obtain ⟨l, hl⟩ := Int.eq_ofNat_of_zero_le (show 0 ≤ s.long by have := hs.l1; omega)
  have hl1 : 1 ≤ l := by have := hs.l1; omega
  refine ahead_wide (B.worst s) (B'.worst s) B.n rfl (by show 1 ≤ s.long.toNat + s.across.toNat; omega) (fun x => ?_) B.n 0 (by omega)
  by_cases hx : x + l ≤ B.n
  · have e1 := ref_LL (TA := none) (TB := none) (K := none) (c := 0) (c' := 0) (d := 0) (curveErr_ok hc) hs hc hb ht hl x hx
    have e2 := ref_LL (TA := none) (TB := none) (K := none) (c := 0) (c' := 0) (d := 0) (curveErr_ok hc') hs hc' hb' ht' hl x (by rw [hn]; exact hx)
    rw [hn] at e2
    unfold bn
    rw [show (B.worst s).long = s.long from rfl, show (B'.worst s).long = s.long from rfl, hl, Int.toNat_natCast, ← e1, ← e2]
    unfold refBlockL
    rw [List.length_map, List.length_map]
    refine gcount_more hs fun y hf => ?_
    unfold fineV at hf ⊢
    rw [sound_sure hs hc] at hf
    rw [sound_sure hs hc']
    exact h x y (by omega) hf
  · rw [bn_end _ _ x l (show (B.worst s).long = l from hl) (by omega)]
    exact Nat.zero_le _
/-- What is surely sound is sound in the best truth, whatever the columns of the cracks. -/
theorem sound_best {B : Bl} {s : Sw} {xs : List Int} (hc : B.cerr = 0) (hs : s.Ok) (hb : B.bot.length = B.n) (ht : B.top.length = B.n') (hx : xs ∈ colsFrom B.cr []) {x y : Nat} (hxl : (x : Int) + s.long ≤ B.n) (h : soundS (B.worst s) x y = true) : soundS (B.bestX s xs) x y = true := by
  have hl1 := hs.l1
  obtain ⟨e1, -, -, e4, e5, e6, e7⟩ := curveErr_parts hc
  have b0 := (edgesOk_in e4).1.1
  have hlo := truth_lows b0 e6
  have hhi := truth_highs b0 e7
  obtain ⟨r, e, hrl, hr⟩ := colsFrom_in _ _ _ hx
  rw [List.nil_append] at e
  subst e
  unfold soundS at h ⊢
  simp only [Bool.and_eq_true, decide_eq_true_eq] at h ⊢
  obtain ⟨⟨h1, h2⟩, h3⟩ := h
  have h1 : maxTo (((B.worst s).bottom.drop x).take s.long.toNat) (s.long.toNat - 1) ≤ y := h1
  have h2 : (y : Int) + s.wide ≤ minTo (((B.worst s).top.drop x).take s.long.toNat) (s.long.toNat - 1) := h2
  rw [maxTo_le] at h1
  rw [le_minTo] at h2
  refine ⟨⟨?_, ?_⟩, ?_⟩
  · show maxTo (((B.bestX s xs).bottom.drop x).take s.long.toNat) (s.long.toNat - 1) ≤ y
    rw [maxTo_le]
    intro j hj
    have a := h1 j hj
    rw [window _ _ _ _ (by omega)] at a ⊢
    have q1 : (B.worst s).bottom = (bentL B.bot B.bend).map (·.2) := rfl
    have q2 : (B.bestX s xs).bottom = (bentL B.bot B.bend).map (·.1) := rfl
    rw [q1, (map_getD2 _ _).1] at a
    rw [q2, (map_getD2 _ _).2]
    have := truth_bent hlo (x + j) (by omega)
    omega
  · show (y : Int) + s.wide ≤ minTo (((B.bestX s xs).top.drop x).take s.long.toNat) (s.long.toNat - 1)
    rw [le_minTo]
    intro j hj
    have a := h2 j hj
    rw [window _ _ _ _ (by omega)] at a ⊢
    have q1 : (B.worst s).top = (bentL B.top B.bend).map (·.1) := rfl
    have q2 : (B.bestX s xs).top = (bentL B.top B.bend).map (·.2) := rfl
    rw [q1, (map_getD2 _ _).2] at a
    rw [q2, (map_getD2 _ _).1]
    have := truth_bent hhi (x + j) (by omega)
    omega
  · have q1 : (B.worst s).splits = B.cr.map worstSplit := rfl
    have q2 : (B.bestX s xs).splits = (bestCracks xs B.cr).map worstSplit := by rw [← worst_tight xs hc]; rfl
    rw [q2]
    rw [q1] at h3
    unfold noneOf at h3 ⊢
    rw [List.all_eq_true] at h3 ⊢
    intro k hk
    obtain ⟨k2, hk2, rfl⟩ := List.mem_map.1 hk
    have hk' : k2 ∈ List.zipWith bestCrack xs B.cr := hk2
    obtain ⟨i, hi, rfl⟩ := List.getElem_of_mem hk'
    rw [List.getElem_zipWith]
    have hi2 : i < B.cr.length := by simp at hi; omega
    have hi1 : i < xs.length := by omega
    rw [List.any_eq_false] at e5
    have o := crackOk_in (by simpa using e5 _ (List.getElem_mem hi2))
    have a := h3 (worstSplit B.cr[i]) (List.mem_map.2 ⟨_, List.getElem_mem hi2, rfl⟩)
    have b := hr i hi2
    have g1 : B.cr.getD i Crack.zero = B.cr[i] := by simp [List.getD, hi2]
    have g2 : xs.getD i 0 = xs[i] := by simp [List.getD, hi1]
    rw [g1, g2] at b
    have f : worstSplit (bestCrack xs[i] B.cr[i]) = ⟨xs[i], xs[i], B.cr[i].fh, B.cr[i].tl⟩ := rfl
    rw [f]
    have l1 : (B.worst s).long = s.long := rfl
    have l2 : (B.worst s).wide = s.wide := rfl
    have l3 : (B.bestX s xs).long = s.long := rfl
    have l4 : (B.bestX s xs).wide = s.wide := rfl
    unfold spoilB worstSplit at a
    unfold spoilB
    rw [l1, l2] at a
    rw [l3, l4]
    simp only [Bool.not_eq_true', Bool.and_eq_false_iff, decide_eq_false_iff_not] at a ⊢
    omega
theorem possTo_ge {B : Bl} {s : Sw} : ∀ (l : List (List Int)) (a : Int × List Int), a.1 ≤ (l.foldl (possStep B s) a).1 ∧ ∀ x ∈ l, countL (B.bestX s x) B.n ≤ (l.foldl (possStep B s) a).1
  | [], a => ⟨Int.le_refl _, fun x hx => absurd hx (by simp)⟩
  | x :: l, a => by
    obtain ⟨h1, h2⟩ := possTo_ge (B := B) (s := s) l (possStep B s a x)
    have h3 : a.1 ≤ (possStep B s a x).1 ∧ countL (B.bestX s x) B.n ≤ (possStep B s a x).1 := by
      unfold possStep
      split
      · exact ⟨by dsimp only; omega, Int.le_refl _⟩
      · exact ⟨Int.le_refl _, by omega⟩
    rw [List.foldl_cons]
    refine ⟨by omega, fun z hz => ?_⟩
    rcases List.mem_cons.1 hz with rfl | hz
    · omega
    · exact h2 z hz
/-- Most is never more than Possible. -/
theorem count_possible {B : Bl} {s : Sw} (hc : B.cerr = 0) (hs : s.Ok) (hb : B.bot.length = B.n) (ht : B.top.length = B.n') : countL (B.worst s) B.n ≤ (possTo B s (colsFrom B.cr [])).1 := by
  obtain ⟨e1, -, -, -, -, -, -⟩ := curveErr_parts hc
  have hp := colsFrom_pos B.cr [] (err_cracks hc)
  obtain ⟨xs, hx⟩ : ∃ xs, xs ∈ colsFrom B.cr [] := ⟨_, List.getElem_mem hp⟩
  have h := (possTo_ge (B := B) (s := s) (colsFrom B.cr []) (-1, [])).2 xs hx
  have h2 := count_sound (B := B) (B' := B.tight xs) (s := s) rfl hs hc (tight_cerr hb ht hc hx) hb ht (by simp [Bl.tight, lowsL, bentL_length, hb]) (by simp [Bl.tight, highsL, bentL_length, ht]) (fun x y hxl hsd => by
    rw [worst_tight xs hc]
    exact sound_best hc hs hb ht hx hxl hsd)
  rw [worst_tight xs hc] at h2
  unfold possTo
  omega
end Go.Proofs.Ytiflhimmieflpaa

/- Pure facts: Fault finds nothing in a layout of Most; Possible's columns. -/
namespace Go.Proofs.Ytiflhimmieflpaa
open Go.RowKit Go.Maps

/-- Places that lie behind one another, each of them sound: none is wrong. -/
theorem wrong_none {B : Bl} {s : Sw} (hs : s.Ok) {ps : List (Int × Int)} (hp : ps.Pairwise (Behind (s.wide + s.kerf) (s.long + s.across))) (hm : ∀ p ∈ ps, soundS (B.worst s) p.1.toNat p.2 = true) {k : Nat} (hk : k < ps.length) : wrongS (B.worst s) ps k = false := by
  have w1 := hs.w1
  have k1 := hs.k1
  have l1 := hs.l1
  have a1 := hs.a1
  have e : ps.getD k (0, 0) = ps[k] := by simp [List.getD, hk]
  unfold wrongS
  rw [Bool.or_eq_false_iff]
  refine ⟨?_, List.any_eq_false.2 fun q hq => ?_⟩
  · rw [e, hm _ (List.getElem_mem hk)]; rfl
  · obtain ⟨i, hi, rfl⟩ := List.getElem_of_mem hq
    rw [List.length_take] at hi
    rw [List.getElem_take]
    have h := List.pairwise_iff_getElem.1 hp i k (by omega) hk (by omega)
    rw [e]
    unfold apartB
    show ¬ (!(if ps[k].1 = ps[i].1 then decide (s.wide + s.kerf ≤ max (ps[k].2 - ps[i].2) (ps[i].2 - ps[k].2)) else decide (s.long + s.across ≤ max (ps[k].1 - ps[i].1) (ps[i].1 - ps[k].1)))) = true
    rcases h with ⟨h1, h2⟩ | h1
    · rw [if_pos h1.symm]
      simp only [Bool.not_eq_true', decide_eq_false_iff_not, Classical.not_not]
      omega
    · rw [if_neg (by omega)]
      simp only [Bool.not_eq_true', decide_eq_false_iff_not, Classical.not_not]
      omega
theorem possTo_mem {B : Bl} {s : Sw} : ∀ (l : List (List Int)) (a : Int × List Int), (l.foldl (possStep B s) a).2 = a.2 ∨ (l.foldl (possStep B s) a).2 ∈ l
  | [], a => .inl rfl
  | x :: l, a => by
    rw [List.foldl_cons]
    rcases possTo_mem l (possStep B s a x) with h | h
    · rw [h]
      unfold possStep
      split
      · exact .inr (by simp)
      · exact .inl rfl
    · exact .inr (by simp [h])
/-- Possible names a column for each crack. -/
theorem possTo_cols {B : Bl} {s : Sw} (hc : B.cerr = 0) (hn : B.n ≤ 30) : (possTo B s (colsFrom B.cr [])).2.length = B.cr.length := by
  have hp := colsFrom_pos B.cr [] (err_cracks hc)
  obtain ⟨x, l, e⟩ : ∃ x l, colsFrom B.cr [] = x :: l := by
    cases h : colsFrom B.cr [] with
    | nil => rw [h] at hp; exact absurd hp (by simp)
    | cons x l => exact ⟨x, l, rfl⟩
  have hl : ∀ q ∈ colsFrom B.cr [], q.length = B.cr.length := fun q hq => by rw [colsFrom_each _ _ _ hq]; simp
  rw [e] at hl ⊢
  unfold possTo
  rw [List.foldl_cons]
  have h1 : possStep B s (-1, []) x = (countL (B.bestX s x) B.n, x) := by
    unfold possStep
    rw [if_pos (by have := (countL_in (B.bestX s x) B.n hn).1; dsimp only; omega)]
  rw [h1]
  rcases possTo_mem (B := B) (s := s) l (countL (B.bestX s x) B.n, x) with h | h
  · rw [h]; exact hl x (by simp)
  · exact hl _ (by simp [h])
end Go.Proofs.Ytiflhimmieflpaa

/- Pure facts: the places of Most, as the law ToothSure asks of them. -/
namespace Go.Proofs.Ytiflhimmieflpaa
open Go.RowKit Go.Maps

theorem behind_abs {st ac : Int} {p q : Int × Int} (hst : 0 ≤ st) (hac : 1 ≤ ac) (h : Behind st ac p q) : (absI q.1 p.1 = 0 → st ≤ absI q.2 p.2) ∧ (0 < absI q.1 p.1 → ac ≤ absI q.1 p.1) := by
  unfold absI
  rcases h with ⟨h1, h2⟩ | h1
  · refine ⟨fun _ => ?_, fun h => ?_⟩
    · split <;> omega
    · split at h <;> omega
  · refine ⟨fun h => ?_, fun _ => ?_⟩
    · split at h <;> omega
    · split <;> omega
theorem behind_order {st ac : Int} {p q : Int × Int} (hst : 1 ≤ st) (hac : 1 ≤ ac) (h : Behind st ac p q) : p.1 ≤ q.1 ∧ (q.1 = p.1 → p.2 < q.2) := by
  rcases h with ⟨h1, h2⟩ | h1
  · exact ⟨by omega, fun _ => by omega⟩
  · exact ⟨by omega, fun h => by omega⟩
theorem gaps_len {st : Int} (h8 : 8 ≤ st) : ∀ (l : List Int) (c : Int), c ≤ 308 → l.Pairwise (fun a b => a + st ≤ b) → (∀ y ∈ l, c ≤ y ∧ y ≤ 300) → (l.length : Int) * 8 ≤ 308 - c
  | [], c, hc, _, _ => by simp; omega
  | a :: l, c, hc, hp, hm => by
    obtain ⟨h1, h2⟩ := List.pairwise_cons.1 hp
    have ha := hm a (by simp)
    have h := gaps_len h8 l (a + 8) (by omega) h2 fun y hy => ⟨by have := h1 y hy; omega, (hm y (by simp [hy])).2⟩
    simp only [List.length_cons]
    omega
/-- Ten columns, and sticks that are eight wide: no more than 400. -/
theorem count_400 {B : Bl} {s : Sw} (hok : B.Ok) (hs : s.Ok) (hc : B.cerr = 0) (hb : B.bot.length = B.n) (ht : B.top.length = B.n') (hn : B.n ≤ 10) (h8 : 8 ≤ s.wide) : countL (B.worst s) B.n ≤ 400 := by
  have k1 := hs.k1
  have hB : ∀ x, bn (B.worst s) B.n x ≤ 38 := fun x => by
    obtain ⟨h1, h2⟩ := LL_places hok hs hc hb ht x
    have h := gaps_len (st := s.wide + s.kerf) (by omega) _ 0 (by omega) h1 fun y hy => ⟨(h2 y hy).2.1, (h2 y hy).2.2.1⟩
    have e : bn (B.worst s) B.n x = (LL (B.worst s) (B.n + 1 - s.long.toNat) x).length := rfl
    rw [e]
    omega
  have h := (aheadAt_in (B.worst s) B.n 38 hB B.n 0).2
  unfold countL
  have : 38 * B.n ≤ 380 := by omega
  omega
end Go.Proofs.Ytiflhimmieflpaa

/- Pure facts: Most is never more than Bound. -/
namespace Go.Proofs.Ytiflhimmieflpaa
open Go.RowKit Go.Maps

theorem sums_mono (S : Sawing) (n l c k : Nat) : ∀ d, sumsAt S n l k c ≤ sumsAt S n l (k + d) c
  | 0 => Int.le_refl _
  | d + 1 => by
    have h := sums_mono S n l c k d
    have e : sumsAt S n l (k + (d + 1)) c = if c = (k + d) % l then sumsAt S n l (k + d) c + (bn S n (k + d) : Int) else sumsAt S n l (k + d) c := rfl
    rw [e]
    split <;> omega
theorem sums_window (S : Sawing) (n l c x : Nat) (hc : c < l) : ∃ k, x ≤ k ∧ k < x + l ∧ sumsAt S n l x c + (bn S n k : Int) ≤ sumsAt S n l (x + l) c := by
  obtain ⟨k, h1, h2, h3⟩ : ∃ k, x ≤ k ∧ k < x + l ∧ c = k % l := by
    have hm : x % l < l := Nat.mod_lt _ (by omega)
    have hd := Nat.div_add_mod x l
    by_cases e : x % l ≤ c
    · refine ⟨x + (c - x % l), by omega, by omega, ?_⟩
      rw [show x + (c - x % l) = c + l * (x / l) by omega, Nat.add_mul_mod_self_left, Nat.mod_eq_of_lt hc]
    · refine ⟨x + (c + l - x % l), by omega, by omega, ?_⟩
      rw [show x + (c + l - x % l) = c + l * (x / l + 1) by rw [Nat.mul_add]; omega, Nat.add_mul_mod_self_left, Nat.mod_eq_of_lt hc]
  refine ⟨k, h1, h2, ?_⟩
  have a := sums_mono S n l c x (k - x)
  have b := sums_mono S n l c (k + 1) (x + l - (k + 1))
  rw [show x + (k - x) = k by omega] at a
  rw [show k + 1 + (x + l - (k + 1)) = x + l by omega] at b
  have e : sumsAt S n l (k + 1) c = sumsAt S n l k c + (bn S n k : Int) := by
    show (if c = k % l then _ else _) = _
    rw [if_pos h3]
  omega
theorem ahead_bound (S S1 : Sawing) (n l c : Nat) (hl : S.long = l) (h1 : 1 ≤ l) (hst : l ≤ stepN S) (hb : ∀ x k, x ≤ k → k < x + l → x + l ≤ n → bn S n x ≤ bn S1 n k) (hc : c < l) : ∀ d x, n - x ≤ d → x ≤ n → aheadAt S n n x + sumsAt S1 n l x c ≤ sumsAt S1 n l n c
  | 0, x, hd, hx => by
    obtain rfl : x = n := by omega
    rw [ahead_end S x x (Nat.le_refl _)]
    omega
  | d + 1, x, hd, hx => by
    by_cases e : x = n
    · subst e
      rw [ahead_end S x x (Nat.le_refl _)]
      omega
    · have hlt : x < n := by omega
      rw [ahead_step S n x (by omega) hlt]
      have i1 := ahead_bound S S1 n l c hl h1 hst hb hc d (x + 1) (by omega) (by omega)
      have m1 := sums_mono S1 n l c x 1
      by_cases hxl : x + l ≤ n
      · obtain ⟨k, k1, k2, k3⟩ := sums_window S1 n l c x hc
        have b := hb x k k1 k2 hxl
        by_cases hs : x + stepN S ≤ n
        · have i2 := ahead_bound S S1 n l c hl h1 hst hb hc d (x + stepN S) (by omega) hs
          have m2 := sums_mono S1 n l c (x + l) (stepN S - l)
          rw [show x + l + (stepN S - l) = x + stepN S by omega] at m2
          omega
        · rw [ahead_end S n (x + stepN S) (by omega)]
          have m2 := sums_mono S1 n l c (x + l) (n - (x + l))
          rw [show x + l + (n - (x + l)) = n by omega] at m2
          omega
      · rw [bn_end S n x l hl (by omega), ahead_end S n (x + stepN S) (by omega)]
        have m2 := sums_mono S1 n l c x (n - x)
        rw [show x + (n - x) = n by omega] at m2
        omega
/-- A stick that is surely sound holds a thin one in each of its columns. -/
theorem sound_thin {B : Bl} {s : Sw} (hs : s.Ok) {x k y : Nat} (h1 : x ≤ k) (h2 : (k : Int) < x + s.long) (h : soundS (B.worst s) x y = true) : soundS (B.worst s.one) k y = true := by
  have hl1 := hs.l1
  unfold soundS at h ⊢
  simp only [Bool.and_eq_true, decide_eq_true_eq] at h ⊢
  obtain ⟨⟨a1, a2⟩, a3⟩ := h
  have a1 : maxTo (((B.worst s).bottom.drop x).take s.long.toNat) (s.long.toNat - 1) ≤ y := a1
  have a2 : (y : Int) + s.wide ≤ minTo (((B.worst s).top.drop x).take s.long.toNat) (s.long.toNat - 1) := a2
  rw [maxTo_le] at a1
  rw [le_minTo] at a2
  have b1 := a1 (k - x) (by omega)
  have b2 := a2 (k - x) (by omega)
  rw [window _ _ _ _ (by omega), show x + (k - x) = k by omega] at b1 b2
  refine ⟨⟨?_, ?_⟩, ?_⟩
  · show maxTo (((B.worst s).bottom.drop k).take 1) 0 ≤ y
    rw [maxTo_le]
    intro j hj
    obtain rfl : j = 0 := by omega
    rw [window _ _ _ _ (by omega)]
    exact b1
  · show (y : Int) + s.wide ≤ minTo (((B.worst s).top.drop k).take 1) 0
    rw [le_minTo]
    intro j hj
    obtain rfl : j = 0 := by omega
    rw [window _ _ _ _ (by omega)]
    exact b2
  · unfold noneOf at a3 ⊢
    rw [List.all_eq_true] at a3 ⊢
    intro q hq
    have a := a3 q hq
    have l1 : (B.worst s).long = s.long := rfl
    have l2 : (B.worst s).wide = s.wide := rfl
    have l3 : (B.worst s.one).long = 1 := rfl
    have l4 : (B.worst s.one).wide = s.wide := rfl
    unfold spoilB at a ⊢
    rw [l1, l2] at a
    rw [l3, l4]
    simp only [Bool.not_eq_true', Bool.and_eq_false_iff, decide_eq_false_iff_not] at a ⊢
    omega
section
variable {B : Bl} {s : Sw}
theorem bn_thin (hok : B.Ok) (hs : s.Ok) (hc : B.cerr = 0) (hb : B.bot.length = B.n) (ht : B.top.length = B.n') {l x k : Nat} (hl : s.long = l) (h1 : x ≤ k) (h2 : k < x + l) (h3 : x + l ≤ B.n) : bn (B.worst s) B.n x ≤ bn (B.worst s.one) B.n k := by
  have e1 := ref_LL (TA := none) (TB := none) (K := none) (c := 0) (c' := 0) (d := 0) hok hs hc hb ht hl x h3
  have e2 := ref_LL (TA := none) (TB := none) (K := none) (c := 0) (c' := 0) (d := 0) hok hs.one hc hb ht (l := 1) rfl k (by omega)
  have d1 : bn (B.worst s) B.n x = (LL (B.worst s) (B.n + 1 - s.long.toNat) x).length := rfl
  have d2 : bn (B.worst s.one) B.n k = (LL (B.worst s.one) (B.n + 1 - 1) k).length := rfl
  rw [d1, d2, hl, Int.toNat_natCast, ← e1, ← e2]
  unfold refBlockL
  rw [List.length_map, List.length_map]
  have hst : 1 ≤ stV s := by unfold stV; have := hs.w1; omega
  refine gcount_most (fine := fineV (sureV B none none none 0 0 0) s.one k) hst (gl (fineV (sureV B none none none 0 0 0) s x) (stV s) 0) 0 (fun z hz => ?_) (gl_apart hst 301 0 (by omega))
  obtain ⟨f1, f2, f3⟩ := gl_mem hst 301 0 (by omega) z hz
  refine ⟨?_, f2, f3⟩
  unfold fineV at f1 ⊢
  rw [sound_sure hs hc] at f1
  rw [sound_sure hs.one hc]
  exact sound_thin hs h1 (by omega) f1
/-- Most is never more than Bound. -/
theorem count_bound (hok : B.Ok) (hs : s.Ok) (hc : B.cerr = 0) (hb : B.bot.length = B.n) (ht : B.top.length = B.n') : countL (B.worst s) B.n ≤ boundL B s := by
  obtain ⟨l, hl⟩ := Int.eq_ofNat_of_zero_le (show 0 ≤ s.long by have := hs.l1; omega)
  have hl1 : 1 ≤ l := by have := hs.l1; omega
  unfold boundL
  rw [le_minTo]
  intro j hj
  rw [hl, Int.toNat_natCast] at hj ⊢
  have hjl : j < l := by omega
  have e : (sumsL (B.worst s.one) B.n l).getD j 0 = sumsAt (B.worst s.one) B.n l B.n j := by simp [sumsL, List.getD, hjl]
  rw [e]
  have h := ahead_bound (B.worst s) (B.worst s.one) B.n l j hl hl1 (by show l ≤ s.long.toNat + s.across.toNat; omega) (fun x k a b c => bn_thin hok hs hc hb ht hl a b c) hjl B.n 0 (by omega) (by omega)
  unfold countL
  have z : sumsAt (B.worst s.one) B.n l 0 j = 0 := rfl
  omega
end
end Go.Proofs.Ytiflhimmieflpaa

/- Pure facts: what a tusk's blade truly is lies in its spans. -/
namespace Go.Proofs.Ytiflhimmieflpaa
open Go.RowKit Go.Maps

theorem real_of {T : Tk} {m : Nat} (h : (((List.range m).map fun i => T.crackL i T.len).any fun k => !crackOk T.len k) = false) : RealOf ((List.range m).map fun i => T.crackL i T.len) ((List.range m).map fun i => T.realL i T.len) := by
  refine ⟨by simp, fun i hi => ?_⟩
  have him : i < m := by simpa using hi
  have e1 : ((List.range m).map fun i => T.crackL i T.len).getD i Crack.zero = T.crackL i T.len := by simp [List.getD, him]
  have e2 : ((List.range m).map fun i => T.realL i T.len).getD i (0, 0, 0) = T.realL i T.len := by simp [List.getD, him]
  rw [e1, e2]
  rw [List.any_eq_false] at h
  have o := crackOk_in (by simpa using h (T.crackL i T.len) (List.mem_map.2 ⟨i, List.mem_range.2 him, rfl⟩))
  have a1 := Int.emod_nonneg (T.cb i 5) (show (T.crackL i T.len).ch - (T.crackL i T.len).cl + 1 ≠ 0 by omega)
  have a2 := Int.emod_lt_of_pos (T.cb i 5) (show 0 < (T.crackL i T.len).ch - (T.crackL i T.len).cl + 1 by omega)
  have b1 := Int.emod_nonneg (T.cb i 4) (show (T.crackL i T.len).fh - (T.crackL i T.len).fl + 1 ≠ 0 by omega)
  have b2 := Int.emod_lt_of_pos (T.cb i 4) (show 0 < (T.crackL i T.len).fh - (T.crackL i T.len).fl + 1 by omega)
  have c1 := Int.emod_nonneg (T.cb i 1) (show (T.crackL i T.len).th - (T.crackL i T.len).tl + 1 ≠ 0 by omega)
  have c2 := Int.emod_lt_of_pos (T.cb i 1) (show 0 < (T.crackL i T.len).th - (T.crackL i T.len).tl + 1 by omega)
  unfold Tk.realL
  dsimp only
  omega
end Go.Proofs.Ytiflhimmieflpaa

/- Walks: Most, Bound and Possible of a valid blade. -/
namespace Go.Proofs.Ytiflhimmieflpaa
open Go.RowKit Go.Maps

theorem most_list (B : Bl) (s : Sw) (w : World) (h : B.At w) (hc : B.cerr = 0) (hs : s.Ok) : Calls Try.prog 34 #[B.val, s.val] w fun e w' => ∃ A c, e = .returned (.tuple #[.slice A (layoutL (B.worst s) B.n).length c, .int .i64 0]) ∧ Pairs w' A (layoutL (B.worst s) B.n).length (layoutL (B.worst s) B.n) ∧ Below w.heap.size w w' := by
  refine (Most_any B s w h).mono ?_
  rintro e w' ⟨hb, ⟨he, _⟩ | ⟨_, v, rfl, hown⟩⟩
  · exact absurd (saw_err hc hs) he
  · obtain ⟨A, c, rfl⟩ := own_slice hown
    exact ⟨A, c, rfl, (reads_of_own hown).r, hb⟩
theorem possible_ok (B : Bl) (s : Sw) (w : World) (h : B.At w) (hc : B.cerr = 0) (hs : s.Ok) : Calls Try.prog 42 #[B.val, s.val] w fun e w' => ∃ A c, e = .returned (.tuple #[.int .i64 (possTo B s (colsFrom B.cr [])).1, .slice A (possTo B s (colsFrom B.cr [])).2.length c, .int .i64 0]) ∧ Below w.heap.size w w' := by
  refine (Possible_any B s w h).mono ?_
  rintro e w' ⟨hb, ⟨he, _⟩ | ⟨_, v, rfl, hown⟩⟩
  · exact absurd (saw_err hc hs) he
  · obtain ⟨A, c, rfl⟩ := own_slice hown
    exact ⟨A, c, rfl, hb⟩
theorem bound_ok (B : Bl) (s : Sw) (w : World) (h : B.At w) (hc : B.cerr = 0) (hs : s.Ok) : Calls Try.prog 40 #[B.val, s.val] w fun e w' => e = .returned (.tuple #[.int .i64 (boundL B s), .int .i64 (classL B s), .int .i64 0]) ∧ Below w.heap.size w w' := by
  refine (Bound_any B s w h).mono ?_
  rintro e w' ⟨hb, ⟨he, _⟩ | ⟨_, rfl⟩⟩
  · exact absurd (saw_err hc hs) he
  · exact ⟨rfl, hb⟩
theorem fault_ok (B : Bl) (s : Sw) (A : Option Addr) (n c : Nat) (ps : List (Int × Int)) (w : World) (h : B.At w) (hp : Pairs w A n ps) (hc : B.cerr = 0) (hs : s.Ok) (hn : n ≤ 400) (hcn : n ≤ c) (hh : holdsB B.n s.long ps = true) (hw : ∀ k, k < n → wrongS (B.worst s) ps k = false) : Calls Try.prog 38 #[B.val, s.val, .slice A n c] w fun e w' => e = .returned (.tuple #[.int .i64 0, .int .i64 7]) ∧ Below w.heap.size w w' := by
  refine (Fault_any B s A n c ps w h hp (by unfold maxLen; omega) hcn).mono ?_
  rintro e w' ⟨hb, hx⟩
  rcases hx with ⟨e, _⟩ | ⟨_, e, _⟩ | ⟨_, _, e, _⟩ | ⟨_, _, _, ⟨k, r1, r2, r3, e⟩ | ⟨_, e⟩⟩
  · exact absurd (saw_err hc hs) e
  · omega
  · rw [hh] at e; exact absurd e (by decide)
  · rw [hw k r1] at r2; exact absurd r2 (by decide)
  · exact ⟨e, hb⟩
end Go.Proofs.Ytiflhimmieflpaa

/- Walks: the law ToothSure. -/
namespace Go.Proofs.Ytiflhimmieflpaa
open Go.RowKit Go.Maps

theorem fault_none (B : Bl) (s : Sw) (A : Option Addr) (n cp : Nat) (ps : List (Int × Int)) (w : World) (h : B.At w) (hp : Pairs w A n ps) (hn : n ≤ 400) (hcp : n ≤ cp) (hc : B.cerr = 0) (hs : s.Ok) (hv : ∀ p ∈ ps, ∃ z : Nat, p.1 = z ∧ (z : Int) + s.long ≤ B.n ∧ 0 ≤ p.2 ∧ p.2 ≤ 300) (hw : ∀ j, j < n → wrongS (B.worst s) ps j = false) : Calls Try.prog 38 #[B.val, s.val, .slice A n cp] w fun e w' => e = .returned (.tuple #[.int .i64 0, .int .i64 7]) ∧ Below w.heap.size w w' := by
  refine (Fault_any B s A n cp ps w h hp (by unfold maxLen; omega) hcp).mono fun e w' hr => ?_
  obtain ⟨hb, h1 | h1 | h1 | ⟨_, _, _, ⟨k, hk, hq, _, _⟩ | ⟨_, he⟩⟩⟩ := hr
  · exact absurd (saw_err hc hs) h1.1
  · omega
  · have hh : holdsB B.n s.long ps = true := by
      unfold holdsB noneOf
      rw [List.all_eq_true]
      intro p hp
      obtain ⟨z, e1, e2, e3, e4⟩ := hv p hp
      simp [placeOk, within]
      omega
    rw [hh] at h1
    exact absurd h1.2.2.1 (by decide)
  · rw [hw k hk] at hq
    exact absurd hq (by decide)
  · exact ⟨he, hb⟩
theorem most_list_like {B B' : Bl} (hl : B.Like B') (s : Sw) (w : World) (h : B'.At w) (hc : B.cerr = 0) (hs : s.Ok) : Calls Try.prog 34 #[B'.val, s.val] w fun e w' => ∃ A c, e = .returned (.tuple #[.slice A (layoutL (B.worst s) B.n).length c, .int .i64 0]) ∧ Pairs w' A (layoutL (B.worst s) B.n).length (layoutL (B.worst s) B.n) ∧ Below w.heap.size w w' := by
  have q := most_list B' s w h (by rw [hl.cerr]; exact hc) hs
  rw [hl.worst, hl.n] at q
  exact q
theorem possible_like {B B' : Bl} (hl : B.Like B') (s : Sw) (w : World) (h : B'.At w) (hc : B.cerr = 0) (hs : s.Ok) : Calls Try.prog 42 #[B'.val, s.val] w fun e w' => ∃ A c, e = .returned (.tuple #[.int .i64 (possTo B s (colsFrom B.cr [])).1, .slice A (possTo B s (colsFrom B.cr [])).2.length c, .int .i64 0]) ∧ Below w.heap.size w w' := by
  have q := possible_ok B' s w h (by rw [hl.cerr]; exact hc) hs
  rw [hl.cr, hl.possTo] at q
  exact q
theorem bound_like {B B' : Bl} (hl : B.Like B') (s : Sw) (w : World) (h : B'.At w) (hc : B.cerr = 0) (hs : s.Ok) : Calls Try.prog 40 #[B'.val, s.val] w fun e w' => e = .returned (.tuple #[.int .i64 (boundL B s), .int .i64 (classL B s), .int .i64 0]) ∧ Below w.heap.size w w' := by
  have q := bound_ok B' s w h (by rw [hl.cerr]; exact hc) hs
  rw [hl.boundL, hl.classL] at q
  exact q
set_option maxRecDepth 100000 in
set_option maxHeartbeats 8000000 in
theorem ToothSure_any (T : Tk) (w : World) (h : T.At w) : Calls Try.prog 12 #[T.val] w (Yes w) := by
  have B0 := Lib.hid (Blk.new w 83 #[.slice T.A T.n T.c, .int .u8 T.bend, .slice T.K T.m T.d, .int .u8 T.s0, .int .u8 T.s1, .int .u8 T.s2, .int .u8 T.s3] (g := w.heap.size) rfl)
  have b0 := B0.out.cell
  have D0 := Lib.hid (below_self w (.cells #[.slice T.A T.n T.c, .int .u8 T.bend, .slice T.K T.m T.d, .int .u8 T.s0, .int .u8 T.s1, .int .u8 T.s2, .int .u8 T.s3] 83))
  have HB := Lib.hid (tusk_blade T _ (h.below D0.out))
  have HBF := Lib.hid (fun A A' K ca ca' m cd (hm : m ≤ 3) => Tk.bf h.bc h.bk A A' K ca ca' m cd hm)
  have HKN := Lib.hid (fun W => known_any W)
  clear h
  unfold Tk.val at *
  go_enter Try.func12, Try.ntmps12
  go_wp2_with fail
  refine HB.out.mono ?_
  rintro e w1 ⟨A, A', K, K', ca, ca', cd, cd', m, g1, g2, c1, c2, rfl, hm, p1, p2, sp, q1, q2, o1, o2, hg, b1⟩
  obtain ⟨B, hB⟩ : ∃ B, B = T.blade A A' K ca ca' m cd := ⟨_, rfl⟩
  obtain ⟨s, hs⟩ : ∃ s : Sw, s = ⟨1 + T.s0 % 4, 8 + T.s1 % 40, T.s2 % 6, T.s3 % 3⟩ := ⟨_, rfl⟩
  have k0 : 1 + T.s0 % 4 = s.long := by rw [hs]
  have k1 : 8 + T.s1 % 40 = s.wide := by rw [hs]
  have k2 : T.s2 % 6 = s.kerf := by rw [hs]
  have k3 : T.s3 % 3 = s.across := by rw [hs]
  have HSO : Hid s.Ok := ⟨by omega, by omega, by omega, by omega, by omega, by omega, by omega, by omega⟩
  have HW8 : Hid (8 ≤ s.wide) := by show (8 : Int) ≤ s.wide; omega
  have HMM : Hid (m = B.m) := by rw [hB]; rfl
  have hn : T.len = B.n := by rw [hB]; rfl
  have HF : Hid (BF B T.low T.high) := by rw [hB]; exact HBF.out A A' K ca ca' m cd (by omega)
  have hn10 := HF.out.n10
  have hm3 := HF.out.m3
  have HAT : Hid (B.At w1) := by
    have e1 : B.n ≤ maxLen := by unfold maxLen; omega
    have e2 : B.m ≤ maxLen := by unfold maxLen; omega
    rw [hB] at e1 e2 ⊢
    exact ⟨(reads_of_own p1).r, (reads_of_own p2).r, (reads_of_own q1).r, e1, e1, e2⟩
  have I1 : Hid (Ints w1 (some ⟨g1, 0, none⟩) B.n ((List.range B.n).map T.low)) := by rw [← hn]; exact (reads_of_own o1).r
  have HRK : Hid (∀ W, Below w1.heap.size w1 W → Reads W 3 K' B.m (flat3 ((List.range m).map fun i => T.realL i T.len))) := fun W hb => by rw [hB]; exact (reads_of_own q2).r.below hb
  have HRO : Hid (RealOf B.cr ((List.range m).map fun i => T.realL i T.len)) := by
    have q := HF.out.ck
    rw [hB] at q ⊢
    exact real_of q
  have I2 : Hid (Ints w1 (some ⟨g2, 0, none⟩) B.n ((List.range B.n).map T.high)) := by rw [← hn]; exact (reads_of_own o2).r
  have D1 := Lib.hid (below_then D0.out b1)
  rw [← hB, hn, k0, k1, k2, k3]
  generalize ((List.range m).map fun i => T.realL i T.len) = ck at *
  generalize T.low = L at *
  generalize T.high = H at *
  clear p1 p2 sp q1 q2 o1 o2 hg b1 hB hs k0 k1 k2 k3 hn hm hn10 hm3 HB HBF b0 B0 D0
  have E3 : Hid (Below w1.heap.size w1 (((w1.alloc (.cells #[.slice B.A B.n B.c, .slice B.A' B.n' B.c', .int .i64 B.bend, .slice B.K B.m B.d] 25)).alloc (.cells #[.int .i64 s.long, .int .i64 s.wide, .int .i64 s.kerf, .int .i64 s.across] 37)).alloc (.cells #[.slice (some ⟨g1, 0, none⟩) B.n c1, .slice (some ⟨g2, 0, none⟩) B.n c2, .slice K' m cd'] 86))) := below_alloc' (below_alloc' (below_self _ _) _) _
  have C3 : Hid (CV w B L H w1.heap.size g1 c1 g2 c2 (.slice K' m cd') #[.int .i64 s.long, .int .i64 s.wide, .int .i64 s.kerf, .int .i64 s.across] (((w1.alloc (.cells #[.slice B.A B.n B.c, .slice B.A' B.n' B.c', .int .i64 B.bend, .slice B.K B.m B.d] 25)).alloc (.cells #[.int .i64 s.long, .int .i64 s.wide, .int .i64 s.kerf, .int .i64 s.across] 37)).alloc (.cells #[.slice (some ⟨g1, 0, none⟩) B.n c1, .slice (some ⟨g2, 0, none⟩) B.n c2, .slice K' m cd'] 86))) :=
    ⟨((Blk.new _ _ _ rfl).alloc _).alloc _, (Blk.new _ _ _ (by simp)).alloc _, Blk.new _ _ _ (by simp), HAT.out.below E3.out, I1.out.below E3.out, I2.out.below E3.out, below_then D1.out E3.out⟩
  have HR3 := Lib.hid (HRK.out _ E3.out)
  clear HAT I1 I2 D1 E3
  unfold Bl.val
  go_upto_region 2 with (fail)
  generalize (((w1.alloc (.cells #[.slice B.A B.n B.c, .slice B.A' B.n' B.c', .int .i64 B.bend, .slice B.K B.m B.d] 25)).alloc (.cells #[.int .i64 s.long, .int .i64 s.wide, .int .i64 s.kerf, .int .i64 s.across] 37)).alloc (.cells #[.slice (some ⟨g1, 0, none⟩) B.n c1, .slice (some ⟨g2, 0, none⟩) B.n c2, .slice K' m cd'] 86)) = w3 at *
  generalize w1.heap.size = gb at *
  have N2 := Lib.hid (C3.out.below (Below.refl _ _).drew)
  have HR2 := Lib.hid (Reads.below HR3.out (Below.refl _ _).drew)
  have HOW := Lib.hid (fun W (hc : CV w B L H gb g1 c1 g2 c2 (.slice K' m cd') #[.int .i64 s.long, .int .i64 s.wide, .int .i64 s.kerf, .int .i64 s.across] W) => own_any B W hc.at_ (by have := HF.out.n10; omega) (by have := HF.out.n10; have := HF.out.nn; omega) (by have := HF.out.m3; omega))
  unfold Bl.val at HOW
  have HMO := Lib.hid (fun (B' : Bl) (hl : B.Like B') W (hat : B'.At W) => most_list_like hl s W hat HF.out.ok HSO.out)
  have HBO := Lib.hid (fun (B' : Bl) (hl : B.Like B') W (hat : B'.At W) => bound_like hl s W hat HF.out.ok HSO.out)
  have HPO := Lib.hid (fun (B' : Bl) (hl : B.Like B') W (hat : B'.At W) => possible_like hl s W hat HF.out.ok HSO.out)
  unfold Sw.val at HMO HBO HPO
  clear C3
  go_region_held3 (fun W => (W.cell? ⟨gb, 0, none⟩ = some (.slice B.A B.n B.c) ∧ W.cell? ⟨gb, 1, none⟩ = some (.slice B.A' B.n' B.c') ∧ W.cell? ⟨gb, 2, none⟩ = some (.int .i64 B.bend) ∧ W.cell? ⟨gb, 3, none⟩ = some (.slice B.K B.m B.d)) ∧ W.cell? ⟨gb + 1, 0, none⟩ = some (.int .i64 s.long) ∧ W.cell? ⟨gb + 1, 1, none⟩ = some (.int .i64 s.wide) ∧ W.cell? ⟨gb + 1, 2, none⟩ = some (.int .i64 s.kerf) ∧ W.cell? ⟨gb + 1, 3, none⟩ = some (.int .i64 s.across)) (first | with_reducible exact N2.out.get8 | with_reducible exact N3.out.get8 | with_reducible exact N4.out.get8)
    (first
      | (go_at_call 52; refine (HOW.out _ N2.out).mono ?_; rintro e W3 ⟨B3, rfl, hl, hat, b3, -⟩; have N3 := Lib.hid (N2.out.below b3); have HR3 := Lib.hid (Reads.below HR2.out b3); have HM3 := Lib.hid (HMO.out B3 hl W3 hat); clear hl hat b3)
      | (go_at_call 34; refine HM3.out.mono ?_; rintro e W4 ⟨A4, c4, rfl, hp4, b4⟩; have N4 := Lib.hid (N3.out.below b4); have HP4 := Lib.hid hp4; have HR4 := Lib.hid (Reads.below HR3.out b4); clear hp4 b4))
  clear HM3 N3 N2
  go_upto_region 3 with (fail)
  have N5 := Lib.hid (N4.out.below (Below.refl _ _).drew)
  have HR5 := Lib.hid (Reads.below HR4.out (Below.refl _ _).drew)
  have HQ5 := Lib.hid (Reads.below HP4.out (Below.refl _ _).drew)
  go_region_held3 (fun W => (W.cell? ⟨gb, 0, none⟩ = some (.slice B.A B.n B.c) ∧ W.cell? ⟨gb, 1, none⟩ = some (.slice B.A' B.n' B.c') ∧ W.cell? ⟨gb, 2, none⟩ = some (.int .i64 B.bend) ∧ W.cell? ⟨gb, 3, none⟩ = some (.slice B.K B.m B.d)) ∧ W.cell? ⟨gb + 1, 0, none⟩ = some (.int .i64 s.long) ∧ W.cell? ⟨gb + 1, 1, none⟩ = some (.int .i64 s.wide) ∧ W.cell? ⟨gb + 1, 2, none⟩ = some (.int .i64 s.kerf) ∧ W.cell? ⟨gb + 1, 3, none⟩ = some (.int .i64 s.across)) (first | with_reducible exact N5.out.get8 | with_reducible exact N6.out.get8 | with_reducible exact N7.out.get8)
    (first
      | (go_at_call 52; refine (HOW.out _ N5.out).mono ?_; rintro e W6 ⟨B6, rfl, hl, hat, b6, -⟩; have N6 := Lib.hid (N5.out.below b6); have HR6 := Lib.hid (Reads.below HR5.out b6); have HQ6 := Lib.hid (Reads.below HQ5.out b6); have HM6 := Lib.hid (HBO.out B6 hl W6 hat); clear hl hat b6)
      | (go_at_call 40; refine HM6.out.mono ?_; rintro e W7 ⟨rfl, b7⟩; have N7 := Lib.hid (N6.out.below b7); have HQ7 := Lib.hid (Reads.below HQ6.out b7); have HR7 := Lib.hid (Reads.below HR6.out b7); clear b7))
  clear HM6 N6 N5
  go_upto_region 4 with (fail)
  have N8 := Lib.hid (N7.out.below (Below.refl _ _).drew)
  have HR8 := Lib.hid (Reads.below HR7.out (Below.refl _ _).drew)
  have HQ8 := Lib.hid (Reads.below HQ7.out (Below.refl _ _).drew)
  go_region_held3 (fun W => (W.cell? ⟨gb, 0, none⟩ = some (.slice B.A B.n B.c) ∧ W.cell? ⟨gb, 1, none⟩ = some (.slice B.A' B.n' B.c') ∧ W.cell? ⟨gb, 2, none⟩ = some (.int .i64 B.bend) ∧ W.cell? ⟨gb, 3, none⟩ = some (.slice B.K B.m B.d)) ∧ W.cell? ⟨gb + 1, 0, none⟩ = some (.int .i64 s.long) ∧ W.cell? ⟨gb + 1, 1, none⟩ = some (.int .i64 s.wide) ∧ W.cell? ⟨gb + 1, 2, none⟩ = some (.int .i64 s.kerf) ∧ W.cell? ⟨gb + 1, 3, none⟩ = some (.int .i64 s.across)) (first | with_reducible exact N8.out.get8 | with_reducible exact N9.out.get8 | with_reducible exact N10.out.get8)
    (first
      | (go_at_call 52; refine (HOW.out _ N8.out).mono ?_; rintro e W9 ⟨B9, rfl, hl, hat, b9, -⟩; have N9 := Lib.hid (N8.out.below b9); have HR9 := Lib.hid (Reads.below HR8.out b9); have HQ9 := Lib.hid (Reads.below HQ8.out b9); have HM9 := Lib.hid (HPO.out B9 hl W9 hat); clear hl hat b9)
      | (go_at_call 42; refine HM9.out.mono ?_; rintro e W10 ⟨A10, c10, rfl, b10⟩; have N10 := Lib.hid (N9.out.below b10); have HQ10 := Lib.hid (Reads.below HQ9.out b10); have HR10 := Lib.hid (Reads.below HR9.out b10); clear b10))
  clear HM9 N9 N8
  go_upto_region 5 with (fail)
  have hct := HF.out.ok
  have hok : B.Ok := curveErr_ok hct
  have hbl := HF.out.lb
  have htl : B.top.length = B.n' := by rw [HF.out.lt, HF.out.nn]
  have hn10 := HF.out.n10
  have hlen := layout_len hok HSO.out hct hbl htl
  have f1 : ((layoutL (B.worst s) B.n).length : Int) ≤ 400 := by rw [hlen]; exact count_400 hok HSO.out hct hbl htl hn10 HW8.out
  have f2 : ((layoutL (B.worst s) B.n).length : Int) ≤ boundL B s := by rw [hlen]; exact count_bound hok HSO.out hct hbl htl
  have f3 : ((layoutL (B.worst s) B.n).length : Int) ≤ (possTo B s (colsFrom B.cr [])).1 := by rw [hlen]; exact count_possible hct HSO.out hbl htl
  have f4 : (possTo B s (colsFrom B.cr [])).2.length = B.m := by rw [possTo_cols hct (by omega)]; exact N10.out.at_.hk.len
  obtain ⟨hpw, hpm⟩ := layout_places hok HSO.out hct hbl htl
  have HPW := Lib.hid hpw
  have HPM := Lib.hid hpm
  clear hct hok hbl htl hlen hpw hpm HMO HBO HPO HP4 HQ5 HQ7 HQ8 N4 N7
  generalize layoutL (B.worst s) B.n = ps at *
  generalize possTo B s (colsFrom B.cr []) = P at *
  obtain ⟨pn, px⟩ := P
  dsimp only at *
  generalize boundL B s = bd at *
  generalize classL B s = cl at *
  rw [f4] at *
  clear f4
  have HAT : Hid (∀ k, k < ps.length → ∃ z : Nat, (ps.getD k (0, 0)).1 = z ∧ (z : Int) + s.long ≤ B.n ∧ 0 ≤ (ps.getD k (0, 0)).2 ∧ (ps.getD k (0, 0)).2 ≤ 300 ∧ soundS (B.worst s) z (ps.getD k (0, 0)).2 = true) := fun k hk => by
    have e : ps.getD k (0, 0) = ps[k] := by simp [List.getD, hk]
    rw [e]
    exact HPM.out _ (List.getElem_mem hk)
  have HBH : Hid (∀ i k, k < i → i < ps.length → Behind (s.wide + s.kerf) (s.long + s.across) (ps.getD k (0, 0)) (ps.getD i (0, 0))) := fun i k h1 h2 => by
    have hk : k < ps.length := by omega
    have e1 : ps.getD k (0, 0) = ps[k] := by simp [List.getD, hk]
    have e2 : ps.getD i (0, 0) = ps[i] := by simp [List.getD, h2]
    rw [e1, e2]
    exact List.pairwise_iff_getElem.1 HPW.out k i (by omega) h2 h1
  have so := HSO.out
  have s1 := so.l1
  have s2 := so.l2
  have s3 := so.w1
  have s4 := so.w2
  have s5 := so.k1
  have s6 := so.k2
  have s7 := so.a1
  have s8 := so.a2
  have HVA := Lib.hid (fun W (hp : Pairs W A4 ps.length ps) => valid_ok A4 ps.length c4 ps B.n s W hp (by omega) ⟨by omega, by omega⟩ (by omega) (fun k hk => by
    obtain ⟨z, e1, e2, e3, e4, -⟩ := HAT.out k hk
    rw [e1]
    exact ⟨by omega, e2, e3, e4⟩))
  have HAP := Lib.hid (fun W (hp : Pairs W A4 ps.length ps) => apart_ok A4 ps.length c4 ps s W hp (by omega) ⟨by omega, by omega⟩ ⟨by omega, by omega⟩ ⟨by omega, by omega⟩ ⟨by omega, by omega⟩ (fun k hk => by
    obtain ⟨z, e1, e2, e3, e4, -⟩ := HAT.out k hk
    rw [e1]
    exact ⟨by omega, by omega, e3, by omega⟩) (fun i k h1 h2 => behind_abs (by omega) (by omega) (HBH.out i k h1 h2)))
  unfold Sw.val at HVA HAP
  clear so s1 s2 s3 s4 s5 s6 s7 s8
  have t1 : ¬ (400 : Int) < (ps.length : Int) := by omega
  have t2 : ¬ bd < (ps.length : Int) := by omega
  have t3 : ¬ pn < (ps.length : Int) := by omega
  have n10g := N10.out.get8
  go_wp2_with fail
  refine (HVA.out _ HQ10.out).mono ?_
  rintro e W11 ⟨rfl, b11⟩
  have N11 := Lib.hid (N10.out.below b11)
  have HR11 := Lib.hid (Reads.below HR10.out b11)
  have HQ11 := Lib.hid (Reads.below HQ10.out b11)
  clear b11 HVA n10g N10 HQ10
  have n11g := N11.out.get8
  go_wp2_with fail
  refine (HAP.out _ HQ11.out).mono ?_
  rintro e W12 ⟨rfl, b12⟩
  have N12 := Lib.hid (N11.out.below b12)
  have HR12 := Lib.hid (Reads.below HR11.out b12)
  have HQ12 := Lib.hid (Reads.below HQ11.out b12)
  clear b12 HAP n11g N11 HQ11
  go_wp2_with fail
  have HSD : Hid (∀ (z y : Nat) W, (z : Int) + s.long ≤ B.n → y ≤ 300 → soundS (B.worst s) z y = true → CV w B L H gb g1 c1 g2 c2 (.slice K' B.m cd') #[.int .i64 s.long, .int .i64 s.wide, .int .i64 s.kerf, .int .i64 s.across] W → Reads W 3 K' B.m (flat3 ck) → Calls Try.prog 55 #[.agg #[.slice (some ⟨g1, 0, none⟩) B.n c1, .slice (some ⟨g2, 0, none⟩) B.n c2, .slice K' B.m cd'], s.val, .agg #[.int .i64 z, .int .i64 y]] W fun e w' => e = .returned (.bool true) ∧ Below W.heap.size W w') := fun z y W e1 e2 e3 hv hr => by
    have so := HSO.out
    have s1 := so.l1
    have s2 := so.l2
    have s3 := so.w1
    have s4 := so.w2
    have hm3 := HF.out.m3
    have q := soundT_any (some ⟨g1, 0, none⟩) (some ⟨g2, 0, none⟩) K' B.n c1 c2 B.m cd' ((List.range B.n).map L) ((List.range B.n).map H) ck s z y W hv.i1 hv.i2 hr (by rw [HRO.out.len]; exact hv.at_.hk.len) (by omega) (by omega) ⟨by omega, by omega⟩ ⟨by omega, by omega⟩ e1 (by omega)
    rw [sound_truth HF.out so (fun i hi => by simp [List.getD, hi]) (fun i hi => by simp [List.getD, hi]) HRO.out e1 e3] at q
    exact q
  unfold Sw.val at HSD
  go_loopw [14] (fun iv wr => ∃ k : Nat, k ≤ ps.length ∧ iv = .int .i64 k ∧ CV w B L H gb g1 c1 g2 c2 (.slice K' B.m cd') #[.int .i64 s.long, .int .i64 s.wide, .int .i64 s.kerf, .int .i64 s.across] wr ∧ Pairs wr A4 ps.length ps ∧ Reads wr 3 K' B.m (flat3 ck)) (fun iv _ => ps.length - (intOf iv).toNat)
  case atStart => exact ⟨0, Nat.zero_le _, rfl, by rw [← HMM.out]; exact N12.out, HQ12.out, HR12.out⟩
  case round =>
    obtain ⟨k, hk, rfl, hv, hp, hr⟩ := hrel
    have NL := Lib.hid hv
    have PL := Lib.hid hp
    have RL := Lib.hid hr
    clear hv hp hr N12 HQ12 HR12
    by_cases hlt : k < ps.length
    · have hlt2 : (k : Int) < (ps.length : Int) := by omega
      have ND := Lib.hid (NL.out.below (Below.refl _ _).drew)
      have RD := Lib.hid (Reads.below RL.out (Below.refl _ _).drew)
      have PD := Lib.hid (Reads.below PL.out (Below.refl _ _).drew)
      obtain ⟨b, off, hA, -, q0, q1⟩ := Pairs.at_ PD.out hlt
      subst hA
      obtain ⟨j, hj⟩ : ∃ j, j = k - 1 := ⟨_, rfl⟩
      obtain ⟨b', off', hA, -, q2, q3⟩ := Pairs.at_ PD.out (show j < ps.length by omega)
      simp only [Option.some.injEq, Addr.mk.injEq, and_true] at hA
      obtain ⟨rfl, rfl⟩ := hA
      obtain ⟨z, e1, e2, e3, e4, e5⟩ := HAT.out k hlt
      have HOR : Hid (0 < k → (ps.getD j (0, 0)).1 ≤ (ps.getD k (0, 0)).1 ∧ ((ps.getD k (0, 0)).1 = (ps.getD j (0, 0)).1 → (ps.getD j (0, 0)).2 < (ps.getD k (0, 0)).2)) := fun h => behind_order (by have := HSO.out.w1; have := HSO.out.k1; omega) (by have := HSO.out.l1; have := HSO.out.a1; omega) (HBH.out k j (by omega) hlt)
      rw [e1] at q0 HOR
      generalize (ps.getD k (0, 0)).2 = y0 at *
      obtain ⟨y, rfl⟩ := Int.eq_ofNat_of_zero_le e3
      generalize (ps.getD j (0, 0)).1 = xj at *
      generalize (ps.getD j (0, 0)).2 = yj at *
      have HSZ := Lib.hid (fun W hv hr => HSD.out z y W e2 (by omega) e5 hv hr)
      have K1 : Hid ((fun W => (W.cell? ⟨gb + 1 + 1, 0, none⟩ = some (.slice (some ⟨g1, 0, none⟩) B.n c1) ∧ W.cell? ⟨gb + 1 + 1, 1, none⟩ = some (.slice (some ⟨g2, 0, none⟩) B.n c2) ∧ W.cell? ⟨gb + 1 + 1, 2, none⟩ = some (.slice K' B.m cd')) ∧ (W.cell? ⟨gb + 1, 0, none⟩ = some (.int .i64 s.long) ∧ W.cell? ⟨gb + 1, 1, none⟩ = some (.int .i64 s.wide) ∧ W.cell? ⟨gb + 1, 2, none⟩ = some (.int .i64 s.kerf) ∧ W.cell? ⟨gb + 1, 3, none⟩ = some (.int .i64 s.across)) ∧ (W.cell? ⟨b, off + k * 2, none⟩ = some (.int .i64 (z : Int)) ∧ W.cell? ⟨b, off + k * 2 + 1, none⟩ = some (.int .i64 (y : Int))) ∧ W.cell? ⟨b, off + j * 2, none⟩ = some (.int .i64 xj) ∧ W.cell? ⟨b, off + j * 2 + 1, none⟩ = some (.int .i64 yj)) wr.drew) := ⟨⟨ND.out.rl.cell 0, ND.out.rl.cell 1, ND.out.rl.cell 2⟩, ⟨ND.out.sl.cell 0, ND.out.sl.cell 1, ND.out.sl.cell 2, ND.out.sl.cell 3⟩, ⟨q0, q1⟩, q2, q3⟩
      clear q0 q1 q2 q3 e1 e2 e3 e4 e5
      by_cases hk0 : k = 0
      · have hk1 : ¬ (0 : Int) < (k : Int) := by omega
        have HK0 := Lib.hid hk0
        clear hk0 hj
        go_upto_region 10 with (fail)
        have S10 : (fun W => (W.cell? ⟨gb + 1 + 1, 0, none⟩ = some (.slice (some ⟨g1, 0, none⟩) B.n c1) ∧ W.cell? ⟨gb + 1 + 1, 1, none⟩ = some (.slice (some ⟨g2, 0, none⟩) B.n c2) ∧ W.cell? ⟨gb + 1 + 1, 2, none⟩ = some (.slice K' B.m cd')) ∧ (W.cell? ⟨gb + 1, 0, none⟩ = some (.int .i64 s.long) ∧ W.cell? ⟨gb + 1, 1, none⟩ = some (.int .i64 s.wide) ∧ W.cell? ⟨gb + 1, 2, none⟩ = some (.int .i64 s.kerf) ∧ W.cell? ⟨gb + 1, 3, none⟩ = some (.int .i64 s.across)) ∧ (W.cell? ⟨b, off + k * 2, none⟩ = some (.int .i64 (z : Int)) ∧ W.cell? ⟨b, off + k * 2 + 1, none⟩ = some (.int .i64 (y : Int))) ∧ W.cell? ⟨b, off + j * 2, none⟩ = some (.int .i64 xj) ∧ W.cell? ⟨b, off + j * 2 + 1, none⟩ = some (.int .i64 yj)) wr.drew := K1.out
        refine wp_region_untl (S := (fun W => (W.cell? ⟨gb + 1 + 1, 0, none⟩ = some (.slice (some ⟨g1, 0, none⟩) B.n c1) ∧ W.cell? ⟨gb + 1 + 1, 1, none⟩ = some (.slice (some ⟨g2, 0, none⟩) B.n c2) ∧ W.cell? ⟨gb + 1 + 1, 2, none⟩ = some (.slice K' B.m cd')) ∧ (W.cell? ⟨gb + 1, 0, none⟩ = some (.int .i64 s.long) ∧ W.cell? ⟨gb + 1, 1, none⟩ = some (.int .i64 s.wide) ∧ W.cell? ⟨gb + 1, 2, none⟩ = some (.int .i64 s.kerf) ∧ W.cell? ⟨gb + 1, 3, none⟩ = some (.int .i64 s.across)) ∧ (W.cell? ⟨b, off + k * 2, none⟩ = some (.int .i64 (z : Int)) ∧ W.cell? ⟨b, off + k * 2 + 1, none⟩ = some (.int .i64 (y : Int))) ∧ W.cell? ⟨b, off + j * 2, none⟩ = some (.int .i64 xj) ∧ W.cell? ⟨b, off + j * 2 + 1, none⟩ = some (.int .i64 yj))) [] (by kernel_rfl) S10 (fun _ => ?_)
        refine untlTake (i := 0) 102 (v := ?v1) rfl (by kernel_rfl) (by kernel_rfl) (by kernel_rfl) (by kernel_rfl) (by kernel_rfl) (by kernel_rfl) (fun _ _ _ h => h) (Or.inl ⟨by kernel_rfl, ?y1⟩) (by assumption) ?r1
        case y1 => (intro w hSw; obtain ⟨⟨h0, h1, h2⟩, ⟨h3, h4, h5, h6⟩, ⟨h7, h8⟩, h9, h10⟩ := hSw; go_simp; try with_reducible rfl)
        refine untlTake (i := 1) 103 (v := ?v2) rfl (by kernel_rfl) (by kernel_rfl) (by kernel_rfl) (by kernel_rfl) (by kernel_rfl) (by kernel_rfl) (fun _ _ _ h => h) (Or.inl ⟨by kernel_rfl, ?y2⟩) (by assumption) ?r2
        case y2 => (intro w hSw; obtain ⟨⟨h0, h1, h2⟩, ⟨h3, h4, h5, h6⟩, ⟨h7, h8⟩, h9, h10⟩ := hSw; go_simp; try with_reducible rfl)
        refine untlTake (i := 2) 104 (v := ?v3) rfl (by kernel_rfl) (by kernel_rfl) (by kernel_rfl) (by kernel_rfl) (by kernel_rfl) (by kernel_rfl) (fun _ _ _ h => h) (Or.inl ⟨by kernel_rfl, ?y3⟩) (by assumption) ?r3
        case y3 => (intro w hSw; obtain ⟨⟨h0, h1, h2⟩, ⟨h3, h4, h5, h6⟩, ⟨h7, h8⟩, h9, h10⟩ := hSw; go_simp; try with_reducible rfl)
        simp only [Act.put, List.setIfInBounds_toArray, List.set_cons_zero, List.set_cons_succ]
        refine untlTake (i := 3) 105 (v := ?v4) rfl (by kernel_rfl) (by kernel_rfl) (by kernel_rfl) (by kernel_rfl) (by kernel_rfl) (by kernel_rfl) (fun _ _ _ h => h) (Or.inl ⟨by kernel_rfl, ?y4⟩) (by assumption) ?r4
        case y4 => (intro w hSw; obtain ⟨⟨h0, h1, h2⟩, ⟨h3, h4, h5, h6⟩, ⟨h7, h8⟩, h9, h10⟩ := hSw; go_simp; try with_reducible rfl)
        refine untlTake (i := 4) 106 (v := ?v5) rfl (by kernel_rfl) (by kernel_rfl) (by kernel_rfl) (by kernel_rfl) (by kernel_rfl) (by kernel_rfl) (fun _ _ _ h => h) (Or.inl ⟨by kernel_rfl, ?y5⟩) (by assumption) ?r5
        case y5 => (intro w hSw; obtain ⟨⟨h0, h1, h2⟩, ⟨h3, h4, h5, h6⟩, ⟨h7, h8⟩, h9, h10⟩ := hSw; go_simp; try with_reducible rfl)
        refine untlTake (i := 5) 107 (v := ?v6) rfl (by kernel_rfl) (by kernel_rfl) (by kernel_rfl) (by kernel_rfl) (by kernel_rfl) (by kernel_rfl) (fun _ _ _ h => h) (Or.inl ⟨by kernel_rfl, ?y6⟩) (by assumption) ?r6
        case y6 => (intro w hSw; obtain ⟨⟨h0, h1, h2⟩, ⟨h3, h4, h5, h6⟩, ⟨h7, h8⟩, h9, h10⟩ := hSw; go_simp; try with_reducible rfl)
        simp only [Act.put, List.setIfInBounds_toArray, List.set_cons_zero, List.set_cons_succ]
        refine untlStep (i := 6) (by kernel_rfl) rfl (fun K6 hK6 => ?_)
        rw [if_pos (by rfl)]
        go_simp
        refine (HSZ.out _ ND.out RD.out).mono ?_
        rintro e WX ⟨rfl, bX⟩
        have EX := Lib.hid (below_then (Below.refl _ _).drew bX)
        have NX := Lib.hid (ND.out.below bX)
        have S11 : (fun W => (W.cell? ⟨gb + 1 + 1, 0, none⟩ = some (.slice (some ⟨g1, 0, none⟩) B.n c1) ∧ W.cell? ⟨gb + 1 + 1, 1, none⟩ = some (.slice (some ⟨g2, 0, none⟩) B.n c2) ∧ W.cell? ⟨gb + 1 + 1, 2, none⟩ = some (.slice K' B.m cd')) ∧ (W.cell? ⟨gb + 1, 0, none⟩ = some (.int .i64 s.long) ∧ W.cell? ⟨gb + 1, 1, none⟩ = some (.int .i64 s.wide) ∧ W.cell? ⟨gb + 1, 2, none⟩ = some (.int .i64 s.kerf) ∧ W.cell? ⟨gb + 1, 3, none⟩ = some (.int .i64 s.across)) ∧ (W.cell? ⟨b, off + k * 2, none⟩ = some (.int .i64 (z : Int)) ∧ W.cell? ⟨b, off + k * 2 + 1, none⟩ = some (.int .i64 (y : Int))) ∧ W.cell? ⟨b, off + j * 2, none⟩ = some (.int .i64 xj) ∧ W.cell? ⟨b, off + j * 2 + 1, none⟩ = some (.int .i64 yj)) WX := ⟨⟨NX.out.rl.cell 0, NX.out.rl.cell 1, NX.out.rl.cell 2⟩, ⟨NX.out.sl.cell 0, NX.out.sl.cell 1, NX.out.sl.cell 2, NX.out.sl.cell 3⟩, ⟨cell_stay bX K1.out.2.2.1.1, cell_stay bX K1.out.2.2.1.2⟩, cell_stay bX K1.out.2.2.2.1, cell_stay bX K1.out.2.2.2.2⟩
        clear bX S10
        refine hK6.out _ _ (.inr S11) ?_
        refine untlTake (i := 7) 109 (v := .bool false) rfl (by kernel_rfl) (by kernel_rfl) (by kernel_rfl) (by kernel_rfl) (by kernel_rfl) (by kernel_rfl) (fun _ _ _ h => h) (Or.inl ⟨by kernel_rfl, ?y7⟩) (by assumption) ?r7
        case y7 => (intro w hSw; obtain ⟨⟨h0, h1, h2⟩, ⟨h3, h4, h5, h6⟩, ⟨h7, h8⟩, h9, h10⟩ := hSw; go_simp; try with_reducible rfl)
        refine untlTake (i := 8) 110 (v := .bool false) rfl (by kernel_rfl) (by kernel_rfl) (by kernel_rfl) (by kernel_rfl) (by kernel_rfl) (by kernel_rfl) (fun _ _ _ h => h) (Or.inl ⟨by kernel_rfl, ?y8⟩) (by assumption) ?r8
        case y8 => (intro w hSw; obtain ⟨⟨h0, h1, h2⟩, ⟨h3, h4, h5, h6⟩, ⟨h7, h8⟩, h9, h10⟩ := hSw; go_simp; try with_reducible rfl)
        refine untlTake (i := 9) 111 (v := ?v9) rfl (by kernel_rfl) (by kernel_rfl) (by kernel_rfl) (by kernel_rfl) (by kernel_rfl) (by kernel_rfl) (fun _ _ _ h => h) (Or.inl ⟨by kernel_rfl, ?y9⟩) (by assumption) ?r9
        case y9 => (intro w hSw; obtain ⟨⟨h0, h1, h2⟩, ⟨h3, h4, h5, h6⟩, ⟨h7, h8⟩, h9, h10⟩ := hSw; go_simp; try with_reducible rfl)
        simp only [Act.put, List.setIfInBounds_toArray, List.set_cons_zero, List.set_cons_succ]
        refine untlTake (i := 10) 112 (v := .bool false) rfl (by kernel_rfl) (by kernel_rfl) (by kernel_rfl) (by kernel_rfl) (by kernel_rfl) (by kernel_rfl) (fun _ _ _ h => h) (Or.inl ⟨by kernel_rfl, ?y10⟩) (by assumption) ?r10
        case y10 => (intro w hSw; obtain ⟨⟨h0, h1, h2⟩, ⟨h3, h4, h5, h6⟩, ⟨h7, h8⟩, h9, h10⟩ := hSw; go_simp; (try (with_reducible rfl)); try (first | exact HK0.out | omega))
        refine untlTake (i := 11) 113 (v := .bool false) rfl (by kernel_rfl) (by kernel_rfl) (by kernel_rfl) (by kernel_rfl) (by kernel_rfl) (by kernel_rfl) (fun _ _ _ h => h) (Or.inl ⟨by kernel_rfl, ?y11⟩) (by assumption) ?r11
        case y11 => (intro w hSw; obtain ⟨⟨h0, h1, h2⟩, ⟨h3, h4, h5, h6⟩, ⟨h7, h8⟩, h9, h10⟩ := hSw; go_simp; try with_reducible rfl)
        refine untlTake (i := 12) 114 (v := undef) rfl (by kernel_rfl) (by kernel_rfl) (by kernel_rfl) (by kernel_rfl) (by kernel_rfl) (by kernel_rfl) (fun _ _ _ h => h) (Or.inr ⟨by kernel_rfl, rfl⟩) (by assumption) ?r12
        simp only [Act.put, List.setIfInBounds_toArray, List.set_cons_zero, List.set_cons_succ]
        refine untlTake (i := 13) 115 (v := undef) rfl (by kernel_rfl) (by kernel_rfl) (by kernel_rfl) (by kernel_rfl) (by kernel_rfl) (by kernel_rfl) (fun _ _ _ h => h) (Or.inr ⟨by kernel_rfl, rfl⟩) (by assumption) ?r13
        refine untlTake (i := 14) 116 (v := undef) rfl (by kernel_rfl) (by kernel_rfl) (by kernel_rfl) (by kernel_rfl) (by kernel_rfl) (by kernel_rfl) (fun _ _ _ h => h) (Or.inr ⟨by kernel_rfl, rfl⟩) (by assumption) ?r14
        refine untlTake (i := 15) 117 (v := undef) rfl (by kernel_rfl) (by kernel_rfl) (by kernel_rfl) (by kernel_rfl) (by kernel_rfl) (by kernel_rfl) (fun _ _ _ h => h) (Or.inr ⟨by kernel_rfl, rfl⟩) (by assumption) ?r15
        simp only [Act.put, List.setIfInBounds_toArray, List.set_cons_zero, List.set_cons_succ]
        refine untlTake (i := 16) 118 (v := undef) rfl (by kernel_rfl) (by kernel_rfl) (by kernel_rfl) (by kernel_rfl) (by kernel_rfl) (by kernel_rfl) (fun _ _ _ h => h) (Or.inr ⟨by kernel_rfl, rfl⟩) (by assumption) ?r16
        refine untlTake (i := 17) 119 (v := undef) rfl (by kernel_rfl) (by kernel_rfl) (by kernel_rfl) (by kernel_rfl) (by kernel_rfl) (by kernel_rfl) (fun _ _ _ h => h) (Or.inr ⟨by kernel_rfl, rfl⟩) (by assumption) ?r17
        refine untlTake (i := 18) 120 (v := undef) rfl (by kernel_rfl) (by kernel_rfl) (by kernel_rfl) (by kernel_rfl) (by kernel_rfl) (by kernel_rfl) (fun _ _ _ h => h) (Or.inr ⟨by kernel_rfl, rfl⟩) (by assumption) ?r18
        simp only [Act.put, List.setIfInBounds_toArray, List.set_cons_zero, List.set_cons_succ]
        refine untlTake (i := 19) 121 (v := undef) rfl (by kernel_rfl) (by kernel_rfl) (by kernel_rfl) (by kernel_rfl) (by kernel_rfl) (by kernel_rfl) (fun _ _ _ h => h) (Or.inr ⟨by kernel_rfl, rfl⟩) (by assumption) ?r19
        refine untlTake (i := 20) 122 (v := undef) rfl (by kernel_rfl) (by kernel_rfl) (by kernel_rfl) (by kernel_rfl) (by kernel_rfl) (by kernel_rfl) (fun _ _ _ h => h) (Or.inr ⟨by kernel_rfl, rfl⟩) (by assumption) ?r20
        refine untlTake (i := 21) 123 (v := undef) rfl (by kernel_rfl) (by kernel_rfl) (by kernel_rfl) (by kernel_rfl) (by kernel_rfl) (by kernel_rfl) (fun _ _ _ h => h) (Or.inr ⟨by kernel_rfl, rfl⟩) (by assumption) ?r21
        simp only [Act.put, List.setIfInBounds_toArray, List.set_cons_zero, List.set_cons_succ]
        refine untlTake (i := 22) 124 (v := undef) rfl (by kernel_rfl) (by kernel_rfl) (by kernel_rfl) (by kernel_rfl) (by kernel_rfl) (by kernel_rfl) (fun _ _ _ h => h) (Or.inr ⟨by kernel_rfl, rfl⟩) (by assumption) ?r22
        refine untlTake (i := 23) 125 (v := undef) rfl (by kernel_rfl) (by kernel_rfl) (by kernel_rfl) (by kernel_rfl) (by kernel_rfl) (by kernel_rfl) (fun _ _ _ h => h) (Or.inr ⟨by kernel_rfl, rfl⟩) (by assumption) ?r23
        refine untlTake (i := 24) 126 (v := undef) rfl (by kernel_rfl) (by kernel_rfl) (by kernel_rfl) (by kernel_rfl) (by kernel_rfl) (by kernel_rfl) (fun _ _ _ h => h) (Or.inr ⟨by kernel_rfl, rfl⟩) (by assumption) ?r24
        simp only [Act.put, List.setIfInBounds_toArray, List.set_cons_zero, List.set_cons_succ]
        refine untlTake (i := 25) 127 (v := undef) rfl (by kernel_rfl) (by kernel_rfl) (by kernel_rfl) (by kernel_rfl) (by kernel_rfl) (by kernel_rfl) (fun _ _ _ h => h) (Or.inr ⟨by kernel_rfl, rfl⟩) (by assumption) ?r25
        refine untlTake (i := 26) 128 (v := undef) rfl (by kernel_rfl) (by kernel_rfl) (by kernel_rfl) (by kernel_rfl) (by kernel_rfl) (by kernel_rfl) (fun _ _ _ h => h) (Or.inr ⟨by kernel_rfl, rfl⟩) (by assumption) ?r26
        refine untlTake (i := 27) 129 (v := undef) rfl (by kernel_rfl) (by kernel_rfl) (by kernel_rfl) (by kernel_rfl) (by kernel_rfl) (by kernel_rfl) (fun _ _ _ h => h) (Or.inr ⟨by kernel_rfl, rfl⟩) (by assumption) ?r27
        simp only [Act.put, List.setIfInBounds_toArray, List.set_cons_zero, List.set_cons_succ]
        refine untlTake (i := 28) 130 (v := undef) rfl (by kernel_rfl) (by kernel_rfl) (by kernel_rfl) (by kernel_rfl) (by kernel_rfl) (by kernel_rfl) (fun _ _ _ h => h) (Or.inr ⟨by kernel_rfl, rfl⟩) (by assumption) ?r28
        refine untlTake (i := 29) 131 (v := undef) rfl (by kernel_rfl) (by kernel_rfl) (by kernel_rfl) (by kernel_rfl) (by kernel_rfl) (by kernel_rfl) (fun _ _ _ h => h) (Or.inr ⟨by kernel_rfl, rfl⟩) (by assumption) ?r29
        refine untlTake (i := 30) 132 (v := undef) rfl (by kernel_rfl) (by kernel_rfl) (by kernel_rfl) (by kernel_rfl) (by kernel_rfl) (by kernel_rfl) (fun _ _ _ h => h) (Or.inr ⟨by kernel_rfl, rfl⟩) (by assumption) ?r30
        simp only [Act.put, List.setIfInBounds_toArray, List.set_cons_zero, List.set_cons_succ]
        refine untlTake (i := 31) 133 (v := undef) rfl (by kernel_rfl) (by kernel_rfl) (by kernel_rfl) (by kernel_rfl) (by kernel_rfl) (by kernel_rfl) (fun _ _ _ h => h) (Or.inr ⟨by kernel_rfl, rfl⟩) (by assumption) ?r31
        refine untlTake (i := 32) 134 (v := undef) rfl (by kernel_rfl) (by kernel_rfl) (by kernel_rfl) (by kernel_rfl) (by kernel_rfl) (by kernel_rfl) (fun _ _ _ h => h) (Or.inr ⟨by kernel_rfl, rfl⟩) (by assumption) ?r32
        refine untlTake (i := 33) 135 (v := undef) rfl (by kernel_rfl) (by kernel_rfl) (by kernel_rfl) (by kernel_rfl) (by kernel_rfl) (by kernel_rfl) (fun _ _ _ h => h) (Or.inr ⟨by kernel_rfl, rfl⟩) (by assumption) ?r33
        simp only [Act.put, List.setIfInBounds_toArray, List.set_cons_zero, List.set_cons_succ]
        refine untlTake (i := 34) 136 (v := undef) rfl (by kernel_rfl) (by kernel_rfl) (by kernel_rfl) (by kernel_rfl) (by kernel_rfl) (by kernel_rfl) (fun _ _ _ h => h) (Or.inr ⟨by kernel_rfl, rfl⟩) (by assumption) ?r34
        refine untlTake (i := 35) 137 (v := undef) rfl (by kernel_rfl) (by kernel_rfl) (by kernel_rfl) (by kernel_rfl) (by kernel_rfl) (by kernel_rfl) (fun _ _ _ h => h) (Or.inr ⟨by kernel_rfl, rfl⟩) (by assumption) ?r35
        refine untlTake (i := 36) 138 (v := undef) rfl (by kernel_rfl) (by kernel_rfl) (by kernel_rfl) (by kernel_rfl) (by kernel_rfl) (by kernel_rfl) (fun _ _ _ h => h) (Or.inr ⟨by kernel_rfl, rfl⟩) (by assumption) ?r36
        simp only [Act.put, List.setIfInBounds_toArray, List.set_cons_zero, List.set_cons_succ]
        refine untlTake (i := 37) 139 (v := undef) rfl (by kernel_rfl) (by kernel_rfl) (by kernel_rfl) (by kernel_rfl) (by kernel_rfl) (by kernel_rfl) (fun _ _ _ h => h) (Or.inr ⟨by kernel_rfl, rfl⟩) (by assumption) ?r37
        refine untlTake (i := 38) 140 (v := undef) rfl (by kernel_rfl) (by kernel_rfl) (by kernel_rfl) (by kernel_rfl) (by kernel_rfl) (by kernel_rfl) (fun _ _ _ h => h) (Or.inr ⟨by kernel_rfl, rfl⟩) (by assumption) ?r38
        refine untlTake (i := 39) 141 (v := undef) rfl (by kernel_rfl) (by kernel_rfl) (by kernel_rfl) (by kernel_rfl) (by kernel_rfl) (by kernel_rfl) (fun _ _ _ h => h) (Or.inr ⟨by kernel_rfl, rfl⟩) (by assumption) ?r39
        simp only [Act.put, List.setIfInBounds_toArray, List.set_cons_zero, List.set_cons_succ]
        refine untlTake (i := 40) 142 (v := undef) rfl (by kernel_rfl) (by kernel_rfl) (by kernel_rfl) (by kernel_rfl) (by kernel_rfl) (by kernel_rfl) (fun _ _ _ h => h) (Or.inr ⟨by kernel_rfl, rfl⟩) (by assumption) ?r40
        refine untlTake (i := 41) 143 (v := undef) rfl (by kernel_rfl) (by kernel_rfl) (by kernel_rfl) (by kernel_rfl) (by kernel_rfl) (by kernel_rfl) (fun _ _ _ h => h) (Or.inr ⟨by kernel_rfl, rfl⟩) (by assumption) ?r41
        refine untlTake (i := 42) 144 (v := undef) rfl (by kernel_rfl) (by kernel_rfl) (by kernel_rfl) (by kernel_rfl) (by kernel_rfl) (by kernel_rfl) (fun _ _ _ h => h) (Or.inr ⟨by kernel_rfl, rfl⟩) (by assumption) ?r42
        simp only [Act.put, List.setIfInBounds_toArray, List.set_cons_zero, List.set_cons_succ]
        refine untlTake (i := 43) 145 (v := undef) rfl (by kernel_rfl) (by kernel_rfl) (by kernel_rfl) (by kernel_rfl) (by kernel_rfl) (by kernel_rfl) (fun _ _ _ h => h) (Or.inr ⟨by kernel_rfl, rfl⟩) (by assumption) ?r43
        refine untlTake (i := 44) 146 (v := undef) rfl (by kernel_rfl) (by kernel_rfl) (by kernel_rfl) (by kernel_rfl) (by kernel_rfl) (by kernel_rfl) (fun _ _ _ h => h) (Or.inr ⟨by kernel_rfl, rfl⟩) (by assumption) ?r44
        refine untlTake (i := 45) 147 (v := undef) rfl (by kernel_rfl) (by kernel_rfl) (by kernel_rfl) (by kernel_rfl) (by kernel_rfl) (by kernel_rfl) (fun _ _ _ h => h) (Or.inr ⟨by kernel_rfl, rfl⟩) (by assumption) ?r45
        simp only [Act.put, List.setIfInBounds_toArray, List.set_cons_zero, List.set_cons_succ]
        refine untlTake (i := 46) 148 (v := undef) rfl (by kernel_rfl) (by kernel_rfl) (by kernel_rfl) (by kernel_rfl) (by kernel_rfl) (by kernel_rfl) (fun _ _ _ h => h) (Or.inr ⟨by kernel_rfl, rfl⟩) (by assumption) ?r46
        refine untlTake (i := 47) 149 (v := undef) rfl (by kernel_rfl) (by kernel_rfl) (by kernel_rfl) (by kernel_rfl) (by kernel_rfl) (by kernel_rfl) (fun _ _ _ h => h) (Or.inr ⟨by kernel_rfl, rfl⟩) (by assumption) ?r47
        refine untlTake (i := 48) 150 (v := undef) rfl (by kernel_rfl) (by kernel_rfl) (by kernel_rfl) (by kernel_rfl) (by kernel_rfl) (by kernel_rfl) (fun _ _ _ h => h) (Or.inr ⟨by kernel_rfl, rfl⟩) (by assumption) ?r48
        simp only [Act.put, List.setIfInBounds_toArray, List.set_cons_zero, List.set_cons_succ]
        refine untlTake (i := 49) 151 (v := undef) rfl (by kernel_rfl) (by kernel_rfl) (by kernel_rfl) (by kernel_rfl) (by kernel_rfl) (by kernel_rfl) (fun _ _ _ h => h) (Or.inr ⟨by kernel_rfl, rfl⟩) (by assumption) ?r49
        refine untlTake (i := 50) 152 (v := undef) rfl (by kernel_rfl) (by kernel_rfl) (by kernel_rfl) (by kernel_rfl) (by kernel_rfl) (by kernel_rfl) (fun _ _ _ h => h) (Or.inr ⟨by kernel_rfl, rfl⟩) (by assumption) ?r50
        refine untlTake (i := 51) 153 (v := undef) rfl (by kernel_rfl) (by kernel_rfl) (by kernel_rfl) (by kernel_rfl) (by kernel_rfl) (by kernel_rfl) (fun _ _ _ h => h) (Or.inr ⟨by kernel_rfl, rfl⟩) (by assumption) ?r51
        simp only [Act.put, List.setIfInBounds_toArray, List.set_cons_zero, List.set_cons_succ]
        refine untlTake (i := 52) 154 (v := .bool false) rfl (by kernel_rfl) (by kernel_rfl) (by kernel_rfl) (by kernel_rfl) (by kernel_rfl) (by kernel_rfl) (fun _ _ _ h => h) (Or.inl ⟨by kernel_rfl, ?y52⟩) (by assumption) ?r52
        case y52 => (intro w hSw; obtain ⟨⟨h0, h1, h2⟩, ⟨h3, h4, h5, h6⟩, ⟨h7, h8⟩, h9, h10⟩ := hSw; go_simp; try with_reducible rfl)
        refine untlTake (i := 53) 155 (v := .bool false) rfl (by kernel_rfl) (by kernel_rfl) (by kernel_rfl) (by kernel_rfl) (by kernel_rfl) (by kernel_rfl) (fun _ _ _ h => h) (Or.inl ⟨by kernel_rfl, ?y53⟩) (by assumption) ?r53
        case y53 => (intro w hSw; obtain ⟨⟨h0, h1, h2⟩, ⟨h3, h4, h5, h6⟩, ⟨h7, h8⟩, h9, h10⟩ := hSw; go_simp; try with_reducible rfl)
        simp only [Act.put, List.setIfInBounds_toArray, List.set_cons_zero, List.set_cons_succ]
        refine untlDone (by kernel_rfl) ?_ _
        clear S11
        go_wp2_with fail
        go_roundw
        case rel => exact ⟨k + 1, by omega, by go_num, NX.out, Reads.below PL.out EX.out, Reads.below RL.out EX.out⟩
        case measure => simp [intOf]; omega
      · have hk1 : (0 : Int) < (k : Int) := by omega
        have wj : IntKind.i64.wrap ((k : Int) - 1) = (j : Int) := by rw [IntWalk.i64_in _ (by omega)]; omega
        have hjn : (j : Int) < (ps.length : Int) := by omega
        obtain ⟨o1, o2⟩ := HOR.out (by omega)
        have o3 : ¬ (z : Int) < xj := by omega
        by_cases hx : (z : Int) = xj
        · have o4 := o2 hx
          subst hx
          have o5 : ¬ (y : Int) ≤ yj := by omega
          clear hj
          go_upto_region 10 with (fail)
          have S10 : (fun W => (W.cell? ⟨gb + 1 + 1, 0, none⟩ = some (.slice (some ⟨g1, 0, none⟩) B.n c1) ∧ W.cell? ⟨gb + 1 + 1, 1, none⟩ = some (.slice (some ⟨g2, 0, none⟩) B.n c2) ∧ W.cell? ⟨gb + 1 + 1, 2, none⟩ = some (.slice K' B.m cd')) ∧ (W.cell? ⟨gb + 1, 0, none⟩ = some (.int .i64 s.long) ∧ W.cell? ⟨gb + 1, 1, none⟩ = some (.int .i64 s.wide) ∧ W.cell? ⟨gb + 1, 2, none⟩ = some (.int .i64 s.kerf) ∧ W.cell? ⟨gb + 1, 3, none⟩ = some (.int .i64 s.across)) ∧ (W.cell? ⟨b, off + k * 2, none⟩ = some (.int .i64 (z : Int)) ∧ W.cell? ⟨b, off + k * 2 + 1, none⟩ = some (.int .i64 (y : Int))) ∧ W.cell? ⟨b, off + j * 2, none⟩ = some (.int .i64 (z : Int)) ∧ W.cell? ⟨b, off + j * 2 + 1, none⟩ = some (.int .i64 yj)) wr.drew := K1.out
          refine wp_region_untl (S := (fun W => (W.cell? ⟨gb + 1 + 1, 0, none⟩ = some (.slice (some ⟨g1, 0, none⟩) B.n c1) ∧ W.cell? ⟨gb + 1 + 1, 1, none⟩ = some (.slice (some ⟨g2, 0, none⟩) B.n c2) ∧ W.cell? ⟨gb + 1 + 1, 2, none⟩ = some (.slice K' B.m cd')) ∧ (W.cell? ⟨gb + 1, 0, none⟩ = some (.int .i64 s.long) ∧ W.cell? ⟨gb + 1, 1, none⟩ = some (.int .i64 s.wide) ∧ W.cell? ⟨gb + 1, 2, none⟩ = some (.int .i64 s.kerf) ∧ W.cell? ⟨gb + 1, 3, none⟩ = some (.int .i64 s.across)) ∧ (W.cell? ⟨b, off + k * 2, none⟩ = some (.int .i64 (z : Int)) ∧ W.cell? ⟨b, off + k * 2 + 1, none⟩ = some (.int .i64 (y : Int))) ∧ W.cell? ⟨b, off + j * 2, none⟩ = some (.int .i64 (z : Int)) ∧ W.cell? ⟨b, off + j * 2 + 1, none⟩ = some (.int .i64 yj))) [] (by kernel_rfl) S10 (fun _ => ?_)
          refine untlTake (i := 0) 102 (v := ?v54) rfl (by kernel_rfl) (by kernel_rfl) (by kernel_rfl) (by kernel_rfl) (by kernel_rfl) (by kernel_rfl) (fun _ _ _ h => h) (Or.inl ⟨by kernel_rfl, ?y54⟩) (by assumption) ?r54
          case y54 => (intro w hSw; obtain ⟨⟨h0, h1, h2⟩, ⟨h3, h4, h5, h6⟩, ⟨h7, h8⟩, h9, h10⟩ := hSw; go_simp; try with_reducible rfl)
          refine untlTake (i := 1) 103 (v := ?v55) rfl (by kernel_rfl) (by kernel_rfl) (by kernel_rfl) (by kernel_rfl) (by kernel_rfl) (by kernel_rfl) (fun _ _ _ h => h) (Or.inl ⟨by kernel_rfl, ?y55⟩) (by assumption) ?r55
          case y55 => (intro w hSw; obtain ⟨⟨h0, h1, h2⟩, ⟨h3, h4, h5, h6⟩, ⟨h7, h8⟩, h9, h10⟩ := hSw; go_simp; try with_reducible rfl)
          refine untlTake (i := 2) 104 (v := ?v56) rfl (by kernel_rfl) (by kernel_rfl) (by kernel_rfl) (by kernel_rfl) (by kernel_rfl) (by kernel_rfl) (fun _ _ _ h => h) (Or.inl ⟨by kernel_rfl, ?y56⟩) (by assumption) ?r56
          case y56 => (intro w hSw; obtain ⟨⟨h0, h1, h2⟩, ⟨h3, h4, h5, h6⟩, ⟨h7, h8⟩, h9, h10⟩ := hSw; go_simp; try with_reducible rfl)
          simp only [Act.put, List.setIfInBounds_toArray, List.set_cons_zero, List.set_cons_succ]
          refine untlTake (i := 3) 105 (v := ?v57) rfl (by kernel_rfl) (by kernel_rfl) (by kernel_rfl) (by kernel_rfl) (by kernel_rfl) (by kernel_rfl) (fun _ _ _ h => h) (Or.inl ⟨by kernel_rfl, ?y57⟩) (by assumption) ?r57
          case y57 => (intro w hSw; obtain ⟨⟨h0, h1, h2⟩, ⟨h3, h4, h5, h6⟩, ⟨h7, h8⟩, h9, h10⟩ := hSw; go_simp; try with_reducible rfl)
          refine untlTake (i := 4) 106 (v := ?v58) rfl (by kernel_rfl) (by kernel_rfl) (by kernel_rfl) (by kernel_rfl) (by kernel_rfl) (by kernel_rfl) (fun _ _ _ h => h) (Or.inl ⟨by kernel_rfl, ?y58⟩) (by assumption) ?r58
          case y58 => (intro w hSw; obtain ⟨⟨h0, h1, h2⟩, ⟨h3, h4, h5, h6⟩, ⟨h7, h8⟩, h9, h10⟩ := hSw; go_simp; try with_reducible rfl)
          refine untlTake (i := 5) 107 (v := ?v59) rfl (by kernel_rfl) (by kernel_rfl) (by kernel_rfl) (by kernel_rfl) (by kernel_rfl) (by kernel_rfl) (fun _ _ _ h => h) (Or.inl ⟨by kernel_rfl, ?y59⟩) (by assumption) ?r59
          case y59 => (intro w hSw; obtain ⟨⟨h0, h1, h2⟩, ⟨h3, h4, h5, h6⟩, ⟨h7, h8⟩, h9, h10⟩ := hSw; go_simp; try with_reducible rfl)
          simp only [Act.put, List.setIfInBounds_toArray, List.set_cons_zero, List.set_cons_succ]
          refine untlStep (i := 6) (by kernel_rfl) rfl (fun K6 hK6 => ?_)
          rw [if_pos (by rfl)]
          go_simp
          refine (HSZ.out _ ND.out RD.out).mono ?_
          rintro e WX ⟨rfl, bX⟩
          have EX := Lib.hid (below_then (Below.refl _ _).drew bX)
          have NX := Lib.hid (ND.out.below bX)
          have S11 : (fun W => (W.cell? ⟨gb + 1 + 1, 0, none⟩ = some (.slice (some ⟨g1, 0, none⟩) B.n c1) ∧ W.cell? ⟨gb + 1 + 1, 1, none⟩ = some (.slice (some ⟨g2, 0, none⟩) B.n c2) ∧ W.cell? ⟨gb + 1 + 1, 2, none⟩ = some (.slice K' B.m cd')) ∧ (W.cell? ⟨gb + 1, 0, none⟩ = some (.int .i64 s.long) ∧ W.cell? ⟨gb + 1, 1, none⟩ = some (.int .i64 s.wide) ∧ W.cell? ⟨gb + 1, 2, none⟩ = some (.int .i64 s.kerf) ∧ W.cell? ⟨gb + 1, 3, none⟩ = some (.int .i64 s.across)) ∧ (W.cell? ⟨b, off + k * 2, none⟩ = some (.int .i64 (z : Int)) ∧ W.cell? ⟨b, off + k * 2 + 1, none⟩ = some (.int .i64 (y : Int))) ∧ W.cell? ⟨b, off + j * 2, none⟩ = some (.int .i64 (z : Int)) ∧ W.cell? ⟨b, off + j * 2 + 1, none⟩ = some (.int .i64 yj)) WX := ⟨⟨NX.out.rl.cell 0, NX.out.rl.cell 1, NX.out.rl.cell 2⟩, ⟨NX.out.sl.cell 0, NX.out.sl.cell 1, NX.out.sl.cell 2, NX.out.sl.cell 3⟩, ⟨cell_stay bX K1.out.2.2.1.1, cell_stay bX K1.out.2.2.1.2⟩, cell_stay bX K1.out.2.2.2.1, cell_stay bX K1.out.2.2.2.2⟩
          clear bX S10
          refine hK6.out _ _ (.inr S11) ?_
          refine untlTake (i := 7) 109 (v := .bool false) rfl (by kernel_rfl) (by kernel_rfl) (by kernel_rfl) (by kernel_rfl) (by kernel_rfl) (by kernel_rfl) (fun _ _ _ h => h) (Or.inl ⟨by kernel_rfl, ?y60⟩) (by assumption) ?r60
          case y60 => (intro w hSw; obtain ⟨⟨h0, h1, h2⟩, ⟨h3, h4, h5, h6⟩, ⟨h7, h8⟩, h9, h10⟩ := hSw; go_simp; try with_reducible rfl)
          refine untlTake (i := 8) 110 (v := .bool false) rfl (by kernel_rfl) (by kernel_rfl) (by kernel_rfl) (by kernel_rfl) (by kernel_rfl) (by kernel_rfl) (fun _ _ _ h => h) (Or.inl ⟨by kernel_rfl, ?y61⟩) (by assumption) ?r61
          case y61 => (intro w hSw; obtain ⟨⟨h0, h1, h2⟩, ⟨h3, h4, h5, h6⟩, ⟨h7, h8⟩, h9, h10⟩ := hSw; go_simp; try with_reducible rfl)
          refine untlTake (i := 9) 111 (v := ?v62) rfl (by kernel_rfl) (by kernel_rfl) (by kernel_rfl) (by kernel_rfl) (by kernel_rfl) (by kernel_rfl) (fun _ _ _ h => h) (Or.inl ⟨by kernel_rfl, ?y62⟩) (by assumption) ?r62
          case y62 => (intro w hSw; obtain ⟨⟨h0, h1, h2⟩, ⟨h3, h4, h5, h6⟩, ⟨h7, h8⟩, h9, h10⟩ := hSw; go_simp; try with_reducible rfl)
          simp only [Act.put, List.setIfInBounds_toArray, List.set_cons_zero, List.set_cons_succ]
          refine untlTake (i := 10) 112 (v := .bool true) rfl (by kernel_rfl) (by kernel_rfl) (by kernel_rfl) (by kernel_rfl) (by kernel_rfl) (by kernel_rfl) (fun _ _ _ h => h) (Or.inl ⟨by kernel_rfl, ?y63⟩) (by assumption) ?r63
          case y63 => (intro w hSw; obtain ⟨⟨h0, h1, h2⟩, ⟨h3, h4, h5, h6⟩, ⟨h7, h8⟩, h9, h10⟩ := hSw; go_simp; (try (with_reducible rfl)); try (first | exact HK0.out | omega))
          refine untlTake (i := 11) 113 (v := .bool true) rfl (by kernel_rfl) (by kernel_rfl) (by kernel_rfl) (by kernel_rfl) (by kernel_rfl) (by kernel_rfl) (fun _ _ _ h => h) (Or.inl ⟨by kernel_rfl, ?y64⟩) (by assumption) ?r64
          case y64 => (intro w hSw; obtain ⟨⟨h0, h1, h2⟩, ⟨h3, h4, h5, h6⟩, ⟨h7, h8⟩, h9, h10⟩ := hSw; go_simp; try with_reducible rfl)
          refine untlTake (i := 12) 114 (v := ?v65) rfl (by kernel_rfl) (by kernel_rfl) (by kernel_rfl) (by kernel_rfl) (by kernel_rfl) (by kernel_rfl) (fun _ _ _ h => h) (Or.inl ⟨by kernel_rfl, ?y65⟩) (by assumption) ?r65
          case y65 => (intro w hSw; obtain ⟨⟨h0, h1, h2⟩, ⟨h3, h4, h5, h6⟩, ⟨h7, h8⟩, h9, h10⟩ := hSw; go_simp; try with_reducible rfl)
          simp only [Act.put, List.setIfInBounds_toArray, List.set_cons_zero, List.set_cons_succ]
          refine untlTake (i := 13) 115 (v := ?v66) rfl (by kernel_rfl) (by kernel_rfl) (by kernel_rfl) (by kernel_rfl) (by kernel_rfl) (by kernel_rfl) (fun _ _ _ h => h) (Or.inl ⟨by kernel_rfl, ?y66⟩) (by assumption) ?r66
          case y66 => (intro w hSw; obtain ⟨⟨h0, h1, h2⟩, ⟨h3, h4, h5, h6⟩, ⟨h7, h8⟩, h9, h10⟩ := hSw; go_simp; try with_reducible rfl)
          refine untlTake (i := 14) 116 (v := ?v67) rfl (by kernel_rfl) (by kernel_rfl) (by kernel_rfl) (by kernel_rfl) (by kernel_rfl) (by kernel_rfl) (fun _ _ _ h => h) (Or.inl ⟨by kernel_rfl, ?y67⟩) (by assumption) ?r67
          case y67 => (intro w hSw; obtain ⟨⟨h0, h1, h2⟩, ⟨h3, h4, h5, h6⟩, ⟨h7, h8⟩, h9, h10⟩ := hSw; go_simp; try with_reducible rfl)
          refine untlTake (i := 15) 117 (v := ?v68) rfl (by kernel_rfl) (by kernel_rfl) (by kernel_rfl) (by kernel_rfl) (by kernel_rfl) (by kernel_rfl) (fun _ _ _ h => h) (Or.inl ⟨by kernel_rfl, ?y68⟩) (by assumption) ?r68
          case y68 => (intro w hSw; obtain ⟨⟨h0, h1, h2⟩, ⟨h3, h4, h5, h6⟩, ⟨h7, h8⟩, h9, h10⟩ := hSw; go_simp; try with_reducible rfl)
          simp only [Act.put, List.setIfInBounds_toArray, List.set_cons_zero, List.set_cons_succ]
          refine untlTake (i := 16) 118 (v := ?v69) rfl (by kernel_rfl) (by kernel_rfl) (by kernel_rfl) (by kernel_rfl) (by kernel_rfl) (by kernel_rfl) (fun _ _ _ h => h) (Or.inl ⟨by kernel_rfl, ?y69⟩) (by assumption) ?r69
          case y69 => (intro w hSw; obtain ⟨⟨h0, h1, h2⟩, ⟨h3, h4, h5, h6⟩, ⟨h7, h8⟩, h9, h10⟩ := hSw; go_simp; try with_reducible rfl)
          refine untlTake (i := 17) 119 (v := ?v70) rfl (by kernel_rfl) (by kernel_rfl) (by kernel_rfl) (by kernel_rfl) (by kernel_rfl) (by kernel_rfl) (fun _ _ _ h => h) (Or.inl ⟨by kernel_rfl, ?y70⟩) (by assumption) ?r70
          case y70 => (intro w hSw; obtain ⟨⟨h0, h1, h2⟩, ⟨h3, h4, h5, h6⟩, ⟨h7, h8⟩, h9, h10⟩ := hSw; go_simp; try with_reducible rfl)
          refine untlTake (i := 18) 120 (v := ?v71) rfl (by kernel_rfl) (by kernel_rfl) (by kernel_rfl) (by kernel_rfl) (by kernel_rfl) (by kernel_rfl) (fun _ _ _ h => h) (Or.inl ⟨by kernel_rfl, ?y71⟩) (by assumption) ?r71
          case y71 => (intro w hSw; obtain ⟨⟨h0, h1, h2⟩, ⟨h3, h4, h5, h6⟩, ⟨h7, h8⟩, h9, h10⟩ := hSw; go_simp; try with_reducible rfl)
          simp only [Act.put, List.setIfInBounds_toArray, List.set_cons_zero, List.set_cons_succ]
          refine untlTake (i := 19) 121 (v := ?v72) rfl (by kernel_rfl) (by kernel_rfl) (by kernel_rfl) (by kernel_rfl) (by kernel_rfl) (by kernel_rfl) (fun _ _ _ h => h) (Or.inl ⟨by kernel_rfl, ?y72⟩) (by assumption) ?r72
          case y72 => (intro w hSw; obtain ⟨⟨h0, h1, h2⟩, ⟨h3, h4, h5, h6⟩, ⟨h7, h8⟩, h9, h10⟩ := hSw; go_simp; try with_reducible rfl)
          refine untlTake (i := 20) 122 (v := ?v73) rfl (by kernel_rfl) (by kernel_rfl) (by kernel_rfl) (by kernel_rfl) (by kernel_rfl) (by kernel_rfl) (fun _ _ _ h => h) (Or.inl ⟨by kernel_rfl, ?y73⟩) (by assumption) ?r73
          case y73 => (intro w hSw; obtain ⟨⟨h0, h1, h2⟩, ⟨h3, h4, h5, h6⟩, ⟨h7, h8⟩, h9, h10⟩ := hSw; go_simp; try with_reducible rfl)
          refine untlTake (i := 21) 123 (v := ?v74) rfl (by kernel_rfl) (by kernel_rfl) (by kernel_rfl) (by kernel_rfl) (by kernel_rfl) (by kernel_rfl) (fun _ _ _ h => h) (Or.inl ⟨by kernel_rfl, ?y74⟩) (by assumption) ?r74
          case y74 => (intro w hSw; obtain ⟨⟨h0, h1, h2⟩, ⟨h3, h4, h5, h6⟩, ⟨h7, h8⟩, h9, h10⟩ := hSw; go_simp; try with_reducible rfl)
          simp only [Act.put, List.setIfInBounds_toArray, List.set_cons_zero, List.set_cons_succ]
          refine untlTake (i := 22) 124 (v := ?v75) rfl (by kernel_rfl) (by kernel_rfl) (by kernel_rfl) (by kernel_rfl) (by kernel_rfl) (by kernel_rfl) (fun _ _ _ h => h) (Or.inl ⟨by kernel_rfl, ?y75⟩) (by assumption) ?r75
          case y75 => (intro w hSw; obtain ⟨⟨h0, h1, h2⟩, ⟨h3, h4, h5, h6⟩, ⟨h7, h8⟩, h9, h10⟩ := hSw; go_simp; try with_reducible rfl)
          refine untlTake (i := 23) 125 (v := .bool false) rfl (by kernel_rfl) (by kernel_rfl) (by kernel_rfl) (by kernel_rfl) (by kernel_rfl) (by kernel_rfl) (fun _ _ _ h => h) (Or.inl ⟨by kernel_rfl, ?y76⟩) (by assumption) ?r76
          case y76 => (intro w hSw; obtain ⟨⟨h0, h1, h2⟩, ⟨h3, h4, h5, h6⟩, ⟨h7, h8⟩, h9, h10⟩ := hSw; go_simp; try with_reducible rfl)
          refine untlTake (i := 24) 126 (v := .bool false) rfl (by kernel_rfl) (by kernel_rfl) (by kernel_rfl) (by kernel_rfl) (by kernel_rfl) (by kernel_rfl) (fun _ _ _ h => h) (Or.inl ⟨by kernel_rfl, ?y77⟩) (by assumption) ?r77
          case y77 => (intro w hSw; obtain ⟨⟨h0, h1, h2⟩, ⟨h3, h4, h5, h6⟩, ⟨h7, h8⟩, h9, h10⟩ := hSw; go_simp; try with_reducible rfl)
          simp only [Act.put, List.setIfInBounds_toArray, List.set_cons_zero, List.set_cons_succ]
          refine untlTake (i := 25) 127 (v := ?v78) rfl (by kernel_rfl) (by kernel_rfl) (by kernel_rfl) (by kernel_rfl) (by kernel_rfl) (by kernel_rfl) (fun _ _ _ h => h) (Or.inl ⟨by kernel_rfl, ?y78⟩) (by assumption) ?r78
          case y78 => (intro w hSw; obtain ⟨⟨h0, h1, h2⟩, ⟨h3, h4, h5, h6⟩, ⟨h7, h8⟩, h9, h10⟩ := hSw; go_simp; try with_reducible rfl)
          refine untlTake (i := 26) 128 (v := ?v79) rfl (by kernel_rfl) (by kernel_rfl) (by kernel_rfl) (by kernel_rfl) (by kernel_rfl) (by kernel_rfl) (fun _ _ _ h => h) (Or.inl ⟨by kernel_rfl, ?y79⟩) (by assumption) ?r79
          case y79 => (intro w hSw; obtain ⟨⟨h0, h1, h2⟩, ⟨h3, h4, h5, h6⟩, ⟨h7, h8⟩, h9, h10⟩ := hSw; go_simp; try with_reducible rfl)
          refine untlTake (i := 27) 129 (v := ?v80) rfl (by kernel_rfl) (by kernel_rfl) (by kernel_rfl) (by kernel_rfl) (by kernel_rfl) (by kernel_rfl) (fun _ _ _ h => h) (Or.inl ⟨by kernel_rfl, ?y80⟩) (by assumption) ?r80
          case y80 => (intro w hSw; obtain ⟨⟨h0, h1, h2⟩, ⟨h3, h4, h5, h6⟩, ⟨h7, h8⟩, h9, h10⟩ := hSw; go_simp; try with_reducible rfl)
          simp only [Act.put, List.setIfInBounds_toArray, List.set_cons_zero, List.set_cons_succ]
          refine untlTake (i := 28) 130 (v := ?v81) rfl (by kernel_rfl) (by kernel_rfl) (by kernel_rfl) (by kernel_rfl) (by kernel_rfl) (by kernel_rfl) (fun _ _ _ h => h) (Or.inl ⟨by kernel_rfl, ?y81⟩) (by assumption) ?r81
          case y81 => (intro w hSw; obtain ⟨⟨h0, h1, h2⟩, ⟨h3, h4, h5, h6⟩, ⟨h7, h8⟩, h9, h10⟩ := hSw; go_simp; try with_reducible rfl)
          refine untlTake (i := 29) 131 (v := ?v82) rfl (by kernel_rfl) (by kernel_rfl) (by kernel_rfl) (by kernel_rfl) (by kernel_rfl) (by kernel_rfl) (fun _ _ _ h => h) (Or.inl ⟨by kernel_rfl, ?y82⟩) (by assumption) ?r82
          case y82 => (intro w hSw; obtain ⟨⟨h0, h1, h2⟩, ⟨h3, h4, h5, h6⟩, ⟨h7, h8⟩, h9, h10⟩ := hSw; go_simp; try with_reducible rfl)
          refine untlTake (i := 30) 132 (v := ?v83) rfl (by kernel_rfl) (by kernel_rfl) (by kernel_rfl) (by kernel_rfl) (by kernel_rfl) (by kernel_rfl) (fun _ _ _ h => h) (Or.inl ⟨by kernel_rfl, ?y83⟩) (by assumption) ?r83
          case y83 => (intro w hSw; obtain ⟨⟨h0, h1, h2⟩, ⟨h3, h4, h5, h6⟩, ⟨h7, h8⟩, h9, h10⟩ := hSw; go_simp; try with_reducible rfl)
          simp only [Act.put, List.setIfInBounds_toArray, List.set_cons_zero, List.set_cons_succ]
          refine untlTake (i := 31) 133 (v := ?v84) rfl (by kernel_rfl) (by kernel_rfl) (by kernel_rfl) (by kernel_rfl) (by kernel_rfl) (by kernel_rfl) (fun _ _ _ h => h) (Or.inl ⟨by kernel_rfl, ?y84⟩) (by assumption) ?r84
          case y84 => (intro w hSw; obtain ⟨⟨h0, h1, h2⟩, ⟨h3, h4, h5, h6⟩, ⟨h7, h8⟩, h9, h10⟩ := hSw; go_simp; try with_reducible rfl)
          refine untlTake (i := 32) 134 (v := ?v85) rfl (by kernel_rfl) (by kernel_rfl) (by kernel_rfl) (by kernel_rfl) (by kernel_rfl) (by kernel_rfl) (fun _ _ _ h => h) (Or.inl ⟨by kernel_rfl, ?y85⟩) (by assumption) ?r85
          case y85 => (intro w hSw; obtain ⟨⟨h0, h1, h2⟩, ⟨h3, h4, h5, h6⟩, ⟨h7, h8⟩, h9, h10⟩ := hSw; go_simp; try with_reducible rfl)
          refine untlTake (i := 33) 135 (v := ?v86) rfl (by kernel_rfl) (by kernel_rfl) (by kernel_rfl) (by kernel_rfl) (by kernel_rfl) (by kernel_rfl) (fun _ _ _ h => h) (Or.inl ⟨by kernel_rfl, ?y86⟩) (by assumption) ?r86
          case y86 => (intro w hSw; obtain ⟨⟨h0, h1, h2⟩, ⟨h3, h4, h5, h6⟩, ⟨h7, h8⟩, h9, h10⟩ := hSw; go_simp; try with_reducible rfl)
          simp only [Act.put, List.setIfInBounds_toArray, List.set_cons_zero, List.set_cons_succ]
          refine untlTake (i := 34) 136 (v := ?v87) rfl (by kernel_rfl) (by kernel_rfl) (by kernel_rfl) (by kernel_rfl) (by kernel_rfl) (by kernel_rfl) (fun _ _ _ h => h) (Or.inl ⟨by kernel_rfl, ?y87⟩) (by assumption) ?r87
          case y87 => (intro w hSw; obtain ⟨⟨h0, h1, h2⟩, ⟨h3, h4, h5, h6⟩, ⟨h7, h8⟩, h9, h10⟩ := hSw; go_simp; try with_reducible rfl)
          refine untlTake (i := 35) 137 (v := ?v88) rfl (by kernel_rfl) (by kernel_rfl) (by kernel_rfl) (by kernel_rfl) (by kernel_rfl) (by kernel_rfl) (fun _ _ _ h => h) (Or.inl ⟨by kernel_rfl, ?y88⟩) (by assumption) ?r88
          case y88 => (intro w hSw; obtain ⟨⟨h0, h1, h2⟩, ⟨h3, h4, h5, h6⟩, ⟨h7, h8⟩, h9, h10⟩ := hSw; go_simp; try with_reducible rfl)
          refine untlTake (i := 36) 138 (v := .bool true) rfl (by kernel_rfl) (by kernel_rfl) (by kernel_rfl) (by kernel_rfl) (by kernel_rfl) (by kernel_rfl) (fun _ _ _ h => h) (Or.inl ⟨by kernel_rfl, ?y89⟩) (by assumption) ?r89
          case y89 => (intro w hSw; obtain ⟨⟨h0, h1, h2⟩, ⟨h3, h4, h5, h6⟩, ⟨h7, h8⟩, h9, h10⟩ := hSw; go_simp; try with_reducible rfl)
          simp only [Act.put, List.setIfInBounds_toArray, List.set_cons_zero, List.set_cons_succ]
          refine untlTake (i := 37) 139 (v := .bool true) rfl (by kernel_rfl) (by kernel_rfl) (by kernel_rfl) (by kernel_rfl) (by kernel_rfl) (by kernel_rfl) (fun _ _ _ h => h) (Or.inl ⟨by kernel_rfl, ?y90⟩) (by assumption) ?r90
          case y90 => (intro w hSw; obtain ⟨⟨h0, h1, h2⟩, ⟨h3, h4, h5, h6⟩, ⟨h7, h8⟩, h9, h10⟩ := hSw; go_simp; try with_reducible rfl)
          refine untlTake (i := 38) 140 (v := ?v91) rfl (by kernel_rfl) (by kernel_rfl) (by kernel_rfl) (by kernel_rfl) (by kernel_rfl) (by kernel_rfl) (fun _ _ _ h => h) (Or.inl ⟨by kernel_rfl, ?y91⟩) (by assumption) ?r91
          case y91 => (intro w hSw; obtain ⟨⟨h0, h1, h2⟩, ⟨h3, h4, h5, h6⟩, ⟨h7, h8⟩, h9, h10⟩ := hSw; go_simp; try with_reducible rfl)
          refine untlTake (i := 39) 141 (v := ?v92) rfl (by kernel_rfl) (by kernel_rfl) (by kernel_rfl) (by kernel_rfl) (by kernel_rfl) (by kernel_rfl) (fun _ _ _ h => h) (Or.inl ⟨by kernel_rfl, ?y92⟩) (by assumption) ?r92
          case y92 => (intro w hSw; obtain ⟨⟨h0, h1, h2⟩, ⟨h3, h4, h5, h6⟩, ⟨h7, h8⟩, h9, h10⟩ := hSw; go_simp; try with_reducible rfl)
          simp only [Act.put, List.setIfInBounds_toArray, List.set_cons_zero, List.set_cons_succ]
          refine untlTake (i := 40) 142 (v := ?v93) rfl (by kernel_rfl) (by kernel_rfl) (by kernel_rfl) (by kernel_rfl) (by kernel_rfl) (by kernel_rfl) (fun _ _ _ h => h) (Or.inl ⟨by kernel_rfl, ?y93⟩) (by assumption) ?r93
          case y93 => (intro w hSw; obtain ⟨⟨h0, h1, h2⟩, ⟨h3, h4, h5, h6⟩, ⟨h7, h8⟩, h9, h10⟩ := hSw; go_simp; try with_reducible rfl)
          refine untlTake (i := 41) 143 (v := ?v94) rfl (by kernel_rfl) (by kernel_rfl) (by kernel_rfl) (by kernel_rfl) (by kernel_rfl) (by kernel_rfl) (fun _ _ _ h => h) (Or.inl ⟨by kernel_rfl, ?y94⟩) (by assumption) ?r94
          case y94 => (intro w hSw; obtain ⟨⟨h0, h1, h2⟩, ⟨h3, h4, h5, h6⟩, ⟨h7, h8⟩, h9, h10⟩ := hSw; go_simp; try with_reducible rfl)
          refine untlTake (i := 42) 144 (v := ?v95) rfl (by kernel_rfl) (by kernel_rfl) (by kernel_rfl) (by kernel_rfl) (by kernel_rfl) (by kernel_rfl) (fun _ _ _ h => h) (Or.inl ⟨by kernel_rfl, ?y95⟩) (by assumption) ?r95
          case y95 => (intro w hSw; obtain ⟨⟨h0, h1, h2⟩, ⟨h3, h4, h5, h6⟩, ⟨h7, h8⟩, h9, h10⟩ := hSw; go_simp; try with_reducible rfl)
          simp only [Act.put, List.setIfInBounds_toArray, List.set_cons_zero, List.set_cons_succ]
          refine untlTake (i := 43) 145 (v := ?v96) rfl (by kernel_rfl) (by kernel_rfl) (by kernel_rfl) (by kernel_rfl) (by kernel_rfl) (by kernel_rfl) (fun _ _ _ h => h) (Or.inl ⟨by kernel_rfl, ?y96⟩) (by assumption) ?r96
          case y96 => (intro w hSw; obtain ⟨⟨h0, h1, h2⟩, ⟨h3, h4, h5, h6⟩, ⟨h7, h8⟩, h9, h10⟩ := hSw; go_simp; try with_reducible rfl)
          refine untlTake (i := 44) 146 (v := ?v97) rfl (by kernel_rfl) (by kernel_rfl) (by kernel_rfl) (by kernel_rfl) (by kernel_rfl) (by kernel_rfl) (fun _ _ _ h => h) (Or.inl ⟨by kernel_rfl, ?y97⟩) (by assumption) ?r97
          case y97 => (intro w hSw; obtain ⟨⟨h0, h1, h2⟩, ⟨h3, h4, h5, h6⟩, ⟨h7, h8⟩, h9, h10⟩ := hSw; go_simp; try with_reducible rfl)
          refine untlTake (i := 45) 147 (v := ?v98) rfl (by kernel_rfl) (by kernel_rfl) (by kernel_rfl) (by kernel_rfl) (by kernel_rfl) (by kernel_rfl) (fun _ _ _ h => h) (Or.inl ⟨by kernel_rfl, ?y98⟩) (by assumption) ?r98
          case y98 => (intro w hSw; obtain ⟨⟨h0, h1, h2⟩, ⟨h3, h4, h5, h6⟩, ⟨h7, h8⟩, h9, h10⟩ := hSw; go_simp; try with_reducible rfl)
          simp only [Act.put, List.setIfInBounds_toArray, List.set_cons_zero, List.set_cons_succ]
          refine untlTake (i := 46) 148 (v := ?v99) rfl (by kernel_rfl) (by kernel_rfl) (by kernel_rfl) (by kernel_rfl) (by kernel_rfl) (by kernel_rfl) (fun _ _ _ h => h) (Or.inl ⟨by kernel_rfl, ?y99⟩) (by assumption) ?r99
          case y99 => (intro w hSw; obtain ⟨⟨h0, h1, h2⟩, ⟨h3, h4, h5, h6⟩, ⟨h7, h8⟩, h9, h10⟩ := hSw; go_simp; try with_reducible rfl)
          refine untlTake (i := 47) 149 (v := ?v100) rfl (by kernel_rfl) (by kernel_rfl) (by kernel_rfl) (by kernel_rfl) (by kernel_rfl) (by kernel_rfl) (fun _ _ _ h => h) (Or.inl ⟨by kernel_rfl, ?y100⟩) (by assumption) ?r100
          case y100 => (intro w hSw; obtain ⟨⟨h0, h1, h2⟩, ⟨h3, h4, h5, h6⟩, ⟨h7, h8⟩, h9, h10⟩ := hSw; go_simp; try with_reducible rfl)
          refine untlTake (i := 48) 150 (v := ?v101) rfl (by kernel_rfl) (by kernel_rfl) (by kernel_rfl) (by kernel_rfl) (by kernel_rfl) (by kernel_rfl) (fun _ _ _ h => h) (Or.inl ⟨by kernel_rfl, ?y101⟩) (by assumption) ?r101
          case y101 => (intro w hSw; obtain ⟨⟨h0, h1, h2⟩, ⟨h3, h4, h5, h6⟩, ⟨h7, h8⟩, h9, h10⟩ := hSw; go_simp; try with_reducible rfl)
          simp only [Act.put, List.setIfInBounds_toArray, List.set_cons_zero, List.set_cons_succ]
          refine untlTake (i := 49) 151 (v := .bool false) rfl (by kernel_rfl) (by kernel_rfl) (by kernel_rfl) (by kernel_rfl) (by kernel_rfl) (by kernel_rfl) (fun _ _ _ h => h) (Or.inl ⟨by kernel_rfl, ?y102⟩) (by assumption) ?r102
          case y102 => (intro w hSw; obtain ⟨⟨h0, h1, h2⟩, ⟨h3, h4, h5, h6⟩, ⟨h7, h8⟩, h9, h10⟩ := hSw; go_simp; try with_reducible rfl)
          refine untlTake (i := 50) 152 (v := .bool false) rfl (by kernel_rfl) (by kernel_rfl) (by kernel_rfl) (by kernel_rfl) (by kernel_rfl) (by kernel_rfl) (fun _ _ _ h => h) (Or.inl ⟨by kernel_rfl, ?y103⟩) (by assumption) ?r103
          case y103 => (intro w hSw; obtain ⟨⟨h0, h1, h2⟩, ⟨h3, h4, h5, h6⟩, ⟨h7, h8⟩, h9, h10⟩ := hSw; go_simp; try with_reducible rfl)
          refine untlTake (i := 51) 153 (v := .bool false) rfl (by kernel_rfl) (by kernel_rfl) (by kernel_rfl) (by kernel_rfl) (by kernel_rfl) (by kernel_rfl) (fun _ _ _ h => h) (Or.inl ⟨by kernel_rfl, ?y104⟩) (by assumption) ?r104
          case y104 => (intro w hSw; obtain ⟨⟨h0, h1, h2⟩, ⟨h3, h4, h5, h6⟩, ⟨h7, h8⟩, h9, h10⟩ := hSw; go_simp; try with_reducible rfl)
          simp only [Act.put, List.setIfInBounds_toArray, List.set_cons_zero, List.set_cons_succ]
          refine untlTake (i := 52) 154 (v := .bool false) rfl (by kernel_rfl) (by kernel_rfl) (by kernel_rfl) (by kernel_rfl) (by kernel_rfl) (by kernel_rfl) (fun _ _ _ h => h) (Or.inl ⟨by kernel_rfl, ?y105⟩) (by assumption) ?r105
          case y105 => (intro w hSw; obtain ⟨⟨h0, h1, h2⟩, ⟨h3, h4, h5, h6⟩, ⟨h7, h8⟩, h9, h10⟩ := hSw; go_simp; try with_reducible rfl)
          refine untlTake (i := 53) 155 (v := .bool false) rfl (by kernel_rfl) (by kernel_rfl) (by kernel_rfl) (by kernel_rfl) (by kernel_rfl) (by kernel_rfl) (fun _ _ _ h => h) (Or.inl ⟨by kernel_rfl, ?y106⟩) (by assumption) ?r106
          case y106 => (intro w hSw; obtain ⟨⟨h0, h1, h2⟩, ⟨h3, h4, h5, h6⟩, ⟨h7, h8⟩, h9, h10⟩ := hSw; go_simp; try with_reducible rfl)
          simp only [Act.put, List.setIfInBounds_toArray, List.set_cons_zero, List.set_cons_succ]
          refine untlDone (by kernel_rfl) ?_ _
          clear S11
          go_wp2_with fail
          go_roundw
          case rel => exact ⟨k + 1, by omega, by go_num, NX.out, Reads.below PL.out EX.out, Reads.below RL.out EX.out⟩
          case measure => simp [intOf]; omega
        · have o6 : ((z : Int) == xj) = false := by simpa using hx
          clear hj
          go_upto_region 10 with (fail)
          have S10 : (fun W => (W.cell? ⟨gb + 1 + 1, 0, none⟩ = some (.slice (some ⟨g1, 0, none⟩) B.n c1) ∧ W.cell? ⟨gb + 1 + 1, 1, none⟩ = some (.slice (some ⟨g2, 0, none⟩) B.n c2) ∧ W.cell? ⟨gb + 1 + 1, 2, none⟩ = some (.slice K' B.m cd')) ∧ (W.cell? ⟨gb + 1, 0, none⟩ = some (.int .i64 s.long) ∧ W.cell? ⟨gb + 1, 1, none⟩ = some (.int .i64 s.wide) ∧ W.cell? ⟨gb + 1, 2, none⟩ = some (.int .i64 s.kerf) ∧ W.cell? ⟨gb + 1, 3, none⟩ = some (.int .i64 s.across)) ∧ (W.cell? ⟨b, off + k * 2, none⟩ = some (.int .i64 (z : Int)) ∧ W.cell? ⟨b, off + k * 2 + 1, none⟩ = some (.int .i64 (y : Int))) ∧ W.cell? ⟨b, off + j * 2, none⟩ = some (.int .i64 xj) ∧ W.cell? ⟨b, off + j * 2 + 1, none⟩ = some (.int .i64 yj)) wr.drew := K1.out
          refine wp_region_untl (S := (fun W => (W.cell? ⟨gb + 1 + 1, 0, none⟩ = some (.slice (some ⟨g1, 0, none⟩) B.n c1) ∧ W.cell? ⟨gb + 1 + 1, 1, none⟩ = some (.slice (some ⟨g2, 0, none⟩) B.n c2) ∧ W.cell? ⟨gb + 1 + 1, 2, none⟩ = some (.slice K' B.m cd')) ∧ (W.cell? ⟨gb + 1, 0, none⟩ = some (.int .i64 s.long) ∧ W.cell? ⟨gb + 1, 1, none⟩ = some (.int .i64 s.wide) ∧ W.cell? ⟨gb + 1, 2, none⟩ = some (.int .i64 s.kerf) ∧ W.cell? ⟨gb + 1, 3, none⟩ = some (.int .i64 s.across)) ∧ (W.cell? ⟨b, off + k * 2, none⟩ = some (.int .i64 (z : Int)) ∧ W.cell? ⟨b, off + k * 2 + 1, none⟩ = some (.int .i64 (y : Int))) ∧ W.cell? ⟨b, off + j * 2, none⟩ = some (.int .i64 xj) ∧ W.cell? ⟨b, off + j * 2 + 1, none⟩ = some (.int .i64 yj))) [] (by kernel_rfl) S10 (fun _ => ?_)
          refine untlTake (i := 0) 102 (v := ?v107) rfl (by kernel_rfl) (by kernel_rfl) (by kernel_rfl) (by kernel_rfl) (by kernel_rfl) (by kernel_rfl) (fun _ _ _ h => h) (Or.inl ⟨by kernel_rfl, ?y107⟩) (by assumption) ?r107
          case y107 => (intro w hSw; obtain ⟨⟨h0, h1, h2⟩, ⟨h3, h4, h5, h6⟩, ⟨h7, h8⟩, h9, h10⟩ := hSw; go_simp; try with_reducible rfl)
          refine untlTake (i := 1) 103 (v := ?v108) rfl (by kernel_rfl) (by kernel_rfl) (by kernel_rfl) (by kernel_rfl) (by kernel_rfl) (by kernel_rfl) (fun _ _ _ h => h) (Or.inl ⟨by kernel_rfl, ?y108⟩) (by assumption) ?r108
          case y108 => (intro w hSw; obtain ⟨⟨h0, h1, h2⟩, ⟨h3, h4, h5, h6⟩, ⟨h7, h8⟩, h9, h10⟩ := hSw; go_simp; try with_reducible rfl)
          refine untlTake (i := 2) 104 (v := ?v109) rfl (by kernel_rfl) (by kernel_rfl) (by kernel_rfl) (by kernel_rfl) (by kernel_rfl) (by kernel_rfl) (fun _ _ _ h => h) (Or.inl ⟨by kernel_rfl, ?y109⟩) (by assumption) ?r109
          case y109 => (intro w hSw; obtain ⟨⟨h0, h1, h2⟩, ⟨h3, h4, h5, h6⟩, ⟨h7, h8⟩, h9, h10⟩ := hSw; go_simp; try with_reducible rfl)
          simp only [Act.put, List.setIfInBounds_toArray, List.set_cons_zero, List.set_cons_succ]
          refine untlTake (i := 3) 105 (v := ?v110) rfl (by kernel_rfl) (by kernel_rfl) (by kernel_rfl) (by kernel_rfl) (by kernel_rfl) (by kernel_rfl) (fun _ _ _ h => h) (Or.inl ⟨by kernel_rfl, ?y110⟩) (by assumption) ?r110
          case y110 => (intro w hSw; obtain ⟨⟨h0, h1, h2⟩, ⟨h3, h4, h5, h6⟩, ⟨h7, h8⟩, h9, h10⟩ := hSw; go_simp; try with_reducible rfl)
          refine untlTake (i := 4) 106 (v := ?v111) rfl (by kernel_rfl) (by kernel_rfl) (by kernel_rfl) (by kernel_rfl) (by kernel_rfl) (by kernel_rfl) (fun _ _ _ h => h) (Or.inl ⟨by kernel_rfl, ?y111⟩) (by assumption) ?r111
          case y111 => (intro w hSw; obtain ⟨⟨h0, h1, h2⟩, ⟨h3, h4, h5, h6⟩, ⟨h7, h8⟩, h9, h10⟩ := hSw; go_simp; try with_reducible rfl)
          refine untlTake (i := 5) 107 (v := ?v112) rfl (by kernel_rfl) (by kernel_rfl) (by kernel_rfl) (by kernel_rfl) (by kernel_rfl) (by kernel_rfl) (fun _ _ _ h => h) (Or.inl ⟨by kernel_rfl, ?y112⟩) (by assumption) ?r112
          case y112 => (intro w hSw; obtain ⟨⟨h0, h1, h2⟩, ⟨h3, h4, h5, h6⟩, ⟨h7, h8⟩, h9, h10⟩ := hSw; go_simp; try with_reducible rfl)
          simp only [Act.put, List.setIfInBounds_toArray, List.set_cons_zero, List.set_cons_succ]
          refine untlStep (i := 6) (by kernel_rfl) rfl (fun K6 hK6 => ?_)
          rw [if_pos (by rfl)]
          go_simp
          refine (HSZ.out _ ND.out RD.out).mono ?_
          rintro e WX ⟨rfl, bX⟩
          have EX := Lib.hid (below_then (Below.refl _ _).drew bX)
          have NX := Lib.hid (ND.out.below bX)
          have S11 : (fun W => (W.cell? ⟨gb + 1 + 1, 0, none⟩ = some (.slice (some ⟨g1, 0, none⟩) B.n c1) ∧ W.cell? ⟨gb + 1 + 1, 1, none⟩ = some (.slice (some ⟨g2, 0, none⟩) B.n c2) ∧ W.cell? ⟨gb + 1 + 1, 2, none⟩ = some (.slice K' B.m cd')) ∧ (W.cell? ⟨gb + 1, 0, none⟩ = some (.int .i64 s.long) ∧ W.cell? ⟨gb + 1, 1, none⟩ = some (.int .i64 s.wide) ∧ W.cell? ⟨gb + 1, 2, none⟩ = some (.int .i64 s.kerf) ∧ W.cell? ⟨gb + 1, 3, none⟩ = some (.int .i64 s.across)) ∧ (W.cell? ⟨b, off + k * 2, none⟩ = some (.int .i64 (z : Int)) ∧ W.cell? ⟨b, off + k * 2 + 1, none⟩ = some (.int .i64 (y : Int))) ∧ W.cell? ⟨b, off + j * 2, none⟩ = some (.int .i64 xj) ∧ W.cell? ⟨b, off + j * 2 + 1, none⟩ = some (.int .i64 yj)) WX := ⟨⟨NX.out.rl.cell 0, NX.out.rl.cell 1, NX.out.rl.cell 2⟩, ⟨NX.out.sl.cell 0, NX.out.sl.cell 1, NX.out.sl.cell 2, NX.out.sl.cell 3⟩, ⟨cell_stay bX K1.out.2.2.1.1, cell_stay bX K1.out.2.2.1.2⟩, cell_stay bX K1.out.2.2.2.1, cell_stay bX K1.out.2.2.2.2⟩
          clear bX S10
          refine hK6.out _ _ (.inr S11) ?_
          refine untlTake (i := 7) 109 (v := .bool false) rfl (by kernel_rfl) (by kernel_rfl) (by kernel_rfl) (by kernel_rfl) (by kernel_rfl) (by kernel_rfl) (fun _ _ _ h => h) (Or.inl ⟨by kernel_rfl, ?y113⟩) (by assumption) ?r113
          case y113 => (intro w hSw; obtain ⟨⟨h0, h1, h2⟩, ⟨h3, h4, h5, h6⟩, ⟨h7, h8⟩, h9, h10⟩ := hSw; go_simp; try with_reducible rfl)
          refine untlTake (i := 8) 110 (v := .bool false) rfl (by kernel_rfl) (by kernel_rfl) (by kernel_rfl) (by kernel_rfl) (by kernel_rfl) (by kernel_rfl) (fun _ _ _ h => h) (Or.inl ⟨by kernel_rfl, ?y114⟩) (by assumption) ?r114
          case y114 => (intro w hSw; obtain ⟨⟨h0, h1, h2⟩, ⟨h3, h4, h5, h6⟩, ⟨h7, h8⟩, h9, h10⟩ := hSw; go_simp; try with_reducible rfl)
          refine untlTake (i := 9) 111 (v := ?v115) rfl (by kernel_rfl) (by kernel_rfl) (by kernel_rfl) (by kernel_rfl) (by kernel_rfl) (by kernel_rfl) (fun _ _ _ h => h) (Or.inl ⟨by kernel_rfl, ?y115⟩) (by assumption) ?r115
          case y115 => (intro w hSw; obtain ⟨⟨h0, h1, h2⟩, ⟨h3, h4, h5, h6⟩, ⟨h7, h8⟩, h9, h10⟩ := hSw; go_simp; try with_reducible rfl)
          simp only [Act.put, List.setIfInBounds_toArray, List.set_cons_zero, List.set_cons_succ]
          refine untlTake (i := 10) 112 (v := .bool true) rfl (by kernel_rfl) (by kernel_rfl) (by kernel_rfl) (by kernel_rfl) (by kernel_rfl) (by kernel_rfl) (fun _ _ _ h => h) (Or.inl ⟨by kernel_rfl, ?y116⟩) (by assumption) ?r116
          case y116 => (intro w hSw; obtain ⟨⟨h0, h1, h2⟩, ⟨h3, h4, h5, h6⟩, ⟨h7, h8⟩, h9, h10⟩ := hSw; go_simp; (try (with_reducible rfl)); try (first | exact HK0.out | omega))
          refine untlTake (i := 11) 113 (v := .bool true) rfl (by kernel_rfl) (by kernel_rfl) (by kernel_rfl) (by kernel_rfl) (by kernel_rfl) (by kernel_rfl) (fun _ _ _ h => h) (Or.inl ⟨by kernel_rfl, ?y117⟩) (by assumption) ?r117
          case y117 => (intro w hSw; obtain ⟨⟨h0, h1, h2⟩, ⟨h3, h4, h5, h6⟩, ⟨h7, h8⟩, h9, h10⟩ := hSw; go_simp; try with_reducible rfl)
          refine untlTake (i := 12) 114 (v := ?v118) rfl (by kernel_rfl) (by kernel_rfl) (by kernel_rfl) (by kernel_rfl) (by kernel_rfl) (by kernel_rfl) (fun _ _ _ h => h) (Or.inl ⟨by kernel_rfl, ?y118⟩) (by assumption) ?r118
          case y118 => (intro w hSw; obtain ⟨⟨h0, h1, h2⟩, ⟨h3, h4, h5, h6⟩, ⟨h7, h8⟩, h9, h10⟩ := hSw; go_simp; try with_reducible rfl)
          simp only [Act.put, List.setIfInBounds_toArray, List.set_cons_zero, List.set_cons_succ]
          refine untlTake (i := 13) 115 (v := ?v119) rfl (by kernel_rfl) (by kernel_rfl) (by kernel_rfl) (by kernel_rfl) (by kernel_rfl) (by kernel_rfl) (fun _ _ _ h => h) (Or.inl ⟨by kernel_rfl, ?y119⟩) (by assumption) ?r119
          case y119 => (intro w hSw; obtain ⟨⟨h0, h1, h2⟩, ⟨h3, h4, h5, h6⟩, ⟨h7, h8⟩, h9, h10⟩ := hSw; go_simp; try with_reducible rfl)
          refine untlTake (i := 14) 116 (v := ?v120) rfl (by kernel_rfl) (by kernel_rfl) (by kernel_rfl) (by kernel_rfl) (by kernel_rfl) (by kernel_rfl) (fun _ _ _ h => h) (Or.inl ⟨by kernel_rfl, ?y120⟩) (by assumption) ?r120
          case y120 => (intro w hSw; obtain ⟨⟨h0, h1, h2⟩, ⟨h3, h4, h5, h6⟩, ⟨h7, h8⟩, h9, h10⟩ := hSw; go_simp; try with_reducible rfl)
          refine untlTake (i := 15) 117 (v := ?v121) rfl (by kernel_rfl) (by kernel_rfl) (by kernel_rfl) (by kernel_rfl) (by kernel_rfl) (by kernel_rfl) (fun _ _ _ h => h) (Or.inl ⟨by kernel_rfl, ?y121⟩) (by assumption) ?r121
          case y121 => (intro w hSw; obtain ⟨⟨h0, h1, h2⟩, ⟨h3, h4, h5, h6⟩, ⟨h7, h8⟩, h9, h10⟩ := hSw; go_simp; try with_reducible rfl)
          simp only [Act.put, List.setIfInBounds_toArray, List.set_cons_zero, List.set_cons_succ]
          refine untlTake (i := 16) 118 (v := ?v122) rfl (by kernel_rfl) (by kernel_rfl) (by kernel_rfl) (by kernel_rfl) (by kernel_rfl) (by kernel_rfl) (fun _ _ _ h => h) (Or.inl ⟨by kernel_rfl, ?y122⟩) (by assumption) ?r122
          case y122 => (intro w hSw; obtain ⟨⟨h0, h1, h2⟩, ⟨h3, h4, h5, h6⟩, ⟨h7, h8⟩, h9, h10⟩ := hSw; go_simp; try with_reducible rfl)
          refine untlTake (i := 17) 119 (v := ?v123) rfl (by kernel_rfl) (by kernel_rfl) (by kernel_rfl) (by kernel_rfl) (by kernel_rfl) (by kernel_rfl) (fun _ _ _ h => h) (Or.inl ⟨by kernel_rfl, ?y123⟩) (by assumption) ?r123
          case y123 => (intro w hSw; obtain ⟨⟨h0, h1, h2⟩, ⟨h3, h4, h5, h6⟩, ⟨h7, h8⟩, h9, h10⟩ := hSw; go_simp; try with_reducible rfl)
          refine untlTake (i := 18) 120 (v := ?v124) rfl (by kernel_rfl) (by kernel_rfl) (by kernel_rfl) (by kernel_rfl) (by kernel_rfl) (by kernel_rfl) (fun _ _ _ h => h) (Or.inl ⟨by kernel_rfl, ?y124⟩) (by assumption) ?r124
          case y124 => (intro w hSw; obtain ⟨⟨h0, h1, h2⟩, ⟨h3, h4, h5, h6⟩, ⟨h7, h8⟩, h9, h10⟩ := hSw; go_simp; try with_reducible rfl)
          simp only [Act.put, List.setIfInBounds_toArray, List.set_cons_zero, List.set_cons_succ]
          refine untlTake (i := 19) 121 (v := ?v125) rfl (by kernel_rfl) (by kernel_rfl) (by kernel_rfl) (by kernel_rfl) (by kernel_rfl) (by kernel_rfl) (fun _ _ _ h => h) (Or.inl ⟨by kernel_rfl, ?y125⟩) (by assumption) ?r125
          case y125 => (intro w hSw; obtain ⟨⟨h0, h1, h2⟩, ⟨h3, h4, h5, h6⟩, ⟨h7, h8⟩, h9, h10⟩ := hSw; go_simp; try with_reducible rfl)
          refine untlTake (i := 20) 122 (v := ?v126) rfl (by kernel_rfl) (by kernel_rfl) (by kernel_rfl) (by kernel_rfl) (by kernel_rfl) (by kernel_rfl) (fun _ _ _ h => h) (Or.inl ⟨by kernel_rfl, ?y126⟩) (by assumption) ?r126
          case y126 => (intro w hSw; obtain ⟨⟨h0, h1, h2⟩, ⟨h3, h4, h5, h6⟩, ⟨h7, h8⟩, h9, h10⟩ := hSw; go_simp; try with_reducible rfl)
          refine untlTake (i := 21) 123 (v := ?v127) rfl (by kernel_rfl) (by kernel_rfl) (by kernel_rfl) (by kernel_rfl) (by kernel_rfl) (by kernel_rfl) (fun _ _ _ h => h) (Or.inl ⟨by kernel_rfl, ?y127⟩) (by assumption) ?r127
          case y127 => (intro w hSw; obtain ⟨⟨h0, h1, h2⟩, ⟨h3, h4, h5, h6⟩, ⟨h7, h8⟩, h9, h10⟩ := hSw; go_simp; try with_reducible rfl)
          simp only [Act.put, List.setIfInBounds_toArray, List.set_cons_zero, List.set_cons_succ]
          refine untlTake (i := 22) 124 (v := ?v128) rfl (by kernel_rfl) (by kernel_rfl) (by kernel_rfl) (by kernel_rfl) (by kernel_rfl) (by kernel_rfl) (fun _ _ _ h => h) (Or.inl ⟨by kernel_rfl, ?y128⟩) (by assumption) ?r128
          case y128 => (intro w hSw; obtain ⟨⟨h0, h1, h2⟩, ⟨h3, h4, h5, h6⟩, ⟨h7, h8⟩, h9, h10⟩ := hSw; go_simp; try with_reducible rfl)
          refine untlTake (i := 23) 125 (v := .bool false) rfl (by kernel_rfl) (by kernel_rfl) (by kernel_rfl) (by kernel_rfl) (by kernel_rfl) (by kernel_rfl) (fun _ _ _ h => h) (Or.inl ⟨by kernel_rfl, ?y129⟩) (by assumption) ?r129
          case y129 => (intro w hSw; obtain ⟨⟨h0, h1, h2⟩, ⟨h3, h4, h5, h6⟩, ⟨h7, h8⟩, h9, h10⟩ := hSw; go_simp; try with_reducible rfl)
          refine untlTake (i := 24) 126 (v := .bool false) rfl (by kernel_rfl) (by kernel_rfl) (by kernel_rfl) (by kernel_rfl) (by kernel_rfl) (by kernel_rfl) (fun _ _ _ h => h) (Or.inl ⟨by kernel_rfl, ?y130⟩) (by assumption) ?r130
          case y130 => (intro w hSw; obtain ⟨⟨h0, h1, h2⟩, ⟨h3, h4, h5, h6⟩, ⟨h7, h8⟩, h9, h10⟩ := hSw; go_simp; try with_reducible rfl)
          simp only [Act.put, List.setIfInBounds_toArray, List.set_cons_zero, List.set_cons_succ]
          refine untlTake (i := 25) 127 (v := ?v131) rfl (by kernel_rfl) (by kernel_rfl) (by kernel_rfl) (by kernel_rfl) (by kernel_rfl) (by kernel_rfl) (fun _ _ _ h => h) (Or.inl ⟨by kernel_rfl, ?y131⟩) (by assumption) ?r131
          case y131 => (intro w hSw; obtain ⟨⟨h0, h1, h2⟩, ⟨h3, h4, h5, h6⟩, ⟨h7, h8⟩, h9, h10⟩ := hSw; go_simp; try with_reducible rfl)
          refine untlTake (i := 26) 128 (v := ?v132) rfl (by kernel_rfl) (by kernel_rfl) (by kernel_rfl) (by kernel_rfl) (by kernel_rfl) (by kernel_rfl) (fun _ _ _ h => h) (Or.inl ⟨by kernel_rfl, ?y132⟩) (by assumption) ?r132
          case y132 => (intro w hSw; obtain ⟨⟨h0, h1, h2⟩, ⟨h3, h4, h5, h6⟩, ⟨h7, h8⟩, h9, h10⟩ := hSw; go_simp; try with_reducible rfl)
          refine untlTake (i := 27) 129 (v := ?v133) rfl (by kernel_rfl) (by kernel_rfl) (by kernel_rfl) (by kernel_rfl) (by kernel_rfl) (by kernel_rfl) (fun _ _ _ h => h) (Or.inl ⟨by kernel_rfl, ?y133⟩) (by assumption) ?r133
          case y133 => (intro w hSw; obtain ⟨⟨h0, h1, h2⟩, ⟨h3, h4, h5, h6⟩, ⟨h7, h8⟩, h9, h10⟩ := hSw; go_simp; try with_reducible rfl)
          simp only [Act.put, List.setIfInBounds_toArray, List.set_cons_zero, List.set_cons_succ]
          refine untlTake (i := 28) 130 (v := ?v134) rfl (by kernel_rfl) (by kernel_rfl) (by kernel_rfl) (by kernel_rfl) (by kernel_rfl) (by kernel_rfl) (fun _ _ _ h => h) (Or.inl ⟨by kernel_rfl, ?y134⟩) (by assumption) ?r134
          case y134 => (intro w hSw; obtain ⟨⟨h0, h1, h2⟩, ⟨h3, h4, h5, h6⟩, ⟨h7, h8⟩, h9, h10⟩ := hSw; go_simp; try with_reducible rfl)
          refine untlTake (i := 29) 131 (v := ?v135) rfl (by kernel_rfl) (by kernel_rfl) (by kernel_rfl) (by kernel_rfl) (by kernel_rfl) (by kernel_rfl) (fun _ _ _ h => h) (Or.inl ⟨by kernel_rfl, ?y135⟩) (by assumption) ?r135
          case y135 => (intro w hSw; obtain ⟨⟨h0, h1, h2⟩, ⟨h3, h4, h5, h6⟩, ⟨h7, h8⟩, h9, h10⟩ := hSw; go_simp; try with_reducible rfl)
          refine untlTake (i := 30) 132 (v := ?v136) rfl (by kernel_rfl) (by kernel_rfl) (by kernel_rfl) (by kernel_rfl) (by kernel_rfl) (by kernel_rfl) (fun _ _ _ h => h) (Or.inl ⟨by kernel_rfl, ?y136⟩) (by assumption) ?r136
          case y136 => (intro w hSw; obtain ⟨⟨h0, h1, h2⟩, ⟨h3, h4, h5, h6⟩, ⟨h7, h8⟩, h9, h10⟩ := hSw; go_simp; try with_reducible rfl)
          simp only [Act.put, List.setIfInBounds_toArray, List.set_cons_zero, List.set_cons_succ]
          refine untlTake (i := 31) 133 (v := ?v137) rfl (by kernel_rfl) (by kernel_rfl) (by kernel_rfl) (by kernel_rfl) (by kernel_rfl) (by kernel_rfl) (fun _ _ _ h => h) (Or.inl ⟨by kernel_rfl, ?y137⟩) (by assumption) ?r137
          case y137 => (intro w hSw; obtain ⟨⟨h0, h1, h2⟩, ⟨h3, h4, h5, h6⟩, ⟨h7, h8⟩, h9, h10⟩ := hSw; go_simp; try with_reducible rfl)
          refine untlTake (i := 32) 134 (v := ?v138) rfl (by kernel_rfl) (by kernel_rfl) (by kernel_rfl) (by kernel_rfl) (by kernel_rfl) (by kernel_rfl) (fun _ _ _ h => h) (Or.inl ⟨by kernel_rfl, ?y138⟩) (by assumption) ?r138
          case y138 => (intro w hSw; obtain ⟨⟨h0, h1, h2⟩, ⟨h3, h4, h5, h6⟩, ⟨h7, h8⟩, h9, h10⟩ := hSw; go_simp; try with_reducible rfl)
          refine untlTake (i := 33) 135 (v := ?v139) rfl (by kernel_rfl) (by kernel_rfl) (by kernel_rfl) (by kernel_rfl) (by kernel_rfl) (by kernel_rfl) (fun _ _ _ h => h) (Or.inl ⟨by kernel_rfl, ?y139⟩) (by assumption) ?r139
          case y139 => (intro w hSw; obtain ⟨⟨h0, h1, h2⟩, ⟨h3, h4, h5, h6⟩, ⟨h7, h8⟩, h9, h10⟩ := hSw; go_simp; try with_reducible rfl)
          simp only [Act.put, List.setIfInBounds_toArray, List.set_cons_zero, List.set_cons_succ]
          refine untlTake (i := 34) 136 (v := ?v140) rfl (by kernel_rfl) (by kernel_rfl) (by kernel_rfl) (by kernel_rfl) (by kernel_rfl) (by kernel_rfl) (fun _ _ _ h => h) (Or.inl ⟨by kernel_rfl, ?y140⟩) (by assumption) ?r140
          case y140 => (intro w hSw; obtain ⟨⟨h0, h1, h2⟩, ⟨h3, h4, h5, h6⟩, ⟨h7, h8⟩, h9, h10⟩ := hSw; go_simp; try with_reducible rfl)
          refine untlTake (i := 35) 137 (v := ?v141) rfl (by kernel_rfl) (by kernel_rfl) (by kernel_rfl) (by kernel_rfl) (by kernel_rfl) (by kernel_rfl) (fun _ _ _ h => h) (Or.inl ⟨by kernel_rfl, ?y141⟩) (by assumption) ?r141
          case y141 => (intro w hSw; obtain ⟨⟨h0, h1, h2⟩, ⟨h3, h4, h5, h6⟩, ⟨h7, h8⟩, h9, h10⟩ := hSw; go_simp; try with_reducible rfl)
          refine untlTake (i := 36) 138 (v := .bool false) rfl (by kernel_rfl) (by kernel_rfl) (by kernel_rfl) (by kernel_rfl) (by kernel_rfl) (by kernel_rfl) (fun _ _ _ h => h) (Or.inl ⟨by kernel_rfl, ?y142⟩) (by assumption) ?r142
          case y142 => (intro w hSw; obtain ⟨⟨h0, h1, h2⟩, ⟨h3, h4, h5, h6⟩, ⟨h7, h8⟩, h9, h10⟩ := hSw; go_simp; try with_reducible rfl)
          simp only [Act.put, List.setIfInBounds_toArray, List.set_cons_zero, List.set_cons_succ]
          refine untlTake (i := 37) 139 (v := .bool false) rfl (by kernel_rfl) (by kernel_rfl) (by kernel_rfl) (by kernel_rfl) (by kernel_rfl) (by kernel_rfl) (fun _ _ _ h => h) (Or.inl ⟨by kernel_rfl, ?y143⟩) (by assumption) ?r143
          case y143 => (intro w hSw; obtain ⟨⟨h0, h1, h2⟩, ⟨h3, h4, h5, h6⟩, ⟨h7, h8⟩, h9, h10⟩ := hSw; go_simp; try with_reducible rfl)
          refine untlTake (i := 38) 140 (v := undef) rfl (by kernel_rfl) (by kernel_rfl) (by kernel_rfl) (by kernel_rfl) (by kernel_rfl) (by kernel_rfl) (fun _ _ _ h => h) (Or.inr ⟨by kernel_rfl, rfl⟩) (by assumption) ?r144
          refine untlTake (i := 39) 141 (v := undef) rfl (by kernel_rfl) (by kernel_rfl) (by kernel_rfl) (by kernel_rfl) (by kernel_rfl) (by kernel_rfl) (fun _ _ _ h => h) (Or.inr ⟨by kernel_rfl, rfl⟩) (by assumption) ?r145
          simp only [Act.put, List.setIfInBounds_toArray, List.set_cons_zero, List.set_cons_succ]
          refine untlTake (i := 40) 142 (v := undef) rfl (by kernel_rfl) (by kernel_rfl) (by kernel_rfl) (by kernel_rfl) (by kernel_rfl) (by kernel_rfl) (fun _ _ _ h => h) (Or.inr ⟨by kernel_rfl, rfl⟩) (by assumption) ?r146
          refine untlTake (i := 41) 143 (v := undef) rfl (by kernel_rfl) (by kernel_rfl) (by kernel_rfl) (by kernel_rfl) (by kernel_rfl) (by kernel_rfl) (fun _ _ _ h => h) (Or.inr ⟨by kernel_rfl, rfl⟩) (by assumption) ?r147
          refine untlTake (i := 42) 144 (v := undef) rfl (by kernel_rfl) (by kernel_rfl) (by kernel_rfl) (by kernel_rfl) (by kernel_rfl) (by kernel_rfl) (fun _ _ _ h => h) (Or.inr ⟨by kernel_rfl, rfl⟩) (by assumption) ?r148
          simp only [Act.put, List.setIfInBounds_toArray, List.set_cons_zero, List.set_cons_succ]
          refine untlTake (i := 43) 145 (v := undef) rfl (by kernel_rfl) (by kernel_rfl) (by kernel_rfl) (by kernel_rfl) (by kernel_rfl) (by kernel_rfl) (fun _ _ _ h => h) (Or.inr ⟨by kernel_rfl, rfl⟩) (by assumption) ?r149
          refine untlTake (i := 44) 146 (v := undef) rfl (by kernel_rfl) (by kernel_rfl) (by kernel_rfl) (by kernel_rfl) (by kernel_rfl) (by kernel_rfl) (fun _ _ _ h => h) (Or.inr ⟨by kernel_rfl, rfl⟩) (by assumption) ?r150
          refine untlTake (i := 45) 147 (v := undef) rfl (by kernel_rfl) (by kernel_rfl) (by kernel_rfl) (by kernel_rfl) (by kernel_rfl) (by kernel_rfl) (fun _ _ _ h => h) (Or.inr ⟨by kernel_rfl, rfl⟩) (by assumption) ?r151
          simp only [Act.put, List.setIfInBounds_toArray, List.set_cons_zero, List.set_cons_succ]
          refine untlTake (i := 46) 148 (v := undef) rfl (by kernel_rfl) (by kernel_rfl) (by kernel_rfl) (by kernel_rfl) (by kernel_rfl) (by kernel_rfl) (fun _ _ _ h => h) (Or.inr ⟨by kernel_rfl, rfl⟩) (by assumption) ?r152
          refine untlTake (i := 47) 149 (v := undef) rfl (by kernel_rfl) (by kernel_rfl) (by kernel_rfl) (by kernel_rfl) (by kernel_rfl) (by kernel_rfl) (fun _ _ _ h => h) (Or.inr ⟨by kernel_rfl, rfl⟩) (by assumption) ?r153
          refine untlTake (i := 48) 150 (v := undef) rfl (by kernel_rfl) (by kernel_rfl) (by kernel_rfl) (by kernel_rfl) (by kernel_rfl) (by kernel_rfl) (fun _ _ _ h => h) (Or.inr ⟨by kernel_rfl, rfl⟩) (by assumption) ?r154
          simp only [Act.put, List.setIfInBounds_toArray, List.set_cons_zero, List.set_cons_succ]
          refine untlTake (i := 49) 151 (v := undef) rfl (by kernel_rfl) (by kernel_rfl) (by kernel_rfl) (by kernel_rfl) (by kernel_rfl) (by kernel_rfl) (fun _ _ _ h => h) (Or.inr ⟨by kernel_rfl, rfl⟩) (by assumption) ?r155
          refine untlTake (i := 50) 152 (v := .bool false) rfl (by kernel_rfl) (by kernel_rfl) (by kernel_rfl) (by kernel_rfl) (by kernel_rfl) (by kernel_rfl) (fun _ _ _ h => h) (Or.inl ⟨by kernel_rfl, ?y156⟩) (by assumption) ?r156
          case y156 => (intro w hSw; obtain ⟨⟨h0, h1, h2⟩, ⟨h3, h4, h5, h6⟩, ⟨h7, h8⟩, h9, h10⟩ := hSw; go_simp; try with_reducible rfl)
          refine untlTake (i := 51) 153 (v := .bool false) rfl (by kernel_rfl) (by kernel_rfl) (by kernel_rfl) (by kernel_rfl) (by kernel_rfl) (by kernel_rfl) (fun _ _ _ h => h) (Or.inl ⟨by kernel_rfl, ?y157⟩) (by assumption) ?r157
          case y157 => (intro w hSw; obtain ⟨⟨h0, h1, h2⟩, ⟨h3, h4, h5, h6⟩, ⟨h7, h8⟩, h9, h10⟩ := hSw; go_simp; try with_reducible rfl)
          simp only [Act.put, List.setIfInBounds_toArray, List.set_cons_zero, List.set_cons_succ]
          refine untlTake (i := 52) 154 (v := .bool false) rfl (by kernel_rfl) (by kernel_rfl) (by kernel_rfl) (by kernel_rfl) (by kernel_rfl) (by kernel_rfl) (fun _ _ _ h => h) (Or.inl ⟨by kernel_rfl, ?y158⟩) (by assumption) ?r158
          case y158 => (intro w hSw; obtain ⟨⟨h0, h1, h2⟩, ⟨h3, h4, h5, h6⟩, ⟨h7, h8⟩, h9, h10⟩ := hSw; go_simp; try with_reducible rfl)
          refine untlTake (i := 53) 155 (v := .bool false) rfl (by kernel_rfl) (by kernel_rfl) (by kernel_rfl) (by kernel_rfl) (by kernel_rfl) (by kernel_rfl) (fun _ _ _ h => h) (Or.inl ⟨by kernel_rfl, ?y159⟩) (by assumption) ?r159
          case y159 => (intro w hSw; obtain ⟨⟨h0, h1, h2⟩, ⟨h3, h4, h5, h6⟩, ⟨h7, h8⟩, h9, h10⟩ := hSw; go_simp; try with_reducible rfl)
          simp only [Act.put, List.setIfInBounds_toArray, List.set_cons_zero, List.set_cons_succ]
          refine untlDone (by kernel_rfl) ?_ _
          clear S11
          go_wp2_with fail
          go_roundw
          case rel => exact ⟨k + 1, by omega, by go_num, NX.out, Reads.below PL.out EX.out, Reads.below RL.out EX.out⟩
          case measure => simp [intOf]; omega
    · obtain rfl : k = ps.length := by omega
      have f9 : ps.length ≤ 400 := by omega
      have HFO := Lib.hid (fun A c W (hat : B.At W) (hp : Pairs W A ps.length ps) (hcp : ps.length ≤ c) => fault_none B s A ps.length c ps W hat hp f9 hcp HF.out.ok HSO.out (fun p hp => by
        obtain ⟨z, e1, e2, e3, e4, _⟩ := HPM.out p hp
        exact ⟨z, e1, e2, e3, e4⟩) (fun j hj => wrong_none HSO.out HPW.out (fun p hp => by
        obtain ⟨z, e1, _, _, _, e5⟩ := HPM.out p hp
        rw [e1]; exact e5) hj))
      unfold Bl.val Sw.val at HFO
      obtain ⟨j0, hj1, hj2, hj3, hj4⟩ := info_parts Try.infoPlace
      have ND := Lib.hid (NL.out.below (Below.refl _ _).drew)
      have PD := Lib.hid (Reads.below PL.out (Below.refl _ _).drew)
      clear NL PL RL HSD HAT HBH HPW HPM
      go_upto_region 12 with (fail)
      have S0 : (fun W => (W.cell? ⟨gb, 0, none⟩ = some (.slice B.A B.n B.c) ∧ W.cell? ⟨gb, 1, none⟩ = some (.slice B.A' B.n' B.c') ∧ W.cell? ⟨gb, 2, none⟩ = some (.int .i64 B.bend) ∧ W.cell? ⟨gb, 3, none⟩ = some (.slice B.K B.m B.d)) ∧ W.cell? ⟨gb + 1, 0, none⟩ = some (.int .i64 s.long) ∧ W.cell? ⟨gb + 1, 1, none⟩ = some (.int .i64 s.wide) ∧ W.cell? ⟨gb + 1, 2, none⟩ = some (.int .i64 s.kerf) ∧ W.cell? ⟨gb + 1, 3, none⟩ = some (.int .i64 s.across)) wr.drew := ND.out.get8
      refine wp_region_untl (S := (fun W => (W.cell? ⟨gb, 0, none⟩ = some (.slice B.A B.n B.c) ∧ W.cell? ⟨gb, 1, none⟩ = some (.slice B.A' B.n' B.c') ∧ W.cell? ⟨gb, 2, none⟩ = some (.int .i64 B.bend) ∧ W.cell? ⟨gb, 3, none⟩ = some (.slice B.K B.m B.d)) ∧ W.cell? ⟨gb + 1, 0, none⟩ = some (.int .i64 s.long) ∧ W.cell? ⟨gb + 1, 1, none⟩ = some (.int .i64 s.wide) ∧ W.cell? ⟨gb + 1, 2, none⟩ = some (.int .i64 s.kerf) ∧ W.cell? ⟨gb + 1, 3, none⟩ = some (.int .i64 s.across))) [] (by kernel_rfl) S0 (fun _ => ?_)
      refine untlTake (i := 0) 157 (v := ?v5001) rfl (by kernel_rfl) (by kernel_rfl) (by kernel_rfl) (by kernel_rfl) (by kernel_rfl) (by kernel_rfl) (fun _ _ _ h => h) (Or.inl ⟨by kernel_rfl, ?y5001⟩) (by assumption) ?r5001
      case y5001 => (intro w hSw; obtain ⟨⟨h0, h1, h2, h3⟩, h4, h5, h6, h7⟩ := hSw; go_simp; try with_reducible rfl)
      refine untlTake (i := 1) 158 (v := ?v5002) rfl (by kernel_rfl) (by kernel_rfl) (by kernel_rfl) (by kernel_rfl) (by kernel_rfl) (by kernel_rfl) (fun _ _ _ h => h) (Or.inl ⟨by kernel_rfl, ?y5002⟩) (by assumption) ?r5002
      case y5002 => (intro w hSw; obtain ⟨⟨h0, h1, h2, h3⟩, h4, h5, h6, h7⟩ := hSw; go_simp; try with_reducible rfl)
      refine untlTake (i := 3) 160 (v := ?v5003) rfl (by kernel_rfl) (by kernel_rfl) (by kernel_rfl) (by kernel_rfl) (by kernel_rfl) (by kernel_rfl) (fun _ _ _ h => h) (Or.inl ⟨by kernel_rfl, ?y5003⟩) (by assumption) ?r5003
      case y5003 => (intro w hSw; obtain ⟨⟨h0, h1, h2, h3⟩, h4, h5, h6, h7⟩ := hSw; go_simp; try with_reducible rfl)
      simp only [Act.put, List.setIfInBounds_toArray, List.set_cons_zero, List.set_cons_succ]
      refine untlStep (i := 2) (by kernel_rfl) rfl (fun K2 hK2 => ?_)
      rw [if_pos (by rfl)]
      go_simp
      have N2 := Lib.hid (ND.out.below (below_self wr.drew (.cells #[] 39)))
      have P2 := Lib.hid (Reads.below PD.out (below_self wr.drew (.cells #[] 39)))
      refine hK2.out _ _ (.inr N2.out.get8) ?_
      refine untlStep (i := 4) (by kernel_rfl) rfl (fun K4 hK4 => ?_)
      refine step_append_copy2 rfl (.tmp 159) (.tmp 160) 54 rfl 39 j0 _ 2 16 Try.underlying54 hj1 hj2 hj3 hj4 rfl (by decide) _ (by rfl) A4 ps.length c4 (by rfl) _ P2.out (by unfold maxLen; omega) (by omega) ?_
      intro A5 c5 W5 hon b5
      have N5 := Lib.hid (N2.out.below b5)
      have P5 : Hid (Pairs W5 A5 ps.length ps) := hon.nr.r
      have hcp : ps.length ≤ c5 := by
        rcases Nat.eq_zero_or_pos ps.length with h | h
        · omega
        · exact (own_cap (hon.own h)).1
      have HCP := Lib.hid hcp
      clear hon b5 hcp N2 P2 ND PD S0
      refine hK4.out _ _ (.inr N5.out.get8) ?_
      refine untlStep (i := 5) (by kernel_rfl) rfl (fun K5 hK5 => ?_)
      rw [if_pos (by rfl)]
      go_simp
      refine (HFO.out _ _ _ N5.out.at_ P5.out HCP.out).mono ?_
      rintro e W6 ⟨rfl, b6⟩
      have N6 := Lib.hid (N5.out.below b6)
      have S6 : (fun W => (W.cell? ⟨gb, 0, none⟩ = some (.slice B.A B.n B.c) ∧ W.cell? ⟨gb, 1, none⟩ = some (.slice B.A' B.n' B.c') ∧ W.cell? ⟨gb, 2, none⟩ = some (.int .i64 B.bend) ∧ W.cell? ⟨gb, 3, none⟩ = some (.slice B.K B.m B.d)) ∧ W.cell? ⟨gb + 1, 0, none⟩ = some (.int .i64 s.long) ∧ W.cell? ⟨gb + 1, 1, none⟩ = some (.int .i64 s.wide) ∧ W.cell? ⟨gb + 1, 2, none⟩ = some (.int .i64 s.kerf) ∧ W.cell? ⟨gb + 1, 3, none⟩ = some (.int .i64 s.across)) W6 := N6.out.get8
      clear b6 N5 P5 HCP
      refine hK5.out _ _ (.inr S6) ?_
      refine untlTake (i := 6) 156 (v := ?v5004) rfl (by kernel_rfl) (by kernel_rfl) (by kernel_rfl) (by kernel_rfl) (by kernel_rfl) (by kernel_rfl) (fun _ _ _ h => h) (Or.inl ⟨by kernel_rfl, ?y5004⟩) (by assumption) ?r5004
      case y5004 => (intro w hSw; obtain ⟨⟨h0, h1, h2, h3⟩, h4, h5, h6, h7⟩ := hSw; go_simp; try with_reducible rfl)
      refine untlTake (i := 7) 163 (v := ?v5005) rfl (by kernel_rfl) (by kernel_rfl) (by kernel_rfl) (by kernel_rfl) (by kernel_rfl) (by kernel_rfl) (fun _ _ _ h => h) (Or.inl ⟨by kernel_rfl, ?y5005⟩) (by assumption) ?r5005
      case y5005 => (intro w hSw; obtain ⟨⟨h0, h1, h2, h3⟩, h4, h5, h6, h7⟩ := hSw; go_simp; try with_reducible rfl)
      refine untlTake (i := 8) 164 (v := ?v5006) rfl (by kernel_rfl) (by kernel_rfl) (by kernel_rfl) (by kernel_rfl) (by kernel_rfl) (by kernel_rfl) (fun _ _ _ h => h) (Or.inl ⟨by kernel_rfl, ?y5006⟩) (by assumption) ?r5006
      case y5006 => (intro w hSw; obtain ⟨⟨h0, h1, h2, h3⟩, h4, h5, h6, h7⟩ := hSw; go_simp; try with_reducible rfl)
      simp only [Act.put, List.setIfInBounds_toArray, List.set_cons_zero, List.set_cons_succ]
      refine untlTake (i := 9) 15 (v := ?v5007) rfl (by kernel_rfl) (by kernel_rfl) (by kernel_rfl) (by kernel_rfl) (by kernel_rfl) (by kernel_rfl) (fun _ _ _ h => h) (Or.inl ⟨by kernel_rfl, ?y5007⟩) (by assumption) ?r5007
      case y5007 => (intro w hSw; obtain ⟨⟨h0, h1, h2, h3⟩, h4, h5, h6, h7⟩ := hSw; go_simp; try with_reducible rfl)
      refine untlTake (i := 10) 16 (v := ?v5008) rfl (by kernel_rfl) (by kernel_rfl) (by kernel_rfl) (by kernel_rfl) (by kernel_rfl) (by kernel_rfl) (fun _ _ _ h => h) (Or.inl ⟨by kernel_rfl, ?y5008⟩) (by assumption) ?r5008
      case y5008 => (intro w hSw; obtain ⟨⟨h0, h1, h2, h3⟩, h4, h5, h6, h7⟩ := hSw; go_simp; try with_reducible rfl)
      refine untlDone (by kernel_rfl) ?_ _
      have BL := Lib.hid N6.out.bel
      clear N6 HFO S6
      go_wp2_with (go_at_call 18; refine (HKN.out _).mono ?_; rintro e w9 ⟨rfl, b9⟩; have D9 := Lib.hid (below_then BL.out b9); clear b9)
      go_ret
      exact ⟨rfl, D9.out⟩
end Go.Proofs.Ytiflhimmieflpaa
