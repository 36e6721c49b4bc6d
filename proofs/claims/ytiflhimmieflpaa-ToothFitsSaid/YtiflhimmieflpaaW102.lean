/- Pure facts: the best truth with the cracks in some columns is the worst one of a blade that is known better. -/
import Derived.Test.YtiflhimmieflpaaW99
import Derived.Test.YtiflhimmieflpaaW100
import Derived.Test.YtiflhimmieflpaaW64
import Derived.Test.YtiflhimmieflpaaM6
namespace Go.Proofs.Ytiflhimmieflpaa
open Go.RowKit Go.Maps

def lowsL (xs : List (Int × Int)) (bend : Int) : List (Int × Int) := (bentL xs bend).map fun p => (p.1, p.1)
def highsL (xs : List (Int × Int)) (bend : Int) : List (Int × Int) := (bentL xs bend).map fun p => (p.2, p.2)
theorem mapg (f : Int × Int → Int × Int) (hf : f (0, 0) = (0, 0)) (xs : List (Int × Int)) (i : Nat) : (xs.map f).getD i (0, 0) = f (xs.getD i (0, 0)) := by
  simp only [List.getD, List.getElem?_map]
  cases xs[i]? with
  | none => simp [hf]
  | some v => simp
/-- A list of single heights that are a truth is its own curve. -/
theorem bent_single {D : List (Int × Int)} {bend : Int} {t : Nat → Int} (hb : 0 ≤ bend) (hD : ∀ i, i < D.length → D.getD i (0, 0) = (t i, t i)) (ht : Truth D bend t) : bentOk D bend = true ∧ bentL D bend = D := by
  have hok := truth_ok ht
  refine ⟨hok, ?_⟩
  have hl := truth_lows hb hok
  have hh := truth_highs hb hok
  apply List.ext_getElem
  · rw [bentL_length]
  · intro i h1 h2
    have a := truth_bent ht i h2
    have b := hl.lo i h2
    have c := hh.hi i h2
    rw [hD i h2] at b c
    have e1 : (bentL D bend).getD i (0, 0) = (bentL D bend)[i] := by simp [List.getD, h1]
    have e2 : D.getD i (0, 0) = D[i] := by simp [List.getD, h2]
    rw [← e1, ← e2, hD i h2]
    dsimp only at b c
    exact Prod.ext (by omega) (by omega)
theorem lows_single {xs : List (Int × Int)} {bend : Int} (hb : 0 ≤ bend) (h : bentOk xs bend = true) : bentOk (lowsL xs bend) bend = true ∧ bentL (lowsL xs bend) bend = lowsL xs bend := by
  have ht := truth_lows hb h
  have hD : ∀ i, (lowsL xs bend).getD i (0, 0) = (((bentL xs bend).getD i (0, 0)).1, ((bentL xs bend).getD i (0, 0)).1) := fun i => mapg (fun p => (p.1, p.1)) rfl _ i
  have hl : (lowsL xs bend).length = xs.length := by simp [lowsL, bentL_length]
  refine bent_single hb (fun i _ => hD i) ⟨fun i _ => ?_, fun i _ => ?_, fun i hi => ?_, fun i hi => ?_⟩
  · rw [hD i]; exact Int.le_refl _
  · rw [hD i]; exact Int.le_refl _
  · exact ht.up i (by omega)
  · exact ht.dn i (by omega)
theorem highs_single {xs : List (Int × Int)} {bend : Int} (hb : 0 ≤ bend) (h : bentOk xs bend = true) : bentOk (highsL xs bend) bend = true ∧ bentL (highsL xs bend) bend = highsL xs bend := by
  have ht := truth_highs hb h
  have hD : ∀ i, (highsL xs bend).getD i (0, 0) = (((bentL xs bend).getD i (0, 0)).2, ((bentL xs bend).getD i (0, 0)).2) := fun i => mapg (fun p => (p.2, p.2)) rfl _ i
  have hl : (highsL xs bend).length = xs.length := by simp [highsL, bentL_length]
  refine bent_single hb (fun i _ => hD i) ⟨fun i _ => ?_, fun i _ => ?_, fun i hi => ?_, fun i hi => ?_⟩
  · rw [hD i]; exact Int.le_refl _
  · rw [hD i]; exact Int.le_refl _
  · exact ht.up i (by omega)
  · exact ht.dn i (by omega)
/-- The blade of one truth: the edges that spoil the fewest sticks, and cracks in these columns, as short as they can be. -/
def Bl.tight (B : Bl) (xs : List Int) : Bl := ⟨B.A, B.A', B.K, B.n, B.c, B.n', B.c', B.m, B.d, B.bend, lowsL B.bot B.bend, highsL B.top B.bend, bestCracks xs B.cr⟩
theorem curveErr_parts {n n' m : Nat} {bend : Int} {bot top : List (Int × Int)} {cr : List Crack} (h : curveErr n n' m bend bot top cr = 0) : n = n' ∧ within 1 30 [(n : Int)] = true ∧ m ≤ 4 ∧ edgesOk bend bot top = true ∧ (cr.any fun k => !crackOk n k) = false ∧ bentOk bot bend = true ∧ bentOk top bend = true := by
  unfold curveErr at h
  split at h
  · omega
  split at h
  · omega
  split at h
  · omega
  split at h
  · omega
  split at h
  · omega
  split at h
  · omega
  split at h
  · omega
  rename_i e1 e2 e3 e4 e5 e6 e7
  exact ⟨by omega, by simpa using e2, by omega, by simpa using e4, by simpa using e5, by simpa using e6, by simpa using e7⟩
theorem worst_tight {B : Bl} {s : Sw} (xs : List Int) (hc : B.cerr = 0) : (B.tight xs).worst s = B.bestX s xs := by
  obtain ⟨-, -, -, he, -, h1, h2⟩ := curveErr_parts hc
  have b0 := (edgesOk_in he).1.1
  unfold Bl.worst worstL Bl.bestX bestL Bl.tight
  dsimp only
  rw [(lows_single b0 h1).2, (highs_single b0 h2).2]
  have e1 : (lowsL B.bot B.bend).map (·.2) = (bentL B.bot B.bend).map (·.1) := by simp [lowsL, Function.comp_def]
  have e2 : (highsL B.top B.bend).map (·.1) = (bentL B.top B.bend).map (·.2) := by simp [highsL, Function.comp_def]
  have e3 : (bestCracks xs B.cr).map worstSplit = bestSplits xs B.cr := by simp [bestCracks, bestSplits, List.map_zipWith]; rfl
  rw [e1, e2, e3]
theorem sure_tight {B : Bl} (xs : List Int) (TA TB K : Option Addr) (c c' d : Nat) (hc : B.cerr = 0) : sureV (B.tight xs) TA TB K c c' d = refBestV B xs TA TB K c c' d := by
  obtain ⟨-, -, -, he, -, h1, h2⟩ := curveErr_parts hc
  have b0 := (edgesOk_in he).1.1
  unfold sureV refBestV Bl.tight
  dsimp only
  rw [(lows_single b0 h1).2, (highs_single b0 h2).2]
  have e1 : (lowsL B.bot B.bend).map (·.2) = (bentL B.bot B.bend).map (·.1) := by simp [lowsL, Function.comp_def]
  have e2 : (highsL B.top B.bend).map (·.1) = (bentL B.top B.bend).map (·.2) := by simp [highsL, Function.comp_def]
  have e3 : (bestCracks xs B.cr).map splitOf = bestCracks xs B.cr := by simp [bestCracks, List.map_zipWith]; rfl
  rw [e1, e2, e3]
/-- Lists of columns of the cracks: each column lies in its span. -/
theorem colsFrom_in : ∀ (cs : List Crack) (p q : List Int), q ∈ colsFrom cs p → ∃ r, q = p ++ r ∧ r.length = cs.length ∧ ∀ i, i < cs.length → (cs.getD i Crack.zero).cl ≤ r.getD i 0 ∧ r.getD i 0 ≤ (cs.getD i Crack.zero).ch
  | [], p, q, h => ⟨[], by simpa [colsFrom] using h, rfl, fun i hi => absurd hi (by simp)⟩
  | c :: cs, p, q, h => by
    unfold colsFrom at h
    obtain ⟨i, hi, hq⟩ := List.mem_flatMap.1 h
    rw [List.mem_range] at hi
    obtain ⟨r, e, hl, hr⟩ := colsFrom_in cs _ q hq
    refine ⟨(c.cl + i) :: r, by rw [e]; simp, by simp [hl], fun j hj => ?_⟩
    cases j with
    | zero => simp; omega
    | succ j => simpa using hr j (by simpa using hj)
theorem tight_cracks {B : Bl} {xs : List Int} (h : (B.cr.any fun k => !crackOk B.n k) = false) (hx : xs ∈ colsFrom B.cr []) : ((bestCracks xs B.cr).any fun k => !crackOk B.n k) = false := by
  obtain ⟨r, e, hl, hr⟩ := colsFrom_in _ _ _ hx
  rw [List.nil_append] at e
  subst e
  rw [List.any_eq_false] at h ⊢
  intro k hk
  have hk' : k ∈ List.zipWith bestCrack xs B.cr := hk
  obtain ⟨i, hi, rfl⟩ := List.getElem_of_mem hk'
  rw [List.getElem_zipWith]
  have hi2 : i < B.cr.length := by simp at hi; omega
  have hi1 : i < xs.length := by omega
  have a := crackOk_in (by simpa using h _ (List.getElem_mem hi2))
  have b := hr i hi2
  have e1 : B.cr.getD i Crack.zero = B.cr[i] := by simp [List.getD, hi2]
  have e2 : xs.getD i 0 = xs[i] := by simp [List.getD, hi1]
  rw [e1, e2] at b
  obtain ⟨k, hk0⟩ : ∃ k, k = bestCrack xs[i] B.cr[i] := ⟨_, rfl⟩
  have f1 : k.cl = xs[i] := by rw [hk0]; rfl
  have f2 : k.ch = xs[i] := by rw [hk0]; rfl
  have f3 : k.fl = B.cr[i].fh := by rw [hk0]; rfl
  have f4 : k.fh = B.cr[i].fh := by rw [hk0]; rfl
  have f5 : k.tl = B.cr[i].tl := by rw [hk0]; rfl
  have f6 : k.th = B.cr[i].tl := by rw [hk0]; rfl
  rw [← hk0]
  clear hk0
  simp only [Bool.not_eq_true', Bool.not_eq_false]
  simp only [crackOk, validS, Bool.and_eq_true, List.all_eq_true, decide_eq_true_eq, List.mem_cons, List.not_mem_nil, or_false, forall_eq, forall_eq_or_imp]
  omega
/-- The blade of the truth is valid. -/
theorem tight_cerr {B : Bl} {xs : List Int} (hb : B.bot.length = B.n) (ht : B.top.length = B.n') (hc : B.cerr = 0) (hx : xs ∈ colsFrom B.cr []) : (B.tight xs).cerr = 0 := by
  obtain ⟨e1, e2, e3, e4, e5, e6, e7⟩ := curveErr_parts hc
  obtain ⟨q1, q2, q3⟩ := edgesOk_in e4
  have b0 := q1.1
  have hk := tight_cracks e5 hx
  have k1 := (lows_single b0 e6).1
  have k2 := (highs_single b0 e7).1
  have lb : (lowsL B.bot B.bend).length = B.n := by simp [lowsL, bentL_length, hb]
  have lt : (highsL B.top B.bend).length = B.n := by simp [highsL, bentL_length, ht, ← e1]
  have hlo := truth_lows b0 e6
  have hhi := truth_highs b0 e7
  have below : ∀ i, i < B.n → ((bentL B.bot B.bend).getD i (0, 0)).1 ≤ ((bentL B.top B.bend).getD i (0, 0)).2 ∧ 0 ≤ ((bentL B.bot B.bend).getD i (0, 0)).1 ∧ ((bentL B.top B.bend).getD i (0, 0)).2 ≤ 300 := fun i hi => by
    have a := hlo.lo i (by omega)
    have a' := hlo.hi i (by omega)
    have b := hhi.lo i (by omega)
    have b' := hhi.hi i (by omega)
    have hB : below2 B.bot B.top B.bot.length = true := by
      unfold edgesOk at e4
      simp only [Bool.and_eq_true] at e4
      exact e4.2
    unfold below2 at hB
    rw [List.all_eq_true] at hB
    have c := hB i (List.mem_range.2 (by omega))
    rw [decide_eq_true_eq] at c
    have d := (q2 (B.bot.getD i (0, 0)) (by have h : i < B.bot.length := by omega
                                            have e : B.bot.getD i (0, 0) = B.bot[i] := by simp [List.getD, h]
                                            rw [e]; exact List.getElem_mem h)).1
    have d' := (q3 (B.top.getD i (0, 0)) (by have h : i < B.top.length := by omega
                                             have e : B.top.getD i (0, 0) = B.top[i] := by simp [List.getD, h]
                                             rw [e]; exact List.getElem_mem h)).1
    unfold InR at d d'
    omega
  have gl : ∀ i, (lowsL B.bot B.bend).getD i (0, 0) = (((bentL B.bot B.bend).getD i (0, 0)).1, ((bentL B.bot B.bend).getD i (0, 0)).1) := fun i => mapg (fun p => (p.1, p.1)) rfl _ i
  have gh : ∀ i, (highsL B.top B.bend).getD i (0, 0) = (((bentL B.top B.bend).getD i (0, 0)).2, ((bentL B.top B.bend).getD i (0, 0)).2) := fun i => mapg (fun p => (p.2, p.2)) rfl _ i
  have he : edgesOk B.bend (lowsL B.bot B.bend) (highsL B.top B.bend) = true := by
    have w1 : within 0 300 [B.bend] = true := by simp [within]; omega
    have w2 : validS 0 300 (lowsL B.bot B.bend) = true := validS_iff.2 fun i hi => spanB_iff.2 (by rw [gl i]; have := below i (by omega); dsimp only; omega)
    have w3 : validS 0 300 (highsL B.top B.bend) = true := validS_iff.2 fun i hi => spanB_iff.2 (by rw [gh i]; have := below i (by omega); dsimp only; omega)
    have w4 : below2 (lowsL B.bot B.bend) (highsL B.top B.bend) (lowsL B.bot B.bend).length = true := by
      unfold below2
      rw [List.all_eq_true]
      intro j hj
      rw [List.mem_range] at hj
      rw [gl j, gh j, decide_eq_true_eq]
      have := below j (by omega)
      dsimp only
      omega
    unfold edgesOk
    rw [w1, w2, w3, w4]
    rfl
  show curveErr B.n B.n' B.m B.bend (lowsL B.bot B.bend) (highsL B.top B.bend) (bestCracks xs B.cr) = 0
  unfold curveErr
  rw [he, hk, k1, k2, e2]
  simp [← e1]
  omega
end Go.Proofs.Ytiflhimmieflpaa
