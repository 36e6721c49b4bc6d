/- The first set of gaps that will do is what Wrong returns. -/
import Derived.Test.YtdekickmplkdiaaUo
namespace Go.Proofs.Ytdekickmplkdiaa

theorem mem_castL (L : List Nat) (k : Nat) : decide ((k : Int) ∈ castL L) = decide (k ∈ L) := by
  rw [Bool.eq_iff_iff]
  simp only [castL, decide_eq_true_eq, List.mem_map]
  exact ⟨fun ⟨a, h, e⟩ => by have : a = k := by omega
                             subst this; exact h, fun h => ⟨k, h, rfl⟩⟩
theorem some_sum (f : Fan) (L : List Nat) (k : Nat) (hk : k ≤ f.gs.length) : (anglesF false { f with gs := someTo f.gs (castL L) k }).sum + rsum (fun i => (anglesF false f).getD i 0) L 0 k = ((anglesF false f).take k).sum := by
  induction k with
  | zero => simp [someTo, rsum, anglesF]
  | succ k ih =>
    have ih := ih (by omega)
    have hl : (anglesF false f).length = f.gs.length := by simp [anglesF]
    have hs := sum_take (anglesF false f) k (by omega)
    rw [someTo, mem_castL, rsum, Nat.zero_add]
    by_cases hm : k ∈ L
    · rw [if_pos (by simpa using hm), if_pos hm]
      omega
    · rw [if_neg (by simpa using hm), if_neg hm]
      have e : anglesF false { f with gs := someTo f.gs (castL L) k ++ [f.gs.getD k Gap.zero] } = anglesF false { f with gs := someTo f.gs (castL L) k } ++ [(anglesF false f).getD k 0] := by
        have hg : f.gs.getD k Gap.zero = f.gs[k] := by simp [List.getD, show k < f.gs.length by omega]
        rw [hg]
        simp [anglesF, List.getD, show k < f.gs.length by omega]
        exact ⟨fun _ _ => rfl, rfl⟩
      rw [e, List.sum_append]
      simp only [List.sum_cons, List.sum_nil]
      omega
theorem degL_some (f : Fan) {L : List Nat} {m : Nat} (hL : L ∈ enumL (anglesF false f) 0 m) : degL false (f.some (castL L)) = degF (openN false f - setSum f L) (partsL false f) := by
  have hl : (anglesF false f).length = f.gs.length := by simp [anglesF]
  have h1 := some_sum f L f.gs.length (Nat.le_refl _)
  have h2 := enum_rsum (a := fun i => (anglesF false f).getD i 0) hL
  rw [hl] at h2
  rw [List.take_of_length_le (by omega)] at h1
  have e : openN false (f.some (castL L)) = openN false f - setSum f L := by
    show (anglesF false { f with gs := someTo f.gs (castL L) f.gs.length }).sum = (anglesF false f).sum - setSum f L
    unfold setSum
    omega
  have e2 : partsL false (f.some (castL L)) = partsL false f := rfl
  unfold degL
  rw [e, e2]
theorem find_congr {P Q : List Nat → Bool} {E : List (List Nat)} (h : ∀ L ∈ E, P L = Q L) : E.find? P = E.find? Q := by
  induction E with
  | nil => rfl
  | cons a r ih =>
    rw [List.find?_cons, List.find?_cons, h a (by simp), ih (fun L hL => h L (by simp [hL]))]
theorem some_nil (f : Fan) : f.some [] = f := by
  have : ∀ k, k ≤ f.gs.length → someTo f.gs [] k = f.gs.take k := by
    intro k
    induction k with
    | zero => intro _; simp [someTo]
    | succ k ih =>
      intro hk
      rw [someTo, ih (by omega), if_neg (by simp), List.take_succ_eq_append_getElem (by omega)]
      simp [List.getD, show k < f.gs.length by omega]
  obtain ⟨a, b, c, d, gs⟩ := f
  show Fan.mk a b c d (someTo gs [] gs.length) = _
  rw [this _ (Nat.le_refl _), List.take_length]
theorem wrong_law {f : Fan} {s : Int × Int} (hE : fanErr f = 0) (hv : validS 0 360 [s] = true) :
    (wrongE f s = 7 ∧ wrongL f s = [] ∧ firstW (anglesF false f) (fun L => canB f s (castL L)) (f.gs.length + 1) = some []) ∨
    (wrongE f s = 9 ∧ wrongL f s = [] ∧ firstW (anglesF false f) (fun L => canB f s (castL L)) (f.gs.length + 1) = none) ∨
    (wrongE f s = 0 ∧ ∃ L, 0 < L.length ∧ wrongL f s = castL L ∧ firstW (anglesF false f) (fun L => canB f s (castL L)) (f.gs.length + 1) = some L) := by
  have hf := (fanB_of hE).1
  have hs : 0 ≤ s.2 ∧ s.1 ≤ 360 := by
    simp only [validS, List.all_cons, List.all_nil, Bool.and_eq_true, decide_eq_true_eq, Bool.and_true] at hv
    omega
  have h0 : firstW (anglesF false f) (fun L => canB f s (castL L)) 1 = if canB f s [] = true then some [] else none := by
    rw [firstW_step rfl, enumL_zero, List.find?_cons]
    show (match canB f s (castL []) with | true => some [] | false => _) = _
    cases q : canB f s [] <;> simp [castL, q]
  have hc : canB f s [] = (decide (s.1 ≤ degL true f) && decide (degL false f ≤ s.2)) := by
    unfold canB
    rw [some_nil, if_neg (by simp), Bool.and_comm]
  have hE7 : wrongE f s = if canB f s [] = true then 7 else if f.gs.length = 0 then 9 else 0 := by
    unfold wrongE
    rw [if_pos hE, if_pos hv, hc]
  by_cases q : canB f s [] = true
  · refine .inl ⟨by rw [hE7, if_pos q], ?_, firstW_keep (m := 1) (by rw [h0, if_pos q]) _ (by omega)⟩
    unfold wrongL; rw [hE7, if_pos q, if_neg (by decide)]
  · rw [if_neg q] at h0 hE7
    by_cases hz : f.gs.length = 0
    · refine .inr (.inl ⟨by rw [hE7, if_pos hz], ?_, by rw [hz]; exact h0⟩)
      unfold wrongL; rw [hE7, if_pos hz, if_neg (by decide)]
    · rw [if_neg hz] at hE7
      obtain ⟨L, hL, h1, h2, h3, h4⟩ := fewest_find (f := f) (d := s.2) (by have := (parts_bd hf false).1; exact this) hs.1 (by omega)
      have hcg : ∀ j, 1 ≤ j → (enumL (anglesF false f) 0 j).find? (fun L => canB f s (castL L)) = (enumL (anglesF false f) 0 j).find? (fun L => enoughB f s.2 (setSum f L)) := by
        intro j hj
        refine find_congr fun L hL => ?_
        have hlen := (enum_sub (atL_angles f) hL).2
        unfold canB enoughB
        rw [degL_some f hL, if_pos (by simp only [castL, List.length_map]; omega), decide_eq_true hs.2, Bool.and_true]
      have hnone : ∀ j, 1 ≤ j → j ≤ manyL f s.2 → firstW (anglesF false f) (fun L => canB f s (castL L)) j = none := by
        intro j
        induction j with
        | zero => intro h; omega
        | succ j ih =>
          intro _ hj
          rcases Nat.eq_zero_or_pos j with rfl | hp
          · exact h0
          · rw [firstW_step (ih hp (by omega)), hcg j hp]
            exact h4 j hp (by omega)
      have hmem := List.mem_of_find?_eq_some h3
      have hlen := (enum_sub (atL_angles f) hmem).2
      refine .inr (.inr ⟨hE7, L, by omega, ?_, ?_⟩)
      · unfold wrongL; rw [hE7, if_pos rfl]; exact hL
      · refine firstW_keep (m := manyL f s.2 + 1) ?_ _ (by omega)
        rw [firstW_step (hnone _ h1 (Nat.le_refl _)), hcg _ h1]
        exact h3
end Go.Proofs.Ytdekickmplkdiaa
