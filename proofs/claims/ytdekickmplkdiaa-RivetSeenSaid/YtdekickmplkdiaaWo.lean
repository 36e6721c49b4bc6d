/- Pure facts: the gaps that Wrong names suffice, and no fewer do. -/
import Derived.Test.YtdekickmplkdiaaUp
import Derived.Test.YtdekickmplkdiaaKl
namespace Go.Proofs.Ytdekickmplkdiaa
open Go.RowKit

theorem enum_asc : ∀ (zs : List Int) (k m : Nat) (L : List Nat), L ∈ enumL zs k m → L.Pairwise (· < ·)
  | zs, k, 0, L, h => by
    rw [enumL_zero, List.mem_singleton] at h
    rw [h]; exact List.Pairwise.nil
  | [], k, m + 1, L, h => by simp [enumL] at h
  | z :: r, k, m + 1, L, h => by
    rw [enumL, List.mem_append, List.mem_map] at h
    rcases h with ⟨L', h1, rfl⟩ | h1
    · refine List.pairwise_cons.2 ⟨fun i hi => ?_, enum_asc r (k + 1) m L' h1⟩
      have := enum_ge h1 i hi
      omega
    · exact enum_asc r (k + 1) (m + 1) L h1
theorem asc_enum : ∀ (zs : List Int) (k : Nat) (L : List Nat), L.Pairwise (· < ·) → (∀ i ∈ L, k ≤ i ∧ i < k + zs.length) → L ∈ enumL zs k L.length
  | zs, k, [], _, _ => by rw [List.length_nil, enumL_zero]; simp
  | [], k, i :: L, _, h => by
    have := h i (by simp)
    simp at this
    omega
  | z :: r, k, i :: L, hp, h => by
    obtain ⟨h1, h2⟩ := List.pairwise_cons.1 hp
    rw [List.length_cons, enumL, List.mem_append, List.mem_map]
    have hi := h i (by simp)
    rcases Nat.eq_or_lt_of_le hi.1 with e | e
    · left
      refine ⟨L, asc_enum r (k + 1) L h2 (fun j hj => ?_), by rw [e]⟩
      have a := h1 j hj
      have b := h j (by simp [hj])
      rw [List.length_cons] at b
      omega
    · right
      have q := asc_enum r (k + 1) (i :: L) hp (fun j hj => ?_)
      · simpa using q
      · have b := h j hj
        rw [List.length_cons] at b
        have : i ≤ j := by
          rcases List.mem_cons.1 hj with rfl | hj2
          · exact Nat.le_refl _
          · exact Nat.le_of_lt (h1 j hj2)
        omega
theorem some_err {f : Fan} (h : fanErr f = 0) (L : List Int) : fanErr (f.some L) = 0 :=
  err_like h _ (by have := someTo_len f.gs L f.gs.length; have := (fanB_of h).2.2; omega) fun g hg => gap_ok h g (someTo_mem f.gs L _ (Nat.le_refl _) g hg)
/-- The gaps that must be wrong: they suffice, and any fewer do not. -/
theorem seen_list {f : Fan} {d : Int} (hE : fanErr f = 0) (hd : 0 ≤ d) (h0 : 0 < f.gs.length) :
    ∃ G : List Nat, fewestL f d = castL G ∧ 1 ≤ G.length ∧ G.length ≤ f.gs.length ∧ G.Pairwise (· < ·) ∧ (∀ i ∈ G, i < f.gs.length) ∧ degL false (f.some (castL G)) ≤ d ∧
      ∀ L' : List Nat, L'.Pairwise (· < ·) → (∀ i ∈ L', i < f.gs.length) → 1 ≤ L'.length → L'.length < G.length → d < degL false (f.some (castL L')) := by
  have hq := (parts_bd (fanB_of hE).1 false).1
  obtain ⟨L, e, h1, h2, h3, h4⟩ := fewest_find hq hd h0
  have hl : (anglesF false f).length = f.gs.length := by simp [anglesF]
  have hm := List.mem_of_find?_eq_some h3
  have hp := List.find?_some h3
  have hlen : L.length = manyL f d := (enum_sub (atL_angles f) hm).2
  refine ⟨L, e, by omega, by omega, enum_asc _ _ _ _ hm, fun i hi => ?_, ?_, fun L' a1 a2 a3 a4 => ?_⟩
  · have := enum_ge hm i hi
    omega
  · rw [degL_some f hm]
    unfold enoughB at hp
    rw [decide_eq_true_eq] at hp
    exact hp
  · have hm' : L' ∈ enumL (anglesF false f) 0 L'.length := asc_enum _ _ _ a1 (fun i hi => ⟨Nat.zero_le _, by have := a2 i hi; omega⟩)
    have hn := h4 L'.length a3 (by omega)
    rw [List.find?_eq_none] at hn
    have := hn L' hm'
    rw [degL_some f hm']
    unfold enoughB at this
    simp only [decide_eq_true_eq] at this
    omega
end Go.Proofs.Ytdekickmplkdiaa
