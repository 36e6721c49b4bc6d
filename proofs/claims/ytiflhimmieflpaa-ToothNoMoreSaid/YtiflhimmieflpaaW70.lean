/- Walks: the code's found and sounded. -/
import Derived.Test.YtiflhimmieflpaaW58
namespace Go.Proofs.Ytiflhimmieflpaa
open Go.RowKit Go.Maps

theorem set_inR {xs : List (Int × Int)} {x : Nat} {h : Int} (hx : ∀ s ∈ xs, InR s) (h0 : 0 ≤ h) (h3 : h ≤ 300) : ∀ s ∈ xs.set x (h, h), InR s := by
  intro s hs
  rcases List.mem_or_eq_of_mem_set hs with e | e
  · exact hx s e
  · subst e; exact ⟨h0, h3, h0, h3⟩
theorem getD_set' (xs : List (Int × Int)) (x i : Nat) (v : Int × Int) (hi : i < xs.length) : (xs.set x v).getD i (0, 0) = if i = x then v else xs.getD i (0, 0) := getD_set xs x i v hi

set_option maxRecDepth 100000 in
set_option maxHeartbeats 2000000 in
theorem found_any (b off n c x : Nat) (xs : List (Int × Int)) (h bend : Int) (w : World) (P : Pairs w (some ⟨b, off, none⟩) n xs) (hx : x < n) (hn : n ≤ 1000) (hin : ∀ s ∈ xs, InR s) (h0 : 0 ≤ h) (h3 : h ≤ 300) (b0 : 0 ≤ bend) (b3 : bend ≤ 300)
    (hf : (xs.getD 0 (0, 0)).1 ≤ (xs.getD 0 (0, 0)).2) (hok : bentOk (xs.set x (h, h)) bend = true) :
    Calls Try.prog 109 #[.slice (some ⟨b, off, none⟩) n c, .int .i64 x, .int .i64 h, .int .i64 bend] w
      fun e w' => ∃ g cap, e = .returned (.slice (some ⟨g, 0, none⟩) n cap) ∧ Pairs w' (some ⟨g, 0, none⟩) n (bentL (xs.set x (h, h)) bend) ∧ w.heap.size ≤ g ∧ Below w.heap.size w w' := by
  have hl := P.len
  have HC := Lib.hid (cloneSpan_any b off n c xs w P (by omega) (by omega))
  have HB := Lib.hid (fun (g cap : Nat) W (h1 : Pairs W (some ⟨g, 0, none⟩) n (xs.set x (h, h))) => bent_any g 0 n cap (xs.set x (h, h)) bend W h1 (by omega) hn (set_inR hin h0 h3) b0 b3 (by
    rw [getD_set' _ _ _ _ (by omega)]
    split
    · exact Int.le_refl _
    · exact hf))
  have HOK := Lib.hid hok
  have HGD := Lib.hid (fun i (hi : i < n) => getD_set' xs x i (h, h) (by omega))
  have Hl := Lib.hid hl
  clear P hin hok hf hl
  go_enter Try.func109, Try.ntmps109
  go_wp2_with fail
  refine HC.out.mono ?_
  rintro e w1 ⟨g, cap, rfl, hown, hb1⟩
  have hgb := hown.lt g rfl
  have R1 := row2_of_own hown Hl.out
  have R2 := R1.set x hx h h 0
  obtain ⟨k1, k2, k3, k4⟩ := R1 x hx
  have HP2 : Hid (Pairs ((w1.setCell ⟨g, x * 2, none⟩ (.int .i64 h)).setCell ⟨g, x * 2 + 1, none⟩ (.int .i64 h)) (some ⟨g, 0, none⟩) n (xs.set x (h, h))) := pairs_of_row2 R2 (by rw [List.length_set]; exact Hl.out) (fun k hk => HGD.out k hk)
  have HB2 : Hid (Below w.heap.size w ((w1.setCell ⟨g, x * 2, none⟩ (.int .i64 h)).setCell ⟨g, x * 2 + 1, none⟩ (.int .i64 h))) := set_below hb1 hgb.1 x 0 _ _
  have HC3 := Lib.hid (HB.out g cap _ HP2.out)
  have HG := Lib.hid hgb
  have hx2 : (x : Int) < (n : Int) := by omega
  clear hown hb1 R1 R2 hgb HC HB HGD HP2
  go_wp2_with fail
  refine HC3.out.mono ?_
  rintro e w3 ⟨hb3, ⟨hno, _⟩ | ⟨_, g2, cap2, rfl, hP, hg2⟩⟩
  · rw [HOK.out] at hno; exact absurd hno (by decide)
  · have HP3 := Lib.hid hP
    have HB3 := Lib.hid (below_then HB2.out hb3)
    have HG3 : Hid (w.heap.size ≤ g2) := by
      have := HB2.out.size
      unfold Hid; omega
    clear hb3 hP hg2 HC3 HB2
    go_wp2
    go_ret
    exact ⟨g2, cap2, rfl, HP3.out, HG3.out, HB3.out⟩
end Go.Proofs.Ytiflhimmieflpaa
