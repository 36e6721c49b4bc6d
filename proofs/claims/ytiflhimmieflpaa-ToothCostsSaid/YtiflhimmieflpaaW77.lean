/- A blade of which a column was sounded, or a crack taken, is valid: no walks. -/
import Derived.Test.YtiflhimmieflpaaW76
namespace Go.Proofs.Ytiflhimmieflpaa

theorem cerr_parts {B : Bl} (h : B.cerr = 0) : B.n = B.n' ∧ within 1 30 [(B.n : Int)] = true ∧ ¬ 4 < B.m ∧ edgesOk B.bend B.bot B.top = true ∧ (B.cr.any fun k => !crackOk B.n k) = false ∧ bentOk B.bot B.bend = true ∧ bentOk B.top B.bend = true := by
  have hb := bentOk_both h
  have h' : curveErr B.n B.n' B.m B.bend B.bot B.top B.cr = 0 := h
  unfold curveErr at h'
  split at h'
  · omega
  split at h'
  · omega
  split at h'
  · omega
  split at h'
  · omega
  split at h'
  · omega
  rename_i e1 e2 e3 e4 e5
  exact ⟨by omega, by simpa using e2, e3, by simpa using e4, by simpa using e5, hb.1, hb.2⟩
theorem cerr_of {B : Bl} (h1 : B.n = B.n') (h2 : within 1 30 [(B.n : Int)] = true) (h3 : ¬ 4 < B.m) (h4 : edgesOk B.bend B.bot B.top = true) (h5 : (B.cr.any fun k => !crackOk B.n k) = false) (h6 : bentOk B.bot B.bend = true) (h7 : bentOk B.top B.bend = true) : B.cerr = 0 := by
  unfold Bl.cerr curveErr
  rw [if_neg (by simpa using h1), if_neg (by rw [h2]; decide), if_neg h3, if_neg (by rw [h4]; decide), if_neg (by rw [h5]; decide), if_neg (by rw [h6]; decide), if_neg (by rw [h7]; decide)]
theorem less_cerr {B : Bl} (h : B.cerr = 0) (k : Nat) : (B.less k 0 0).cerr = 0 := by
  obtain ⟨h1, h2, h3, h4, h5, h6, h7⟩ := cerr_parts h
  refine cerr_of h1 h2 (by show ¬ 4 < B.m - 1; omega) h4 ?_ h6 h7
  rw [List.any_eq_false] at h5 ⊢
  exact fun c hc => h5 c (List.mem_of_mem_eraseIdx hc)
theorem less_worst (B : Bl) (s : Sw) (k : Nat) : (B.less k 0 0).worst s = B.worstX s k := rfl
section
variable {B : Bl} {s : Sw} {x : Nat}
theorem sound_cerr (h : B.cerr = 0) (hb : B.bot.length = B.n) (ht : B.top.length = B.n') (hx : x < B.n) : (B.sound x ((bentL B.bot B.bend).getD x (0, 0)).1 ((bentL B.top B.bend).getD x (0, 0)).2).cerr = 0 := by
  obtain ⟨h1, h2, h3, h4, h5, h6, h7⟩ := cerr_parts h
  obtain ⟨q1, q2, q3⟩ := edgesOk_in h4
  have hxb : x < B.bot.length := by omega
  have hxt : x < B.top.length := by omega
  have fb := bent_full q1.1 h6 x hxb
  have ft := bent_full q1.1 h7 x hxt
  have sb := bent_sub B.bot B.bend x hxb
  have st := bent_sub B.top B.bend x hxt
  have ib := (getD_inR (fun s hs => (q2 s hs).1) hxb)
  have it := (getD_inR (fun s hs => (q3 s hs).1) hxt)
  unfold InR at ib it
  refine cerr_of h1 h2 h3 ?_ h5 (low_ok2 q1.1 h6 hxb) (high_ok2 q1.1 h7 hxt)
  show edgesOk B.bend (B.bot.set x _) (B.top.set x _) = true
  unfold edgesOk at h4 ⊢
  simp only [Bool.and_eq_true] at h4 ⊢
  obtain ⟨⟨⟨g1, g2⟩, g3⟩, g4⟩ := h4
  have hx4 : (B.bot.getD x (0, 0)).2 ≤ (B.top.getD x (0, 0)).1 := by
    unfold below2 at g4
    rw [List.all_eq_true] at g4
    have := g4 x (List.mem_range.2 hxb)
    simpa using this
  refine ⟨⟨⟨g1, ?_⟩, ?_⟩, ?_⟩
  · unfold validS at g2 ⊢
    rw [List.all_eq_true] at g2 ⊢
    intro s hs
    rcases List.mem_or_eq_of_mem_set hs with e | e
    · exact g2 s e
    · subst e
      simp only [Bool.and_eq_true, decide_eq_true_eq]
      omega
  · unfold validS at g3 ⊢
    rw [List.all_eq_true] at g3 ⊢
    intro s hs
    rcases List.mem_or_eq_of_mem_set hs with e | e
    · exact g3 s e
    · subst e
      simp only [Bool.and_eq_true, decide_eq_true_eq]
      omega
  · unfold below2 at g4 ⊢
    rw [List.all_eq_true] at g4 ⊢
    intro i hi
    rw [List.length_set] at hi
    have hi' := List.mem_range.1 hi
    have := g4 i hi
    rw [getD_set _ _ _ _ hi', getD_set _ _ _ _ (by omega : i < B.top.length)]
    split
    · simp only [decide_eq_true_eq]
      omega
    · exact this
theorem sound_worst (h : B.cerr = 0) (hb : B.bot.length = B.n) (ht : B.top.length = B.n') (hx : x < B.n) : (B.sound x ((bentL B.bot B.bend).getD x (0, 0)).1 ((bentL B.top B.bend).getD x (0, 0)).2).worst s = B.soundX s x := by
  obtain ⟨h1, h2, h3, h4, h5, h6, h7⟩ := cerr_parts h
  obtain ⟨q1, q2, q3⟩ := edgesOk_in h4
  unfold Bl.soundX
  rw [setLow_eq q1.1 h6 (by omega), setHigh_eq q1.1 h7 (by omega)]
  rfl
end
end Go.Proofs.Ytiflhimmieflpaa
