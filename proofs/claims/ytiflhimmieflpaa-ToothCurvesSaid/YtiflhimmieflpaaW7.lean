/- Walks: curve. -/
import Derived.Test.YtiflhimmieflpaaW6
import Derived.Test.YtiflhimmieflpaaBlk
import Derived.Laws.ResultCell
namespace Go.Proofs.Ytiflhimmieflpaa
open Go.RowKit

theorem results_ct {fn : Func} {p u : Tmp} {ty : TypeId} (h : fn.results = #[.cell p ty, .tmp u]) (tmps : Array Value) (P : Program) (w : World) (g : Nat) (t : TypeId) (cs : Array Value) (fs : Array Field)
    (hp : tmps.getD p undef = .pointer (some ⟨g, 0, none⟩)) (hg : Blk w g t cs) (hu : P.underlying ty = some (.struct fs)) (hi : (P.info? ty).map (·.size) = some cs.size) :
    (results fn tmps).run P w = .ok (.tuple #[.agg cs, tmps.getD u undef]) w := by
  rw [results_cell_tmp h, hp]
  simp [asAddr, run_loadVar_row w g t ty cs (0, 0) _ hg hu rfl hi]
theorem results_c {fn : Func} {p : Tmp} {ty : TypeId} (h : fn.results = #[.cell p ty]) (tmps : Array Value) (P : Program) (w : World) (g : Nat) (t : TypeId) (cs : Array Value) (fs : Array Field)
    (hp : tmps.getD p undef = .pointer (some ⟨g, 0, none⟩)) (hg : Blk w g t cs) (hu : P.underlying ty = some (.struct fs)) (hi : (P.info? ty).map (·.size) = some cs.size) :
    (results fn tmps).run P w = .ok (.agg cs) w := results_cell_row h tmps w g t cs (0, 0) _ hp hg hu rfl hi

theorem Blk.setRow {w : World} {g : Nat} {t : TypeId} {cs : Array Value} (h : Blk w g t cs) (cs' : Array Value) : Blk (w.setRow g cs') g t cs' := setRow_heap w g cs _ t _ h
theorem Blk.setRow_far {w : World} {g g' : Nat} {t : TypeId} {cs : Array Value} (h : Blk w g t cs) (hg : g ≠ g') (cs' : Array Value) : Blk (w.setRow g' cs') g t cs := (setRow_other w g' g cs' hg).trans h
theorem below_setR {B : Nat} {a w : World} (h : Below B a w) {g : Nat} (hg : B ≤ g) (cs : Array Value) : Below B a (w.setRow g cs) :=
  h.trans ⟨rfl, rfl, rfl, by simp, fun k hk => setRow_other w g k cs (by omega)⟩

/-- What curve's own variables hold. -/
structure CurveEnv (w W : World) (bl : Array Value) (n : Nat) : Prop where
  b : Blk W w.heap.size 25 bl
  r : Blk W (w.heap.size + 1) 106 #[.slice none 0 0, .slice none 0 0, .int .i64 0, .slice none 0 0, .slice none 0 0, .slice none 0 0]
  c : Blk W (w.heap.size + 2) 3 #[.int .i64 n]
  bel : Below w.heap.size w W
theorem CurveEnv.below {w W W' : World} {bl : Array Value} {n : Nat} (h : CurveEnv w W bl n) (hb : Below W.heap.size W W') : CurveEnv w W' bl n :=
  ⟨h.b.below hb h.b.lt, h.r.below hb h.r.lt, h.c.below hb h.c.lt, h.bel.trans (hb.mono h.bel.size)⟩
theorem CurveEnv.new (w : World) (bl : Array Value) (n : Nat) : CurveEnv w (((w.alloc (.cells bl 25)).alloc (.cells #[.slice none 0 0, .slice none 0 0, .int .i64 0, .slice none 0 0, .slice none 0 0, .slice none 0 0] 106)).alloc (.cells #[.int .i64 n] 3)) bl n :=
  ⟨((Blk.new w _ _ rfl).alloc _).alloc _, (Blk.new _ _ _ (by simp)).alloc _, Blk.new _ _ _ (by simp), (((Below.refl _ _).alloc (Nat.le_refl _) _).alloc (by simp) _).alloc (by simp <;> omega) _⟩

def curveErr (n n' m : Nat) (bend : Int) (bot top : List (Int × Int)) (cr : List Crack) : Int :=
  if n ≠ n' then 4 else if within 1 30 [(n : Int)] = false then 4 else if 4 < m then 5 else if edgesOk bend bot top = false then 2 else if (cr.any fun k => !crackOk n k) = true then 2
  else if bentOk bot bend = false then 9 else if bentOk top bend = false then 9 else 0

def zeroCurved : Value := .agg #[.slice none 0 0, .slice none 0 0, .int .i64 0, .slice none 0 0, .slice none 0 0, .slice none 0 0]
def CurveRes (w : World) (A A' K : Option Addr) (n c n' c' m d : Nat) (bend : Int) (bot top : List (Int × Int)) (cr : List Crack) (e : Ending) (w' : World) : Prop :=
  Below w.heap.size w w' ∧ ((curveErr n n' m bend bot top cr ≠ 0 ∧ e = .returned (.tuple #[zeroCurved, .int .i64 (curveErr n n' m bend bot top cr)])) ∨
    (curveErr n n' m bend bot top cr = 0 ∧ ∃ g cap g' cap', e = .returned (.tuple #[.agg #[.slice A n c, .slice A' n' c', .int .i64 bend, .slice K m d, .slice (some ⟨g, 0, none⟩) n cap, .slice (some ⟨g', 0, none⟩) n cap'], .int .i64 0]) ∧
      Pairs w' (some ⟨g, 0, none⟩) n (bentL bot bend) ∧ Pairs w' (some ⟨g', 0, none⟩) n (bentL top bend) ∧ w.heap.size ≤ g ∧ w.heap.size ≤ g'))

theorem Pairs.setRow_far {w : World} {g off n r : Nat} {t : TypeId} {cs : Array Value} {a : Option Addr} {n' c' : Nat} {xs : List (Int × Int)} (h : Pairs w (some ⟨g, off, none⟩) n xs) (hr : Blk w r t cs) (h0 : cs.all (fun v => match v with | .int _ _ => false | _ => true) = true ∨ (off = 0 ∧ cs[0]? = some (.slice a n' c'))) (cs' : Array Value) : Pairs (w.setRow r cs') (some ⟨g, off, none⟩) n xs := by
  refine ⟨h.1, fun hn => ?_⟩
  obtain ⟨b, o, hA, hb, hc⟩ := h.2 hn
  simp only [Option.some.injEq, Addr.mk.injEq, and_true] at hA
  obtain ⟨rfl, rfl⟩ := hA
  have hne : g ≠ r := by
    rintro rfl
    have h1 := (Pairs.at_ h hn)
    obtain ⟨b2, o2, hA2, _, c0, _⟩ := h1
    simp only [Option.some.injEq, Addr.mk.injEq, and_true] at hA2
    obtain ⟨rfl, rfl⟩ := hA2
    rw [hr.cell] at c0
    rcases h0 with h0 | ⟨rfl, h0⟩
    · have := Array.all_eq_true_iff_forall_mem.1 h0 _ (Array.mem_of_getElem? c0)
      simp at this
    · simp at c0
      rw [c0] at h0
      simp at h0
  refine ⟨g, off, rfl, by simpa using hb, fun j u hu => ?_⟩
  rw [World.cell?_of_block (w := w) (setRow_other w r g cs' hne)]
  exact hc j u hu

theorem edgesOk_in {bend : Int} {bot top : List (Int × Int)} (h : edgesOk bend bot top = true) : (0 ≤ bend ∧ bend ≤ 300) ∧ (∀ s ∈ bot, InR s ∧ s.1 ≤ s.2) ∧ (∀ s ∈ top, InR s ∧ s.1 ≤ s.2) := by
  simp only [edgesOk, within, validS, Bool.and_eq_true, List.all_eq_true, decide_eq_true_eq, List.mem_singleton, forall_eq] at h
  obtain ⟨⟨⟨h1, h2⟩, h3⟩, _⟩ := h
  refine ⟨h1, fun s hs => ?_, fun s hs => ?_⟩
  · have := h2 s hs; unfold InR; omega
  · have := h3 s hs; unfold InR; omega
theorem getD0_valid {xs : List (Int × Int)} (h : ∀ s ∈ xs, InR s ∧ s.1 ≤ s.2) : (xs.getD 0 (0, 0)).1 ≤ (xs.getD 0 (0, 0)).2 := by
  cases xs with
  | nil => simp
  | cons a r => simpa using (h a (by simp)).2

set_option maxRecDepth 100000 in
set_option maxHeartbeats 4000000 in
theorem curve_any (A A' K : Option Addr) (n c n' c' m d : Nat) (bend : Int) (bot top : List (Int × Int)) (cr : List Crack) (w : World) (h : Pairs w A n bot) (h' : Pairs w A' n' top) (hk : Cracks w K m cr) (hn : n ≤ maxLen) (hn' : n' ≤ maxLen) (hm : m ≤ maxLen) :
    Calls Try.prog 60 #[.agg #[.slice A n c, .slice A' n' c', .int .i64 bend, .slice K m d]] w (CurveRes w A A' K n c n' c' m d bend bot top cr) := by
  have hmf : ∀ (fn : Fn) (first cap : Array Value) (w : World), (Instr.makeFunc fn first cap).run Try.prog w = .ok (.func fn first cap) w := fun _ _ _ _ => rfl
  have E0 := CurveEnv.new w #[.slice A n c, .slice A' n' c', .int .i64 bend, .slice K m d] n
  by_cases hne : n = n'
  case neg =>
    have HN := Lib.hid (show curveErr n n' m bend bot top cr = 4 by simp [curveErr, hne])
    have hd : (!((n : Int) == (n' : Int))) = true := by simp; omega
    have hd2 : ((n : Int) != (n' : Int)) = true := by simp; omega
    have hrow := E0.r
    go_enter Try.func60, Try.ntmps60
    go_wp2
    exact bodyPost_ret (results_ct rfl _ _ _ _ _ _ _ rfl E0.r Try.underlying106 (by kernel_rfl)) rfl ⟨E0.bel, .inl ⟨by rw [HN.out]; decide, by rw [HN.out]; rfl⟩⟩
  subst hne
  have hd : ((n : Int) == (n : Int)) = true := by simp
  have hd2 : ((n : Int) != (n : Int)) = false := by simp
  have b0 := E0.b.cell
  have EW := E0.below ((Below.refl _ _).alloc (Nat.le_refl _) (.cells #[.int .i64 n] 3))
  cases q1 : within 1 30 [(n : Int)]
  · have HN := Lib.hid (show curveErr n n m bend bot top cr = 4 by simp [curveErr, q1])
    go_enter Try.func60, Try.ntmps60
    go_wp2_with (go_at_call 88; refine (within1 _ _ _ _ _ _ (by simp)).mono ?_; rintro e w' ⟨rfl, rfl⟩)
    exact bodyPost_ret (results_ct rfl _ _ _ _ _ _ _ rfl EW.r Try.underlying106 (by kernel_rfl)) rfl ⟨EW.bel, .inl ⟨by rw [HN.out]; decide, by rw [HN.out]; rfl⟩⟩
  have hn30 : 1 ≤ n ∧ n ≤ 30 := by simp [within] at q1; omega
  by_cases hm4 : m ≤ 4
  case neg =>
    have HN := Lib.hid (show curveErr n n m bend bot top cr = 5 by simp [curveErr, q1]; omega)
    unfold maxLen at hm
    go_enter Try.func60, Try.ntmps60
    go_wp2_with (go_at_call 88; refine (within1 _ _ _ _ _ _ (by simp)).mono ?_; rintro e w' ⟨rfl, rfl⟩)
    exact bodyPost_ret (results_ct rfl _ _ _ _ _ _ _ rfl EW.r Try.underlying106 (by kernel_rfl)) rfl ⟨EW.bel, .inl ⟨by rw [HN.out]; decide, by rw [HN.out]; rfl⟩⟩
  have HE := Lib.hid (edges_any A A' K n c c' m d bend bot top _ (h.below EW.bel) (h'.below EW.bel) hn)
  have Hhn := Lib.hid hn30
  clear hn30 hn hn' hm E0
  go_enter Try.func60, Try.ntmps60
  go_wp2_with (go_at_call 88; refine (within1 _ _ _ _ _ _ (by simp)).mono ?_; rintro e w' ⟨rfl, rfl⟩)
  refine HE.out.mono ?_
  rintro e w2 ⟨rfl, hb2⟩
  have E2 := EW.below hb2
  clear HE hb2 EW b0
  cases q2 : edgesOk bend bot top
  · have HN := Lib.hid (show curveErr n n m bend bot top cr = 2 by simp [curveErr, q1, q2]; omega)
    go_wp2_with (refine wpList_store_row rfl 106 _ _ rfl (w.heap.size + 1) _ rfl rfl 106 _ E2.r (by kernel_rfl) rfl (by kernel_rfl) ?_)
    exact bodyPost_ret (results_ct rfl _ _ _ _ _ _ _ rfl (E2.r.setRow _) Try.underlying106 (by kernel_rfl)) rfl ⟨below_setR E2.bel (by omega) _, .inl ⟨by rw [HN.out]; decide, by rw [HN.out]; rfl⟩⟩
  obtain ⟨b5, hbot, htop⟩ := edgesOk_in q2
  have Hb5 := Lib.hid b5
  clear b5
  have HC := Lib.hid (containsCrack_any n (w.heap.size + 2) K m d cr w2 (by have := Hhn.out; omega) (by have := Hhn.out; omega) (E2.c.cell 0) E2.c.lt (hk.below E2.bel) (by unfold maxLen; omega))
  have b2 := E2.b.cell
  go_wp2_with fail
  refine HC.out.mono ?_
  rintro e w3 ⟨rfl, hb3⟩
  have E3 := E2.below hb3
  clear HC hb3 b2 E2
  cases q3 : cr.any fun k => !crackOk n k
  case true =>
    have HN := Lib.hid (show curveErr n n m bend bot top cr = 2 by simp only [curveErr, q1, q2, q3]; simp; omega)
    go_wp2_with (refine wpList_store_row rfl 106 _ _ rfl (w.heap.size + 1) _ rfl rfl 106 _ E3.r (by kernel_rfl) rfl (by kernel_rfl) ?_)
    exact bodyPost_ret (results_ct rfl _ _ _ _ _ _ _ rfl (E3.r.setRow _) Try.underlying106 (by kernel_rfl)) rfl ⟨below_setR E3.bel (by omega) _, .inl ⟨by rw [HN.out]; decide, by rw [HN.out]; rfl⟩⟩
  have hn1 := Hhn.out
  obtain ⟨bb, off, rfl, _, _⟩ := h.2 (by omega)
  obtain ⟨bb', off', rfl, _, _⟩ := h'.2 (by omega)
  have HB := Lib.hid (bent_any bb off n c bot bend w3 (h.below E3.bel) (by omega) (by omega) (fun s hs => (hbot s hs).1) Hb5.out.1 Hb5.out.2 (getD0_valid hbot))
  clear hn1
  have b3 := E3.b.cell
  go_wp2_with fail
  refine HB.out.mono ?_
  rintro e w4 ⟨hb4, ⟨ok4, rfl⟩ | ⟨ok4, g, cap, rfl, P4, hg4⟩⟩
  · have E4 := E3.below hb4
    have HN := Lib.hid (show curveErr n n m bend bot top cr = 9 by simp only [curveErr, q1, q2, q3, ok4]; simp; omega)
    have HT := Lib.hid (bent_any bb' off' n c' top bend w4 (h'.below E4.bel) (by have := Hhn.out; omega) (by have := Hhn.out; omega) (fun s hs => (htop s hs).1) Hb5.out.1 Hb5.out.2 (getD0_valid htop))
    clear hb4 b3 HB E3
    have b4 := E4.b.cell
    go_wp2_with fail
    refine HT.out.mono ?_
    rintro e w5 ⟨hb5, ⟨ok5, rfl⟩ | ⟨ok5, g', cap', rfl, P5⟩⟩
    all_goals
      have E5 := E4.below hb5
      clear hb5 b4 HT E4
      go_wp2_with (refine wpList_store_row rfl 106 _ _ rfl (w.heap.size + 1) _ rfl rfl 106 _ E5.r (by kernel_rfl) rfl (by kernel_rfl) ?_)
      exact bodyPost_ret (results_ct rfl _ _ _ _ _ _ _ rfl (E5.r.setRow _) Try.underlying106 (by kernel_rfl)) rfl ⟨below_setR E5.bel (by omega) _, .inl ⟨by rw [HN.out]; decide, by rw [HN.out]; rfl⟩⟩
  · have E4 := E3.below hb4
    have Hg4 := Lib.hid (Nat.le_trans E3.bel.size hg4)
    clear hg4
    have HT := Lib.hid (bent_any bb' off' n c' top bend w4 (h'.below E4.bel) (by have := Hhn.out; omega) (by have := Hhn.out; omega) (fun s hs => (htop s hs).1) Hb5.out.1 Hb5.out.2 (getD0_valid htop))
    clear hb4 b3 HB E3
    have b4 := E4.b.cell
    go_wp2_with fail
    refine HT.out.mono ?_
    rintro e w5 ⟨hb5, ⟨ok5, rfl⟩ | ⟨ok5, g', cap', rfl, P5, hg5⟩⟩
    · have HN := Lib.hid (show curveErr n n m bend bot top cr = 9 by simp only [curveErr, q1, q2, q3, ok4, ok5]; simp; omega)
      have E5 := E4.below hb5
      clear hb5 b4 HT E4
      go_wp2_with (refine wpList_store_row rfl 106 _ _ rfl (w.heap.size + 1) _ rfl rfl 106 _ E5.r (by kernel_rfl) rfl (by kernel_rfl) ?_)
      exact bodyPost_ret (results_ct rfl _ _ _ _ _ _ _ rfl (E5.r.setRow _) Try.underlying106 (by kernel_rfl)) rfl ⟨below_setR E5.bel (by omega) _, .inl ⟨by rw [HN.out]; decide, by rw [HN.out]; rfl⟩⟩
    · have HN := Lib.hid (show curveErr n n m bend bot top cr = 0 by simp only [curveErr, q1, q2, q3, ok4, ok5]; simp; omega)
      have E5 := E4.below hb5
      have P4' := P4.below hb5
      have Hg5 := Lib.hid (Nat.le_trans E4.bel.size hg5)
      clear hb5 b4 HT E4 P4 hg5
      have b5 := E5.b.cell
      go_wp2_with (refine wpList_store_row rfl 106 _ _ rfl (w.heap.size + 1) _ rfl rfl 106 _ E5.r (by kernel_rfl) rfl (by kernel_rfl) ?_)
      exact bodyPost_ret (results_ct rfl _ _ _ _ _ _ _ rfl (E5.r.setRow _) Try.underlying106 (by kernel_rfl)) rfl ⟨below_setR E5.bel (by omega) _, .inr ⟨HN.out, g, cap, g', cap', rfl, P4'.setRow_far E5.r (.inr ⟨rfl, rfl⟩) _, P5.setRow_far E5.r (.inr ⟨rfl, rfl⟩) _, Hg4.out, Hg5.out⟩⟩
end Go.Proofs.Ytiflhimmieflpaa
