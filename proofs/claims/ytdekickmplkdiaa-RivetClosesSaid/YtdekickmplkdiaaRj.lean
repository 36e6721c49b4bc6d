/- Walks: slices.Clone of gaps, widened, pleated. -/
import Derived.Test.YtdekickmplkdiaaRf
namespace Go.Proofs.Ytdekickmplkdiaa
open Go.RowKit

/-- Block g begins with L. -/
def RB (w : World) (g : Nat) (t : TypeId) (L : List Value) : Prop := ∃ cs : Array Value, Blk w g t cs ∧ ∀ (j : Nat) (u : Value), L[j]? = some u → cs[j]? = some u
section
variable {w w' : World} {g : Nat} {t : TypeId} {L : List Value}
theorem RB.below (h : RB w g t L) (hb : Below w.heap.size w w') : RB w' g t L := by
  obtain ⟨cs, h1, h2⟩ := h
  exact ⟨cs, blk_keep hb h1, h2⟩
theorem RB.lt (h : RB w g t L) : g < w.heap.size := by
  obtain ⟨cs, h1, _⟩ := h
  exact h1.lt
theorem RB.far (h : RB w g t L) {p : Addr} (hp : g ≠ p.block) (u : Value) : RB (w.setCell p u) g t L := by
  obtain ⟨cs, h1, h2⟩ := h
  exact ⟨cs, h1.far hp u, h2⟩
theorem RB.set (h : RB w g t L) {i : Nat} (hi : i < L.length) (u : Value) : RB (w.setCell ⟨g, i, none⟩ u) g t (L.set i u) := by
  obtain ⟨cs, h1, h2⟩ := h
  refine ⟨_, h1.set_ i u, fun j v hj => ?_⟩
  have hc := h2 i (L[i]) (List.getElem?_eq_getElem hi)
  have hs : i < cs.size := (Array.getElem?_eq_some_iff.1 hc).1
  rw [List.getElem?_set] at hj
  by_cases hij : i = j
  · subst hij
    rw [if_pos rfl, if_pos hi] at hj
    rw [← hj]
    simp [hs]
  · rw [if_neg hij] at hj
    rw [Array.getElem?_setIfInBounds, if_neg hij]
    exact h2 j v hj
theorem RB.cell (h : RB w g t L) {i : Nat} {u : Value} (hi : L[i]? = some u) : w.cell? ⟨g, i, none⟩ = some u := by
  obtain ⟨cs, h1, h2⟩ := h
  rw [h1.cell]; exact h2 i u hi
theorem RB.frozen (h : RB w g t L) (i : Nat) : w.frozen? ⟨g, i, none⟩ = false := by
  obtain ⟨cs, h1, _⟩ := h
  exact h1.frozen i
end
theorem RB.of_own {w : World} {base g cap n size : Nat} {t : TypeId} {xs : List Value} (h : w.ownsRow base t size (.slice (some ⟨g, 0, none⟩) n cap) n xs) : RB w g t xs ∧ base ≤ g := by
  obtain ⟨hl, ⟨hv, _⟩ | ⟨g', cap', cur, hv, hbase, hb, h1, h2, h3, h4⟩⟩ := h
  · simp at hv
  · simp only [Value.slice.injEq, Option.some.injEq, Addr.mk.injEq, and_true, true_and] at hv
    obtain ⟨rfl, rfl⟩ := hv
    refine ⟨⟨cur, hb, fun j u hj => ?_⟩, hbase⟩
    have hj2 : j < xs.length := (List.getElem?_eq_some_iff.1 hj).1
    rw [← h4, List.getElem?_take] at hj
    rw [← Array.getElem?_toList]
    split at hj
    · exact hj
    · simp at hj
theorem RB.gaps {w : World} {g : Nat} {t : TypeId} {xs : List Gap} (h : RB w g t (flatG xs)) : Gaps w (some ⟨g, 0, none⟩) xs.length xs :=
  ⟨flatG_length xs, fun _ => ⟨g, 0, rfl, h.lt, fun j u hj => by rw [Nat.zero_add]; exact h.cell hj⟩⟩
theorem flatG_set0 (xs : List Gap) (k : Nat) (hk : k < xs.length) (a : Int) : (flatG xs).set (k * 4) (.int .i64 a) = flatG (xs.set k ⟨a, (xs.getD k Gap.zero).lh, (xs.getD k Gap.zero).fl, (xs.getD k Gap.zero).fh⟩) := by
  unfold flatG
  induction xs generalizing k with
  | nil => simp at hk
  | cons y r ih =>
    cases k with
    | zero => simp [Gap.cells]
    | succ m =>
      have := ih m (by simpa using hk)
      rw [List.flatMap_cons, List.set_append_right _ _ (by simp [Gap.cells]; omega), show (m + 1) * 4 - y.cells.length = m * 4 from by simp [Gap.cells]; omega, this]
      simp
theorem flatG_set1 (xs : List Gap) (k : Nat) (hk : k < xs.length) (a : Int) : (flatG xs).set (k * 4 + 1) (.int .i64 a) = flatG (xs.set k ⟨(xs.getD k Gap.zero).ll, a, (xs.getD k Gap.zero).fl, (xs.getD k Gap.zero).fh⟩) := by
  unfold flatG
  induction xs generalizing k with
  | nil => simp at hk
  | cons y r ih =>
    cases k with
    | zero => simp [Gap.cells]
    | succ m =>
      have := ih m (by simpa using hk)
      rw [List.flatMap_cons, List.set_append_right _ _ (by simp [Gap.cells]; omega), show (m + 1) * 4 + 1 - y.cells.length = m * 4 + 1 from by simp [Gap.cells]; omega, this]
      simp
theorem flatG_leaf (xs : List Gap) (k : Nat) (hk : k < xs.length) (a b : Int) : ((flatG xs).set (k * 4) (.int .i64 a)).set (k * 4 + 1) (.int .i64 b) = flatG (xs.set k ⟨a, b, (xs.getD k Gap.zero).fl, (xs.getD k Gap.zero).fh⟩) := by
  rw [flatG_set0 xs k hk a, flatG_set1 _ k (by simpa using hk) b]
  simp [List.getD, hk]

/-- A list of gaps of the call's own, or none. -/
def OwnG (base : Nat) (w : World) (A : Option Addr) (n : Nat) (xs : List Gap) : Prop := Gaps w A n xs ∧ (0 < n → ∃ g, A = some ⟨g, 0, none⟩ ∧ base ≤ g ∧ RB w g 42 (flatG xs))
def CloneRes (w : World) (n : Nat) (xs : List Gap) (e : Ending) (w' : World) : Prop := ∃ A c, e = .returned (.slice A n c) ∧ OwnG w.heap.size w' A n xs ∧ Below w.heap.size w w'
theorem ownG_of {base : Nat} {w : World} {n : Nat} {v : Value} {xs : List Gap} (h : w.ownsRow base 42 4 v n (flatG xs)) : ∃ A c, v = .slice A n c ∧ OwnG base w A n xs := by
  rcases Nat.eq_zero_or_pos n with rfl | hp
  · obtain ⟨A, c, rfl⟩ := own_slice h
    exact ⟨A, c, rfl, ⟨⟨by have := h.1; simpa using this, fun h => absurd h (by omega)⟩, fun h => absurd h (by omega)⟩⟩
  · obtain ⟨g, c, rfl⟩ := own_form h hp
    exact ⟨_, c, rfl, gaps_of_own h, fun _ => ⟨g, rfl, (RB.of_own h).2, (RB.of_own h).1⟩⟩

set_option maxRecDepth 100000 in
set_option maxHeartbeats 400000 in
theorem cloneGap_any (A : Option Addr) (n c : Nat) (xs : List Gap) (w : World) (h : Gaps w A n xs) (hn : n ≤ 1000000) :
    Calls Try.prog 108 #[.slice A n c] w (CloneRes w n xs) := by
  obtain ⟨i0, hi, hz0, hz1, hz2⟩ := info_parts Try.infoGap
  have heq := fun w => Lib.run_eql_slice_nil (P := Try.prog) w 24 42 A n c 0 0 Try.underlying24
  have HG := Lib.hid h
  have hb := below_self w (.cells #[] 42)
  have H2 := Lib.hid (h.below hb)
  have B2 := Lib.hid hb
  clear h hb
  cases A with
  | none =>
    have hz : n = 0 := by
      rcases Nat.eq_zero_or_pos n with h | h
      · exact h
      · obtain ⟨b, off, e, _⟩ := HG.out.2 h
        simp at e
    subst hz
    simp only [Option.isNone_none] at heq
    go_enter Try.func108, Try.ntmps108
    go_wp2
    go_ret
    exact ⟨_, _, rfl, ⟨HG.out, fun h => absurd h (by omega)⟩, Below.refl _ _⟩
  | some ad =>
    simp only [Option.isNone_some] at heq
    go_enter Try.func108, Try.ntmps108
    go_wp2_with (at_builtin; refine wpList_append_any rfl _ _ 24 rfl w.heap.size 42 i0 (.agg #[.int .i64 0, .int .i64 0, .int .i64 0, .int .i64 0]) 4 32 Try.underlying24 hi hz0 hz1 hz2 rfl (by decide) _ _ _ rfl (World.ownsRow_lit w #[] 0 (Nat.le_refl _) (by decide) rfl) (some ad) n c (flatG xs) rfl H2.out (flatG_oneCell xs) ?c1 ?c2 ?c3 ?_)
    case c1 => unfold maxLen; omega
    case c2 => omega
    case c3 => simp
    intro v' w1 hown hgrow
    have hown2 : w1.ownsRow w.heap.size 42 4 v' n (flatG xs) := by simpa using hown
    obtain ⟨A', c', rfl, ho⟩ := ownG_of hown2
    have O := Lib.hid ho
    have B3 := Lib.hid (B2.out.grown hgrow (by simp) (by rintro k hk; simp [Value.ownBlock] at hk; omega))
    clear hown hown2 hgrow ho
    go_wp2
    go_ret
    exact ⟨A', c', rfl, O.out, B3.out⟩

/-- A fan with the leaf of a gap wider. -/
def Fan.wide (f : Fan) (k : Nat) (more : Int) : Fan := { f with gs := f.gs.set k ⟨(f.gs.getD k Gap.zero).ll + more, (f.gs.getD k Gap.zero).lh + more, (f.gs.getD k Gap.zero).fl, (f.gs.getD k Gap.zero).fh⟩ }
def FanRes (w : World) (f : Fan) (n : Nat) (e : Ending) (w' : World) : Prop := ∃ A c, e = .returned (.agg (fanA f A n c)) ∧ Gaps w' A n f.gs ∧ Below w.heap.size w w'

set_option maxRecDepth 100000 in
set_option maxHeartbeats 1000000 in
theorem widened_any (f : Fan) (A : Option Addr) (n c k : Nat) (more : Int) (w : World) (h : Gaps w A n f.gs) (hk : k < n) (hn : n ≤ 1000) (hm : 0 ≤ more) (hm2 : more ≤ 1000) (hb : ∀ g ∈ f.gs, 0 ≤ g.ll ∧ g.ll ≤ 1000 ∧ 0 ≤ g.lh ∧ g.lh ≤ 1000) :
    Calls Try.prog 74 #[.agg (fanA f A n c), .int .i64 k, .int .i64 more] w (FanRes w (f.wide k more) n) := by
  have hl := h.len
  have E0 := Lib.hid (Env2.start w 26 26 (fanA f A n c) #[.int .i64 0, .int .i64 0, .int .i64 0, .int .i64 0, .slice none 0 0])
  have HC := Lib.hid (fun W (hb : Below w.heap.size w W) => cloneGap_any A n c f.gs W (h.below hb) (by omega))
  have hy : 0 ≤ (f.gs.getD k Gap.zero).ll ∧ (f.gs.getD k Gap.zero).ll ≤ 1000 ∧ 0 ≤ (f.gs.getD k Gap.zero).lh ∧ (f.gs.getD k Gap.zero).lh ≤ 1000 := by
    have e : f.gs.getD k Gap.zero = f.gs[k]'(by omega) := by simp [List.getD, show k < f.gs.length from by omega]
    rw [e]; exact hb _ (List.getElem_mem _)
  have HR : Hid (flatG (f.wide k more).gs = ((flatG f.gs).set (k * 4) (.int .i64 ((f.gs.getD k Gap.zero).ll + more))).set (k * 4 + 1) (.int .i64 ((f.gs.getD k Gap.zero).lh + more))) := (flatG_leaf f.gs k (by omega) _ _).symm
  have HL : Hid ((f.wide k more).gs.length = n) := by unfold Hid Fan.wide; simpa using hl
  have HF : Hid (∀ A c, fanA (f.wide k more) A n c = fanA f A n c) := fun _ _ => rfl
  have HX0 := Lib.hid (flatG_at f.gs k 0 (by omega) (by omega))
  have HX1 := Lib.hid (flatG_at f.gs k 1 (by omega) (by omega))
  have e : f.gs.getD k Gap.zero = f.gs[k]'(by omega) := by simp [List.getD, show k < f.gs.length from by omega]
  rw [← e] at HX0 HX1
  have HLL := Lib.hid (show k * 4 + 1 < (flatG f.gs).length from by rw [flatG_length]; omega)
  clear e hb h hl
  unfold FanRes
  generalize (f.wide k more) = f2 at *
  generalize f.gs.getD k Gap.zero = y at *
  obtain ⟨yl, yh, zl, zh⟩ := y
  obtain ⟨fa, fb, fc, fd, gs⟩ := f
  simp only [fanA, Gap.cells] at *
  unfold CloneRes at HC
  go_enter Try.func74, Try.ntmps74
  go_wp2_with fail
  refine (HC.out _ E0.out.bel).mono ?_
  rintro e W1 ⟨A1, c1, rfl, hO, hb1⟩
  have E1 := Lib.hid (E0.out.below hb1)
  obtain ⟨g, rfl, hg0, hRB⟩ := hO.2 (by omega)
  have hg1 : w.heap.size + 1 < g := by have := (Env2.start w 26 26 #[.int .i64 fa, .int .i64 fb, .int .i64 fc, .int .i64 fd, .slice A n c] #[.int .i64 0, .int .i64 0, .int .i64 0, .int .i64 0, .slice none 0 0]).q.lt; simp at hg0; omega
  have hgs : g < W1.heap.size := hRB.lt
  have x0 : W1.cell? ⟨g, k * 4, none⟩ = some (.int .i64 yl) := hRB.cell HX0.out
  have x1 : W1.cell? ⟨g, k * 4 + 1, none⟩ = some (.int .i64 yh) := hRB.cell HX1.out
  have z0 := hRB.frozen (k * 4)
  have z1 := hRB.frozen (k * 4 + 1)
  have RB1 := Lib.hid hRB
  have p1 := fan_get E1.out.p
  have p2 := fan_get E1.out.q
  have pf := E1.out.p.frozen 4
  have q0 := E1.out.q.frozen 0; have q1 := E1.out.q.frozen 1; have q2 := E1.out.q.frozen 2; have q3 := E1.out.q.frozen 3; have q4 := E1.out.q.frozen 4
  have n1 : ¬ g = w.heap.size := by omega
  have n2 : ¬ g = w.heap.size + 1 := by omega
  have n3 : ¬ w.heap.size = g := by omega
  have n4 : ¬ w.heap.size + 1 = g := by omega
  clear hO hb1 hRB hg0
  have N1 := Lib.hid n1; have N2 := Lib.hid n2; have N3 := Lib.hid n3; have N4 := Lib.hid n4
  go_wp2_with fail
  have hq : ¬ w.heap.size + 1 = w.heap.size := by omega
  refine bodyPost_ret (results_c rfl _ _ _ (w.heap.size + 1) _ _ _ rfl ((((((((E1.out.q.far (p := ⟨w.heap.size, 4, none⟩) hq _).far (p := ⟨g, k * 4, none⟩) N4.out _).far (p := ⟨g, k * 4 + 1, none⟩) N4.out _).set_ 0 _).set_ 1 _).set_ 2 _).set_ 3 _).set_ 4 _) Try.underlying26 (by kernel_rfl)) rfl ⟨some ⟨g, 0, none⟩, c1, ?_, ?_, ?_⟩
  · exact congrArg (fun a => Ending.returned (Value.agg a)) (HF.out (some ⟨g, 0, none⟩) c1).symm
  · have R2 := (RB1.out.far (p := ⟨w.heap.size, 4, none⟩) N1.out (.slice (some ⟨g, 0, none⟩) n c1)).set (i := k * 4) (by have := HLL.out; omega) (.int .i64 (yl + more))
    have R3 := R2.set (i := k * 4 + 1) (by rw [List.length_set]; exact HLL.out) (.int .i64 (yh + more))
    rw [← HR.out] at R3
    have R4 := ((((R3.far (p := ⟨w.heap.size + 1, 0, none⟩) N2.out (.int .i64 fa)).far (p := ⟨w.heap.size + 1, 1, none⟩) N2.out (.int .i64 fb)).far (p := ⟨w.heap.size + 1, 2, none⟩) N2.out (.int .i64 fc)).far (p := ⟨w.heap.size + 1, 3, none⟩) N2.out (.int .i64 fd)).far (p := ⟨w.heap.size + 1, 4, none⟩) N2.out (.slice (some ⟨g, 0, none⟩) n c1)
    have := R4.gaps
    rw [HL.out] at this
    exact this
  · have b (o : Nat) : w.heap.size ≤ (⟨w.heap.size + 1, o, none⟩ : Addr).block := Nat.le_succ _
    have b2 (o : Nat) : w.heap.size ≤ (⟨g, o, none⟩ : Addr).block := by show w.heap.size ≤ g; omega
    exact (((((((E1.out.bel.setCell (p := ⟨w.heap.size, 4, none⟩) (Nat.le_refl _) _).setCell (b2 _) _).setCell (b2 _) _).setCell (b 0) _).setCell (b 1) _).setCell (b 2) _).setCell (b 3) _).setCell (b 4) _
end Go.Proofs.Ytdekickmplkdiaa
