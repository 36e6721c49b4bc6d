/- Merged: Rj, Rk, Rl, Rm. -/
import Derived.Test.YtdekickmplkdiaaKb

/- Walks: slices.Clone of gaps, widened, pleated. -/
namespace Go.Proofs.Ytdekickmplkdiaa
open Go.RowKit

/-- Block g begins with L. -/
def RB (w : World) (g : Nat) (t : TypeId) (L : List Value) : Prop := ∃ cs : Array Value, Blk w g t cs ∧ ∀ (j : Nat) (u : Value), L[j]? = some u → cs[j]? = some u
section
variable {w w' : World} {g : Nat} {t : TypeId} {L : List Value}
theorem RB.below (h : RB w g t L) (hb : Below w.heap.size w w') : RB w' g t L := by
  obtain ⟨cs, h1, h2⟩ := h
  exact ⟨cs, blk_keep hb h1, h2⟩
theorem RB.lt (h : RB w g t L) : g < w.heap.size := by
  obtain ⟨cs, h1, _⟩ := h
  exact h1.lt
theorem RB.far (h : RB w g t L) {p : Addr} (hp : g ≠ p.block) (u : Value) : RB (w.setCell p u) g t L := by
  obtain ⟨cs, h1, h2⟩ := h
  exact ⟨cs, h1.far hp u, h2⟩
theorem RB.set (h : RB w g t L) {i : Nat} (hi : i < L.length) (u : Value) : RB (w.setCell ⟨g, i, none⟩ u) g t (L.set i u) := by
  obtain ⟨cs, h1, h2⟩ := h
  refine ⟨_, h1.set_ i u, fun j v hj => ?_⟩
  have hc := h2 i (L[i]) (List.getElem?_eq_getElem hi)
  have hs : i < cs.size := (Array.getElem?_eq_some_iff.1 hc).1
  rw [List.getElem?_set] at hj
  by_cases hij : i = j
  · subst hij
    rw [if_pos rfl, if_pos hi] at hj
    rw [← hj]
    simp [hs]
  · rw [if_neg hij] at hj
    rw [Array.getElem?_setIfInBounds, if_neg hij]
    exact h2 j v hj
theorem RB.cell (h : RB w g t L) {i : Nat} {u : Value} (hi : L[i]? = some u) : w.cell? ⟨g, i, none⟩ = some u := by
  obtain ⟨cs, h1, h2⟩ := h
  rw [h1.cell]; exact h2 i u hi
theorem RB.frozen (h : RB w g t L) (i : Nat) : w.frozen? ⟨g, i, none⟩ = false := by
  obtain ⟨cs, h1, _⟩ := h
  exact h1.frozen i
end
theorem RB.of_own {w : World} {base g cap n size : Nat} {t : TypeId} {xs : List Value} (h : w.ownsRow base t size (.slice (some ⟨g, 0, none⟩) n cap) n xs) : RB w g t xs ∧ base ≤ g := by
  obtain ⟨hl, ⟨hv, _⟩ | ⟨g', cap', cur, hv, hbase, hb, h1, h2, h3, h4⟩⟩ := h
  · simp at hv
  · simp only [Value.slice.injEq, Option.some.injEq, Addr.mk.injEq, and_true, true_and] at hv
    obtain ⟨rfl, rfl⟩ := hv
    refine ⟨⟨cur, hb, fun j u hj => ?_⟩, hbase⟩
    have hj2 : j < xs.length := (List.getElem?_eq_some_iff.1 hj).1
    rw [← h4, List.getElem?_take] at hj
    rw [← Array.getElem?_toList]
    split at hj
    · exact hj
    · simp at hj
theorem RB.gaps {w : World} {g : Nat} {t : TypeId} {xs : List Gap} (h : RB w g t (flatG xs)) : Gaps w (some ⟨g, 0, none⟩) xs.length xs :=
  ⟨flatG_length xs, fun _ => ⟨g, 0, rfl, h.lt, fun j u hj => by rw [Nat.zero_add]; exact h.cell hj⟩⟩
theorem flatG_set0 (xs : List Gap) (k : Nat) (hk : k < xs.length) (a : Int) : (flatG xs).set (k * 4) (.int .i64 a) = flatG (xs.set k ⟨a, (xs.getD k Gap.zero).lh, (xs.getD k Gap.zero).fl, (xs.getD k Gap.zero).fh⟩) := by
  unfold flatG
  induction xs generalizing k with
  | nil => simp at hk
  | cons y r ih =>
    cases k with
    | zero => simp [Gap.cells]
    | succ m =>
      have := ih m (by simpa using hk)
      rw [List.flatMap_cons, List.set_append_right _ _ (by simp [Gap.cells]; omega), show (m + 1) * 4 - y.cells.length = m * 4 from by simp [Gap.cells]; omega, this]
      simp
theorem flatG_set1 (xs : List Gap) (k : Nat) (hk : k < xs.length) (a : Int) : (flatG xs).set (k * 4 + 1) (.int .i64 a) = flatG (xs.set k ⟨(xs.getD k Gap.zero).ll, a, (xs.getD k Gap.zero).fl, (xs.getD k Gap.zero).fh⟩) := by
  unfold flatG
  induction xs generalizing k with
  | nil => simp at hk
  | cons y r ih =>
    cases k with
    | zero => simp [Gap.cells]
    | succ m =>
      have := ih m (by simpa using hk)
      rw [List.flatMap_cons, List.set_append_right _ _ (by simp [Gap.cells]; omega), show (m + 1) * 4 + 1 - y.cells.length = m * 4 + 1 from by simp [Gap.cells]; omega, this]
      simp
theorem flatG_leaf (xs : List Gap) (k : Nat) (hk : k < xs.length) (a b : Int) : ((flatG xs).set (k * 4) (.int .i64 a)).set (k * 4 + 1) (.int .i64 b) = flatG (xs.set k ⟨a, b, (xs.getD k Gap.zero).fl, (xs.getD k Gap.zero).fh⟩) := by
  rw [flatG_set0 xs k hk a, flatG_set1 _ k (by simpa using hk) b]
  simp [List.getD, hk]

/-- A list of gaps of the call's own, or none. -/
def OwnG (base : Nat) (w : World) (A : Option Addr) (n : Nat) (xs : List Gap) : Prop := Gaps w A n xs ∧ (0 < n → ∃ g, A = some ⟨g, 0, none⟩ ∧ base ≤ g ∧ RB w g 42 (flatG xs))
def CloneRes (w : World) (n : Nat) (xs : List Gap) (e : Ending) (w' : World) : Prop := ∃ A c, e = .returned (.slice A n c) ∧ OwnG w.heap.size w' A n xs ∧ Below w.heap.size w w'
theorem ownG_of {base : Nat} {w : World} {n : Nat} {v : Value} {xs : List Gap} (h : w.ownsRow base 42 4 v n (flatG xs)) : ∃ A c, v = .slice A n c ∧ OwnG base w A n xs := by
  rcases Nat.eq_zero_or_pos n with rfl | hp
  · obtain ⟨A, c, rfl⟩ := own_slice h
    exact ⟨A, c, rfl, ⟨⟨by have := h.1; simpa using this, fun h => absurd h (by omega)⟩, fun h => absurd h (by omega)⟩⟩
  · obtain ⟨g, c, rfl⟩ := own_form h hp
    exact ⟨_, c, rfl, gaps_of_own h, fun _ => ⟨g, rfl, (RB.of_own h).2, (RB.of_own h).1⟩⟩

set_option maxRecDepth 100000 in
set_option maxHeartbeats 400000 in
theorem cloneGap_any (A : Option Addr) (n c : Nat) (xs : List Gap) (w : World) (h : Gaps w A n xs) (hn : n ≤ 1000000) :
    Calls Try.prog 108 #[.slice A n c] w (CloneRes w n xs) := by
  obtain ⟨i0, hi, hz0, hz1, hz2⟩ := info_parts Try.infoGap
  have heq := fun w => Lib.run_eql_slice_nil (P := Try.prog) w 24 42 A n c 0 0 Try.underlying24
  have HG := Lib.hid h
  have hb := below_self w (.cells #[] 42)
  have H2 := Lib.hid (h.below hb)
  have B2 := Lib.hid hb
  clear h hb
  cases A with
  | none =>
    have hz : n = 0 := by
      rcases Nat.eq_zero_or_pos n with h | h
      · exact h
      · obtain ⟨b, off, e, _⟩ := HG.out.2 h
        simp at e
    subst hz
    simp only [Option.isNone_none] at heq
    go_enter Try.func108, Try.ntmps108
    go_wp2
    go_ret
    exact ⟨_, _, rfl, ⟨HG.out, fun h => absurd h (by omega)⟩, Below.refl _ _⟩
  | some ad =>
    simp only [Option.isNone_some] at heq
    go_enter Try.func108, Try.ntmps108
    go_wp2_with (at_builtin; refine wpList_append_any rfl _ _ 24 rfl w.heap.size 42 i0 (.agg #[.int .i64 0, .int .i64 0, .int .i64 0, .int .i64 0]) 4 32 Try.underlying24 hi hz0 hz1 hz2 rfl (by decide) _ _ _ rfl (World.ownsRow_lit w #[] 0 (Nat.le_refl _) (by decide) rfl) (some ad) n c (flatG xs) rfl H2.out (flatG_oneCell xs) ?c1 ?c2 ?c3 ?_)
    case c1 => unfold maxLen; omega
    case c2 => omega
    case c3 => simp
    intro v' w1 hown hgrow
    have hown2 : w1.ownsRow w.heap.size 42 4 v' n (flatG xs) := by simpa using hown
    obtain ⟨A', c', rfl, ho⟩ := ownG_of hown2
    have O := Lib.hid ho
    have B3 := Lib.hid (B2.out.grown hgrow (by simp) (by rintro k hk; simp [Value.ownBlock] at hk; omega))
    clear hown hown2 hgrow ho
    go_wp2
    go_ret
    exact ⟨A', c', rfl, O.out, B3.out⟩

/-- A fan with the leaf of a gap wider. -/
def Fan.wide (f : Fan) (k : Nat) (more : Int) : Fan := { f with gs := f.gs.set k ⟨(f.gs.getD k Gap.zero).ll + more, (f.gs.getD k Gap.zero).lh + more, (f.gs.getD k Gap.zero).fl, (f.gs.getD k Gap.zero).fh⟩ }
def FanRes (w : World) (f : Fan) (n : Nat) (e : Ending) (w' : World) : Prop := ∃ A c, e = .returned (.agg (fanA f A n c)) ∧ Gaps w' A n f.gs ∧ Below w.heap.size w w'

set_option maxRecDepth 100000 in
set_option maxHeartbeats 1000000 in
theorem widened_any (f : Fan) (A : Option Addr) (n c k : Nat) (more : Int) (w : World) (h : Gaps w A n f.gs) (hk : k < n) (hn : n ≤ 1000) (hm : 0 ≤ more) (hm2 : more ≤ 1000) (hb : ∀ g ∈ f.gs, 0 ≤ g.ll ∧ g.ll ≤ 1000 ∧ 0 ≤ g.lh ∧ g.lh ≤ 1000) :
    Calls Try.prog 74 #[.agg (fanA f A n c), .int .i64 k, .int .i64 more] w (FanRes w (f.wide k more) n) := by
  have hl := h.len
  have E0 := Lib.hid (Env2.start w 26 26 (fanA f A n c) #[.int .i64 0, .int .i64 0, .int .i64 0, .int .i64 0, .slice none 0 0])
  have HC := Lib.hid (fun W (hb : Below w.heap.size w W) => cloneGap_any A n c f.gs W (h.below hb) (by omega))
  have hy : 0 ≤ (f.gs.getD k Gap.zero).ll ∧ (f.gs.getD k Gap.zero).ll ≤ 1000 ∧ 0 ≤ (f.gs.getD k Gap.zero).lh ∧ (f.gs.getD k Gap.zero).lh ≤ 1000 := by
    have e : f.gs.getD k Gap.zero = f.gs[k]'(by omega) := by simp [List.getD, show k < f.gs.length from by omega]
    rw [e]; exact hb _ (List.getElem_mem _)
  have HR : Hid (flatG (f.wide k more).gs = ((flatG f.gs).set (k * 4) (.int .i64 ((f.gs.getD k Gap.zero).ll + more))).set (k * 4 + 1) (.int .i64 ((f.gs.getD k Gap.zero).lh + more))) := (flatG_leaf f.gs k (by omega) _ _).symm
  have HL : Hid ((f.wide k more).gs.length = n) := by unfold Hid Fan.wide; simpa using hl
  have HF : Hid (∀ A c, fanA (f.wide k more) A n c = fanA f A n c) := fun _ _ => rfl
  have HX0 := Lib.hid (flatG_at f.gs k 0 (by omega) (by omega))
  have HX1 := Lib.hid (flatG_at f.gs k 1 (by omega) (by omega))
  have e : f.gs.getD k Gap.zero = f.gs[k]'(by omega) := by simp [List.getD, show k < f.gs.length from by omega]
  rw [← e] at HX0 HX1
  have HLL := Lib.hid (show k * 4 + 1 < (flatG f.gs).length from by rw [flatG_length]; omega)
  clear e hb h hl
  unfold FanRes
  generalize (f.wide k more) = f2 at *
  generalize f.gs.getD k Gap.zero = y at *
  obtain ⟨yl, yh, zl, zh⟩ := y
  obtain ⟨fa, fb, fc, fd, gs⟩ := f
  simp only [fanA, Gap.cells] at *
  unfold CloneRes at HC
  go_enter Try.func74, Try.ntmps74
  go_wp2_with fail
  refine (HC.out _ E0.out.bel).mono ?_
  rintro e W1 ⟨A1, c1, rfl, hO, hb1⟩
  have E1 := Lib.hid (E0.out.below hb1)
  obtain ⟨g, rfl, hg0, hRB⟩ := hO.2 (by omega)
  have hg1 : w.heap.size + 1 < g := by have := (Env2.start w 26 26 #[.int .i64 fa, .int .i64 fb, .int .i64 fc, .int .i64 fd, .slice A n c] #[.int .i64 0, .int .i64 0, .int .i64 0, .int .i64 0, .slice none 0 0]).q.lt; simp at hg0; omega
  have hgs : g < W1.heap.size := hRB.lt
  have x0 : W1.cell? ⟨g, k * 4, none⟩ = some (.int .i64 yl) := hRB.cell HX0.out
  have x1 : W1.cell? ⟨g, k * 4 + 1, none⟩ = some (.int .i64 yh) := hRB.cell HX1.out
  have z0 := hRB.frozen (k * 4)
  have z1 := hRB.frozen (k * 4 + 1)
  have RB1 := Lib.hid hRB
  have p1 := fan_get E1.out.p
  have p2 := fan_get E1.out.q
  have pf := E1.out.p.frozen 4
  have q0 := E1.out.q.frozen 0; have q1 := E1.out.q.frozen 1; have q2 := E1.out.q.frozen 2; have q3 := E1.out.q.frozen 3; have q4 := E1.out.q.frozen 4
  have n1 : ¬ g = w.heap.size := by omega
  have n2 : ¬ g = w.heap.size + 1 := by omega
  have n3 : ¬ w.heap.size = g := by omega
  have n4 : ¬ w.heap.size + 1 = g := by omega
  clear hO hb1 hRB hg0
  have N1 := Lib.hid n1; have N2 := Lib.hid n2; have N3 := Lib.hid n3; have N4 := Lib.hid n4
  go_wp2_with fail
  have hq : ¬ w.heap.size + 1 = w.heap.size := by omega
  refine bodyPost_ret (results_c rfl _ _ _ (w.heap.size + 1) _ _ _ rfl ((((((((E1.out.q.far (p := ⟨w.heap.size, 4, none⟩) hq _).far (p := ⟨g, k * 4, none⟩) N4.out _).far (p := ⟨g, k * 4 + 1, none⟩) N4.out _).set_ 0 _).set_ 1 _).set_ 2 _).set_ 3 _).set_ 4 _) Try.underlying26 (by kernel_rfl)) rfl ⟨some ⟨g, 0, none⟩, c1, ?_, ?_, ?_⟩
  · exact congrArg (fun a => Ending.returned (Value.agg a)) (HF.out (some ⟨g, 0, none⟩) c1).symm
  · have R2 := (RB1.out.far (p := ⟨w.heap.size, 4, none⟩) N1.out (.slice (some ⟨g, 0, none⟩) n c1)).set (i := k * 4) (by have := HLL.out; omega) (.int .i64 (yl + more))
    have R3 := R2.set (i := k * 4 + 1) (by rw [List.length_set]; exact HLL.out) (.int .i64 (yh + more))
    rw [← HR.out] at R3
    have R4 := ((((R3.far (p := ⟨w.heap.size + 1, 0, none⟩) N2.out (.int .i64 fa)).far (p := ⟨w.heap.size + 1, 1, none⟩) N2.out (.int .i64 fb)).far (p := ⟨w.heap.size + 1, 2, none⟩) N2.out (.int .i64 fc)).far (p := ⟨w.heap.size + 1, 3, none⟩) N2.out (.int .i64 fd)).far (p := ⟨w.heap.size + 1, 4, none⟩) N2.out (.slice (some ⟨g, 0, none⟩) n c1)
    have := R4.gaps
    rw [HL.out] at this
    exact this
  · have b (o : Nat) : w.heap.size ≤ (⟨w.heap.size + 1, o, none⟩ : Addr).block := Nat.le_succ _
    have b2 (o : Nat) : w.heap.size ≤ (⟨g, o, none⟩ : Addr).block := by show w.heap.size ≤ g; omega
    exact (((((((E1.out.bel.setCell (p := ⟨w.heap.size, 4, none⟩) (Nat.le_refl _) _).setCell (b2 _) _).setCell (b2 _) _).setCell (b 0) _).setCell (b 1) _).setCell (b 2) _).setCell (b 3) _).setCell (b 4) _
end Go.Proofs.Ytdekickmplkdiaa

/- Walks: pleated, Widen. -/
namespace Go.Proofs.Ytdekickmplkdiaa
open Go.RowKit

def Gap.leaf (arc : Int) (g : Gap) : Gap := ⟨arc, arc, g.fl, g.fh⟩
def plL (arc : Int) (k : Nat) (gs : List Gap) : List Gap := (gs.take k).map (Gap.leaf arc) ++ gs.drop k
theorem plL_length (arc : Int) (k : Nat) (gs : List Gap) : (plL arc k gs).length = gs.length := by simp [plL]; omega
theorem plL_zero (arc : Int) (gs : List Gap) : plL arc 0 gs = gs := by simp [plL]
theorem plL_all (arc : Int) (gs : List Gap) : plL arc gs.length gs = gs.map (Gap.leaf arc) := by simp [plL]
theorem plL_succ (arc : Int) (k : Nat) (gs : List Gap) (hk : k < gs.length) : ((flatG (plL arc k gs)).set (k * 4) (.int .i64 arc)).set (k * 4 + 1) (.int .i64 arc) = flatG (plL arc (k + 1) gs) := by
  have hk2 : k < (plL arc k gs).length := by rw [plL_length]; exact hk
  rw [flatG_leaf _ k hk2]
  congr 1
  have e1 : (plL arc k gs).getD k Gap.zero = gs[k] := by
    simp only [plL, List.getD]
    rw [List.getElem?_append_right (by simp; omega)]
    simp [Nat.min_eq_left (Nat.le_of_lt hk), hk]
  rw [e1]
  apply List.ext_getElem?
  intro i
  rw [List.getElem?_set]
  by_cases hi : k = i
  · subst hi
    rw [if_pos rfl, if_pos hk2]
    simp only [plL]
    rw [List.getElem?_append_left (by simp; omega)]
    simp [hk, Gap.leaf]
  · rw [if_neg hi]
    simp only [plL]
    by_cases h2 : i < k
    · rw [List.getElem?_append_left (by simp; omega), List.getElem?_append_left (by simp; omega)]
      simp [h2, Nat.lt_succ_of_lt h2]
    · rw [List.getElem?_append_right (by simp; omega), List.getElem?_append_right (by simp; omega)]
      simp only [List.length_map, List.length_take, List.getElem?_drop]
      congr 1
      omega
def Fan.pleat (f : Fan) (arc : Int) : Fan := { f with gs := f.gs.map (Gap.leaf arc) }

set_option maxRecDepth 100000 in
set_option maxHeartbeats 1000000 in
theorem pleated_any (f : Fan) (A : Option Addr) (n c : Nat) (arc : Int) (w : World) (h : Gaps w A n f.gs) (hn : n ≤ 1000) :
    Calls Try.prog 84 #[.agg (fanA f A n c), .int .i64 arc] w (FanRes w (f.pleat arc) n) := by
  have hl := h.len
  have E0 := Lib.hid (Env2.start w 26 26 (fanA f A n c) #[.int .i64 0, .int .i64 0, .int .i64 0, .int .i64 0, .slice none 0 0])
  have HC := Lib.hid (fun W (hb : Below w.heap.size w W) => cloneGap_any A n c f.gs W (h.below hb) (by omega))
  have HF : Hid (∀ A c, fanA (f.pleat arc) A n c = fanA f A n c) := fun _ _ => rfl
  have HS := Lib.hid (fun k (hk : k < n) => plL_succ arc k f.gs (by omega))
  have HA : Hid (plL arc n f.gs = (f.pleat arc).gs) := by unfold Hid; rw [← hl]; exact plL_all arc f.gs
  have HZ : Hid (plL arc 0 f.gs = f.gs) := plL_zero arc f.gs
  have HLL := Lib.hid (fun k => plL_length arc k f.gs)
  have HN := Lib.hid hl
  clear h hl
  unfold FanRes
  generalize (f.pleat arc) = f2 at *
  obtain ⟨fa, fb, fc, fd, gs⟩ := f
  simp only [fanA] at *
  unfold CloneRes at HC
  go_enter Try.func84, Try.ntmps84
  go_wp2_with fail
  refine (HC.out _ E0.out.bel).mono ?_
  rintro e W1 ⟨A1, c1, rfl, hO, hb1⟩
  have E1 := Lib.hid (E0.out.below hb1)
  have O1 := Lib.hid hO
  have p1 := fan_get E1.out.p
  have pf := E1.out.p.frozen 4
  have hgg : ∀ g, 0 < n → A1 = some ⟨g, 0, none⟩ → w.heap.size + 1 < g := fun g h0 he => by
    obtain ⟨g', e', hg', _⟩ := hO.2 h0
    rw [he] at e'
    simp only [Option.some.injEq, Addr.mk.injEq, and_true] at e'
    have := E0.out.q.lt
    omega
  have HGG := Lib.hid hgg
  clear hO hb1 hgg
  go_wp2_with fail
  go_loopw [5, 13] (fun _ i wr => ∃ k : Nat, k ≤ n ∧ i = .int .i64 k ∧ Blk wr w.heap.size 26 #[.int .i64 fa, .int .i64 fb, .int .i64 fc, .int .i64 fd, .slice A1 n c1] ∧ Blk wr (w.heap.size + 1) 26 #[.int .i64 0, .int .i64 0, .int .i64 0, .int .i64 0, .slice none 0 0] ∧ Below w.heap.size w wr ∧ Gaps wr A1 n (plL arc k gs) ∧ (0 < n → ∃ g, A1 = some ⟨g, 0, none⟩ ∧ RB wr g 42 (flatG (plL arc k gs)))) (fun _ i _ => n - (intOf i).toNat)
  case atStart =>
    have hq : ¬ w.heap.size + 1 = w.heap.size := by omega
    refine ⟨0, Nat.zero_le _, rfl, E1.out.p.set_ 4 _, E1.out.q.far (p := ⟨w.heap.size, 4, none⟩) hq _, E1.out.bel.setCell (p := ⟨w.heap.size, 4, none⟩) (Nat.le_refl _) _, ?_, fun h0 => ?_⟩
    · rw [HZ.out]
      rcases Nat.eq_zero_or_pos n with h0 | h0
      · exact ⟨O1.out.1.1, fun h => absurd h (by omega)⟩
      · obtain ⟨g, rfl, hg, hR⟩ := O1.out.2 h0
        have hg1 := HGG.out g h0 rfl
        have := (hR.far (p := ⟨w.heap.size, 4, none⟩) (by show ¬ g = w.heap.size; omega) (.slice (some ⟨g, 0, none⟩) n c1)).gaps
        rw [HN.out] at this
        exact this
    · rw [HZ.out]
      obtain ⟨g, rfl, hg, hR⟩ := O1.out.2 h0
      have hg1 := HGG.out g h0 rfl
      exact ⟨g, rfl, hR.far (p := ⟨w.heap.size, 4, none⟩) (by show ¬ g = w.heap.size; omega) _⟩
  case round =>
    obtain ⟨k, hk, rfl, hP, hQ, hB, hG, hR⟩ := hrel
    have P2 := Lib.hid hP
    have Q2 := Lib.hid hQ
    have B2 := Lib.hid hB
    have G2 := Lib.hid hG
    have R2 := Lib.hid hR
    clear hP hQ hB hG hR p1 pf
    by_cases hlt : k < n
    · obtain ⟨g, rfl, hR⟩ := R2.out (by omega)
      have hg1 := HGG.out g (by omega) rfl
      have p2 := fan_get P2.out
      have z0 := hR.frozen (k * 4)
      have z1 := hR.frozen (k * 4 + 1)
      have hgs := hR.lt
      have hgl : k * 4 + 1 < (flatG (plL arc k gs)).length := by rw [flatG_length, HLL.out, HN.out]; omega
      have x0 := hR.cell (List.getElem?_eq_getElem (show k * 4 < (flatG (plL arc k gs)).length by omega))
      have x1 := hR.cell (List.getElem?_eq_getElem hgl)
      have hgl' := Lib.hid hgl
      have R3 := Lib.hid hR
      have n1 : ¬ g = w.heap.size := by omega
      have n2 : ¬ w.heap.size = g := by omega
      have n3 : ¬ w.heap.size + 1 = g := by omega
      have N2 := Lib.hid n2; have N3 := Lib.hid n3
      have hs := Lib.hid (HS.out k hlt)
      have Hg := Lib.hid hg1
      clear hR
      generalize (flatG (plL arc k gs))[k * 4] = y0 at *
      generalize (flatG (plL arc k gs))[k * 4 + 1] = y1 at *
      clear hgl
      go_wp2_with fail
      go_roundw
      case rel =>
        have R4 := ((R3.out.set (i := k * 4) (by have := hgl'.out; omega) (.int .i64 arc)).set (i := k * 4 + 1) (by rw [List.length_set]; exact hgl'.out) (.int .i64 arc))
        rw [hs.out] at R4
        have b2 (o : Nat) : w.heap.size ≤ (⟨g, o, none⟩ : Addr).block := by show w.heap.size ≤ g; have := Hg.out; omega
        refine ⟨k + 1, by omega, by go_num, (P2.out.far (p := ⟨g, k * 4, none⟩) N2.out _).far (p := ⟨g, k * 4 + 1, none⟩) N2.out _, (Q2.out.far (p := ⟨g, k * 4, none⟩) N3.out _).far (p := ⟨g, k * 4 + 1, none⟩) N3.out _, (B2.out.setCell (b2 _) _).setCell (b2 _) _, ?_, fun _ => ⟨g, rfl, R4⟩⟩
        have := R4.gaps
        rw [HLL.out, HN.out] at this
        exact this
      case measure => simp [intOf]; omega
    · obtain rfl : k = n := by omega
      have p2 := fan_get P2.out
      have q2 := fan_get Q2.out
      have q0 := Q2.out.frozen 0; have q1 := Q2.out.frozen 1; have q3 := Q2.out.frozen 2; have q4 := Q2.out.frozen 3; have q5 := Q2.out.frozen 4
      go_wp2_with fail
      refine bodyPost_ret (results_c rfl _ _ _ (w.heap.size + 1) _ _ _ rfl (((((Q2.out.set_ 0 _).set_ 1 _).set_ 2 _).set_ 3 _).set_ 4 _) Try.underlying26 (by kernel_rfl)) rfl ⟨A1, c1, ?_, ?_, ?_⟩
      · exact congrArg (fun a => Ending.returned (Value.agg a)) (HF.out A1 c1).symm
      · rw [← HA.out]
        rcases Nat.eq_zero_or_pos k with h0 | h0
        · exact ⟨G2.out.1, fun h => absurd h (by omega)⟩
        · obtain ⟨g, rfl, hR⟩ := R2.out h0
          have hg1 := HGG.out g h0 rfl
          have n2 : ¬ g = w.heap.size + 1 := by omega
          have := (((((hR.far (p := ⟨w.heap.size + 1, 0, none⟩) n2 (.int .i64 fa)).far (p := ⟨w.heap.size + 1, 1, none⟩) n2 (.int .i64 fb)).far (p := ⟨w.heap.size + 1, 2, none⟩) n2 (.int .i64 fc)).far (p := ⟨w.heap.size + 1, 3, none⟩) n2 (.int .i64 fd)).far (p := ⟨w.heap.size + 1, 4, none⟩) n2 (.slice (some ⟨g, 0, none⟩) k c1)).gaps
          rw [HLL.out, HN.out] at this
          exact this
      · have b (o : Nat) : w.heap.size ≤ (⟨w.heap.size + 1, o, none⟩ : Addr).block := Nat.le_succ _
        exact ((((B2.out.setCell (b 0) _).setCell (b 1) _).setCell (b 2) _).setCell (b 3) _).setCell (b 4) _
end Go.Proofs.Ytdekickmplkdiaa

/- Walks: Widen. -/
namespace Go.Proofs.Ytdekickmplkdiaa
open Go.RowKit

def widenGo (f : Fan) (more : Int) : Nat → Int × Int
  | 0 => (0, -1)
  | k + 1 => if (widenGo f more k).2 < degL false (f.wide k more) then ((k : Int), degL false (f.wide k more)) else widenGo f more k
def widenR (f : Fan) (more : Int) : Int × Int × Int :=
  if fanErr f = 0 then (if within 0 1000 [more] = true then (if f.gs.length = 0 then (0, 0, 7) else ((widenGo f more f.gs.length).1, (widenGo f more f.gs.length).2, 0)) else (0, 0, 4)) else (0, 0, fanErr f)
theorem wide_B {f : Fan} (h : fanErr f = 0) {more : Int} (h0 : 0 ≤ more) (h1 : more ≤ 1000) (k : Nat) (hk : k < f.gs.length) : FanB (f.wide k more) := by
  obtain ⟨hf, hg, hl⟩ := fanB_of h
  refine ⟨hf.a1, hf.ab, hf.b5, hf.c1, hf.cd, hf.d5, by simpa [Fan.wide] using hf.n, fun g hq => ?_⟩
  have e : f.gs.getD k Gap.zero = f.gs[k] := by simp [List.getD, hk]
  have hy := hf.g _ (List.getElem_mem hk)
  have hy2 := hg _ (List.getElem_mem hk)
  rcases List.mem_or_eq_of_mem_set hq with h2 | rfl
  · exact hf.g g h2
  · rw [e]; simp only; omega
theorem degL_lo {f : Fan} (h : FanB f) (u : Bool) : 0 ≤ degL u f := (degL_bd h u).1

set_option maxRecDepth 100000 in
set_option maxHeartbeats 2000000 in
theorem Widen_any (f : Fan) (more : Int) (A : Option Addr) (n c : Nat) (w : World) (h : Gaps w A n f.gs) (hn : n ≤ maxLen) :
    Calls Try.prog 28 #[.agg (fanA f A n c), .int .i64 more] w fun e w' => e = .returned (.tuple #[.int .i64 (widenR f more).1, .int .i64 (widenR f more).2.1, .int .i64 (widenR f more).2.2]) ∧ Below w.heap.size w w' := by
  have hl := h.len
  have HF := Lib.hid (fun W (hb : Below w.heap.size w W) => fanError_any f A n c W (h.below hb) hn)
  have B0 := Lib.hid (below_self w (.cells (fanA f A n c) 26))
  have R0 := Lib.hid (Blk.new w 26 (fanA f A n c) rfl)
  by_cases hE : fanErr f = 0
  · obtain ⟨hf, hg, hl40⟩ := fanB_of hE
    have HN : n ≤ 40 := by omega
    have HE := Lib.hid hE
    cases q1 : within 0 1000 [more]
    · have HO : Hid (widenR f more = (0, 0, 4)) := by unfold Hid widenR; rw [if_pos hE, q1]; rfl
      rw [hE] at HF
      clear h hn hl hf hg hl40 hE HE HN
      generalize widenR f more = r at *
      obtain ⟨fa, fb, fc, fd, gs⟩ := f
      simp only [fanA] at *
      go_enter Try.func28, Try.ntmps28
      go_wp2_with fail
      refine (HF.out _ B0.out).mono ?_
      rintro e W1 ⟨rfl, hb1⟩
      have B1 := Lib.hid (below_then B0.out hb1)
      clear hb1
      go_wp2_with (go_at_call 73; refine (within1 _ _ _ _ _ _ (by simp)).mono ?_; rintro e w' ⟨rfl, rfl⟩)
      go_ret3
      exact ⟨by rw [HO.out]; rfl, B1.out.alloc B1.out.size _⟩
    · by_cases hz : n = 0
      · have HO : Hid (widenR f more = (0, 0, 7)) := by unfold Hid widenR; rw [if_pos hE, q1, if_pos rfl, hl, if_pos hz]
        rw [hE] at HF
        clear h hn hl hf hg hl40 hE HE HN
        subst hz
        generalize widenR f more = r at *
        obtain ⟨fa, fb, fc, fd, gs⟩ := f
        simp only [fanA] at *
        go_enter Try.func28, Try.ntmps28
        go_wp2_with fail
        refine (HF.out _ B0.out).mono ?_
        rintro e W1 ⟨rfl, hb1⟩
        have B1 := Lib.hid (below_then B0.out hb1)
        have R1 := Lib.hid (blk_keep hb1 R0.out)
        have p1 := fan_get (R1.out.alloc (.cells #[.int .i64 more] 3))
        clear hb1
        go_wp2_with (go_at_call 73; refine (within1 _ _ _ _ _ _ (by simp)).mono ?_; rintro e w' ⟨rfl, rfl⟩)
        go_ret3
        exact ⟨by rw [HO.out]; rfl, B1.out.alloc B1.out.size _⟩
      · have HO : Hid (widenR f more = ((widenGo f more n).1, (widenGo f more n).2, 0)) := by unfold Hid widenR; rw [if_pos hE, q1, if_pos rfl, hl, if_neg hz]
        have hm : 0 ≤ more ∧ more ≤ 1000 := by simp [within] at q1; exact q1
        have HW := Lib.hid (fun k (hk : k < n) W (hb : Below w.heap.size w W) => widened_any f A n c k more W (h.below hb) hk (by omega) hm.1 hm.2 (fun g hq => by have := hf.g g hq; have := hg g hq; omega))
        have HS := Lib.hid (fun k (hk : k < n) A c W (hG : Gaps W A n (f.wide k more).gs) => surely_any (f.wide k more) A n c W (wide_B hE hm.1 hm.2 k (by omega)) hG)
        have HG := Lib.hid (fun k => show widenGo f more (k + 1) = if (widenGo f more k).2 < degL false (f.wide k more) then ((k : Int), degL false (f.wide k more)) else widenGo f more k from rfl)
        have HV : Hid (∀ A c k, fanA (f.wide k more) A n c = fanA f A n c) := fun _ _ _ => rfl
        have HG0 : Hid (widenGo f more 0 = (0, -1)) := rfl
        have HZ := Lib.hid hz
        have hz1 : ((n : Int) == 0) = false := by simpa using hz
        have hz2 : decide (n = 0) = false := by simpa using hz
        rw [hE] at HF
        unfold FanRes at HW
        clear h hn hl hf hg hl40 hE HE hm
        generalize widenR f more = r at *
        generalize widenGo f more = go at *
        have HV2 := Lib.hid (fun k A c => show fanA (f.wide k more) A n c = fanA f A n c from rfl)
        generalize hwide : (fun k => f.wide k more) = fw at *
        have hfw : ∀ k, f.wide k more = fw k := fun k => congrFun hwide k
        simp only [hfw] at HW HS HG HV HV2
        clear hwide hfw
        obtain ⟨fa, fb, fc, fd, gs⟩ := f
        simp only [HV.out] at HW HS
        clear HV HV2
        simp only [fanA] at *
        go_enter Try.func28, Try.ntmps28
        go_wp2_with fail
        refine (HF.out _ B0.out).mono ?_
        rintro e W1 ⟨rfl, hb1⟩
        have B1 := Lib.hid (below_alloc' (below_then B0.out hb1) (.cells #[.int .i64 more] 3))
        have R1 := Lib.hid ((blk_keep hb1 R0.out).alloc (.cells #[.int .i64 more] 3))
        have p1 := fan_get R1.out
        clear hb1
        go_wp2_with (go_at_call 73; refine (within1 _ _ _ _ _ _ (by simp)).mono ?_; rintro e w' ⟨rfl, rfl⟩)
        clear p1
        go_loopw [4, 5, 8, 9, 26] (fun a b _ _ i wr => ∃ k : Nat, k ≤ n ∧ i = .int .i64 k ∧ a = .int .i64 (go k).1 ∧ b = .int .i64 (go k).2 ∧ Blk wr w.heap.size 26 #[.int .i64 fa, .int .i64 fb, .int .i64 fc, .int .i64 fd, .slice A n c] ∧ Below w.heap.size w wr) (fun _ _ _ _ i _ => n - (intOf i).toNat)
        case atStart => exact ⟨0, Nat.zero_le _, rfl, by rw [HG0.out], by rw [HG0.out], R1.out, B1.out⟩
        case round =>
          obtain ⟨k, hk, rfl, rfl, rfl, hR, hB⟩ := hrel
          have R2 := Lib.hid hR
          have B2 := Lib.hid hB
          clear hR hB
          by_cases hlt : k < n
          · have C := Lib.hid (HW.out k hlt _ B2.out)
            have HS2 := Lib.hid (HS.out k hlt)
            have hgo := Lib.hid (HG.out k)
            have p2 := fan_get R2.out
            generalize fw k = f2 at *
            generalize degL false f2 = d at *
            generalize go k = y at *
            obtain ⟨ya, yb⟩ := y
            simp only at *
            by_cases hgt : yb < d
            · have hg2 : Hid (go (k + 1) = ((k : Int), d)) := by unfold Hid; rw [hgo.out, if_pos hgt]
              clear hgo
              go_wp2_with fail
              refine C.out.mono ?_
              rintro e W3 ⟨A3, c3, rfl, hG3, hb3⟩
              have C4 := Lib.hid (HS2.out A3 c3 W3 hG3)
              have R3 := Lib.hid (blk_keep hb3 R2.out)
              have B3 := Lib.hid (below_then B2.out hb3)
              clear hG3 hb3 p2
              go_wp2_with fail
              refine C4.out.mono ?_
              rintro e W4 ⟨rfl, hb4⟩
              have R4 := Lib.hid (blk_keep hb4 R3.out)
              have B4 := Lib.hid (below_then B3.out hb4)
              clear hb4
              go_wp2
              go_roundw
              case rel => exact ⟨k + 1, by omega, by go_num, by rw [hg2.out], by rw [hg2.out], R4.out, B4.out⟩
              case measure => simp [intOf]; omega
            · have hg2 : Hid (go (k + 1) = (ya, yb)) := by unfold Hid; rw [hgo.out, if_neg hgt]
              clear hgo
              go_wp2_with fail
              refine C.out.mono ?_
              rintro e W3 ⟨A3, c3, rfl, hG3, hb3⟩
              have C4 := Lib.hid (HS2.out A3 c3 W3 hG3)
              have R3 := Lib.hid (blk_keep hb3 R2.out)
              have B3 := Lib.hid (below_then B2.out hb3)
              clear hG3 hb3 p2
              go_wp2_with fail
              refine C4.out.mono ?_
              rintro e W4 ⟨rfl, hb4⟩
              have R4 := Lib.hid (blk_keep hb4 R3.out)
              have B4 := Lib.hid (below_then B3.out hb4)
              clear hb4
              go_wp2
              go_roundw
              case rel => exact ⟨k + 1, by omega, by go_num, by rw [hg2.out], by rw [hg2.out], R4.out, B4.out⟩
              case measure => simp [intOf]; omega
          · obtain rfl : k = n := by omega
            go_wp2
            go_ret3
            exact ⟨by rw [HO.out]; rfl, B2.out⟩
  · have HO : Hid (widenR f more = (0, 0, fanErr f)) := if_neg hE
    clear h hn hl
    generalize widenR f more = r at *
    generalize fanErr f = e0 at *
    unfold fanA at *
    go_enter Try.func28, Try.ntmps28
    go_wp2_with fail
    refine (HF.out _ B0.out).mono ?_
    rintro e W1 ⟨rfl, hb1⟩
    have B1 := Lib.hid (below_then B0.out hb1)
    have he1 : decide (e0 = 0) = false := by simpa using hE
    clear hb1
    go_wp2
    go_ret3
    exact ⟨by rw [HO.out]; rfl, B1.out⟩
end Go.Proofs.Ytdekickmplkdiaa

/- Walks: sort.Search, Pleat. -/
namespace Go.Proofs.Ytdekickmplkdiaa
open Go.RowKit

def searchGo (p : Nat → Bool) : Nat → Nat → Nat → Nat
  | 0, i, _ => i
  | f + 1, i, j => if i < j then (if p ((i + j) / 2) = true then searchGo p f i ((i + j) / 2) else searchGo p f ((i + j) / 2 + 1) j) else i
def searchL (p : Nat → Bool) (n : Nat) : Nat := searchGo p n 0 n
theorem searchGo_end {p : Nat → Bool} {f i j : Nat} (h : ¬ i < j) : searchGo p f i j = i := by
  cases f with
  | zero => rfl
  | succ f => rw [searchGo, if_neg h]
theorem searchGo_yes {p : Nat → Bool} {f i j : Nat} (h : i < j) (hp : p ((i + j) / 2) = true) : searchGo p (f + 1) i j = searchGo p f i ((i + j) / 2) := by
  rw [searchGo, if_pos h, if_pos hp]
theorem searchGo_no {p : Nat → Bool} {f i j : Nat} (h : i < j) (hp : p ((i + j) / 2) = false) : searchGo p (f + 1) i j = searchGo p f ((i + j) / 2 + 1) j := by
  rw [searchGo, if_pos h, if_neg (by simp [hp])]

set_option maxRecDepth 100000 in
theorem SearchP_any (p : Nat → Bool) (n : Nat) (I : World → Prop) (q0 q1 : Value) (w : World) (hn : n ≤ 2000) (h0 : I w)
    (hf : ∀ (h : Nat) W, h < n → I W → Calls Try.prog 83 #[.int .i64 h, q0, q1] W fun e W' => e = .returned (.bool (p h)) ∧ I W') :
    Calls Try.prog 80 #[.int .i64 n, .func (.func 83) #[] #[q0, q1]] w fun e w' => e = .returned (.int .i64 (searchL p n)) ∧ I w' := by
  have Hf := Lib.hid hf
  have H0 := Lib.hid h0
  have HL : Hid (searchGo p n 0 n = searchL p n) := rfl
  clear hf h0
  go_enter Try.func80, Try.ntmps80
  go_wp2
  go_loopw [5, 6] (fun u v wr => ∃ i j f : Nat, i ≤ j ∧ j ≤ n ∧ j ≤ i + f ∧ u = .int .i64 i ∧ v = .int .i64 j ∧ searchGo p f i j = searchL p n ∧ I wr) (fun u v _ => (intOf v - intOf u).toNat)
  case atStart => exact ⟨0, n, n, by omega, by omega, by omega, rfl, rfl, HL.out, H0.out⟩
  case round =>
    obtain ⟨i, j, f, hij, hjn, hjf, rfl, rfl, hgo, hI⟩ := hrel
    have Hgo := Lib.hid hgo
    have HI := Lib.hid hI
    clear hgo hI HL H0
    by_cases hlt : i < j
    · obtain ⟨f, rfl⟩ : ∃ f', f = f' + 1 := ⟨f - 1, by omega⟩
      have hh : (i + j) / 2 < n := by omega
      have hcast : (((i + j) / 2 : Nat) : Int) = ((i : Int) + (j : Int)) / 2 := by omega
      have HC := Hf.out ((i + j) / 2) wr hh HI.out
      rw [hcast] at HC
      replace HC := Lib.hid HC
      clear hcast
      have HY := Lib.hid (searchGo_yes (p := p) (f := f) hlt)
      have HN := Lib.hid (searchGo_no (p := p) (f := f) hlt)
      cases hp : p ((i + j) / 2)
      · rw [hp] at HC
        have HG := Lib.hid (HN.out hp)
        clear HY HN hp
        go_wp2_with fail
        refine HC.out.mono ?_
        rintro e w2 ⟨rfl, hI2⟩
        have HI2 := Lib.hid hI2
        clear hI2
        go_wp2
        go_roundw
        case rel => exact ⟨(i + j) / 2 + 1, j, f, by omega, hjn, by omega, by go_num, rfl, by rw [← HG.out]; exact Hgo.out, HI2.out⟩
        case measure => simp [intOf]; omega
      · rw [hp] at HC
        have HG := Lib.hid (HY.out hp)
        clear HY HN hp
        go_wp2_with fail
        refine HC.out.mono ?_
        rintro e w2 ⟨rfl, hI2⟩
        have HI2 := Lib.hid hI2
        clear hI2
        go_wp2
        go_roundw
        case rel => exact ⟨i, (i + j) / 2, f, by omega, by omega, by omega, rfl, by go_num, by rw [← HG.out]; exact Hgo.out, HI2.out⟩
        case measure => simp [intOf]; omega
    · have hE : searchGo p f i j = i := searchGo_end hlt
      have HE : Hid ((i : Int) = (searchL p n : Int)) := by unfold Hid; rw [← Hgo.out, hE]
      clear hE
      go_wp2
      go_ret
      exact ⟨ret_int HE.out, HI.out⟩
set_option maxRecDepth 100000 in
theorem SearchS_any (p : Nat → Bool) (n : Nat) (I : World → Prop) (q0 q1 : Value) (w : World) (hn : n ≤ 2000) (h0 : I w)
    (hf : ∀ (h : Nat) W, h < n → I W → Calls Try.prog 81 #[.int .i64 h, q0, q1] W fun e W' => e = .returned (.bool (p h)) ∧ I W') :
    Calls Try.prog 80 #[.int .i64 n, .func (.func 81) #[] #[q0, q1]] w fun e w' => e = .returned (.int .i64 (searchL p n)) ∧ I w' := by
  have Hf := Lib.hid hf
  have H0 := Lib.hid h0
  have HL : Hid (searchGo p n 0 n = searchL p n) := rfl
  clear hf h0
  go_enter Try.func80, Try.ntmps80
  go_wp2
  go_loopw [5, 6] (fun u v wr => ∃ i j f : Nat, i ≤ j ∧ j ≤ n ∧ j ≤ i + f ∧ u = .int .i64 i ∧ v = .int .i64 j ∧ searchGo p f i j = searchL p n ∧ I wr) (fun u v _ => (intOf v - intOf u).toNat)
  case atStart => exact ⟨0, n, n, by omega, by omega, by omega, rfl, rfl, HL.out, H0.out⟩
  case round =>
    obtain ⟨i, j, f, hij, hjn, hjf, rfl, rfl, hgo, hI⟩ := hrel
    have Hgo := Lib.hid hgo
    have HI := Lib.hid hI
    clear hgo hI HL H0
    by_cases hlt : i < j
    · obtain ⟨f, rfl⟩ : ∃ f', f = f' + 1 := ⟨f - 1, by omega⟩
      have hh : (i + j) / 2 < n := by omega
      have hcast : (((i + j) / 2 : Nat) : Int) = ((i : Int) + (j : Int)) / 2 := by omega
      have HC := Hf.out ((i + j) / 2) wr hh HI.out
      rw [hcast] at HC
      replace HC := Lib.hid HC
      clear hcast
      have HY := Lib.hid (searchGo_yes (p := p) (f := f) hlt)
      have HN := Lib.hid (searchGo_no (p := p) (f := f) hlt)
      cases hp : p ((i + j) / 2)
      · rw [hp] at HC
        have HG := Lib.hid (HN.out hp)
        clear HY HN hp
        go_wp2_with fail
        refine HC.out.mono ?_
        rintro e w2 ⟨rfl, hI2⟩
        have HI2 := Lib.hid hI2
        clear hI2
        go_wp2
        go_roundw
        case rel => exact ⟨(i + j) / 2 + 1, j, f, by omega, hjn, by omega, by go_num, rfl, by rw [← HG.out]; exact Hgo.out, HI2.out⟩
        case measure => simp [intOf]; omega
      · rw [hp] at HC
        have HG := Lib.hid (HY.out hp)
        clear HY HN hp
        go_wp2_with fail
        refine HC.out.mono ?_
        rintro e w2 ⟨rfl, hI2⟩
        have HI2 := Lib.hid hI2
        clear hI2
        go_wp2
        go_roundw
        case rel => exact ⟨i, (i + j) / 2, f, by omega, by omega, by omega, rfl, by go_num, by rw [← HG.out]; exact Hgo.out, HI2.out⟩
        case measure => simp [intOf]; omega
    · have hE : searchGo p f i j = i := searchGo_end hlt
      have HE : Hid ((i : Int) = (searchL p n : Int)) := by unfold Hid; rw [← Hgo.out, hE]
      clear hE
      go_wp2
      go_ret
      exact ⟨ret_int HE.out, HI.out⟩

/-- A pleat of this arc opens so far. -/
def pleatP (f : Fan) (d : Int) (k : Nat) : Bool := decide (d ≤ degL false (f.pleat k))
def pleatL (f : Fan) (d : Int) : Nat := searchL (pleatP f d) 1001
def pleatR (f : Fan) (d : Int) : Int × Int :=
  if fanErr f = 0 then (if within 0 360 [d] = true then (if 1000 < pleatL f d then (0, 7) else ((pleatL f d : Int), 0)) else (0, 4)) else (0, fanErr f)
theorem pleat_B {f : Fan} (h : fanErr f = 0) {arc : Int} (h0 : 0 ≤ arc) (h1 : arc ≤ 1000) : FanB (f.pleat arc) := by
  obtain ⟨hf, hg, hl⟩ := fanB_of h
  refine ⟨hf.a1, hf.ab, hf.b5, hf.c1, hf.cd, hf.d5, by simpa [Fan.pleat] using hf.n, fun g hq => ?_⟩
  obtain ⟨y, hy, rfl⟩ := List.mem_map.1 hq
  have := hf.g y hy
  simp only [Gap.leaf]; omega
theorem fanD_get {w W : World} {fa fb fc fd sl d : Value} (h : Env2 w W 26 3 #[fa, fb, fc, fd, sl] #[d]) :
    W.cell? ⟨w.heap.size, 0, none⟩ = some fa ∧ W.cell? ⟨w.heap.size, 1, none⟩ = some fb ∧ W.cell? ⟨w.heap.size, 2, none⟩ = some fc ∧ W.cell? ⟨w.heap.size, 3, none⟩ = some fd ∧ W.cell? ⟨w.heap.size, 4, none⟩ = some sl ∧ W.cell? ⟨w.heap.size + 1, 0, none⟩ = some d := ⟨h.p.cell 0, h.p.cell 1, h.p.cell 2, h.p.cell 3, h.p.cell 4, h.q.cell 0⟩

set_option maxRecDepth 100000 in
set_option maxHeartbeats 1000000 in
theorem pleat1_any (f : Fan) (d : Int) (A : Option Addr) (n c : Nat) (w : World) (h : Gaps w A n f.gs) (hE : fanErr f = 0) (k : Nat) (W : World) (hk : k < 1001) (hW : Env2 w W 26 3 (fanA f A n c) #[.int .i64 d]) :
    Calls Try.prog 83 #[.int .i64 k, .pointer (some ⟨w.heap.size, 0, none⟩), .pointer (some ⟨w.heap.size + 1, 0, none⟩)] W fun e W' => e = .returned (.bool (pleatP f d k)) ∧ Env2 w W' 26 3 (fanA f A n c) #[.int .i64 d] := by
  have hl := h.len
  have hn : n ≤ 40 := by have := (fanB_of hE).2.2; omega
  have HP := Lib.hid (fun X (hb : Below w.heap.size w X) => pleated_any f A n c (k : Int) X (h.below hb) (by omega))
  have HS := Lib.hid (fun A c X (hG : Gaps X A n (f.pleat k).gs) => surely_any (f.pleat k) A n c X (pleat_B hE (by omega) (by omega)) hG)
  have HV : Hid (∀ A c, fanA (f.pleat k) A n c = fanA f A n c) := fun _ _ => rfl
  have HO : Hid (pleatP f d k = decide (d ≤ degL false (f.pleat k))) := rfl
  have E0 := Lib.hid hW
  have E0d := Lib.hid hW.drewd
  clear h hE hW hl hn
  unfold FanRes at HP
  generalize pleatP f d k = r at *
  generalize f.pleat k = f2 at *
  generalize degL false f2 = z at *
  obtain ⟨fa, fb, fc, fd, gs⟩ := f
  simp only [HV.out] at HP HS
  clear HV
  simp only [fanA] at *
  go_enter Try.func83, Try.ntmps83
  go_wp2_with fail
  go_region_held3 (fun W => W.cell? ⟨w.heap.size, 0, none⟩ = some (.int .i64 fa) ∧ W.cell? ⟨w.heap.size, 1, none⟩ = some (.int .i64 fb) ∧ W.cell? ⟨w.heap.size, 2, none⟩ = some (.int .i64 fc) ∧ W.cell? ⟨w.heap.size, 3, none⟩ = some (.int .i64 fd) ∧ W.cell? ⟨w.heap.size, 4, none⟩ = some (.slice A n c) ∧ W.cell? ⟨w.heap.size + 1, 0, none⟩ = some (.int .i64 d))
    (first | with_reducible exact fanD_get E0d.out | with_reducible exact fanD_get E0.out | with_reducible exact fanD_get E1.out | with_reducible exact fanD_get E2.out)
    (first | (go_at_call 84; refine (HP.out _ E0d.out.bel).mono ?_; rintro e W1 ⟨A1, c1, rfl, hG, hb1⟩; have G1 := Lib.hid hG; have E1 := Lib.hid (E0d.out.below hb1); clear hb1 hG) | (go_at_call 61; refine (HS.out _ _ _ G1.out).mono ?_; rintro e W2 ⟨rfl, hb2⟩; have E2 := Lib.hid (E1.out.below hb2); clear hb2))
  all_goals
    go_wp2
    go_ret
    exact ⟨ret_bool HO.out.symm, E2.out⟩

set_option maxRecDepth 100000 in
set_option maxHeartbeats 2000000 in
theorem Pleat_any (f : Fan) (d : Int) (A : Option Addr) (n c : Nat) (w : World) (h : Gaps w A n f.gs) (hn : n ≤ maxLen) :
    Calls Try.prog 37 #[.agg (fanA f A n c), .int .i64 d] w fun e w' => e = .returned (.tuple #[.int .i64 (pleatR f d).1, .int .i64 (pleatR f d).2]) ∧ Below w.heap.size w w' := by
  have HF := Lib.hid (fun W (hb : Below w.heap.size w W) => fanError_any f A n c W (h.below hb) hn)
  have E0 := Lib.hid (Env2.start w 26 3 (fanA f A n c) #[.int .i64 d])
  by_cases hE : fanErr f = 0
  · cases q1 : within 0 360 [d]
    · have HO : Hid (pleatR f d = (0, 4)) := by unfold Hid pleatR; rw [if_pos hE, q1]; rfl
      rw [hE] at HF
      clear h hn hE
      generalize pleatR f d = r at *
      obtain ⟨fa, fb, fc, fd, gs⟩ := f
      simp only [fanA] at *
      go_enter Try.func37, Try.ntmps37
      go_wp2_with fail
      refine (HF.out _ E0.out.bel).mono ?_
      rintro e W1 ⟨rfl, hb1⟩
      have E1 := Lib.hid (E0.out.below hb1)
      have p1 := fanD_get E1.out
      clear hb1
      go_wp2_with (go_at_call 73; refine (within1 _ _ _ _ _ _ (by simp)).mono ?_; rintro e w' ⟨rfl, rfl⟩)
      go_ret2
      exact ⟨by rw [HO.out]; rfl, E1.out.bel.alloc E1.out.bel.size _⟩
    · have HS := Lib.hid (fun W (hW : Env2 w W 26 3 (fanA f A n c) #[.int .i64 d]) => SearchP_any (pleatP f d) 1001 (fun W => Env2 w W 26 3 (fanA f A n c) #[.int .i64 d]) (.pointer (some ⟨w.heap.size, 0, none⟩)) (.pointer (some ⟨w.heap.size + 1, 0, none⟩)) W (by omega) hW (fun k X hk hX => pleat1_any f d A n c w h hE k X hk hX))
      have HO : Hid (pleatR f d = if 1000 < searchL (pleatP f d) 1001 then (0, 7) else ((searchL (pleatP f d) 1001 : Int), 0)) := by unfold Hid pleatR; rw [if_pos hE, q1]; rfl
      rw [hE] at HF
      clear h hn hE
      generalize pleatR f d = r at *
      generalize searchL (pleatP f d) 1001 = z at *
      obtain ⟨fa, fb, fc, fd, gs⟩ := f
      simp only [fanA] at *
      by_cases hz : 1000 < z
      · have HO2 : Hid (r = (0, 7)) := by unfold Hid; rw [HO.out, if_pos hz]
        go_enter Try.func37, Try.ntmps37
        go_wp2_with fail
        refine (HF.out _ E0.out.bel).mono ?_
        rintro e W1 ⟨rfl, hb1⟩
        have E1 := Lib.hid (E0.out.below hb1)
        have E2 := Lib.hid (E1.out.alloc (.cells #[.int .i64 d] 3))
        have p1 := fanD_get E1.out
        clear hb1
        go_wp2_with (first | (go_at_call 73; refine (within1 _ _ _ _ _ _ (by simp)).mono ?_; rintro e w' ⟨rfl, rfl⟩) | (go_at_call 80; refine (HS.out _ E2.out).mono ?_; rintro e W3 ⟨rfl, hE3⟩))
        have E3 := Lib.hid hE3
        clear hE3
        go_ret2
        exact ⟨by rw [HO2.out]; rfl, E3.out.bel⟩
      · have HO2 : Hid (r = ((z : Int), 0)) := by unfold Hid; rw [HO.out, if_neg hz]
        go_enter Try.func37, Try.ntmps37
        go_wp2_with fail
        refine (HF.out _ E0.out.bel).mono ?_
        rintro e W1 ⟨rfl, hb1⟩
        have E1 := Lib.hid (E0.out.below hb1)
        have E2 := Lib.hid (E1.out.alloc (.cells #[.int .i64 d] 3))
        have p1 := fanD_get E1.out
        clear hb1
        go_wp2_with (first | (go_at_call 73; refine (within1 _ _ _ _ _ _ (by simp)).mono ?_; rintro e w' ⟨rfl, rfl⟩) | (go_at_call 80; refine (HS.out _ E2.out).mono ?_; rintro e W3 ⟨rfl, hE3⟩))
        have E3 := Lib.hid hE3
        clear hE3
        go_ret2
        exact ⟨by rw [HO2.out]; rfl, E3.out.bel⟩
  · have HO : Hid (pleatR f d = (0, fanErr f)) := if_neg hE
    clear h hn
    generalize pleatR f d = r at *
    generalize fanErr f = e0 at *
    unfold fanA at *
    go_enter Try.func37, Try.ntmps37
    go_wp2_with fail
    refine (HF.out _ E0.out.bel).mono ?_
    rintro e W1 ⟨rfl, hb1⟩
    have E1 := Lib.hid (E0.out.below hb1)
    have he1 : decide (e0 = 0) = false := by simpa using hE
    clear hb1
    go_wp2
    go_ret2
    exact ⟨by rw [HO.out]; rfl, E1.out.bel⟩
end Go.Proofs.Ytdekickmplkdiaa
