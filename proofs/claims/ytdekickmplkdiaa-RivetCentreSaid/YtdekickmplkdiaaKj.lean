/- Merged: Uc, Uf, Ug. -/
import Derived.Test.YtdekickmplkdiaaUb
import Derived.Test.YtdekickmplkdiaaKe
import Derived.Test.YtdekickmplkdiaaKb

/- Walks: the reference's Equal, Sums; the law's own. -/
namespace Go.Proofs.Ytdekickmplkdiaa
open Go.RowKit

set_option maxRecDepth 100000 in
set_option maxHeartbeats 4000000 in
theorem RefEqual_any (l : List Stk) (A A' : Option Addr) (n c c' : Nat) (w : World) (h : Stks w A n l) (h' : Stks w A' n l) (hn : n ≤ maxLen) :
    Calls Try.prog 43 #[.slice A n c, .slice A' n c'] w fun e w' => e = .returned (.bool true) ∧ Below w.heap.size w w' := by
  have HG := Lib.hid h
  have HG' := Lib.hid h'
  unfold maxLen at hn
  clear h h'
  have hq5 : ((n : Int) != (n : Int)) = false := by simp
  go_enter Try.func43, Try.ntmps43
  go_wp2_with fail
  clear hq5
  go_loopw [5] (fun i wr => ∃ k : Nat, k ≤ n ∧ i = .int .i64 k ∧ Below w.heap.size w wr) (fun i _ => n - (intOf i).toNat)
  case atStart => exact ⟨0, Nat.zero_le _, rfl, Below.refl _ _⟩
  case round =>
    obtain ⟨k, hk, rfl, hE⟩ := hrel
    have E1 := Lib.hid hE
    have G1 := HG.out.below hE
    have G2 := HG'.out.below hE
    clear hE
    by_cases hlt : k < n
    · obtain ⟨b, off, hA, hb, q0, q1, q2, q3, q4⟩ := G1.at_ hlt
      obtain ⟨b', off', hA', hb', p0, p1, p2, p3, p4⟩ := G2.at_ hlt
      subst hA hA'
      clear G1 G2
      generalize l.getD k Stk.zero = x at *
      obtain ⟨x0, x1, x2, x3, x4⟩ := x
      simp only at *
      go_wp2_with fail
      go_quiet (fail)
      all_goals
        go_wp2
        go_roundw
        case rel => exact ⟨k + 1, by omega, by go_num, below_drewN E1.out _⟩
        case measure => simp [intOf]; omega
    · obtain rfl : k = n := by omega
      clear G1 G2
      go_wp2
      go_ret
      exact ⟨rfl, E1.out⟩

/-- What Sums' own boxes hold. -/
structure Env4 (w W : World) (c1 c2 c3 c4 : Array Value) : Prop where
  e : Env2 w W 23 23 c1 c2
  r : Blk W (w.heap.size + 2) 23 c3
  s : Blk W (w.heap.size + 3) 23 c4
theorem Env4.below {w W W' : World} {c1 c2 c3 c4 : Array Value} (h : Env4 w W c1 c2 c3 c4) (hb : Below W.heap.size W W') : Env4 w W' c1 c2 c3 c4 := ⟨h.e.below hb, blk_keep hb h.r, blk_keep hb h.s⟩
theorem Env4.drewd {w W : World} {c1 c2 c3 c4 : Array Value} (h : Env4 w W c1 c2 c3 c4) : Env4 w W.drew c1 c2 c3 c4 := ⟨h.e.drewd, h.r, h.s⟩
theorem Env4.putR {w W : World} {c1 c2 c4 : Array Value} {a b : Value} (h : Env4 w W c1 c2 #[a, b] c4) (a' b' : Value) : Env4 w ((W.setCell ⟨w.heap.size + 2, 0, none⟩ a').setCell ⟨w.heap.size + 2, 1, none⟩ b') c1 c2 #[a', b'] c4 :=
  ⟨(h.e.set (by omega) 0 a').set (by omega) 1 b', (h.r.set_ 0 a').set_ 1 b', (h.s.far (p := ⟨w.heap.size + 2, 0, none⟩) (by simp) a').far (p := ⟨w.heap.size + 2, 1, none⟩) (by simp) b'⟩
theorem Env4.putS {w W : World} {c1 c2 c3 : Array Value} {a b : Value} (h : Env4 w W c1 c2 c3 #[a, b]) (a' b' : Value) : Env4 w ((W.setCell ⟨w.heap.size + 3, 0, none⟩ a').setCell ⟨w.heap.size + 3, 1, none⟩ b') c1 c2 c3 #[a', b'] :=
  ⟨(h.e.set (by omega) 0 a').set (by omega) 1 b', (h.r.far (p := ⟨w.heap.size + 3, 0, none⟩) (by simp) a').far (p := ⟨w.heap.size + 3, 1, none⟩) (by simp) b', (h.s.set_ 0 a').set_ 1 b'⟩
theorem Env4.start (w : World) : Env4 w ((((w.alloc (.cells #[.int .i64 0, .int .i64 0] 23)).alloc (.cells #[.int .i64 0, .int .i64 0] 23)).alloc (.cells #[.int .i64 0, .int .i64 0] 23)).alloc (.cells #[.int .i64 0, .int .i64 0] 23)) #[.int .i64 0, .int .i64 0] #[.int .i64 0, .int .i64 0] #[.int .i64 0, .int .i64 0] #[.int .i64 0, .int .i64 0] :=
  ⟨((Env2.start w _ _ _ _).alloc _).alloc _, (Blk.new _ _ _ (by simp)).alloc _, Blk.new _ _ _ (by simp)⟩
def sums2 (l : List Stk) : (Int × Int) × (Int × Int) := ((sumLo false l, sumHi false l), (sumLo true l, sumHi true l))
theorem results_cc {fn : Func} {p q : Tmp} {ty ty' : TypeId} (h : fn.results = #[.cell p ty, .cell q ty']) (tmps : Array Value) (P : Program) (w : World) (g g' : Nat) (t t' : TypeId) (cs cs' : Array Value) (fs fs' : Array Field)
    (hp : tmps.getD p undef = .pointer (some ⟨g, 0, none⟩)) (hg : Blk w g t cs) (hu : P.underlying ty = some (.struct fs)) (hi : (P.info? ty).map (·.size) = some cs.size)
    (hq : tmps.getD q undef = .pointer (some ⟨g', 0, none⟩)) (hg' : Blk w g' t' cs') (hu' : P.underlying ty' = some (.struct fs')) (hi' : (P.info? ty').map (·.size) = some cs'.size) :
    (results fn tmps).run P w = .ok (.tuple #[.agg cs, .agg cs']) w := by
  have e1 := run_loadVar_row (P := P) w g t ty cs (0, 0) _ hg hu rfl hi
  have e2 := run_loadVar_row (P := P) w g' t' ty' cs' (0, 0) _ hg' hu' rfl hi'
  simp only [results, h]
  simp at hp hq
  simp [Sem.run_bind, Result.andThen, hp, hq, asAddr, e1, e2]

theorem Stks.held {w : World} {A : Option Addr} {n k : Nat} {xs : List Stk} (h : Stks w A n xs) (hk : k < n) : ∃ b off, A = some ⟨b, off, none⟩ ∧ ∀ W, Below w.heap.size w W → (W.cell? ⟨b, off + k * 5, none⟩ = some (.int .i64 (xs.getD k Stk.zero).wl) ∧ W.cell? ⟨b, off + k * 5 + 1, none⟩ = some (.int .i64 (xs.getD k Stk.zero).wh) ∧
    W.cell? ⟨b, off + k * 5 + 2, none⟩ = some (.int .i64 (xs.getD k Stk.zero).tl) ∧ W.cell? ⟨b, off + k * 5 + 3, none⟩ = some (.int .i64 (xs.getD k Stk.zero).th) ∧ W.cell? ⟨b, off + k * 5 + 4, none⟩ = some (.int .i64 (xs.getD k Stk.zero).pl)) := by
  obtain ⟨b, off, e, hb, h0, h1, h2, h3, h4⟩ := h.at_ hk
  have g : ∀ (W : World) (o : Nat) (u : Value), Below w.heap.size w W → w.cell? ⟨b, o, none⟩ = some u → W.cell? ⟨b, o, none⟩ = some u := fun W o u hB hu => (hB.cell (p := ⟨b, o, none⟩) hb).trans hu
  exact ⟨b, off, e, fun W hB => ⟨g W _ _ hB h0, g W _ _ hB h1, g W _ _ hB h2, g W _ _ hB h3, g W _ _ hB h4⟩⟩

set_option maxRecDepth 100000 in
set_option maxHeartbeats 4000000 in
theorem RefSums_any (l : List Stk) (A : Option Addr) (n c : Nat) (w : World) (hs : StkB l) (h : Stks w A n l) :
    Calls Try.prog 44 #[.slice A n c] w fun e w' => e = .returned (.tuple #[.agg #[.int .i64 (sumLo false l), .int .i64 (sumHi false l)], .agg #[.int .i64 (sumLo true l), .int .i64 (sumHi true l)]]) ∧ Below w.heap.size w w' := by
  have hl := h.len
  have hn := hs.n
  rw [hl] at hn
  have HG := Lib.hid h
  have Hl := Lib.hid hl
  have E0 := Lib.hid (Env4.start w)
  have HN1 := Lib.hid (fun u k (hk : k < l.length) => map_sum_take (tlo u) l Stk.zero k hk)
  have HD1 := Lib.hid (fun u k (hk : k < l.length) => map_sum_take (thi u) l Stk.zero k hk)
  have HB1 := Lib.hid (fun u k => sumLo_bd (hs.take k) u)
  have HB2 := Lib.hid (fun u k => sumHi_bd (hs.take k) u)
  have HE : Hid (∀ u, ((l.take n).map (tlo u)).sum = sumLo u l ∧ ((l.take n).map (thi u)).sum = sumHi u l) := by unfold Hid sumLo sumHi; rw [List.take_of_length_le (by omega)]; exact fun _ => ⟨rfl, rfl⟩
  have HY := Lib.hid (fun u k (hk : k < n) => show 1 ≤ tlo u (l.getD k Stk.zero) ∧ tlo u (l.getD k Stk.zero) ≤ 10000 ∧ 1 ≤ thi u (l.getD k Stk.zero) ∧ thi u (l.getD k Stk.zero) ≤ 10000 from by
    have e : l.getD k Stk.zero = l[k]'(by omega) := by simp [List.getD, show k < l.length from by omega]
    rw [e]; exact ⟨(tlo_bd hs u _ (List.getElem_mem _)).1, (tlo_bd hs u _ (List.getElem_mem _)).2, thi_bd hs u _ (List.getElem_mem _)⟩)
  have HM0 : Hid (∀ s : Stk, tlo false s = s.wl) := fun _ => rfl
  have HW0 : Hid (∀ s : Stk, thi false s = s.wh) := fun _ => rfl
  have HM1 : Hid (∀ s : Stk, tlo true s = s.tl) := fun _ => rfl
  have HW1 : Hid (∀ s : Stk, thi true s = s.th) := fun _ => rfl
  have HZ : Hid (∀ u, ((l.take 0).map (tlo u)).sum = 0 ∧ ((l.take 0).map (thi u)).sum = 0) := fun _ => ⟨rfl, rfl⟩
  unfold sumLo at HB1
  unfold sumHi at HB2
  clear hl h hs
  generalize sumLo = rn at *
  generalize sumHi = rd at *
  generalize tlo = m at *
  generalize thi = v at *
  generalize hnum : (fun u k => ((l.take k).map (m u)).sum) = num at *
  generalize hden : (fun u k => ((l.take k).map (v u)).sum) = den at *
  have en : ∀ u k, ((l.take k).map (m u)).sum = num u k := fun u k => by rw [← hnum]
  have ed : ∀ u k, ((l.take k).map (v u)).sum = den u k := fun u k => by rw [← hden]
  simp only [en, ed] at HN1 HD1 HB1 HB2 HE HZ
  clear en ed hnum hden
  go_enter Try.func44, Try.ntmps44
  go_wp2
  go_loopw [6] (fun i wr => ∃ k : Nat, k ≤ n ∧ i = .int .i64 k ∧ Env4 w wr #[.int .i64 0, .int .i64 0] #[.int .i64 0, .int .i64 0] #[.int .i64 (num false k), .int .i64 (den false k)] #[.int .i64 (num true k), .int .i64 (den true k)]) (fun i _ => n - (intOf i).toNat)
  case atStart => exact ⟨0, Nat.zero_le _, rfl, by rw [(HZ.out false).1, (HZ.out false).2, (HZ.out true).1, (HZ.out true).2]; exact E0.out⟩
  case round =>
    obtain ⟨k, hk, rfl, hE⟩ := hrel
    have E1 := Lib.hid hE
    clear hE
    by_cases hlt : k < n
    · obtain ⟨b, off, rfl, hcells⟩ := HG.out.held hlt
      have HCl := Lib.hid hcells
      clear hcells
      have hn0 := Lib.hid (HN1.out false k (by rw [Hl.out]; exact hlt))
      have hd0 := Lib.hid (HD1.out false k (by rw [Hl.out]; exact hlt))
      have hn1 := Lib.hid (HN1.out true k (by rw [Hl.out]; exact hlt))
      have hd1 := Lib.hid (HD1.out true k (by rw [Hl.out]; exact hlt))
      have hy0 := HY.out false k hlt
      have hy1 := HY.out true k hlt
      have hb1 := HB1.out false k
      have hb2 := HB2.out false k
      have hb3 := HB1.out true k
      have hb4 := HB2.out true k
      rw [HM0.out, HW0.out] at hy0
      rw [HM1.out, HW1.out] at hy1
      rw [HM0.out] at hn0
      rw [HW0.out] at hd0
      rw [HM1.out] at hn1
      rw [HW1.out] at hd1
      generalize l.getD k Stk.zero = y at *
      obtain ⟨yl, yh, zl, zh, pl⟩ := y
      simp only at HCl hy0 hy1 hn0 hd0 hn1 hd1
      have j1 : IntKind.i64.wrap (num false k + yl) = num false k + yl := IntWalk.i64_in _ (by omega)
      have j2 : IntKind.i64.wrap (den false k + yh) = den false k + yh := IntWalk.i64_in _ (by omega)
      have j3 : IntKind.i64.wrap (num true k + zl) = num true k + zl := IntWalk.i64_in _ (by omega)
      have j4 : IntKind.i64.wrap (den true k + zh) = den true k + zh := IntWalk.i64_in _ (by omega)
      have E2 := Lib.hid (E1.out.drewd.putR (.int .i64 (num false k + yl)) (.int .i64 (den false k + yh)))
      have E3 := Lib.hid (E2.out.drewd.putS (.int .i64 (num true k + zl)) (.int .i64 (den true k + zh)))
      have r1 := pair_get E1.out.drewd.r
      have c1 := HCl.out _ E1.out.e.bel
      go_wp2_with fail
      go_still_tail 19, (by kernel_rfl)
      change wpList _ _ _ _ _ wr.drew
      generalize wr.drew = w2 at *
      clear c1
      go_wp2_with fail
      generalize (w2.setCell ⟨w.heap.size + 2, 0, none⟩ (.int .i64 (num false k + yl))).setCell ⟨w.heap.size + 2, 1, none⟩ (.int .i64 (den false k + yh)) = w3 at *
      have r2 := pair_get E2.out.drewd.s
      have c2 := HCl.out _ E2.out.e.bel
      clear r1
      go_still_tail 19, (by kernel_rfl)
      change wpList _ _ _ _ _ w3.drew
      generalize w3.drew = w4 at *
      clear c2
      go_wp2_with fail
      go_roundw
      case rel => exact ⟨k + 1, by omega, by go_num, by rw [hn0.out, hd0.out, hn1.out, hd1.out]; exact E3.out⟩
      case measure => simp [intOf]; omega
    · obtain rfl : k = n := by omega
      have E2 := Lib.hid E1.out.drewd
      have r1 := pair_get E1.out.r
      have r2 := pair_get E1.out.s
      have r3 := pair_get E1.out.e.p
      have r4 := pair_get E1.out.e.q
      go_wp2_with fail
      go_region
      all_goals go_wp2
      exact bodyPost_ret (results_cc rfl _ _ _ w.heap.size (w.heap.size + 1) _ _ _ _ _ _ rfl ((((E2.out.e.p.set_ 0 _).set_ 1 _).far (p := ⟨w.heap.size + 1, 0, none⟩) (by simp) _).far (p := ⟨w.heap.size + 1, 1, none⟩) (by simp) _) Try.underlying23 (by kernel_rfl) rfl ((((E2.out.e.q.far (p := ⟨w.heap.size, 0, none⟩) (by simp) _).far (p := ⟨w.heap.size, 1, none⟩) (by simp) _).set_ 0 _).set_ 1 _) Try.underlying23 (by kernel_rfl)) rfl
        ⟨by rw [(HE.out false).1, (HE.out false).2, (HE.out true).1, (HE.out true).2]; rfl, (((E2.out.e.bel.setCell (p := ⟨w.heap.size, 0, none⟩) (Nat.le_refl _) _).setCell (p := ⟨w.heap.size, 1, none⟩) (Nat.le_refl _) _).setCell (p := ⟨w.heap.size + 1, 0, none⟩) (by simp) _).setCell (p := ⟨w.heap.size + 1, 1, none⟩) (by simp) _⟩
end Go.Proofs.Ytdekickmplkdiaa

/- Where sticks balance: the candidates' outermost ratio is that of all sets. -/
namespace Go.Proofs.Ytdekickmplkdiaa

theorem cross_le {a b c d e f : Int} (hb : 0 < b) (hd : 0 < d) (hf : 0 < f) (h1 : a * d ≤ c * b) (h2 : c * f ≤ e * d) : a * f ≤ e * b := by
  have x1 : a * d * f ≤ c * b * f := Int.mul_le_mul_of_nonneg_right h1 (by omega)
  have x2 : c * f * b ≤ e * d * b := Int.mul_le_mul_of_nonneg_right h2 (by omega)
  have e1 : a * d * f = a * f * d := by rw [Int.mul_assoc, Int.mul_assoc, Int.mul_comm d f]
  have e2 : c * b * f = c * f * b := by rw [Int.mul_assoc, Int.mul_assoc, Int.mul_comm b f]
  have e3 : e * d * b = e * b * d := by rw [Int.mul_assoc, Int.mul_assoc, Int.mul_comm d b]
  exact Int.le_of_mul_le_mul_right (a := d) (by omega) hd
/-- One ratio is not beyond another one, at an end. -/
def before (u : Bool) (r s : Int × Int) : Prop := bif u then s.1 * r.2 ≤ r.1 * s.2 else r.1 * s.2 ≤ s.1 * r.2
theorem before_trans {u : Bool} {r s t : Int × Int} (hr : 0 < r.2) (hs : 0 < s.2) (ht : 0 < t.2) (h1 : before u r s) (h2 : before u s t) : before u r t := by
  cases u
  · exact cross_le hr hs ht h1 h2
  · exact cross_le ht hs hr h2 h1
theorem before_refl (u : Bool) (r : Int × Int) : before u r r := by cases u <;> exact Int.le_refl _
theorem pick_step (u : Bool) (x y : Int × Int) : (if (bif u then decide (0 < ratL x.1 x.2 y.1 y.2) else decide (ratL x.1 x.2 y.1 y.2 < 0)) = true then before u x y else before u y x) := by
  obtain ⟨a, b⟩ := x
  obtain ⟨c, d⟩ := y
  cases u <;> rcases Int.lt_trichotomy (a * d) (c * b) with h | h | h <;> simp [ratL, cmpL, before] <;> (try simp [h]) <;> (try rw [if_neg (by omega)]) <;> (try simp) <;> (try rw [if_pos (by omega)]) <;> (try simp) <;> omega
theorem pick_ext (u : Bool) {rs : List (Int × Int)} (hp : ∀ r ∈ rs, 0 < r.2) (k : Nat) (hk : k < rs.length) : ∀ j ≤ k, before u (pickGo u rs k) (rs.getD j (0, 0)) := by
  have hg : ∀ i, i < rs.length → 0 < (rs.getD i (0, 0)).2 := fun i hi => by
    have e : rs.getD i (0, 0) = rs[i] := by simp [List.getD, hi]
    rw [e]; exact hp _ (List.getElem_mem hi)
  induction k with
  | zero => intro j hj; obtain rfl : j = 0 := by omega
            exact before_refl _ _
  | succ k ih =>
    intro j hj
    have ih := ih (by omega)
    have hs := pick_step u (rs.getD (k + 1) (0, 0)) (pickGo u rs k)
    have hq := hp _ (pick_mem (u := u) (rs := rs) k (by omega))
    rw [pickGo]
    split
    · rename_i hc
      rw [if_pos hc] at hs
      rcases Nat.lt_or_ge j (k + 1) with hlt | hge
      · exact before_trans (hg _ hk) hq (hg _ (by omega)) hs (ih j (by omega))
      · obtain rfl : j = k + 1 := by omega
        exact before_refl _ _
    · rename_i hc
      rw [if_neg hc] at hs
      rcases Nat.lt_or_ge j (k + 1) with hlt | hge
      · exact ih j (by omega)
      · obtain rfl : j = k + 1 := by omega
        exact hs

/-- Sums with a weight for each stick. -/
def numC (c : Nat → Int) (l : List Stk) : Nat → Int
  | 0 => 0
  | k + 1 => numC c l k + c k * (l.getD k Stk.zero).pl
def denC (c : Nat → Int) : Nat → Int
  | 0 => 0
  | k + 1 => denC c k + c k
def linC (c f : Nat → Int) : Nat → Int
  | 0 => 0
  | k + 1 => linC c f k + c k * f k
theorem lin_eq (c : Nat → Int) (l : List Stk) (N D : Int) (k : Nat) : linC c (fun i => (l.getD i Stk.zero).pl * D - N) k = numC c l k * D - N * denC c k := by
  induction k with
  | zero => simp [linC, numC, denC]
  | succ k ih =>
    simp only [linC, numC, denC, ih]
    rw [Int.mul_sub, Int.add_mul, Int.mul_add, Int.mul_assoc, Int.mul_comm (c k) N]
    omega
theorem lin_le (c d f : Nat → Int) (k : Nat) (h : ∀ i < k, c i * f i ≤ d i * f i) : linC c f k ≤ linC d f k := by
  induction k with
  | zero => simp [linC]
  | succ k ih =>
    have h1 := ih (fun i hi => h i (by omega))
    have h2 := h k (by omega)
    simp only [linC]; omega
theorem lin_pos (c f : Nat → Int) (k : Nat) (h : ∀ i < k, 1 ≤ c i ∧ 1 ≤ f i) : k ≤ linC c f k := by
  induction k with
  | zero => simp [linC]
  | succ k ih =>
    have h1 := ih (fun i hi => h i (by omega))
    have h2 := h k (by omega)
    have h3 : 1 * 1 ≤ c k * f k := Int.mul_le_mul h2.1 h2.2 (by omega) (by omega)
    simp only [linC]; omega
theorem numC_congr (c d : Nat → Int) (l : List Stk) (k : Nat) (h : ∀ i < k, c i = d i) : numC c l k = numC d l k ∧ denC c k = denC d k := by
  induction k with
  | zero => exact ⟨rfl, rfl⟩
  | succ k ih =>
    have h1 := ih (fun i hi => h i (by omega))
    simp only [numC, denC, h1.1, h1.2, h k (by omega), and_self]
theorem denC_pos (c : Nat → Int) (k : Nat) (h : ∀ i < k, 1 ≤ c i) : k ≤ denC c k := by
  induction k with
  | zero => simp [denC]
  | succ k ih =>
    have h1 := ih (fun i hi => h i (by omega))
    have h2 := h k (by omega)
    simp only [denC]; omega
/-- The weights of a set: those in it are heavy. -/
def wT (T : Nat) (l : List Stk) (k : Nat) : Int := if T.testBit k then (l.getD k Stk.zero).wh else (l.getD k Stk.zero).wl
def ratT (l : List Stk) (T : Nat) : Int × Int := (numC (wT T l) l l.length, denC (wT T l) l.length)
theorem bits_of (P : Nat → Bool) (n : Nat) : ∃ T < 2 ^ n, ∀ i < n, T.testBit i = P i := by
  induction n with
  | zero => exact ⟨0, by omega, fun i hi => absurd hi (by omega)⟩
  | succ n ih =>
    obtain ⟨T, hT, hb⟩ := ih
    cases q : P n
    · refine ⟨T, by rw [Nat.pow_succ]; omega, fun i hi => ?_⟩
      rcases Nat.lt_or_ge i n with h | h
      · exact hb i h
      · obtain rfl : i = n := by omega
        rw [q]; exact Nat.testBit_lt_two_pow hT
    · refine ⟨2 ^ n + T, by rw [Nat.pow_succ]; omega, fun i hi => ?_⟩
      rcases Nat.lt_or_ge i n with h | h
      · rw [Nat.testBit_two_pow_add_gt h]; exact hb i h
      · obtain rfl : i = n := by omega
        rw [q, Nat.testBit_two_pow_add_eq, Nat.testBit_lt_two_pow hT]; rfl
theorem getD_B' {l : List Stk} (h : StkB l) {k : Nat} (hk : k < l.length) : 1 ≤ (l.getD k Stk.zero).wl ∧ (l.getD k Stk.zero).wl ≤ (l.getD k Stk.zero).wh ∧ 0 ≤ (l.getD k Stk.zero).pl := by
  have e : l.getD k Stk.zero = l[k] := by simp [List.getD, hk]
  have := h.s _ (List.getElem_mem hk)
  rw [e]; omega
theorem wT_bd {l : List Stk} (h : StkB l) (T k : Nat) (hk : k < l.length) : (l.getD k Stk.zero).wl ≤ wT T l k ∧ wT T l k ≤ (l.getD k Stk.zero).wh ∧ 1 ≤ wT T l k := by
  have := getD_B' h hk
  unfold wT; split <;> omega
/-- The weights of a candidate are those of a set. -/
theorem cand_set (u : Bool) (p : Int) (l : List Stk) : ∃ T < 2 ^ l.length, ∀ i < l.length, wT T l i = wAt u p (l.getD i Stk.zero) := by
  obtain ⟨T, hT, hb⟩ := bits_of (fun i => if p < (l.getD i Stk.zero).pl then u else !u) l.length
  refine ⟨T, hT, fun i hi => ?_⟩
  unfold wT wAt ris fal
  rw [hb i hi]
  generalize l.getD i Stk.zero = s
  cases u <;> by_cases hp : p < s.pl <;> simp only [hp, if_true, if_false, Bool.not_false, Bool.not_true, cond_true, cond_false, Bool.false_eq_true]
theorem numB_C (u : Bool) (p : Int) (l : List Stk) : numB u p l = numC (fun i => wAt u p (l.getD i Stk.zero)) l l.length ∧ denB u p l = denC (fun i => wAt u p (l.getD i Stk.zero)) l.length := by
  have key : ∀ k ≤ l.length, ((l.take k).map (mAt u p)).sum = numC (fun i => wAt u p (l.getD i Stk.zero)) l k ∧ ((l.take k).map (wAt u p)).sum = denC (fun i => wAt u p (l.getD i Stk.zero)) k := by
    intro k
    induction k with
    | zero => intro _; exact ⟨rfl, rfl⟩
    | succ k ih =>
      intro hk
      have ih := ih (by omega)
      rw [map_sum_take _ _ Stk.zero k (by omega), map_sum_take _ _ Stk.zero k (by omega), ih.1, ih.2]
      exact ⟨rfl, rfl⟩
  have := key l.length (Nat.le_refl _)
  rw [List.take_length] at this
  exact this
theorem cand_rat (u : Bool) (p : Int) (l : List Stk) : ∃ T < 2 ^ l.length, ratT l T = (numB u p l, denB u p l) := by
  obtain ⟨T, hT, hw⟩ := cand_set u p l
  refine ⟨T, hT, ?_⟩
  have h1 := numC_congr _ _ l l.length hw
  have h2 := numB_C u p l
  unfold ratT
  rw [h2.1, h2.2, h1.1, h1.2]
/-- The outermost ratio of all sets below m. -/
structure Ext (u : Bool) (l : List Stk) (m : Nat) (r : Int × Int) : Prop where
  is : ∃ T < m, r = ratT l T
  all : ∀ T < m, before u r (ratT l T)
theorem exists_max {l : List Stk} {D N : Int} (h : ∃ i < l.length, (l.getD i Stk.zero).pl * D ≤ N) : ∃ i < l.length, (l.getD i Stk.zero).pl * D ≤ N ∧ ∀ j < l.length, (l.getD j Stk.zero).pl * D ≤ N → (l.getD j Stk.zero).pl ≤ (l.getD i Stk.zero).pl := by
  have key : ∀ k ≤ l.length, (∃ i < k, (l.getD i Stk.zero).pl * D ≤ N) → ∃ i < k, (l.getD i Stk.zero).pl * D ≤ N ∧ ∀ j < k, (l.getD j Stk.zero).pl * D ≤ N → (l.getD j Stk.zero).pl ≤ (l.getD i Stk.zero).pl := by
    intro k
    induction k with
    | zero => rintro _ ⟨i, hi, _⟩; omega
    | succ k ih =>
      rintro hk ⟨i, hi, hp⟩
      by_cases hex : ∃ i < k, (l.getD i Stk.zero).pl * D ≤ N
      · obtain ⟨m, hm, hmp, hmx⟩ := ih (by omega) hex
        by_cases hk2 : (l.getD k Stk.zero).pl * D ≤ N ∧ (l.getD m Stk.zero).pl < (l.getD k Stk.zero).pl
        · refine ⟨k, by omega, hk2.1, fun j hj hjp => ?_⟩
          rcases Nat.lt_or_ge j k with h1 | h1
          · have := hmx j h1 hjp; omega
          · obtain rfl : j = k := by omega
            omega
        · refine ⟨m, by omega, hmp, fun j hj hjp => ?_⟩
          rcases Nat.lt_or_ge j k with h1 | h1
          · exact hmx j h1 hjp
          · obtain rfl : j = k := by omega
            rcases Int.lt_or_le (l.getD m Stk.zero).pl (l.getD j Stk.zero).pl with h2 | h2
            · exact absurd ⟨hjp, h2⟩ hk2
            · exact h2
      · have hik : i = k := by
          rcases Nat.lt_or_ge i k with h1 | h1
          · exact absurd ⟨i, h1, hp⟩ hex
          · omega
        subst hik
        refine ⟨i, by omega, hp, fun j hj hjp => ?_⟩
        rcases Nat.lt_or_ge j i with h1 | h1
        · exact absurd ⟨j, h1, hjp⟩ hex
        · obtain rfl : j = i := by omega
          exact Int.le_refl _
  exact key _ (Nat.le_refl _) h
theorem ratT_pos {l : List Stk} (h : StkB l) (h0 : 0 < l.length) (T : Nat) : 0 < (ratT l T).2 := by
  have := denC_pos (wT T l) l.length (fun i hi => (wT_bd h T i hi).2.2)
  show 0 < denC (wT T l) l.length
  omega
theorem ext_bal {u : Bool} {l : List Stk} (h : StkB l) (h0 : 0 < l.length) {r : Int × Int} (hr : Ext u l (2 ^ l.length) r) : r.1 * (balL u l).2 = (balL u l).1 * r.2 ∧ 0 < r.2 ∧ 0 < (balL u l).2 := by
  obtain ⟨S, hS, hrS⟩ := hr.is
  have hD : 0 < r.2 := by rw [hrS]; exact ratT_pos h h0 S
  have hz : linC (wT S l) (fun i => (l.getD i Stk.zero).pl * r.2 - r.1) l.length = 0 := by
    rw [lin_eq]
    have e1 : numC (wT S l) l l.length = r.1 := by rw [hrS]; rfl
    have e2 : denC (wT S l) l.length = r.2 := by rw [hrS]; rfl
    rw [e1, e2]; omega
  have hex : ∃ i < l.length, (l.getD i Stk.zero).pl * r.2 ≤ r.1 := by
    refine Classical.byContradiction fun hno => ?_
    have := lin_pos (wT S l) (fun i => (l.getD i Stk.zero).pl * r.2 - r.1) l.length (fun i hi => ⟨(wT_bd h S i hi).2.2, by
      have : ¬ (l.getD i Stk.zero).pl * r.2 ≤ r.1 := fun hx => hno ⟨i, hi, hx⟩
      show 1 ≤ (l.getD i Stk.zero).pl * r.2 - r.1
      omega⟩)
    omega
  obtain ⟨i, hi, hip, hmx⟩ := exists_max hex
  obtain ⟨p, hpe⟩ : ∃ p, p = (l.getD i Stk.zero).pl := ⟨_, rfl⟩
  have hc := numB_C u p l
  have hterm : ∀ j < l.length, (p < (l.getD j Stk.zero).pl → 0 ≤ (l.getD j Stk.zero).pl * r.2 - r.1) ∧ (¬ p < (l.getD j Stk.zero).pl → (l.getD j Stk.zero).pl * r.2 - r.1 ≤ 0) := by
    intro j hj
    refine ⟨fun hp => ?_, fun hp => ?_⟩
    · rcases Int.lt_or_le r.1 ((l.getD j Stk.zero).pl * r.2) with h1 | h1
      · omega
      · have := hmx j hj h1; omega
    · have : (l.getD j Stk.zero).pl * r.2 ≤ p * r.2 := Int.mul_le_mul_of_nonneg_right (by omega) (by omega)
      rw [← hpe] at hip
      omega
  have hcand : before u (numB u p l, denB u p l) r := by
    have hl := lin_eq (fun j => wAt u p (l.getD j Stk.zero)) l r.1 r.2 l.length
    rw [← hc.1, ← hc.2] at hl
    cases u
    · have := lin_le (fun j => wAt false p (l.getD j Stk.zero)) (wT S l) (fun i => (l.getD i Stk.zero).pl * r.2 - r.1) l.length (fun j hj => by
        have ht := hterm j hj
        have hb := wT_bd h S j hj
        show wAt false p (l.getD j Stk.zero) * _ ≤ _
        unfold wAt ris fal
        by_cases hp : p < (l.getD j Stk.zero).pl
        · simp only [hp, if_true, cond_false]
          exact Int.mul_le_mul_of_nonneg_right hb.1 (ht.1 hp)
        · simp only [hp, if_false, cond_false]
          exact Int.mul_le_mul_of_nonpos_right hb.2.1 (ht.2 hp))
      show numB false p l * r.2 ≤ r.1 * denB false p l
      omega
    · have := lin_le (wT S l) (fun j => wAt true p (l.getD j Stk.zero)) (fun i => (l.getD i Stk.zero).pl * r.2 - r.1) l.length (fun j hj => by
        have ht := hterm j hj
        have hb := wT_bd h S j hj
        show _ ≤ wAt true p (l.getD j Stk.zero) * _
        unfold wAt ris fal
        by_cases hp : p < (l.getD j Stk.zero).pl
        · simp only [hp, if_true, cond_true]
          exact Int.mul_le_mul_of_nonneg_right hb.2.1 (ht.1 hp)
        · simp only [hp, if_false, cond_true]
          exact Int.mul_le_mul_of_nonpos_right hb.1 (ht.2 hp))
      show r.1 * denB true p l ≤ numB true p l * r.2
      omega
  have hrp : ∀ q ∈ ratsL u l, 0 < q.2 := by
    intro q hq
    obtain ⟨s, _, rfl⟩ := List.mem_map.1 hq
    obtain ⟨T, _, hT⟩ := cand_rat u s.pl l
    have := ratT_pos h h0 T
    rw [hT] at this
    exact this
  have hln : (ratsL u l).length = l.length := by simp [ratsL]
  have hpk := pick_ext u hrp (l.length - 1) (by omega) i (by omega)
  have hri : (ratsL u l).getD i (0, 0) = (numB u p l, denB u p l) := by
    have e2 : l.getD i Stk.zero = l[i] := by simp [List.getD, hi]
    rw [hpe, e2]
    simp [List.getD, ratsL, hi]
  rw [hri] at hpk
  have hm := pick_mem (u := u) (rs := ratsL u l) (l.length - 1) (by omega)
  have hbp : 0 < (balL u l).2 := hrp _ hm
  have hcp : 0 < denB u p l := by
    obtain ⟨T, _, hT⟩ := cand_rat u p l
    have := ratT_pos h h0 T
    rw [hT] at this
    exact this
  have h1 : before u (balL u l) r := before_trans hbp hcp hD hpk hcand
  obtain ⟨s, _, hs⟩ := List.mem_map.1 hm
  obtain ⟨T, hT, hTr⟩ := cand_rat u s.pl l
  have h2 : before u r (balL u l) := by
    have := hr.all T hT
    rw [hTr, hs] at this
    exact this
  refine ⟨?_, hD, hbp⟩
  cases u
  · have a1 : (balL false l).1 * r.2 ≤ r.1 * (balL false l).2 := h1
    have a2 : r.1 * (balL false l).2 ≤ (balL false l).1 * r.2 := h2
    omega
  · have a1 : r.1 * (balL true l).2 ≤ (balL true l).1 * r.2 := h1
    have a2 : (balL true l).1 * r.2 ≤ r.1 * (balL true l).2 := h2
    omega
theorem lowL_eq {p q p' q' : Nat} (hq : 0 < q) (hq' : 0 < q') (h : p * q' = p' * q) : lowL p q = lowL p' q' := by
  have g1 : 0 < Nat.gcd p q := Nat.gcd_pos_of_pos_right _ hq
  have g2 : 0 < Nat.gcd p' q' := Nat.gcd_pos_of_pos_right _ hq'
  have c1 : Nat.Coprime (p / Nat.gcd p q) (q / Nat.gcd p q) := Nat.coprime_div_gcd_div_gcd g1
  have c2 : Nat.Coprime (p' / Nat.gcd p' q') (q' / Nat.gcd p' q') := Nat.coprime_div_gcd_div_gcd g2
  have e1 : p / Nat.gcd p q * Nat.gcd p q = p := Nat.div_mul_cancel (Nat.gcd_dvd_left _ _)
  have e2 : q / Nat.gcd p q * Nat.gcd p q = q := Nat.div_mul_cancel (Nat.gcd_dvd_right _ _)
  have e3 : p' / Nat.gcd p' q' * Nat.gcd p' q' = p' := Nat.div_mul_cancel (Nat.gcd_dvd_left _ _)
  have e4 : q' / Nat.gcd p' q' * Nat.gcd p' q' = q' := Nat.div_mul_cancel (Nat.gcd_dvd_right _ _)
  unfold lowL
  generalize Nat.gcd p q = g at *
  generalize Nat.gcd p' q' = g' at *
  generalize p / g = a at *
  generalize q / g = b at *
  generalize p' / g' = a' at *
  generalize q' / g' = b' at *
  subst e1 e2 e3 e4
  have k : a * b' = a' * b := by
    have : (a * b') * (g * g') = (a' * b) * (g * g') := by
      calc (a * b') * (g * g') = a * g * (b' * g') := by ac_rfl
        _ = a' * g' * (b * g) := h
        _ = (a' * b) * (g * g') := by ac_rfl
    exact Nat.eq_of_mul_eq_mul_right (Nat.mul_pos g1 g2) this
  have d1 : b ∣ b' := c1.symm.dvd_of_dvd_mul_left ⟨a', by rw [k, Nat.mul_comm]⟩
  have d2 : b' ∣ b := c2.symm.dvd_of_dvd_mul_left ⟨a, by rw [← k, Nat.mul_comm]⟩
  have eb : b = b' := Nat.dvd_antisymm d1 d2
  subst eb
  have hb : 0 < b := Nat.pos_of_mul_pos_right hq |> fun _ => by rcases Nat.eq_zero_or_pos b with h | h; (· subst h; simp at hq); exact h
  have ea : a = a' := Nat.eq_of_mul_eq_mul_right hb k
  rw [ea]
theorem lowR_eq {r s : Int × Int} (hr : 0 ≤ r.1) (hs : 0 ≤ s.1) (hr2 : 0 < r.2) (hs2 : 0 < s.2) (h : r.1 * s.2 = s.1 * r.2) : lowR r = lowR s := by
  unfold lowR
  refine lowL_eq (by omega) (by omega) ?_
  have e1 : ((r.1.toNat * s.2.toNat : Nat) : Int) = r.1 * s.2 := by rw [Int.natCast_mul, Int.toNat_of_nonneg hr, Int.toNat_of_nonneg (by omega)]
  have e2 : ((s.1.toNat * r.2.toNat : Nat) : Int) = s.1 * r.2 := by rw [Int.natCast_mul, Int.toNat_of_nonneg hs, Int.toNat_of_nonneg (by omega)]
  omega
end Go.Proofs.Ytdekickmplkdiaa

/- Walks: the reference's Lowest, Balance. -/
namespace Go.Proofs.Ytdekickmplkdiaa
open Go.RowKit

structure Env1 (w W : World) (t : TypeId) (c : Array Value) : Prop where
  p : Blk W w.heap.size t c
  bel : Below w.heap.size w W
theorem Env1.below {w W W' : World} {t : TypeId} {c : Array Value} (h : Env1 w W t c) (hb : Below W.heap.size W W') : Env1 w W' t c := ⟨blk_keep hb h.p, below_then h.bel hb⟩
theorem Env1.drewd {w W : World} {t : TypeId} {c : Array Value} (h : Env1 w W t c) : Env1 w W.drew t c := ⟨h.p, h.bel.drew⟩
theorem Env1.drewdN {w W : World} {t : TypeId} {c : Array Value} (h : Env1 w W t c) (k : Nat) : Env1 w (W.drewN k) t c := ⟨h.p, below_drewN h.bel k⟩
theorem Env1.start (w : World) (t : TypeId) (c : Array Value) : Env1 w (w.alloc (.cells c t)) t c := ⟨Blk.new w _ _ rfl, below_self w _⟩

set_option maxRecDepth 100000 in
set_option maxHeartbeats 1000000 in
theorem RefLowest_any (p q : Nat) (w : World) (hp : p ≤ 1000000000) (hq1 : 1 ≤ q) (hq : q ≤ 1000000000) :
    Calls Try.prog 91 #[.int .i64 p, .int .i64 q] w fun e w' => e = .returned (.agg #[.int .i64 (lowL p q).1, .int .i64 (lowL p q).2]) ∧ Below w.heap.size w w' := by
  have E0 := Lib.hid (Env1.start w 77 #[.int .i64 0, .int .i64 0])
  have HO : Hid (lowL p q = (((p / Nat.gcd p q : Nat) : Int), ((q / Nat.gcd p q : Nat) : Int))) := rfl
  generalize lowL p q = r at *
  have HG0 := Lib.hid (show Nat.gcd p q = Nat.gcd p q from rfl)
  have HG1 := Lib.hid (show 1 ≤ Nat.gcd p q from Nat.gcd_pos_of_pos_right _ hq1)
  have HG2 := Lib.hid (show Nat.gcd p q ≤ q from Nat.gcd_le_right _ hq1)
  obtain ⟨g, hg⟩ : ∃ g, g = Nat.gcd p q := ⟨_, rfl⟩
  have HGG0 := Lib.hid hg.symm
  rw [← hg] at HO HG1 HG2
  clear hg HG0
  have hn0 : (0 : Int) ≤ (p : Int) := by omega
  have hn1 : (0 : Int) ≤ (q : Int) := by omega
  go_enter Try.func91, Try.ntmps91
  go_wp2_with fail
  go_loopw [5, 6] (fun x y wr => ∃ a b m : Nat, x = .int .i64 a ∧ y = .int .i64 b ∧ Nat.gcd a b = g ∧ a ≤ 1000000000 ∧ b ≤ 1000000000 ∧ Env1 w wr 77 #[.int .i64 0, .int .i64 0]) (fun _ y _ => (intOf y).toNat)
  case atStart => exact ⟨p, q, 0, rfl, rfl, HGG0.out, by omega, by omega, E0.out⟩
  case round =>
    obtain ⟨a, b, m, rfl, rfl, hg, ha, hb, hE⟩ := hrel
    have HGG := Lib.hid hg
    have E1 := Lib.hid hE
    clear hg hE
    by_cases hz : b = 0
    · subst hz
      have hag : Hid (a = g) := by have := HGG.out; rw [Nat.gcd_zero_right] at this; exact this
      have hg1 := HG1.out
      have hg2 := HG2.out
      have hag' := hag.out
      have ha0 : ¬ (a : Int) = 0 := by omega
      have ha1 : ((a : Int) = 0) = False := by simpa using ha0
      have ha2 : ((a : Int) == 0) = false := by simpa using ha0
      have ha3 : (a = 0) = False := by simp; omega
      have ha4 : (a == 0) = false := by simp; omega
      have ha5 : ¬ a = 0 := by omega
      obtain ⟨d1, hd1⟩ : ∃ d, d = p / g := ⟨_, rfl⟩
      obtain ⟨d2, hd2⟩ : ∃ d, d = q / g := ⟨_, rfl⟩
      have t1 : (p : Int).tdiv (a : Int) = (d1 : Int) := by rw [Int.tdiv_eq_ediv_of_nonneg hn0, hag', hd1]; rfl
      have t2 : (q : Int).tdiv (a : Int) = (d2 : Int) := by rw [Int.tdiv_eq_ediv_of_nonneg hn1, hag', hd2]; rfl
      have b1 : d1 ≤ p := by rw [hd1]; exact Nat.div_le_self p g
      have b2 : d2 ≤ q := by rw [hd2]; exact Nat.div_le_self q g
      have w1 : IntKind.i64.wrap (d1 : Int) = (d1 : Int) := IntWalk.i64_in _ (by omega)
      have w2 : IntKind.i64.wrap (d2 : Int) = (d2 : Int) := IntWalk.i64_in _ (by omega)
      have hr := Lib.hid (show r = ((d1 : Int), (d2 : Int)) from by rw [hd1, hd2]; exact HO.out)
      clear hag' b1 b2 hg1 hg2 hd1 hd2
      have E1d := Lib.hid E1.out.drewd
      go_wp2_with fail
      have r1d := rat_get E1d.out.p
      go_still_tail 7, (by kernel_rfl)
      change wpList _ _ _ _ _ wr.drew
      generalize wr.drew = w2 at *
      go_wp2
      exact bodyPost_ret (results_c rfl _ _ _ w.heap.size _ _ _ rfl ((E1d.out.p.set_ 0 _).set_ 1 _) Try.underlying77 (by kernel_rfl)) rfl ⟨by rw [hr.out]; rfl, (E1d.out.bel.setCell (p := ⟨w.heap.size, 0, none⟩) (Nat.le_refl _) _).setCell (p := ⟨w.heap.size, 1, none⟩) (Nat.le_refl _) _⟩
    · have hb0 : ¬ (b : Int) = 0 := by omega
      have hb1 : ((b : Int) = 0) = False := by simpa using hb0
      have hb2 : ((b : Int) == 0) = false := by simpa using hb0
      have t1 : (a : Int).tmod (b : Int) = ((a % b : Nat) : Int) := by rw [Int.tmod_eq_emod_of_nonneg (by omega)]; rfl
      have hlt : a % b < b := Nat.mod_lt _ (by omega)
      have w1 : IntKind.i64.wrap ((a % b : Nat) : Int) = ((a % b : Nat) : Int) := IntWalk.i64_in _ (by omega)
      have hgg : Hid (Nat.gcd b (a % b) = g) := by unfold Hid; rw [← HGG.out, Nat.gcd_comm a b]; exact (Nat.gcd_rec b a).symm ▸ (by rw [Nat.gcd_comm])
      generalize a % b = z at *
      go_wp2
      go_quiet (fail)
      go_wp2_with fail
      go_roundw
      case rel => exact ⟨b, z, 0, rfl, rfl, hgg.out, by omega, by omega, E1.out.drewdN _⟩
      case measure => simp [intOf]; omega

theorem i64_and1 (n : Int) : bits .and .i64 n 1 = n % 2 := by
  have h1 : (BitVec.ofInt 64 1).toNat = 2 ^ 1 - 1 := by decide
  have key : (BitVec.ofInt 64 n &&& BitVec.ofInt 64 1).toNat = (n % ((2 ^ 64 : Nat) : Int)).toNat % 2 ^ 1 := by
    rw [BitVec.toNat_and, BitVec.toNat_ofInt, h1, Nat.and_two_pow_sub_one_eq_mod]
  show IntKind.i64.wrap ((BitVec.ofInt 64 n &&& BitVec.ofInt 64 1).toNat : Nat) = n % 2
  rw [key, IntKind.wrap_i64]
  omega
theorem bit_of (T k : Nat) : bits .and .i64 ((T : Int) / 2 ^ k) 1 = if T.testBit k = true then 1 else 0 := by
  rw [i64_and1, Nat.testBit_eq_decide_div_mod_eq]
  have hd : ((T : Int) / 2 ^ k % 2) = ((T / 2 ^ k % 2 : Nat) : Int) := by simp
  rw [hd]
  have h2 : T / 2 ^ k % 2 = 0 ∨ T / 2 ^ k % 2 = 1 := by omega
  rcases h2 with h2 | h2 <;> rw [h2] <;> rfl

/-- What Balance's own boxes hold. -/
structure EnvB (w W : World) (c1 c2 c3 c4 : Array Value) : Prop where
  e : Env2 w W 77 77 c1 c2
  r : Blk W (w.heap.size + 2) 77 c3
  s : Blk W (w.heap.size + 3) 77 c4
theorem EnvB.below {w W W' : World} {c1 c2 c3 c4 : Array Value} (h : EnvB w W c1 c2 c3 c4) (hb : Below W.heap.size W W') : EnvB w W' c1 c2 c3 c4 := ⟨h.e.below hb, blk_keep hb h.r, blk_keep hb h.s⟩
theorem EnvB.drewd {w W : World} {c1 c2 c3 c4 : Array Value} (h : EnvB w W c1 c2 c3 c4) : EnvB w W.drew c1 c2 c3 c4 := ⟨h.e.drewd, h.r, h.s⟩
theorem EnvB.putR {w W : World} {c1 c2 c4 : Array Value} {a b : Value} (h : EnvB w W c1 c2 #[a, b] c4) (a' b' : Value) : EnvB w ((W.setCell ⟨w.heap.size + 2, 0, none⟩ a').setCell ⟨w.heap.size + 2, 1, none⟩ b') c1 c2 #[a', b'] c4 :=
  ⟨(h.e.set (by omega) 0 a').set (by omega) 1 b', (h.r.set_ 0 a').set_ 1 b', (h.s.far (p := ⟨w.heap.size + 2, 0, none⟩) (by simp) a').far (p := ⟨w.heap.size + 2, 1, none⟩) (by simp) b'⟩
theorem EnvB.putS {w W : World} {c1 c2 c3 : Array Value} {a b : Value} (h : EnvB w W c1 c2 c3 #[a, b]) (a' b' : Value) : EnvB w ((W.setCell ⟨w.heap.size + 3, 0, none⟩ a').setCell ⟨w.heap.size + 3, 1, none⟩ b') c1 c2 c3 #[a', b'] :=
  ⟨(h.e.set (by omega) 0 a').set (by omega) 1 b', (h.r.far (p := ⟨w.heap.size + 3, 0, none⟩) (by simp) a').far (p := ⟨w.heap.size + 3, 1, none⟩) (by simp) b', (h.s.set_ 0 a').set_ 1 b'⟩
theorem EnvB.start (w : World) : EnvB w ((((w.alloc (.cells #[.int .i64 0, .int .i64 0] 77)).alloc (.cells #[.int .i64 0, .int .i64 0] 77)).alloc (.cells #[.int .i64 0, .int .i64 0] 77)).alloc (.cells #[.int .i64 0, .int .i64 0] 77)) #[.int .i64 0, .int .i64 0] #[.int .i64 0, .int .i64 0] #[.int .i64 0, .int .i64 0] #[.int .i64 0, .int .i64 0] :=
  ⟨((Env2.start w _ _ _ _).alloc _).alloc _, (Blk.new _ _ _ (by simp)).alloc _, Blk.new _ _ _ (by simp)⟩
theorem EnvB.setP {w W : World} {c2 c3 c4 : Array Value} {a b : Value} (h : EnvB w W #[a, b] c2 c3 c4) (a' b' : Value) : EnvB w ((W.setCell ⟨w.heap.size, 0, none⟩ a').setCell ⟨w.heap.size, 1, none⟩ b') #[a', b'] c2 c3 c4 :=
  ⟨⟨(h.e.p.set_ 0 a').set_ 1 b', (h.e.q.far (p := ⟨w.heap.size, 0, none⟩) (by simp) a').far (p := ⟨w.heap.size, 1, none⟩) (by simp) b', (h.e.bel.setCell (p := ⟨w.heap.size, 0, none⟩) (Nat.le_refl _) a').setCell (p := ⟨w.heap.size, 1, none⟩) (Nat.le_refl _) b'⟩,
   (h.r.far (p := ⟨w.heap.size, 0, none⟩) (by simp) a').far (p := ⟨w.heap.size, 1, none⟩) (by simp) b', (h.s.far (p := ⟨w.heap.size, 0, none⟩) (by simp) a').far (p := ⟨w.heap.size, 1, none⟩) (by simp) b'⟩
theorem EnvB.setQ {w W : World} {c1 c3 c4 : Array Value} {a b : Value} (h : EnvB w W c1 #[a, b] c3 c4) (a' b' : Value) : EnvB w ((W.setCell ⟨w.heap.size + 1, 0, none⟩ a').setCell ⟨w.heap.size + 1, 1, none⟩ b') c1 #[a', b'] c3 c4 :=
  ⟨h.e.putQ a' b', (h.r.far (p := ⟨w.heap.size + 1, 0, none⟩) (by simp) a').far (p := ⟨w.heap.size + 1, 1, none⟩) (by simp) b', (h.s.far (p := ⟨w.heap.size + 1, 0, none⟩) (by simp) a').far (p := ⟨w.heap.size + 1, 1, none⟩) (by simp) b'⟩
theorem EnvB.all {w W : World} {a b c d x y z t : Value} (h : EnvB w W #[x, y] #[z, t] #[a, b] #[c, d]) : (W.cell? ⟨w.heap.size, 0, none⟩ = some x ∧ W.cell? ⟨w.heap.size, 1, none⟩ = some y ∧ W.frozen? ⟨w.heap.size, 0, none⟩ = false ∧ W.frozen? ⟨w.heap.size, 1, none⟩ = false) ∧
    (W.cell? ⟨w.heap.size + 1, 0, none⟩ = some z ∧ W.cell? ⟨w.heap.size + 1, 1, none⟩ = some t ∧ W.frozen? ⟨w.heap.size + 1, 0, none⟩ = false ∧ W.frozen? ⟨w.heap.size + 1, 1, none⟩ = false) ∧
    (W.cell? ⟨w.heap.size + 2, 0, none⟩ = some a ∧ W.cell? ⟨w.heap.size + 2, 1, none⟩ = some b ∧ W.frozen? ⟨w.heap.size + 2, 0, none⟩ = false ∧ W.frozen? ⟨w.heap.size + 2, 1, none⟩ = false) ∧
    (W.cell? ⟨w.heap.size + 3, 0, none⟩ = some c ∧ W.cell? ⟨w.heap.size + 3, 1, none⟩ = some d ∧ W.frozen? ⟨w.heap.size + 3, 0, none⟩ = false ∧ W.frozen? ⟨w.heap.size + 3, 1, none⟩ = false) :=
  ⟨⟨h.e.p.cell 0, h.e.p.cell 1, h.e.p.frozen 0, h.e.p.frozen 1⟩, ⟨h.e.q.cell 0, h.e.q.cell 1, h.e.q.frozen 0, h.e.q.frozen 1⟩, ⟨h.r.cell 0, h.r.cell 1, h.r.frozen 0, h.r.frozen 1⟩, ⟨h.s.cell 0, h.s.cell 1, h.s.frozen 0, h.s.frozen 1⟩⟩
theorem EnvB.get {w W : World} {a b c d : Value} {c1 c2 : Array Value} (h : EnvB w W c1 c2 #[a, b] #[c, d]) : W.cell? ⟨w.heap.size + 2, 0, none⟩ = some a ∧ W.cell? ⟨w.heap.size + 2, 1, none⟩ = some b ∧ W.cell? ⟨w.heap.size + 3, 0, none⟩ = some c ∧ W.cell? ⟨w.heap.size + 3, 1, none⟩ = some d := ⟨h.r.cell 0, h.r.cell 1, h.s.cell 0, h.s.cell 1⟩

theorem getD_mem {l : List Stk} {k : Nat} (hk : k < l.length) : l.getD k Stk.zero ∈ l := by
  have e : l.getD k Stk.zero = l[k] := by simp [List.getD, hk]
  rw [e]; exact List.getElem_mem hk
theorem sumC_bd {l : List Stk} (h : StkB l) (T : Nat) (k : Nat) (hk : k ≤ l.length) : 0 ≤ numC (wT T l) l k ∧ numC (wT T l) l k ≤ k * 50000000 ∧ 0 ≤ denC (wT T l) k ∧ denC (wT T l) k ≤ k * 10000 := by
  induction k with
  | zero => simp [numC, denC]
  | succ k ih =>
    have ih := ih (by omega)
    have h1 := wT_bd h T k (by omega)
    have h2 := h.s _ (getD_mem (show k < l.length by omega))
    have h3 := mul_bd (x := wT T l k) (X := 10000) (y := (l.getD k Stk.zero).pl) (Y := 5000) (by omega) (by omega) (by omega) (by omega)
    simp only [numC, denC]
    omega
theorem ext_zero (u : Bool) (l : List Stk) {T : Nat} (h : T = 0) : Ext u l (T + 1) (ratT l T) :=
  ⟨⟨T, Nat.lt_succ_self _, rfl⟩, fun j hj => by rw [show j = T by omega]; exact before_refl _ _⟩
theorem ext_keep {u : Bool} {l : List Stk} {T : Nat} {r : Int × Int} (h : Ext u l T r) (hb : before u r (ratT l T)) : Ext u l (T + 1) r := by
  obtain ⟨⟨j, hj, hr⟩, ha⟩ := h
  refine ⟨⟨j, by omega, hr⟩, fun i hi => ?_⟩
  rcases Nat.lt_or_ge i T with h1 | h1
  · exact ha i h1
  · obtain rfl : i = T := by omega
    exact hb
theorem ext_new {u : Bool} {l : List Stk} (hs : StkB l) (h0 : 0 < l.length) {T : Nat} {r : Int × Int} (h : Ext u l T r) (hb : before u (ratT l T) r) : Ext u l (T + 1) (ratT l T) := by
  obtain ⟨⟨j, hj, hr⟩, ha⟩ := h
  refine ⟨⟨T, by omega, rfl⟩, fun i hi => ?_⟩
  rcases Nat.lt_or_ge i T with h1 | h1
  · exact before_trans (ratT_pos hs h0 _) (by rw [hr]; exact ratT_pos hs h0 _) (ratT_pos hs h0 _) hb (ha i h1)
  · obtain rfl : i = T := by omega
    exact before_refl _ _

theorem EnvB.rowP {w W : World} {c1 c2 c3 c4 : Array Value} (h : EnvB w W c1 c2 c3 c4) (c : Array Value) : EnvB w (W.setRow w.heap.size c) c c2 c3 c4 :=
  ⟨⟨h.e.p.setRow _, h.e.q.setRow_far (Nat.succ_ne_self _) _, below_setR h.e.bel (Nat.le_refl _) _⟩, h.r.setRow_far (by omega) _, h.s.setRow_far (by omega) _⟩
theorem EnvB.rowQ {w W : World} {c1 c2 c3 c4 : Array Value} (h : EnvB w W c1 c2 c3 c4) (c : Array Value) : EnvB w (W.setRow (w.heap.size + 1) c) c1 c c3 c4 :=
  ⟨⟨h.e.p.setRow_far (by omega) _, h.e.q.setRow _, below_setR h.e.bel (Nat.le_succ _) _⟩, h.r.setRow_far (by omega) _, h.s.setRow_far (by omega) _⟩
def SBal (w : World) (a b c d : Int) (W : World) : Prop := W.cell? ⟨w.heap.size + 2, 0, none⟩ = some (.int .i64 a) ∧ W.cell? ⟨w.heap.size + 2, 1, none⟩ = some (.int .i64 b) ∧ W.cell? ⟨w.heap.size + 3, 0, none⟩ = some (.int .i64 c) ∧ W.cell? ⟨w.heap.size + 3, 1, none⟩ = some (.int .i64 d)
theorem ratT_bd {l : List Stk} (hs : StkB l) (T : Nat) : (0 ≤ (ratT l T).1 ∧ (ratT l T).1 ≤ 600000000) ∧ (0 ≤ (ratT l T).2 ∧ (ratT l T).2 ≤ 120000) := by
  have := sumC_bd hs T l.length (Nat.le_refl _)
  have hn := hs.n
  unfold ratT
  simp only
  omega
theorem ext_bd {u : Bool} {l : List Stk} (hs : StkB l) (h0 : 0 < l.length) {T : Nat} {a b : Int} (h : Ext u l T (a, b)) : (0 ≤ a ∧ a ≤ 600000000) ∧ (1 ≤ b ∧ b ≤ 120000) := by
  obtain ⟨j, _, hr⟩ := h.is
  have := ratT_bd hs j
  have hp := ratT_pos hs h0 j
  rw [← hr] at this hp
  simp only at this hp
  omega
theorem ext_low {l : List Stk} (hs : StkB l) (h0 : 0 < l.length) {T : Nat} {a b c d : Int} (e : T = 2 ^ l.length) (h : Ext false l T (a, b) ∧ Ext true l T (c, d)) : lowR (a, b) = lowR (balL false l) ∧ lowR (c, d) = lowR (balL true l) := by
  subst e
  obtain ⟨e1, p1, q1⟩ := ext_bal hs h0 h.1
  obtain ⟨e2, p2, q2⟩ := ext_bal hs h0 h.2
  have b1 := ext_bd hs h0 h.1
  have b2 := ext_bd hs h0 h.2
  have c1 := bal_bd hs h0 false
  have c2 := bal_bd hs h0 true
  exact ⟨lowR_eq b1.1.1 c1.1 p1 q1 e1, lowR_eq b2.1.1 c2.1 p2 q2 e2⟩
theorem RefLowR_any (r : Int × Int) (w : World) (h : 0 ≤ r.1 ∧ r.1 ≤ 1000000000 ∧ 1 ≤ r.2 ∧ r.2 ≤ 1000000000) :
    Calls Try.prog 91 #[.int .i64 r.1, .int .i64 r.2] w fun e w' => e = .returned (.agg #[.int .i64 (lowR r).1, .int .i64 (lowR r).2]) ∧ Below w.heap.size w w' := by
  have := RefLowest_any r.1.toNat r.2.toNat w (by omega) (by omega) (by omega)
  rw [Int.toNat_of_nonneg h.1, Int.toNat_of_nonneg (by omega)] at this
  exact this

set_option maxRecDepth 100000 in
set_option maxHeartbeats 4000000 in
theorem RefBalance_any (l : List Stk) (A : Option Addr) (n c : Nat) (w : World) (hs : StkB l) (h : Stks w A n l) (h0 : 0 < n) :
    Calls Try.prog 47 #[.slice A n c] w fun e w' => e = .returned (.tuple #[.agg #[.int .i64 (lowR (balL false l)).1, .int .i64 (lowR (balL false l)).2], .agg #[.int .i64 (lowR (balL true l)).1, .int .i64 (lowR (balL true l)).2]]) ∧ Below w.heap.size w w' := by
  have hl := h.len
  have hn := hs.n
  rw [hl] at hn
  have HG := Lib.hid h
  have Hl := Lib.hid hl
  have E0 := Lib.hid (EnvB.start w)
  clear h hl
  obtain ⟨M, hM⟩ : ∃ M, M = 2 ^ n := ⟨_, rfl⟩
  have HM := Lib.hid hM
  have hM1 : 1 ≤ M := by rw [hM]; exact Nat.one_le_two_pow
  have hM2 : M ≤ 4096 := by rw [hM]; exact Nat.pow_le_pow_right (n := 2) (by omega) hn
  have hsh : wrap64 ((2 : Int) ^ n) = (M : Int) := by
    have e : ((2 : Int) ^ n) = (M : Int) := by rw [hM]; simp
    rw [e]
    exact IntWalk.wrap64_in _ ⟨by omega, by omega⟩
  clear hM
  go_enter Try.func47, Try.ntmps47
  go_wp2
  go_loopw [6] (fun s wr => ∃ (T : Nat) (a b c d : Int), T ≤ M ∧ s = .int .i64 T ∧ (0 < T → Ext false l T (a, b) ∧ Ext true l T (c, d)) ∧ EnvB w wr #[.int .i64 0, .int .i64 0] #[.int .i64 0, .int .i64 0] #[.int .i64 a, .int .i64 b] #[.int .i64 c, .int .i64 d]) (fun s _ => M - (intOf s).toNat)
  case atStart => exact ⟨0, 0, 0, 0, 0, Nat.zero_le _, rfl, fun h => absurd h (by omega), E0.out⟩
  case round =>
    obtain ⟨T, a, b, c, d, hT, rfl, hx, hE⟩ := hrel
    have HX := Lib.hid hx
    have E1 := Lib.hid hE
    clear hx hE
    have HAB := Lib.hid (fun (h : 0 < T) => And.intro (ext_bd hs (by have := Hl.out; omega) (HX.out h).1).1 (And.intro (ext_bd hs (by have := Hl.out; omega) (HX.out h).1).2 (ext_bd hs (by have := Hl.out; omega) (HX.out h).2)))
    have HFIN := Lib.hid (fun (h : Ext false l T (a, b) ∧ Ext true l T (c, d)) (e : T = 2 ^ n) => ext_low hs (by have := Hl.out; omega) (by rw [e, ← Hl.out]) h)
    by_cases hlt : T < M
    · have HB := Lib.hid (fun k => bit_of T k)
      go_wp2_with fail
      clear hsh
      have HC0 : Hid ((0 : Int) = numC (wT T l) l 0 ∧ (0 : Int) = denC (wT T l) 0) := ⟨rfl, rfl⟩
      have HC1 := Lib.hid (fun k => show numC (wT T l) l (k + 1) = numC (wT T l) l k + wT T l k * (l.getD k Stk.zero).pl ∧ denC (wT T l) (k + 1) = denC (wT T l) k + wT T l k from ⟨rfl, rfl⟩)
      have HW := Lib.hid (fun k => show wT T l k = if T.testBit k = true then (l.getD k Stk.zero).wh else (l.getD k Stk.zero).wl from rfl)
      have HBD := Lib.hid (fun k (hk : k ≤ n) => sumC_bd hs T k (by have := Hl.out; omega))
      have HSD := Lib.hid (fun k (hk : k < n) => hs.s _ (getD_mem (show k < l.length by have := Hl.out; omega)))
      have HEX0 := Lib.hid (fun (h : T = 0) => ext_zero false l h)
      have HEX1 := Lib.hid (fun (h : T = 0) => ext_zero true l h)
      have HRT : Hid (ratT l T = (numC (wT T l) l n, denC (wT T l) n)) := by unfold Hid ratT; rw [Hl.out]
      generalize hnum : numC (wT T l) l = num at *
      generalize hden : denC (wT T l) = den at *
      clear hnum hden
      generalize wT T l = wt at *
      have C1 := HC0.out
      go_loop [7, 8, 9] (fun x y i => ∃ k : Nat, k ≤ n ∧ i = .int .i64 k ∧ x = .int .i64 (num k) ∧ y = .int .i64 (den k)) (fun _ _ i => n - (intOf i).toNat)
      case atStart => exact ⟨0, Nat.zero_le _, rfl, by rw [← C1.1], by rw [← C1.2]⟩
      case round =>
        clear C1
        obtain ⟨k, hk, rfl, rfl, rfl⟩ := hrel
        by_cases hkl : k < n
        · obtain ⟨bb, off, rfl, hcells⟩ := HG.out.held hkl
          obtain ⟨c0, c1, c2, c3, c4⟩ := hcells _ E1.out.e.bel
          have hb := HB.out k
          have hc1 := Lib.hid (HC1.out k)
          have hbd := HBD.out k hk
          have hsd := HSD.out k hkl
          have hwk := Lib.hid (HW.out k)
          clear hcells
          generalize l.getD k Stk.zero = y at *
          obtain ⟨wl, wh, tl, th, pl⟩ := y
          simp only at c0 c1 c2 c3 c4 hsd hc1 hwk
          have hpl := mul_bd (x := wh) (X := 10000) (y := pl) (Y := 5000) (by omega) (by omega) (by omega) (by omega)
          have hpl2 := mul_bd (x := wl) (X := 10000) (y := pl) (Y := 5000) (by omega) (by omega) (by omega) (by omega)
          by_cases ht : T.testBit k = true
          · rw [if_pos ht] at hb hwk
            clear ht
            go_wp2
            go_round
            case rel => exact ⟨k + 1, by omega, by go_num, by rw [hc1.out.1, hwk.out], by rw [hc1.out.2, hwk.out]⟩
            case measure => simp [intOf]; omega
          · rw [if_neg ht] at hb hwk
            clear ht
            go_wp2
            go_round
            case rel => exact ⟨k + 1, by omega, by go_num, by rw [hc1.out.1, hwk.out], by rw [hc1.out.2, hwk.out]⟩
            case measure => simp [intOf]; omega
        · obtain rfl : k = n := by omega
          have hbd := HBD.out k (Nat.le_refl _)
          have hab := HAB.out
          have p1 := E1.out.all
          have HE0 := Lib.hid HEX0.out
          have HE1 := Lib.hid HEX1.out
          rw [HRT.out] at HE0 HE1
          have HK0 := Lib.hid (fun (h : 0 < T) (hb : before false (a, b) (ratT l T)) => ext_keep (HX.out h).1 hb)
          have HK1 := Lib.hid (fun (h : 0 < T) (hb : before true (c, d) (ratT l T)) => ext_keep (HX.out h).2 hb)
          have HL0 := Lib.hid (fun (h : 0 < T) (hb : before false (ratT l T) (a, b)) => ext_new hs (by have := Hl.out; omega) (HX.out h).1 hb)
          have HL1 := Lib.hid (fun (h : 0 < T) (hb : before true (ratT l T) (c, d)) => ext_new hs (by have := Hl.out; omega) (HX.out h).2 hb)
          rw [HRT.out] at HK0 HK1 HL0 HL1
          have hN : 0 ≤ num k ∧ num k ≤ 600000000 := by omega
          have hD : 0 ≤ den k ∧ den k ≤ 120000 := by omega
          clear HRT HEX0 HEX1 hbd
          generalize num k = N at *
          generalize den k = D at *
          by_cases h00 : T = 0
          · have t1 : ((T : Int) == 0) = true := by simp [h00]
            have E3 := Lib.hid ((E1.out.putR (.int .i64 N) (.int .i64 D)).putS (.int .i64 N) (.int .i64 D))
            have H0 := Lib.hid (HE0.out h00)
            have H1 := Lib.hid (HE1.out h00)
            clear hab HE0 HE1 HK0 HK1 HL0 HL1 h00
            go_wp2
            go_roundw
            case rel => exact ⟨T + 1, _, _, _, _, by omega, by go_num, fun _ => ⟨H0.out, H1.out⟩, E3.out⟩
            case measure => simp [intOf]; omega
          · have t1 : ((T : Int) == 0) = false := by simp; omega
            have hp : 0 < T := by omega
            obtain ⟨ha, hb, hc, hd⟩ := hab hp
            have m1 := mul_bd (x := N) (X := 600000000) (y := b) (Y := 120000) (by omega) (by omega) (by omega) (by omega)
            have m2 := mul_bd (x := a) (X := 600000000) (y := D) (Y := 120000) (by omega) (by omega) (by omega) (by omega)
            have m3 := mul_bd (x := N) (X := 600000000) (y := d) (Y := 120000) (by omega) (by omega) (by omega) (by omega)
            have m4 := mul_bd (x := c) (X := 600000000) (y := D) (Y := 120000) (by omega) (by omega) (by omega) (by omega)
            clear hab HE0 HE1 h00
            by_cases h1 : N * b < a * D
            · have H0 := Lib.hid (HL0.out hp (show N * b ≤ a * D by omega))
              have E2 := Lib.hid (E1.out.putR (.int .i64 N) (.int .i64 D))
              by_cases h2 : c * D < N * d
              · have H1 := Lib.hid (HL1.out hp (show c * D ≤ N * d by omega))
                have E3 := Lib.hid (E2.out.putS (.int .i64 N) (.int .i64 D))
                clear HK0 HK1 HL0 HL1
                go_wp2
                go_roundw
                case rel => exact ⟨T + 1, _, _, _, _, by omega, by go_num, fun _ => ⟨H0.out, H1.out⟩, E3.out⟩
                case measure => simp [intOf]; omega
              · have H1 := Lib.hid (HK1.out hp (show N * d ≤ c * D by omega))
                clear HK0 HK1 HL0 HL1
                go_wp2
                go_roundw
                case rel => exact ⟨T + 1, _, _, _, _, by omega, by go_num, fun _ => ⟨H0.out, H1.out⟩, E2.out⟩
                case measure => simp [intOf]; omega
            · have H0 := Lib.hid (HK0.out hp (show a * D ≤ N * b by omega))
              by_cases h2 : c * D < N * d
              · have H1 := Lib.hid (HL1.out hp (show c * D ≤ N * d by omega))
                have E3 := Lib.hid (E1.out.putS (.int .i64 N) (.int .i64 D))
                clear HK0 HK1 HL0 HL1
                go_wp2
                go_roundw
                case rel => exact ⟨T + 1, _, _, _, _, by omega, by go_num, fun _ => ⟨H0.out, H1.out⟩, E3.out⟩
                case measure => simp [intOf]; omega
              · have H1 := Lib.hid (HK1.out hp (show N * d ≤ c * D by omega))
                clear HK0 HK1 HL0 HL1
                go_wp2
                go_roundw
                case rel => exact ⟨T + 1, _, _, _, _, by omega, by go_num, fun _ => ⟨H0.out, H1.out⟩, E1.out⟩
                case measure => simp [intOf]; omega
    · obtain rfl : T = M := by omega
      have hab := HAB.out (by omega)
      have HF := Lib.hid (HFIN.out (HX.out (by omega)) HM.out)
      have HL0 := Lib.hid (fun W => RefLowR_any (a, b) W (by simp only; omega))
      have HL1 := Lib.hid (fun W => RefLowR_any (c, d) W (by simp only; omega))
      rw [HF.out.1] at HL0
      rw [HF.out.2] at HL1
      have E2 := Lib.hid E1.out.drewd
      clear hab HF HX HFIN
      generalize hr1 : lowR (balL false l) = r1 at HL0
      generalize hr2 : lowR (balL true l) = r2 at HL1
      obtain ⟨x1, y1⟩ := r1
      obtain ⟨x2, y2⟩ := r2
      have HR1 := Lib.hid hr1
      have HR2 := Lib.hid hr2
      clear hr1 hr2
      simp only at HL0 HL1
      go_wp2_with fail
      have D1 : Hid (EnvB w wr.drew _ _ _ _) := Lib.hid E1.out.drewd
      have S1 : SBal w a b c d wr.drew := D1.out.get
      refine wp_region_held_drew (S := SBal w a b c d) (by kernel_rfl) S1 (fun _ => ?_)
      generalize wr.drew = wd at *
      refine heldTake (i := 0) 89 (v := ?va0) rfl (by kernel_rfl) (by kernel_rfl) (by kernel_rfl) (by kernel_rfl) (fun _ _ _ h => h) (Or.inl ⟨by rfl, ?ya0⟩) (by assumption) ?ra0
      case ya0 => (intro w hSw; obtain ⟨g0, g1, g2, g3⟩ := hSw; go_simp; try with_reducible rfl)
      refine heldTake (i := 1) 90 (v := ?va1) rfl (by kernel_rfl) (by kernel_rfl) (by kernel_rfl) (by kernel_rfl) (fun _ _ _ h => h) (Or.inl ⟨by rfl, ?ya1⟩) (by assumption) ?ra1
      case ya1 => (intro w hSw; obtain ⟨g0, g1, g2, g3⟩ := hSw; go_simp; try with_reducible rfl)
      refine heldTake (i := 2) 91 (v := ?va2) rfl (by kernel_rfl) (by kernel_rfl) (by kernel_rfl) (by kernel_rfl) (fun _ _ _ h => h) (Or.inl ⟨by rfl, ?ya2⟩) (by assumption) ?ra2
      case ya2 => (intro w hSw; obtain ⟨g0, g1, g2, g3⟩ := hSw; go_simp; try with_reducible rfl)
      refine heldTake (i := 3) 92 (v := ?va3) rfl (by kernel_rfl) (by kernel_rfl) (by kernel_rfl) (by kernel_rfl) (fun _ _ _ h => h) (Or.inl ⟨by rfl, ?ya3⟩) (by assumption) ?ra3
      case ya3 => (intro w hSw; obtain ⟨g0, g1, g2, g3⟩ := hSw; go_simp; try with_reducible rfl)
      refine heldTake (i := 5) 94 (v := ?va5) rfl (by kernel_rfl) (by kernel_rfl) (by kernel_rfl) (by kernel_rfl) (fun _ _ _ h => h) (Or.inl ⟨by rfl, ?ya5⟩) (by assumption) ?ra5
      case ya5 => (intro w hSw; obtain ⟨g0, g1, g2, g3⟩ := hSw; go_simp; try with_reducible rfl)
      refine heldTake (i := 6) 95 (v := ?va6) rfl (by kernel_rfl) (by kernel_rfl) (by kernel_rfl) (by kernel_rfl) (fun _ _ _ h => h) (Or.inl ⟨by rfl, ?ya6⟩) (by assumption) ?ra6
      case ya6 => (intro w hSw; obtain ⟨g0, g1, g2, g3⟩ := hSw; go_simp; try with_reducible rfl)
      refine heldTake (i := 7) 96 (v := ?va7) rfl (by kernel_rfl) (by kernel_rfl) (by kernel_rfl) (by kernel_rfl) (fun _ _ _ h => h) (Or.inl ⟨by rfl, ?ya7⟩) (by assumption) ?ra7
      case ya7 => (intro w hSw; obtain ⟨g0, g1, g2, g3⟩ := hSw; go_simp; try with_reducible rfl)
      refine heldTake (i := 8) 97 (v := ?va8) rfl (by kernel_rfl) (by kernel_rfl) (by kernel_rfl) (by kernel_rfl) (fun _ _ _ h => h) (Or.inl ⟨by rfl, ?ya8⟩) (by assumption) ?ra8
      case ya8 => (intro w hSw; obtain ⟨g0, g1, g2, g3⟩ := hSw; go_simp; try with_reducible rfl)
      simp only [Act.put, List.setIfInBounds_toArray, List.set_cons_zero, List.set_cons_succ]
      refine wpAnyH_ready (rs := [4]) (by kernel_rfl) (by simp) ?_
      refine AllReadyH.cons rfl (fun K4 hK4 => ?_) AllReadyH.nil
      go_simp
      refine (HL0.out _).mono ?_
      rintro e Wa ⟨rfl, bWa⟩
      have D2 := Lib.hid (D1.out.below bWa)
      clear bWa
      refine hK4.out _ _ D2.out.get (fun _ => ?_)
      refine wpAnyH_ready (rs := [9]) (by kernel_rfl) (by simp) ?_
      refine AllReadyH.cons rfl (fun K9 hK9 => ?_) AllReadyH.nil
      go_simp
      refine (HL1.out _).mono ?_
      rintro e Wb ⟨rfl, bWb⟩
      have D3 := Lib.hid (D2.out.below bWb)
      clear bWb
      refine hK9.out _ _ D3.out.get (fun _ => ?_)
      refine wpAnyH_ready (rs := [10]) (by kernel_rfl) (by simp) ?_
      refine AllReadyH.cons rfl (fun K10 hK10 => ?_) AllReadyH.nil
      rw [if_pos (by rfl)]
      refine wp_store_rowN rfl _ _ _ rfl _ _ rfl rfl _ _ D3.out.e.p (by kernel_rfl) rfl (ones2c _ _) ?_
      have D4 := Lib.hid (D3.out.rowP #[.int .i64 x1, .int .i64 y1])
      refine hK10.out _ _ D4.out.get (fun _ => ?_)
      refine wpAnyH_ready (rs := [11]) (by kernel_rfl) (by simp) ?_
      refine AllReadyH.cons rfl (fun K11 hK11 => ?_) AllReadyH.nil
      rw [if_pos (by rfl)]
      refine wp_store_rowN rfl _ _ _ rfl _ _ rfl rfl _ _ D4.out.e.q (by kernel_rfl) rfl (ones2c _ _) ?_
      have D5 := Lib.hid (D4.out.rowQ #[.int .i64 x2, .int .i64 y2])
      refine hK11.out _ _ D5.out.get (fun _ => ?_)
      refine wpAnyH_done (by kernel_rfl) ?_ _
      go_wp2_with fail
      exact bodyPost_ret (results_cc rfl _ _ _ w.heap.size (w.heap.size + 1) _ _ _ _ _ _ rfl D5.out.e.p Try.underlying77 (by kernel_rfl) rfl D5.out.e.q Try.underlying77 (by kernel_rfl)) rfl ⟨by rw [HR1.out, HR2.out], D5.out.e.bel⟩
end Go.Proofs.Ytdekickmplkdiaa
