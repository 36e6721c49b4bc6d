/- Walks: the reference's Equal, Sums; the law's own. -/
import Derived.Test.YtdekickmplkdiaaUb
namespace Go.Proofs.Ytdekickmplkdiaa
open Go.RowKit

set_option maxRecDepth 100000 in
set_option maxHeartbeats 4000000 in
theorem RefEqual_any (l : List Stk) (A A' : Option Addr) (n c c' : Nat) (w : World) (h : Stks w A n l) (h' : Stks w A' n l) (hn : n ≤ maxLen) :
    Calls Try.prog 43 #[.slice A n c, .slice A' n c'] w fun e w' => e = .returned (.bool true) ∧ Below w.heap.size w w' := by
  have HG := Lib.hid h
  have HG' := Lib.hid h'
  unfold maxLen at hn
  clear h h'
  have hq5 : ((n : Int) != (n : Int)) = false := by simp
  go_enter Try.func43, Try.ntmps43
  go_wp2_with fail
  clear hq5
  go_loopw [5] (fun i wr => ∃ k : Nat, k ≤ n ∧ i = .int .i64 k ∧ Below w.heap.size w wr) (fun i _ => n - (intOf i).toNat)
  case atStart => exact ⟨0, Nat.zero_le _, rfl, Below.refl _ _⟩
  case round =>
    obtain ⟨k, hk, rfl, hE⟩ := hrel
    have E1 := Lib.hid hE
    have G1 := HG.out.below hE
    have G2 := HG'.out.below hE
    clear hE
    by_cases hlt : k < n
    · obtain ⟨b, off, hA, hb, q0, q1, q2, q3, q4⟩ := G1.at_ hlt
      obtain ⟨b', off', hA', hb', p0, p1, p2, p3, p4⟩ := G2.at_ hlt
      subst hA hA'
      clear G1 G2
      generalize l.getD k Stk.zero = x at *
      obtain ⟨x0, x1, x2, x3, x4⟩ := x
      simp only at *
      go_wp2_with fail
      go_quiet (fail)
      all_goals
        go_wp2
        go_roundw
        case rel => exact ⟨k + 1, by omega, by go_num, below_drewN E1.out _⟩
        case measure => simp [intOf]; omega
    · obtain rfl : k = n := by omega
      clear G1 G2
      go_wp2
      go_ret
      exact ⟨rfl, E1.out⟩

/-- What Sums' own boxes hold. -/
structure Env4 (w W : World) (c1 c2 c3 c4 : Array Value) : Prop where
  e : Env2 w W 23 23 c1 c2
  r : Blk W (w.heap.size + 2) 23 c3
  s : Blk W (w.heap.size + 3) 23 c4
theorem Env4.below {w W W' : World} {c1 c2 c3 c4 : Array Value} (h : Env4 w W c1 c2 c3 c4) (hb : Below W.heap.size W W') : Env4 w W' c1 c2 c3 c4 := ⟨h.e.below hb, blk_keep hb h.r, blk_keep hb h.s⟩
theorem Env4.drewd {w W : World} {c1 c2 c3 c4 : Array Value} (h : Env4 w W c1 c2 c3 c4) : Env4 w W.drew c1 c2 c3 c4 := ⟨h.e.drewd, h.r, h.s⟩
theorem Env4.putR {w W : World} {c1 c2 c4 : Array Value} {a b : Value} (h : Env4 w W c1 c2 #[a, b] c4) (a' b' : Value) : Env4 w ((W.setCell ⟨w.heap.size + 2, 0, none⟩ a').setCell ⟨w.heap.size + 2, 1, none⟩ b') c1 c2 #[a', b'] c4 :=
  ⟨(h.e.set (by omega) 0 a').set (by omega) 1 b', (h.r.set_ 0 a').set_ 1 b', (h.s.far (p := ⟨w.heap.size + 2, 0, none⟩) (by simp) a').far (p := ⟨w.heap.size + 2, 1, none⟩) (by simp) b'⟩
theorem Env4.putS {w W : World} {c1 c2 c3 : Array Value} {a b : Value} (h : Env4 w W c1 c2 c3 #[a, b]) (a' b' : Value) : Env4 w ((W.setCell ⟨w.heap.size + 3, 0, none⟩ a').setCell ⟨w.heap.size + 3, 1, none⟩ b') c1 c2 c3 #[a', b'] :=
  ⟨(h.e.set (by omega) 0 a').set (by omega) 1 b', (h.r.far (p := ⟨w.heap.size + 3, 0, none⟩) (by simp) a').far (p := ⟨w.heap.size + 3, 1, none⟩) (by simp) b', (h.s.set_ 0 a').set_ 1 b'⟩
theorem Env4.start (w : World) : Env4 w ((((w.alloc (.cells #[.int .i64 0, .int .i64 0] 23)).alloc (.cells #[.int .i64 0, .int .i64 0] 23)).alloc (.cells #[.int .i64 0, .int .i64 0] 23)).alloc (.cells #[.int .i64 0, .int .i64 0] 23)) #[.int .i64 0, .int .i64 0] #[.int .i64 0, .int .i64 0] #[.int .i64 0, .int .i64 0] #[.int .i64 0, .int .i64 0] :=
  ⟨((Env2.start w _ _ _ _).alloc _).alloc _, (Blk.new _ _ _ (by simp)).alloc _, Blk.new _ _ _ (by simp)⟩
def sums2 (l : List Stk) : (Int × Int) × (Int × Int) := ((sumLo false l, sumHi false l), (sumLo true l, sumHi true l))
theorem results_cc {fn : Func} {p q : Tmp} {ty ty' : TypeId} (h : fn.results = #[.cell p ty, .cell q ty']) (tmps : Array Value) (P : Program) (w : World) (g g' : Nat) (t t' : TypeId) (cs cs' : Array Value) (fs fs' : Array Field)
    (hp : tmps.getD p undef = .pointer (some ⟨g, 0, none⟩)) (hg : Blk w g t cs) (hu : P.underlying ty = some (.struct fs)) (hi : (P.info? ty).map (·.size) = some cs.size)
    (hq : tmps.getD q undef = .pointer (some ⟨g', 0, none⟩)) (hg' : Blk w g' t' cs') (hu' : P.underlying ty' = some (.struct fs')) (hi' : (P.info? ty').map (·.size) = some cs'.size) :
    (results fn tmps).run P w = .ok (.tuple #[.agg cs, .agg cs']) w := by
  have e1 := run_loadVar_row (P := P) w g t ty cs (0, 0) _ hg hu rfl hi
  have e2 := run_loadVar_row (P := P) w g' t' ty' cs' (0, 0) _ hg' hu' rfl hi'
  simp only [results, h]
  simp at hp hq
  simp [Sem.run_bind, Result.andThen, hp, hq, asAddr, e1, e2]

theorem Stks.held {w : World} {A : Option Addr} {n k : Nat} {xs : List Stk} (h : Stks w A n xs) (hk : k < n) : ∃ b off, A = some ⟨b, off, none⟩ ∧ ∀ W, Below w.heap.size w W → (W.cell? ⟨b, off + k * 5, none⟩ = some (.int .i64 (xs.getD k Stk.zero).wl) ∧ W.cell? ⟨b, off + k * 5 + 1, none⟩ = some (.int .i64 (xs.getD k Stk.zero).wh) ∧
    W.cell? ⟨b, off + k * 5 + 2, none⟩ = some (.int .i64 (xs.getD k Stk.zero).tl) ∧ W.cell? ⟨b, off + k * 5 + 3, none⟩ = some (.int .i64 (xs.getD k Stk.zero).th) ∧ W.cell? ⟨b, off + k * 5 + 4, none⟩ = some (.int .i64 (xs.getD k Stk.zero).pl)) := by
  obtain ⟨b, off, e, hb, h0, h1, h2, h3, h4⟩ := h.at_ hk
  have g : ∀ (W : World) (o : Nat) (u : Value), Below w.heap.size w W → w.cell? ⟨b, o, none⟩ = some u → W.cell? ⟨b, o, none⟩ = some u := fun W o u hB hu => (hB.cell (p := ⟨b, o, none⟩) hb).trans hu
  exact ⟨b, off, e, fun W hB => ⟨g W _ _ hB h0, g W _ _ hB h1, g W _ _ hB h2, g W _ _ hB h3, g W _ _ hB h4⟩⟩

set_option maxRecDepth 100000 in
set_option maxHeartbeats 4000000 in
theorem RefSums_any (l : List Stk) (A : Option Addr) (n c : Nat) (w : World) (hs : StkB l) (h : Stks w A n l) :
    Calls Try.prog 44 #[.slice A n c] w fun e w' => e = .returned (.tuple #[.agg #[.int .i64 (sumLo false l), .int .i64 (sumHi false l)], .agg #[.int .i64 (sumLo true l), .int .i64 (sumHi true l)]]) ∧ Below w.heap.size w w' := by
  have hl := h.len
  have hn := hs.n
  rw [hl] at hn
  have HG := Lib.hid h
  have Hl := Lib.hid hl
  have E0 := Lib.hid (Env4.start w)
  have HN1 := Lib.hid (fun u k (hk : k < l.length) => map_sum_take (tlo u) l Stk.zero k hk)
  have HD1 := Lib.hid (fun u k (hk : k < l.length) => map_sum_take (thi u) l Stk.zero k hk)
  have HB1 := Lib.hid (fun u k => sumLo_bd (hs.take k) u)
  have HB2 := Lib.hid (fun u k => sumHi_bd (hs.take k) u)
  have HE : Hid (∀ u, ((l.take n).map (tlo u)).sum = sumLo u l ∧ ((l.take n).map (thi u)).sum = sumHi u l) := by unfold Hid sumLo sumHi; rw [List.take_of_length_le (by omega)]; exact fun _ => ⟨rfl, rfl⟩
  have HY := Lib.hid (fun u k (hk : k < n) => show 1 ≤ tlo u (l.getD k Stk.zero) ∧ tlo u (l.getD k Stk.zero) ≤ 10000 ∧ 1 ≤ thi u (l.getD k Stk.zero) ∧ thi u (l.getD k Stk.zero) ≤ 10000 from by
    have e : l.getD k Stk.zero = l[k]'(by omega) := by simp [List.getD, show k < l.length from by omega]
    rw [e]; exact ⟨(tlo_bd hs u _ (List.getElem_mem _)).1, (tlo_bd hs u _ (List.getElem_mem _)).2, thi_bd hs u _ (List.getElem_mem _)⟩)
  have HM0 : Hid (∀ s : Stk, tlo false s = s.wl) := fun _ => rfl
  have HW0 : Hid (∀ s : Stk, thi false s = s.wh) := fun _ => rfl
  have HM1 : Hid (∀ s : Stk, tlo true s = s.tl) := fun _ => rfl
  have HW1 : Hid (∀ s : Stk, thi true s = s.th) := fun _ => rfl
  have HZ : Hid (∀ u, ((l.take 0).map (tlo u)).sum = 0 ∧ ((l.take 0).map (thi u)).sum = 0) := fun _ => ⟨rfl, rfl⟩
  unfold sumLo at HB1
  unfold sumHi at HB2
  clear hl h hs
  generalize sumLo = rn at *
  generalize sumHi = rd at *
  generalize tlo = m at *
  generalize thi = v at *
  generalize hnum : (fun u k => ((l.take k).map (m u)).sum) = num at *
  generalize hden : (fun u k => ((l.take k).map (v u)).sum) = den at *
  have en : ∀ u k, ((l.take k).map (m u)).sum = num u k := fun u k => by rw [← hnum]
  have ed : ∀ u k, ((l.take k).map (v u)).sum = den u k := fun u k => by rw [← hden]
  simp only [en, ed] at HN1 HD1 HB1 HB2 HE HZ
  clear en ed hnum hden
  go_enter Try.func44, Try.ntmps44
  go_wp2
  go_loopw [6] (fun i wr => ∃ k : Nat, k ≤ n ∧ i = .int .i64 k ∧ Env4 w wr #[.int .i64 0, .int .i64 0] #[.int .i64 0, .int .i64 0] #[.int .i64 (num false k), .int .i64 (den false k)] #[.int .i64 (num true k), .int .i64 (den true k)]) (fun i _ => n - (intOf i).toNat)
  case atStart => exact ⟨0, Nat.zero_le _, rfl, by rw [(HZ.out false).1, (HZ.out false).2, (HZ.out true).1, (HZ.out true).2]; exact E0.out⟩
  case round =>
    obtain ⟨k, hk, rfl, hE⟩ := hrel
    have E1 := Lib.hid hE
    clear hE
    by_cases hlt : k < n
    · obtain ⟨b, off, rfl, hcells⟩ := HG.out.held hlt
      have HCl := Lib.hid hcells
      clear hcells
      have hn0 := Lib.hid (HN1.out false k (by rw [Hl.out]; exact hlt))
      have hd0 := Lib.hid (HD1.out false k (by rw [Hl.out]; exact hlt))
      have hn1 := Lib.hid (HN1.out true k (by rw [Hl.out]; exact hlt))
      have hd1 := Lib.hid (HD1.out true k (by rw [Hl.out]; exact hlt))
      have hy0 := HY.out false k hlt
      have hy1 := HY.out true k hlt
      have hb1 := HB1.out false k
      have hb2 := HB2.out false k
      have hb3 := HB1.out true k
      have hb4 := HB2.out true k
      rw [HM0.out, HW0.out] at hy0
      rw [HM1.out, HW1.out] at hy1
      rw [HM0.out] at hn0
      rw [HW0.out] at hd0
      rw [HM1.out] at hn1
      rw [HW1.out] at hd1
      generalize l.getD k Stk.zero = y at *
      obtain ⟨yl, yh, zl, zh, pl⟩ := y
      simp only at HCl hy0 hy1 hn0 hd0 hn1 hd1
      have j1 : IntKind.i64.wrap (num false k + yl) = num false k + yl := IntWalk.i64_in _ (by omega)
      have j2 : IntKind.i64.wrap (den false k + yh) = den false k + yh := IntWalk.i64_in _ (by omega)
      have j3 : IntKind.i64.wrap (num true k + zl) = num true k + zl := IntWalk.i64_in _ (by omega)
      have j4 : IntKind.i64.wrap (den true k + zh) = den true k + zh := IntWalk.i64_in _ (by omega)
      have E2 := Lib.hid (E1.out.drewd.putR (.int .i64 (num false k + yl)) (.int .i64 (den false k + yh)))
      have E3 := Lib.hid (E2.out.drewd.putS (.int .i64 (num true k + zl)) (.int .i64 (den true k + zh)))
      have r1 := pair_get E1.out.drewd.r
      have c1 := HCl.out _ E1.out.e.bel
      go_wp2_with fail
      go_still_tail 19, (by kernel_rfl)
      change wpList _ _ _ _ _ wr.drew
      generalize wr.drew = w2 at *
      clear c1
      go_wp2_with fail
      generalize (w2.setCell ⟨w.heap.size + 2, 0, none⟩ (.int .i64 (num false k + yl))).setCell ⟨w.heap.size + 2, 1, none⟩ (.int .i64 (den false k + yh)) = w3 at *
      have r2 := pair_get E2.out.drewd.s
      have c2 := HCl.out _ E2.out.e.bel
      clear r1
      go_still_tail 19, (by kernel_rfl)
      change wpList _ _ _ _ _ w3.drew
      generalize w3.drew = w4 at *
      clear c2
      go_wp2_with fail
      go_roundw
      case rel => exact ⟨k + 1, by omega, by go_num, by rw [hn0.out, hd0.out, hn1.out, hd1.out]; exact E3.out⟩
      case measure => simp [intOf]; omega
    · obtain rfl : k = n := by omega
      have E2 := Lib.hid E1.out.drewd
      have r1 := pair_get E1.out.r
      have r2 := pair_get E1.out.s
      have r3 := pair_get E1.out.e.p
      have r4 := pair_get E1.out.e.q
      go_wp2_with fail
      go_region
      all_goals go_wp2
      exact bodyPost_ret (results_cc rfl _ _ _ w.heap.size (w.heap.size + 1) _ _ _ _ _ _ rfl ((((E2.out.e.p.set_ 0 _).set_ 1 _).far (p := ⟨w.heap.size + 1, 0, none⟩) (by simp) _).far (p := ⟨w.heap.size + 1, 1, none⟩) (by simp) _) Try.underlying23 (by kernel_rfl) rfl ((((E2.out.e.q.far (p := ⟨w.heap.size, 0, none⟩) (by simp) _).far (p := ⟨w.heap.size, 1, none⟩) (by simp) _).set_ 0 _).set_ 1 _) Try.underlying23 (by kernel_rfl)) rfl
        ⟨by rw [(HE.out false).1, (HE.out false).2, (HE.out true).1, (HE.out true).2]; rfl, (((E2.out.e.bel.setCell (p := ⟨w.heap.size, 0, none⟩) (Nat.le_refl _) _).setCell (p := ⟨w.heap.size, 1, none⟩) (Nat.le_refl _) _).setCell (p := ⟨w.heap.size + 1, 0, none⟩) (by simp) _).setCell (p := ⟨w.heap.size + 1, 1, none⟩) (by simp) _⟩
end Go.Proofs.Ytdekickmplkdiaa
