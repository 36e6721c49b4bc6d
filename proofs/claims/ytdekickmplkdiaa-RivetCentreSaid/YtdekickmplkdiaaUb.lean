/- Walks: together, Closed, Holds. -/
import Derived.Test.YtdekickmplkdiaaUa
import Derived.Test.YtdekickmplkdiaaKb
namespace Go.Proofs.Ytdekickmplkdiaa
open Go.RowKit

def tlo (u : Bool) (s : Stk) : Int := bif u then s.tl else s.wl
def thi (u : Bool) (s : Stk) : Int := bif u then s.th else s.wh
def sumLo (u : Bool) (l : List Stk) : Int := (l.map (tlo u)).sum
def sumHi (u : Bool) (l : List Stk) : Int := (l.map (thi u)).sum
theorem tlo_bd {l : List Stk} (h : StkB l) (u : Bool) : ∀ s ∈ l, 1 ≤ tlo u s ∧ tlo u s ≤ 10000 := by
  intro s hs
  have := h.s s hs
  unfold tlo; cases u <;> simp only [cond_true, cond_false] <;> omega
theorem thi_bd {l : List Stk} (h : StkB l) (u : Bool) : ∀ s ∈ l, 1 ≤ thi u s ∧ thi u s ≤ 10000 := by
  intro s hs
  have := h.s s hs
  unfold thi; cases u <;> simp only [cond_true, cond_false] <;> omega
theorem sumLo_bd {l : List Stk} (h : StkB l) (u : Bool) : 0 ≤ sumLo u l ∧ sumLo u l ≤ 120000 := by
  have := map_sum_bd (tlo u) l 1 10000 (tlo_bd h u)
  have hn := h.n
  unfold sumLo; omega
theorem sumHi_bd {l : List Stk} (h : StkB l) (u : Bool) : 0 ≤ sumHi u l ∧ sumHi u l ≤ 120000 := by
  have := map_sum_bd (thi u) l 1 10000 (thi_bd h u)
  have hn := h.n
  unfold sumHi; omega
theorem Env2.setRowFar {w W : World} {t1 t2 : TypeId} {c1 c2 : Array Value} (h : Env2 w W t1 t2 c1 c2) {g : Nat} (hg : w.heap.size + 1 < g) (cs : Array Value) : Env2 w (W.setRow g cs) t1 t2 c1 c2 :=
  ⟨h.p.setRow_far (by omega) cs, h.q.setRow_far (by omega) cs, below_setR h.bel (by omega) cs⟩
theorem Env2.putQ {w W : World} {t1 t2 : TypeId} {c1 : Array Value} {a b : Value} (h : Env2 w W t1 t2 c1 #[a, b]) (a' b' : Value) : Env2 w ((W.setCell ⟨w.heap.size + 1, 0, none⟩ a').setCell ⟨w.heap.size + 1, 1, none⟩ b') t1 t2 c1 #[a', b'] :=
  ⟨(h.p.far (p := ⟨w.heap.size + 1, 0, none⟩) (by simp) a').far (p := ⟨w.heap.size + 1, 1, none⟩) (by simp) b', (h.q.set_ 0 a').set_ 1 b', (h.bel.setCell (p := ⟨w.heap.size + 1, 0, none⟩) (by simp) a').setCell (p := ⟨w.heap.size + 1, 1, none⟩) (by simp) b'⟩
theorem pair_get {W : World} {g : Nat} {t : TypeId} {x0 x1 : Value} (h : Blk W g t #[x0, x1]) : W.cell? ⟨g, 0, none⟩ = some x0 ∧ W.cell? ⟨g, 1, none⟩ = some x1 ∧ W.frozen? ⟨g, 0, none⟩ = false ∧ W.frozen? ⟨g, 1, none⟩ = false := ⟨h.cell 0, h.cell 1, h.frozen 0, h.frozen 1⟩

/-- The sums of two spans, one after the other. -/
def acc2 (a c : Int) : Nat → Int
  | 0 => 0
  | 1 => a
  | _ => a + c
set_option maxRecDepth 100000 in
set_option maxHeartbeats 4000000 in
theorem Sum2_any (a b c d : Int) (A : Option Addr) (cp : Nat) (w : World) (h : Pairs w A 2 [(a, b), (c, d)]) (h1 : 0 ≤ a ∧ a ≤ 1000000) (h2 : 0 ≤ b ∧ b ≤ 1000000) (h3 : 0 ≤ c ∧ c ≤ 1000000) (h4 : 0 ≤ d ∧ d ≤ 1000000) :
    Calls Try.prog 115 #[.slice A 2 cp] w fun e w' => e = .returned (.agg #[.int .i64 (a + c), .int .i64 (b + d)]) ∧ Below w.heap.size w w' := by
  have HG := Lib.hid h
  have E0 := Lib.hid (Env2.start w 23 23 #[.int .i64 0, .int .i64 0] #[.int .i64 0, .int .i64 0])
  have HN : Hid (∀ k : Nat, k < 2 → acc2 a c (k + 1) = acc2 a c k + ([(a, b), (c, d)].getD k (0, 0)).1 ∧ 0 ≤ acc2 a c k ∧ acc2 a c k ≤ 1000000 ∧ 0 ≤ ([(a, b), (c, d)].getD k (0, 0)).1 ∧ ([(a, b), (c, d)].getD k (0, 0)).1 ≤ 1000000) := fun k hk => by
    rcases (by omega : k = 0 ∨ k = 1) with rfl | rfl <;> simp [acc2] <;> omega
  have HD : Hid (∀ k : Nat, k < 2 → acc2 b d (k + 1) = acc2 b d k + ([(a, b), (c, d)].getD k (0, 0)).2 ∧ 0 ≤ acc2 b d k ∧ acc2 b d k ≤ 1000000 ∧ 0 ≤ ([(a, b), (c, d)].getD k (0, 0)).2 ∧ ([(a, b), (c, d)].getD k (0, 0)).2 ≤ 1000000) := fun k hk => by
    rcases (by omega : k = 0 ∨ k = 1) with rfl | rfl <;> simp [acc2] <;> omega
  have HZ : Hid (acc2 a c 0 = 0 ∧ acc2 b d 0 = 0 ∧ acc2 a c 2 = a + c ∧ acc2 b d 2 = b + d) := ⟨rfl, rfl, rfl, rfl⟩
  clear h h1 h2 h3 h4
  generalize acc2 a c = num at *
  generalize acc2 b d = den at *
  generalize [(a, b), (c, d)] = L at *
  go_enter Try.func115, Try.ntmps115
  go_wp2
  go_loopw [8] (fun i wr => ∃ k : Nat, k ≤ 2 ∧ i = .int .i64 k ∧ Env2 w wr 23 23 #[.int .i64 0, .int .i64 0] #[.int .i64 (num k), .int .i64 (den k)]) (fun i _ => 2 - (intOf i).toNat)
  case atStart => exact ⟨0, Nat.zero_le _, rfl, by rw [HZ.out.1, HZ.out.2.1]; exact E0.out⟩
  case round =>
    obtain ⟨k, hk, rfl, hE⟩ := hrel
    have E1 := Lib.hid hE
    clear hE
    by_cases hlt : k < 2
    · obtain ⟨bb, off, rfl, hb, hc0, hc1⟩ := (HG.out.below E1.out.bel).at_ hlt
      have hn1 := HN.out k hlt
      have hd1 := HD.out k hlt
      have HN1 := Lib.hid hn1.1
      have HD1 := Lib.hid hd1.1
      generalize L.getD k (0, 0) = y at *
      obtain ⟨yl, yh⟩ := y
      simp only at hc0 hc1 hn1 hd1 HN1 HD1
      obtain ⟨_, n1, n2, n3, n4⟩ := hn1
      obtain ⟨_, d1, d2, d3, d4⟩ := hd1
      have w1 : IntKind.i64.wrap (num k + yl) = num k + yl := IntWalk.i64_in _ (by omega)
      have w2 : IntKind.i64.wrap (den k + yh) = den k + yh := IntWalk.i64_in _ (by omega)
      have E2 := Lib.hid (E1.out.alloc (.cells #[.int .i64 yl, .int .i64 yh] 23))
      have r5 := pair_get E1.out.q
      have hz := E1.out.q.lt
      have nq : w.heap.size + 1 ≠ wr.heap.size := by omega
      go_wp2_with fail
      have N5 := Lib.hid ((E1.out.putQ (.int .i64 (num k + yl)) (.int .i64 (den k + yh))).alloc (.cells #[.int .i64 yl, .int .i64 yh] 23))
      go_roundw
      case rel => exact ⟨k + 1, by omega, by go_num, by rw [HN1.out, HD1.out]; exact N5.out⟩
      case measure => simp [intOf]; omega
    · obtain rfl : k = 2 := by omega
      have r5 := pair_get E1.out.q
      have q5 := pair_get E1.out.p
      go_wp2
      exact bodyPost_ret (results_c rfl _ _ _ w.heap.size _ _ _ rfl ((E1.out.p.set_ 0 _).set_ 1 _) Try.underlying23 (by kernel_rfl)) rfl ⟨by rw [HZ.out.2.2.1, HZ.out.2.2.2]; rfl, (E1.out.bel.setCell (p := ⟨w.heap.size, 0, none⟩) (Nat.le_refl _) _).setCell (p := ⟨w.heap.size, 1, none⟩) (Nat.le_refl _) _⟩
/-- What a round of together looks at. -/
def STG (g g7 : Nat) (x y s0 s1 s2 s3 s4 : Value) (W : World) : Prop := (W.cell? ⟨g, 0, none⟩ = some x ∧ W.cell? ⟨g, 1, none⟩ = some y) ∧ W.cell? ⟨g7, 0, none⟩ = some s0 ∧ W.cell? ⟨g7, 1, none⟩ = some s1 ∧ W.cell? ⟨g7, 2, none⟩ = some s2 ∧ W.cell? ⟨g7, 3, none⟩ = some s3 ∧ W.cell? ⟨g7, 4, none⟩ = some s4
theorem STG.of {w W : World} {c1 : Array Value} {x y s0 s1 s2 s3 s4 : Value} {g7 : Nat} {ty : TypeId} (h : Env2 w W 23 23 c1 #[x, y]) (h7 : Blk W g7 ty #[s0, s1, s2, s3, s4]) : STG (w.heap.size + 1) g7 x y s0 s1 s2 s3 s4 W :=
  ⟨⟨h.q.cell 0, h.q.cell 1⟩, h7.cell 0, h7.cell 1, h7.cell 2, h7.cell 3, h7.cell 4⟩

set_option maxRecDepth 100000 in
set_option maxHeartbeats 4000000 in
theorem togetherfalse_any (l : List Stk) (A : Option Addr) (n c : Nat) (w : World) (hs : StkB l) (h : Stks w A n l) :
    Calls Try.prog 86 #[.slice A n c, .func (.func 87) #[] #[]] w fun e w' => e = .returned (.agg #[.int .i64 (sumLo false l), .int .i64 (sumHi false l)]) ∧ Below w.heap.size w w' := by
  have hl := h.len
  have hn := hs.n
  rw [hl] at hn
  have HG := Lib.hid h
  have Hl := Lib.hid hl
  have E0 := Lib.hid (Env2.start w 23 23 #[.int .i64 0, .int .i64 0] #[.int .i64 0, .int .i64 0])
  have HN1 := Lib.hid (fun k (hk : k < l.length) => map_sum_take (tlo false) l Stk.zero k hk)
  have HD1 := Lib.hid (fun k (hk : k < l.length) => map_sum_take (thi false) l Stk.zero k hk)
  have HB1 := Lib.hid (fun k => sumLo_bd (hs.take k) false)
  have HB2 := Lib.hid (fun k => sumHi_bd (hs.take k) false)
  have HE : Hid (((l.take n).map (tlo false)).sum = sumLo false l ∧ ((l.take n).map (thi false)).sum = sumHi false l) := by unfold Hid sumLo sumHi; rw [List.take_of_length_le (by omega)]; exact ⟨rfl, rfl⟩
  have HY := Lib.hid (fun k (hk : k < n) => show 1 ≤ tlo false (l.getD k Stk.zero) ∧ tlo false (l.getD k Stk.zero) ≤ 10000 ∧ 1 ≤ thi false (l.getD k Stk.zero) ∧ thi false (l.getD k Stk.zero) ≤ 10000 from by
    have e : l.getD k Stk.zero = l[k]'(by omega) := by simp [List.getD, show k < l.length from by omega]
    rw [e]; exact ⟨(tlo_bd hs false _ (List.getElem_mem _)).1, (tlo_bd hs false _ (List.getElem_mem _)).2, thi_bd hs false _ (List.getElem_mem _)⟩)
  have HM : Hid (∀ s : Stk, tlo false s = s.wl) := fun _ => rfl
  have HW : Hid (∀ s : Stk, thi false s = s.wh) := fun _ => rfl
  have HZ : Hid (((l.take 0).map (tlo false)).sum = 0 ∧ ((l.take 0).map (thi false)).sum = 0) := ⟨rfl, rfl⟩
  unfold sumLo at HB1
  unfold sumHi at HB2
  clear hl h hs
  generalize sumLo false l = rn at *
  generalize sumHi false l = rd at *
  generalize tlo false = m at *
  generalize thi false = v at *
  generalize hnum : (fun k => ((l.take k).map m).sum) = num at *
  generalize hden : (fun k => ((l.take k).map v).sum) = den at *
  have en : ∀ k, ((l.take k).map m).sum = num k := fun k => by rw [← hnum]
  have ed : ∀ k, ((l.take k).map v).sum = den k := fun k => by rw [← hden]
  simp only [en, ed] at HN1 HD1 HB1 HB2 HE HZ
  clear en ed hnum hden
  go_enter Try.func86, Try.ntmps86
  go_wp2
  go_loopw [10] (fun i wr => ∃ k : Nat, k ≤ n ∧ i = .int .i64 k ∧ Env2 w wr 23 23 #[.int .i64 0, .int .i64 0] #[.int .i64 (num k), .int .i64 (den k)]) (fun i _ => n - (intOf i).toNat)
  case atStart => exact ⟨0, Nat.zero_le _, rfl, by rw [HZ.out.1, HZ.out.2]; exact E0.out⟩
  case round =>
    obtain ⟨k, hk, rfl, hE⟩ := hrel
    have E1 := Lib.hid hE
    clear hE
    by_cases hlt : k < n
    · obtain ⟨b, off, rfl, hb, hc0, hc1, hc2, hc3, hc4⟩ := (HG.out.below E1.out.bel).at_ hlt
      have hn1 := Lib.hid (HN1.out k (by rw [Hl.out]; exact hlt))
      have hd1 := Lib.hid (HD1.out k (by rw [Hl.out]; exact hlt))
      have hy := HY.out k hlt
      have hb1 := HB1.out k
      have hb2 := HB2.out k
      rw [HM.out, HW.out] at hy
      rw [HM.out] at hn1
      rw [HW.out] at hd1
      generalize l.getD k Stk.zero = y at *
      obtain ⟨yl, yh, zl, zh, pl⟩ := y
      simp only at hc0 hc1 hc2 hc3 hc4 hy hn1 hd1
      have HS2 := Lib.hid (fun (A : Option Addr) (cp : Nat) (W : World) (h : Pairs W A 2 [(num k, den k), (yl, yh)]) => Sum2_any (num k) (den k) yl yh A cp W h (by omega) (by omega) (by omega) (by omega))
      have E2 := Lib.hid (E1.out.alloc (.cells #[.int .i64 yl, .int .i64 yh, .int .i64 zl, .int .i64 zh, .int .i64 pl] 106)).drewd
      have b7 : Hid (Blk ((wr.alloc (.cells #[.int .i64 yl, .int .i64 yh, .int .i64 zl, .int .i64 zh, .int .i64 pl] 106)).drew) wr.heap.size 106 #[.int .i64 yl, .int .i64 yh, .int .i64 zl, .int .i64 zh, .int .i64 pl]) := Lib.hid (Blk.new wr _ _ rfl)
      have S0 : STG (w.heap.size + 1) wr.heap.size (.int .i64 (num k)) (.int .i64 (den k)) (.int .i64 yl) (.int .i64 yh) (.int .i64 zl) (.int .i64 zh) (.int .i64 pl) ((wr.alloc (.cells #[.int .i64 yl, .int .i64 yh, .int .i64 zl, .int .i64 zh, .int .i64 pl] 106)).drew) := STG.of (ty := 106) E2.out b7.out
      clear hy hb1 hb2
      go_wp2_with fail
      clear hc0 hc1 hc2 hc3 hc4
      refine wp_region_untl (S := STG (w.heap.size + 1) wr.heap.size (.int .i64 (num k)) (.int .i64 (den k)) (.int .i64 yl) (.int .i64 yh) (.int .i64 zl) (.int .i64 zh) (.int .i64 pl)) [6] (by kernel_rfl) S0 (fun _ => ?_)
      generalize (wr.alloc (.cells #[.int .i64 yl, .int .i64 yh, .int .i64 zl, .int .i64 zh, .int .i64 pl] 106)).drew = v0 at *
      refine untlTake (i := 0) 14 (v := ?v1) rfl (by kernel_rfl) (by kernel_rfl) (by kernel_rfl) (by kernel_rfl) (by kernel_rfl) (by kernel_rfl) (fun _ _ _ h => h) (Or.inl ⟨by rfl, ?y1⟩) (by assumption) ?r1
      case y1 => (intro w hSw; obtain ⟨⟨g0, g1⟩, g2, g3, g4, g5, g6⟩ := hSw; go_simp; try with_reducible rfl)
      refine untlTake (i := 1) 15 (v := ?v2) rfl (by kernel_rfl) (by kernel_rfl) (by kernel_rfl) (by kernel_rfl) (by kernel_rfl) (by kernel_rfl) (fun _ _ _ h => h) (Or.inl ⟨by rfl, ?y2⟩) (by assumption) ?r2
      case y2 => (intro w hSw; obtain ⟨⟨g0, g1⟩, g2, g3, g4, g5, g6⟩ := hSw; go_simp; try with_reducible rfl)
      refine untlTake (i := 2) 16 (v := ?v3) rfl (by kernel_rfl) (by kernel_rfl) (by kernel_rfl) (by kernel_rfl) (by kernel_rfl) (by kernel_rfl) (fun _ _ _ h => h) (Or.inl ⟨by rfl, ?y3⟩) (by assumption) ?r3
      case y3 => (intro w hSw; obtain ⟨⟨g0, g1⟩, g2, g3, g4, g5, g6⟩ := hSw; go_simp; try with_reducible rfl)
      simp only [Act.put, List.setIfInBounds_toArray, List.set_cons_zero, List.set_cons_succ]
      refine untlStep (i := 3) (by kernel_rfl) rfl (fun K3 hK3 => ?_)
      rw [if_pos (by rfl)]
      go_simp
      refine (weightOf_any _ _ _ _ _ _).mono ?_
      rintro e v3 ⟨rfl, b3⟩
      have E3 := Lib.hid (E2.out.below b3)
      have B7 := Lib.hid (blk_keep b3 b7.out)
      clear b3 E2 S0 b7
      have S3 : STG (w.heap.size + 1) wr.heap.size (.int .i64 (num k)) (.int .i64 (den k)) (.int .i64 yl) (.int .i64 yh) (.int .i64 zl) (.int .i64 zh) (.int .i64 pl) v3 := STG.of E3.out B7.out
      refine hK3.out _ _ (.inr S3) ?_
      refine untlStep (i := 4) (by kernel_rfl) rfl (fun K4 hK4 => ?_)
      go_simp
      have E4 := Lib.hid (E3.out.alloc (.cells #[.int .i64 (num k), .int .i64 (den k), .int .i64 yl, .int .i64 yh] 23))
      have S4 : STG (w.heap.size + 1) wr.heap.size (.int .i64 (num k)) (.int .i64 (den k)) (.int .i64 yl) (.int .i64 yh) (.int .i64 zl) (.int .i64 zh) (.int .i64 pl) (v3.alloc (.cells #[.int .i64 (num k), .int .i64 (den k), .int .i64 yl, .int .i64 yh] 23)) := STG.of E4.out (blk_keep (below_self v3 _) B7.out)
      have P4 := Lib.hid (pairs_new2 v3 (num k) (den k) yl yh 23 rfl)
      clear E3 S3
      refine hK4.out _ _ (.inr S4) ?_
      refine untlStep (i := 5) (by kernel_rfl) rfl (fun K5 hK5 => ?_)
      rw [if_pos (by rfl)]
      go_simp
      refine (HS2.out _ _ _ P4.out).mono ?_
      rintro e v5 ⟨rfl, b5⟩
      have E5 := Lib.hid (E4.out.below b5)
      have S5 : STG (w.heap.size + 1) wr.heap.size (.int .i64 (num k)) (.int .i64 (den k)) (.int .i64 yl) (.int .i64 yh) (.int .i64 zl) (.int .i64 zh) (.int .i64 pl) v5 := STG.of E5.out (blk_keep b5 (blk_keep (below_self v3 _) B7.out))
      clear b5 E4 S4 P4 B7 HS2
      refine hK5.out _ _ (.inr S5) ?_
      refine untlStep (i := 6) (by kernel_rfl) rfl (fun K6 hK6 => ?_)
      rw [if_pos (by rfl)]
      refine wp_store_rowN rfl _ _ _ rfl _ _ rfl rfl _ _ E5.out.q (by kernel_rfl) rfl (ones2c _ _) ?_
      have N5 := Lib.hid (show Env2 w (v5.setRow (w.heap.size + 1) #[.int .i64 (num k + yl), .int .i64 (den k + yh)]) 23 23 #[.int .i64 0, .int .i64 0] #[.int .i64 (num k + yl), .int .i64 (den k + yh)] from ⟨E5.out.p.setRow_far (by omega) _, E5.out.q.setRow _, below_setR E5.out.bel (Nat.le_succ _) _⟩)
      refine hK6.out _ _ (.inl (by decide)) ?_
      refine untlDone (by kernel_rfl) ?_ _
      go_wp2_with fail
      go_roundw
      case rel => exact ⟨k + 1, by omega, by go_num, by rw [hn1.out, hd1.out]; exact N5.out⟩
      case measure => simp [intOf]; omega
    · obtain rfl : k = n := by omega
      have r5 := pair_get E1.out.q
      have q5 := pair_get E1.out.p
      go_wp2
      exact bodyPost_ret (results_c rfl _ _ _ w.heap.size _ _ _ rfl ((E1.out.p.set_ 0 _).set_ 1 _) Try.underlying23 (by kernel_rfl)) rfl ⟨by rw [← HE.out.1, ← HE.out.2]; rfl, (E1.out.bel.setCell (p := ⟨w.heap.size, 0, none⟩) (Nat.le_refl _) _).setCell (p := ⟨w.heap.size, 1, none⟩) (Nat.le_refl _) _⟩

set_option maxRecDepth 100000 in
set_option maxHeartbeats 4000000 in
theorem togethertrue_any (l : List Stk) (A : Option Addr) (n c : Nat) (w : World) (hs : StkB l) (h : Stks w A n l) :
    Calls Try.prog 86 #[.slice A n c, .func (.func 88) #[] #[]] w fun e w' => e = .returned (.agg #[.int .i64 (sumLo true l), .int .i64 (sumHi true l)]) ∧ Below w.heap.size w w' := by
  have hl := h.len
  have hn := hs.n
  rw [hl] at hn
  have HG := Lib.hid h
  have Hl := Lib.hid hl
  have E0 := Lib.hid (Env2.start w 23 23 #[.int .i64 0, .int .i64 0] #[.int .i64 0, .int .i64 0])
  have HN1 := Lib.hid (fun k (hk : k < l.length) => map_sum_take (tlo true) l Stk.zero k hk)
  have HD1 := Lib.hid (fun k (hk : k < l.length) => map_sum_take (thi true) l Stk.zero k hk)
  have HB1 := Lib.hid (fun k => sumLo_bd (hs.take k) true)
  have HB2 := Lib.hid (fun k => sumHi_bd (hs.take k) true)
  have HE : Hid (((l.take n).map (tlo true)).sum = sumLo true l ∧ ((l.take n).map (thi true)).sum = sumHi true l) := by unfold Hid sumLo sumHi; rw [List.take_of_length_le (by omega)]; exact ⟨rfl, rfl⟩
  have HY := Lib.hid (fun k (hk : k < n) => show 1 ≤ tlo true (l.getD k Stk.zero) ∧ tlo true (l.getD k Stk.zero) ≤ 10000 ∧ 1 ≤ thi true (l.getD k Stk.zero) ∧ thi true (l.getD k Stk.zero) ≤ 10000 from by
    have e : l.getD k Stk.zero = l[k]'(by omega) := by simp [List.getD, show k < l.length from by omega]
    rw [e]; exact ⟨(tlo_bd hs true _ (List.getElem_mem _)).1, (tlo_bd hs true _ (List.getElem_mem _)).2, thi_bd hs true _ (List.getElem_mem _)⟩)
  have HM : Hid (∀ s : Stk, tlo true s = s.tl) := fun _ => rfl
  have HW : Hid (∀ s : Stk, thi true s = s.th) := fun _ => rfl
  have HZ : Hid (((l.take 0).map (tlo true)).sum = 0 ∧ ((l.take 0).map (thi true)).sum = 0) := ⟨rfl, rfl⟩
  unfold sumLo at HB1
  unfold sumHi at HB2
  clear hl h hs
  generalize sumLo true l = rn at *
  generalize sumHi true l = rd at *
  generalize tlo true = m at *
  generalize thi true = v at *
  generalize hnum : (fun k => ((l.take k).map m).sum) = num at *
  generalize hden : (fun k => ((l.take k).map v).sum) = den at *
  have en : ∀ k, ((l.take k).map m).sum = num k := fun k => by rw [← hnum]
  have ed : ∀ k, ((l.take k).map v).sum = den k := fun k => by rw [← hden]
  simp only [en, ed] at HN1 HD1 HB1 HB2 HE HZ
  clear en ed hnum hden
  go_enter Try.func86, Try.ntmps86
  go_wp2
  go_loopw [10] (fun i wr => ∃ k : Nat, k ≤ n ∧ i = .int .i64 k ∧ Env2 w wr 23 23 #[.int .i64 0, .int .i64 0] #[.int .i64 (num k), .int .i64 (den k)]) (fun i _ => n - (intOf i).toNat)
  case atStart => exact ⟨0, Nat.zero_le _, rfl, by rw [HZ.out.1, HZ.out.2]; exact E0.out⟩
  case round =>
    obtain ⟨k, hk, rfl, hE⟩ := hrel
    have E1 := Lib.hid hE
    clear hE
    by_cases hlt : k < n
    · obtain ⟨b, off, rfl, hb, hc0, hc1, hc2, hc3, hc4⟩ := (HG.out.below E1.out.bel).at_ hlt
      have hn1 := Lib.hid (HN1.out k (by rw [Hl.out]; exact hlt))
      have hd1 := Lib.hid (HD1.out k (by rw [Hl.out]; exact hlt))
      have hy := HY.out k hlt
      have hb1 := HB1.out k
      have hb2 := HB2.out k
      rw [HM.out, HW.out] at hy
      rw [HM.out] at hn1
      rw [HW.out] at hd1
      generalize l.getD k Stk.zero = y at *
      obtain ⟨yl, yh, zl, zh, pl⟩ := y
      simp only at hc0 hc1 hc2 hc3 hc4 hy hn1 hd1
      have HS2 := Lib.hid (fun (A : Option Addr) (cp : Nat) (W : World) (h : Pairs W A 2 [(num k, den k), (zl, zh)]) => Sum2_any (num k) (den k) zl zh A cp W h (by omega) (by omega) (by omega) (by omega))
      have E2 := Lib.hid (E1.out.alloc (.cells #[.int .i64 yl, .int .i64 yh, .int .i64 zl, .int .i64 zh, .int .i64 pl] 106)).drewd
      have b7 : Hid (Blk ((wr.alloc (.cells #[.int .i64 yl, .int .i64 yh, .int .i64 zl, .int .i64 zh, .int .i64 pl] 106)).drew) wr.heap.size 106 #[.int .i64 yl, .int .i64 yh, .int .i64 zl, .int .i64 zh, .int .i64 pl]) := Lib.hid (Blk.new wr _ _ rfl)
      have S0 : STG (w.heap.size + 1) wr.heap.size (.int .i64 (num k)) (.int .i64 (den k)) (.int .i64 yl) (.int .i64 yh) (.int .i64 zl) (.int .i64 zh) (.int .i64 pl) ((wr.alloc (.cells #[.int .i64 yl, .int .i64 yh, .int .i64 zl, .int .i64 zh, .int .i64 pl] 106)).drew) := STG.of (ty := 106) E2.out b7.out
      clear hy hb1 hb2
      go_wp2_with fail
      clear hc0 hc1 hc2 hc3 hc4
      refine wp_region_untl (S := STG (w.heap.size + 1) wr.heap.size (.int .i64 (num k)) (.int .i64 (den k)) (.int .i64 yl) (.int .i64 yh) (.int .i64 zl) (.int .i64 zh) (.int .i64 pl)) [6] (by kernel_rfl) S0 (fun _ => ?_)
      generalize (wr.alloc (.cells #[.int .i64 yl, .int .i64 yh, .int .i64 zl, .int .i64 zh, .int .i64 pl] 106)).drew = v0 at *
      refine untlTake (i := 0) 14 (v := ?v1) rfl (by kernel_rfl) (by kernel_rfl) (by kernel_rfl) (by kernel_rfl) (by kernel_rfl) (by kernel_rfl) (fun _ _ _ h => h) (Or.inl ⟨by rfl, ?y1⟩) (by assumption) ?r1
      case y1 => (intro w hSw; obtain ⟨⟨g0, g1⟩, g2, g3, g4, g5, g6⟩ := hSw; go_simp; try with_reducible rfl)
      refine untlTake (i := 1) 15 (v := ?v2) rfl (by kernel_rfl) (by kernel_rfl) (by kernel_rfl) (by kernel_rfl) (by kernel_rfl) (by kernel_rfl) (fun _ _ _ h => h) (Or.inl ⟨by rfl, ?y2⟩) (by assumption) ?r2
      case y2 => (intro w hSw; obtain ⟨⟨g0, g1⟩, g2, g3, g4, g5, g6⟩ := hSw; go_simp; try with_reducible rfl)
      refine untlTake (i := 2) 16 (v := ?v3) rfl (by kernel_rfl) (by kernel_rfl) (by kernel_rfl) (by kernel_rfl) (by kernel_rfl) (by kernel_rfl) (fun _ _ _ h => h) (Or.inl ⟨by rfl, ?y3⟩) (by assumption) ?r3
      case y3 => (intro w hSw; obtain ⟨⟨g0, g1⟩, g2, g3, g4, g5, g6⟩ := hSw; go_simp; try with_reducible rfl)
      simp only [Act.put, List.setIfInBounds_toArray, List.set_cons_zero, List.set_cons_succ]
      refine untlStep (i := 3) (by kernel_rfl) rfl (fun K3 hK3 => ?_)
      rw [if_pos (by rfl)]
      go_simp
      refine (thickOf_any _ _ _ _ _ _).mono ?_
      rintro e v3 ⟨rfl, b3⟩
      have E3 := Lib.hid (E2.out.below b3)
      have B7 := Lib.hid (blk_keep b3 b7.out)
      clear b3 E2 S0 b7
      have S3 : STG (w.heap.size + 1) wr.heap.size (.int .i64 (num k)) (.int .i64 (den k)) (.int .i64 yl) (.int .i64 yh) (.int .i64 zl) (.int .i64 zh) (.int .i64 pl) v3 := STG.of E3.out B7.out
      refine hK3.out _ _ (.inr S3) ?_
      refine untlStep (i := 4) (by kernel_rfl) rfl (fun K4 hK4 => ?_)
      go_simp
      have E4 := Lib.hid (E3.out.alloc (.cells #[.int .i64 (num k), .int .i64 (den k), .int .i64 zl, .int .i64 zh] 23))
      have S4 : STG (w.heap.size + 1) wr.heap.size (.int .i64 (num k)) (.int .i64 (den k)) (.int .i64 yl) (.int .i64 yh) (.int .i64 zl) (.int .i64 zh) (.int .i64 pl) (v3.alloc (.cells #[.int .i64 (num k), .int .i64 (den k), .int .i64 zl, .int .i64 zh] 23)) := STG.of E4.out (blk_keep (below_self v3 _) B7.out)
      have P4 := Lib.hid (pairs_new2 v3 (num k) (den k) zl zh 23 rfl)
      clear E3 S3
      refine hK4.out _ _ (.inr S4) ?_
      refine untlStep (i := 5) (by kernel_rfl) rfl (fun K5 hK5 => ?_)
      rw [if_pos (by rfl)]
      go_simp
      refine (HS2.out _ _ _ P4.out).mono ?_
      rintro e v5 ⟨rfl, b5⟩
      have E5 := Lib.hid (E4.out.below b5)
      have S5 : STG (w.heap.size + 1) wr.heap.size (.int .i64 (num k)) (.int .i64 (den k)) (.int .i64 yl) (.int .i64 yh) (.int .i64 zl) (.int .i64 zh) (.int .i64 pl) v5 := STG.of E5.out (blk_keep b5 (blk_keep (below_self v3 _) B7.out))
      clear b5 E4 S4 P4 B7 HS2
      refine hK5.out _ _ (.inr S5) ?_
      refine untlStep (i := 6) (by kernel_rfl) rfl (fun K6 hK6 => ?_)
      rw [if_pos (by rfl)]
      refine wp_store_rowN rfl _ _ _ rfl _ _ rfl rfl _ _ E5.out.q (by kernel_rfl) rfl (ones2c _ _) ?_
      have N5 := Lib.hid (show Env2 w (v5.setRow (w.heap.size + 1) #[.int .i64 (num k + zl), .int .i64 (den k + zh)]) 23 23 #[.int .i64 0, .int .i64 0] #[.int .i64 (num k + zl), .int .i64 (den k + zh)] from ⟨E5.out.p.setRow_far (by omega) _, E5.out.q.setRow _, below_setR E5.out.bel (Nat.le_succ _) _⟩)
      refine hK6.out _ _ (.inl (by decide)) ?_
      refine untlDone (by kernel_rfl) ?_ _
      go_wp2_with fail
      go_roundw
      case rel => exact ⟨k + 1, by omega, by go_num, by rw [hn1.out, hd1.out]; exact N5.out⟩
      case measure => simp [intOf]; omega
    · obtain rfl : k = n := by omega
      have r5 := pair_get E1.out.q
      have q5 := pair_get E1.out.p
      go_wp2
      exact bodyPost_ret (results_c rfl _ _ _ w.heap.size _ _ _ rfl ((E1.out.p.set_ 0 _).set_ 1 _) Try.underlying23 (by kernel_rfl)) rfl ⟨by rw [← HE.out.1, ← HE.out.2]; rfl, (E1.out.bel.setCell (p := ⟨w.heap.size, 0, none⟩) (Nat.le_refl _) _).setCell (p := ⟨w.heap.size, 1, none⟩) (Nat.le_refl _) _⟩
end Go.Proofs.Ytdekickmplkdiaa
