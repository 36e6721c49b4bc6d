/- The least number of sticks; walks: the reference's Sticks. -/
import Derived.Test.YtdekickmplkdiaaKi
import Derived.Test.YtdekickmplkdiaaKg
import Derived.Test.YtdekickmplkdiaaKh
import Derived.Deep.RegionLaw
namespace Go.Proofs.Ytdekickmplkdiaa
open Go.RowKit

theorem own_setCell {w : World} {base : Nat} {e t : TypeId} {size n g i : Nat} {v : Value} {xs : List Value} {cs : Array Value} (h : w.ownsRow base e size v n xs) (hg : Blk w g t cs) (hne : e ≠ t) (u : Value) : (w.setCell ⟨g, i, none⟩ u).ownsRow base e size v n xs := by
  have hb0 := own_blk_ne h hg hne
  obtain ⟨hl, ⟨hv, hx⟩ | ⟨g', cap', cur, hv, hbase, hb, h1, h2, h3, h4⟩⟩ := h
  · exact ⟨hl, .inl ⟨hv, hx⟩⟩
  · refine ⟨hl, .inr ⟨g', cap', cur, hv, hbase, ?_, h1, h2, h3, h4⟩⟩
    refine Blk.far (p := ⟨g, i, none⟩) (show Blk w g' e cur from hb) (fun e' => hb0 ?_) u
    subst hv e'
    rfl
theorem rep_sum {f : Fan} (k : Nat) : openN false (f.rep k) = k * angF false f (f.gs.getD 0 Gap.zero) := by
  unfold openN anglesF Fan.rep
  simp only [List.map_replicate]
  have e : angF false { f with gs := List.replicate k (f.gs.getD 0 Gap.zero) } (f.gs.getD 0 Gap.zero) = angF false f (f.gs.getD 0 Gap.zero) := rfl
  rw [e]
  clear e
  generalize angF false f (f.gs.getD 0 Gap.zero) = a
  induction k with
  | zero => simp
  | succ k ih => rw [List.replicate_succ, List.sum_cons, ih]; rw [show ((k + 1 : Nat) : Int) = (k : Int) + 1 from by omega, Int.add_mul]; omega
theorem rep_mono {f : Fan} (h : FanB f) (h0 : 0 < f.gs.length) {i j : Nat} (hij : i ≤ j) : degL false (f.rep i) ≤ degL false (f.rep j) := by
  have hp : partsL false (f.rep i) = partsL false (f.rep j) := rfl
  unfold degL
  rw [hp, rep_sum, rep_sum]
  refine degF_mono ?_ (parts_bd (f := f) h false).1
  have ha : 0 ≤ angF false f (f.gs.getD 0 Gap.zero) := (angles_bd h false _ (List.mem_map.2 ⟨f.gs.getD 0 Gap.zero, by rw [List.getD_eq_getElem?_getD, List.getElem?_eq_getElem h0]; exact List.getElem_mem _, rfl⟩)).1
  exact Int.mul_le_mul_of_nonneg_right (by omega) ha
theorem stick_least {f : Fan} (h : FanB f) (h0 : 0 < f.gs.length) (d : Int) (k : Nat) (hk : k ≤ 41) (h1 : ∀ j, j < k → stickP f d j = false) (h2 : k < 41 → stickP f d k = true) : stickL f d = k := by
  refine search_least _ _ _ hk h1 h2 fun i j hij _ hi => ?_
  have := rep_mono h h0 hij
  simp only [stickP, decide_eq_true_eq] at hi ⊢
  omega
theorem flatG_rep (k : Nat) (y : Gap) : flatG (List.replicate k y) ++ y.cells = flatG (List.replicate (k + 1) y) := by
  rw [List.replicate_succ']
  simp [flatG]
theorem rep_new (W : World) (y : Gap) (t : TypeId) : Reads (W.alloc (.cells #[.int .i64 y.ll, .int .i64 y.lh, .int .i64 y.fl, .int .i64 y.fh] t)) 4 (some ⟨W.heap.size, 0, none⟩) 1 y.cells := reads_of_blk (Blk.new W _ _ rfl) rfl rfl

theorem cells_one (y : Gap) : ∀ u ∈ y.cells, u.oneCell' = true := by
  intro u hu
  simp only [Gap.cells, List.mem_cons, List.not_mem_nil, or_false] at hu
  rcases hu with rfl | rfl | rfl | rfl <;> rfl
theorem stk_pt {w W : World} {b off n c : Nat} {fa fb fc fd : Int} {gs : List Gap} {ll lh fl fh : Int} {t2 : TypeId} {c2 : Array Value} (hE : Env2 w W 26 t2 #[.int .i64 fa, .int .i64 fb, .int .i64 fc, .int .i64 fd, .slice (some ⟨b, off, none⟩) n c] c2) (hg : Gaps w (some ⟨b, off, none⟩) n gs) (h0 : 0 < n) (hy : gs.getD 0 Gap.zero = ⟨ll, lh, fl, fh⟩) :
    (W.cell? ⟨w.heap.size, 0, none⟩ = some (.int .i64 fa) ∧ W.cell? ⟨w.heap.size, 1, none⟩ = some (.int .i64 fb) ∧ W.cell? ⟨w.heap.size, 2, none⟩ = some (.int .i64 fc) ∧ W.cell? ⟨w.heap.size, 3, none⟩ = some (.int .i64 fd) ∧ W.cell? ⟨w.heap.size, 4, none⟩ = some (.slice (some ⟨b, off, none⟩) n c)) ∧
    (W.cell? ⟨b, off, none⟩ = some (.int .i64 ll) ∧ W.cell? ⟨b, off + 1, none⟩ = some (.int .i64 lh) ∧ W.cell? ⟨b, off + 2, none⟩ = some (.int .i64 fl) ∧ W.cell? ⟨b, off + 3, none⟩ = some (.int .i64 fh)) := by
  obtain ⟨b', o', e, _, c0, c1, c2, c3⟩ := (hg.below hE.bel).at_ h0
  simp only [Option.some.injEq, Addr.mk.injEq, and_true] at e
  obtain ⟨rfl, rfl⟩ := e
  rw [hy] at c0 c1 c2 c3
  exact ⟨fan_get hE.p, by simpa using c0, by simpa using c1, by simpa using c2, by simpa using c3⟩
def cell4 (g : Nat) (W : World) : Value := (W.cell? ⟨g, 4, none⟩).getD (.int .i64 0)
theorem getD_self {g : Nat} {W : World} {v : Value} (h : W.cell? ⟨g, 4, none⟩ = some v) : W.cell? ⟨g, 4, none⟩ = some (cell4 g W) := by unfold cell4; rw [h]; rfl
theorem getD_is {g : Nat} {W : World} {v : Value} (h : W.cell? ⟨g, 4, none⟩ = some v) : cell4 g W = v := by unfold cell4; rw [h]; rfl
theorem stk_pt4 {w W : World} {b off n c : Nat} {fa fb fc fd : Int} {gs : List Gap} {ll lh fl fh : Int} {t2 : TypeId} {z0 z1 z2 z3 z4 : Value} (hE : Env2 w W 26 t2 #[.int .i64 fa, .int .i64 fb, .int .i64 fc, .int .i64 fd, .slice (some ⟨b, off, none⟩) n c] #[z0, z1, z2, z3, z4]) (hg : Gaps w (some ⟨b, off, none⟩) n gs) (h0 : 0 < n) (hy : gs.getD 0 Gap.zero = ⟨ll, lh, fl, fh⟩) :
    (W.cell? ⟨w.heap.size, 0, none⟩ = some (.int .i64 fa) ∧ W.cell? ⟨w.heap.size, 1, none⟩ = some (.int .i64 fb) ∧ W.cell? ⟨w.heap.size, 2, none⟩ = some (.int .i64 fc) ∧ W.cell? ⟨w.heap.size, 3, none⟩ = some (.int .i64 fd) ∧ W.cell? ⟨w.heap.size, 4, none⟩ = some (.slice (some ⟨b, off, none⟩) n c)) ∧
    (W.cell? ⟨b, off, none⟩ = some (.int .i64 ll) ∧ W.cell? ⟨b, off + 1, none⟩ = some (.int .i64 lh) ∧ W.cell? ⟨b, off + 2, none⟩ = some (.int .i64 fl) ∧ W.cell? ⟨b, off + 3, none⟩ = some (.int .i64 fh)) ∧ W.cell? ⟨w.heap.size + 1, 4, none⟩ = some (cell4 (w.heap.size + 1) W) :=
  have h := stk_pt hE hg h0 hy
  ⟨h.1, h.2, getD_self (v := z4) (hE.q.cell 4)⟩
theorem Env2.setQ {w W : World} {t1 t2 : TypeId} {c1 c2 : Array Value} (h : Env2 w W t1 t2 c1 c2) (i : Nat) (u : Value) : Env2 w (W.setCell ⟨w.heap.size + 1, i, none⟩ u) t1 t2 c1 (c2.setIfInBounds i u) :=
  ⟨h.p.far (p := ⟨w.heap.size + 1, i, none⟩) (by simp) u, h.q.set_ i u, h.bel.setCell (p := ⟨w.heap.size + 1, i, none⟩) (Nat.le_succ _) u⟩

section
attribute [local go_sem ↓] Go.wp_at_zero Go.wp_at_succ
set_option maxRecDepth 100000 in
set_option maxHeartbeats 8000000 in
theorem RefSticks_any (f : Fan) (d : Int) (A : Option Addr) (n c : Nat) (w : World) (h : Gaps w A n f.gs) (hE : fanErr f = 0) (h0 : 0 < n) :
    Calls Try.prog 36 #[.agg (fanA f A n c), .int .i64 d] w fun e w' => e = .returned (.int .i64 (if 40 < stickL f d then 0 else (stickL f d : Int) + 1)) ∧ Below w.heap.size w w' := by
  obtain ⟨i0, hi, hz0, hz1, hz2⟩ := info_parts Try.infoGap
  have hl := h.len
  have hn : n ≤ 40 := by have := (fanB_of hE).2.2; omega
  have E0 := Lib.hid (Env2.start w 26 26 (fanA f A n c) #[.int .i64 0, .int .i64 0, .int .i64 0, .int .i64 0, .slice none 0 0])
  have HG := Lib.hid h
  have HO := Lib.hid (fun (k : Nat) (hk : k ≤ 41) A' c' W (hG : Gaps W A' k (List.replicate k (f.gs.getD 0 Gap.zero))) => RefOpens_any (f.rep k) A' k c' W (rep_B hE hk (by omega)) hG)
  have HP : Hid (∀ k : Nat, stickP f d k = decide (d ≤ degL false (f.rep k))) := fun _ => rfl
  have HL := Lib.hid (fun k hk h1 h2 => stick_least (fanB_of hE).1 (by omega) d k hk h1 h2)
  have HF : Hid (∀ (k : Nat) A' m c', fanA (f.rep k) A' m c' = fanA f A' m c') := fun _ _ _ _ => rfl
  simp only [HF.out] at HO
  clear hE HF
  generalize stickL f d = pl at *
  generalize hrr : (if 40 < pl then 0 else (pl : Int) + 1) = rr at *
  have HRR : Hid (rr = if 40 < pl then 0 else (pl : Int) + 1) := hrr.symm
  clear hrr
  generalize stickP f d = P at *
  obtain ⟨b, off, hA, _, _, _, _, _⟩ := h.at_ h0
  subst hA
  clear h hl
  generalize f.rep = fr at *
  obtain ⟨fa, fb, fc, fd, gs⟩ := f
  simp only [fanA] at E0 HO ⊢
  simp only at HG
  generalize hy : gs.getD 0 Gap.zero = y at *
  obtain ⟨ll, lh, fl, fh⟩ := y
  have HY := Lib.hid hy
  clear hy
  go_enter Try.func36, Try.ntmps36
  go_wp2_with (refine wpList_store_row rfl 26 _ _ rfl (w.heap.size + 1) _ rfl rfl 26 _ E0.out.q (by kernel_rfl) rfl (by kernel_rfl) ?_; have E1 : Hid (Env2 w (((w.alloc (.cells #[.int .i64 fa, .int .i64 fb, .int .i64 fc, .int .i64 fd, .slice (some ⟨b, off, none⟩) n c] 26)).alloc (.cells #[.int .i64 0, .int .i64 0, .int .i64 0, .int .i64 0, .slice none 0 0] 26)).setRow (w.heap.size + 1) #[.int .i64 fa, .int .i64 fb, .int .i64 fc, .int .i64 fd, .slice none 0 0]) 26 26 #[.int .i64 fa, .int .i64 fb, .int .i64 fc, .int .i64 fd, .slice (some ⟨b, off, none⟩) n c] #[.int .i64 fa, .int .i64 fb, .int .i64 fc, .int .i64 fd, .slice none 0 0]) := ⟨E0.out.p.setRow_far (Nat.ne_of_lt (Nat.lt_succ_self _)) _, E0.out.q.setRow _, below_setR E0.out.bel (Nat.le_succ _) _⟩; clear E0)
  go_loopw [6] (fun i wr => ∃ (k : Nat) (A' : Option Addr) (c' : Nat), k ≤ 41 ∧ i = .int .i64 ((k : Int) + 1) ∧ (∀ j, j < k → P j = false) ∧ wr.ownsRow w.heap.size 42 4 (.slice A' k c') k (flatG (List.replicate k ⟨ll, lh, fl, fh⟩)) ∧ Env2 w wr 26 26 #[.int .i64 fa, .int .i64 fb, .int .i64 fc, .int .i64 fd, .slice (some ⟨b, off, none⟩) n c] #[.int .i64 fa, .int .i64 fb, .int .i64 fc, .int .i64 fd, .slice A' k c']) (fun i _ => 42 - (intOf i).toNat)
  case atStart => exact ⟨0, none, 0, Nat.zero_le _, rfl, fun j h => absurd h (by omega), World.ownsRow_nil _ _ _ _, E1.out⟩
  case round =>
    obtain ⟨k, A', c', hk, rfl, hpf, hown, hq⟩ := hrel
    have EK := Lib.hid hq
    have OW := Lib.hid hown
    have PF := Lib.hid hpf
    clear hq hpf hown E1
    by_cases hlt : k < 41
    · have hGk : Gaps wr A' k (List.replicate k ⟨ll, lh, fl, fh⟩) := by
        obtain ⟨A2, c2, e, ho⟩ := ownG_of OW.out
        simp only [Value.slice.injEq, true_and] at e
        obtain ⟨rfl, rfl⟩ := e
        exact ho.1
      have C1 := Lib.hid (HO.out k (by omega) A' c' _ hGk)
      have P3 := Lib.hid (HP.out k)
      have LK := Lib.hid (HL.out k (by omega))
      have p2 := fan_get EK.out.q
      clear hGk HO HP HL
      generalize degL false (fr k) = d1 at *
      generalize degL true (fr k) = d2 at *
      go_wp2_with fail
      refine C1.out.mono ?_
      rintro e w5 ⟨rfl, h5⟩
      have E5 := Lib.hid (EK.out.below h5)
      have O5 := Lib.hid (ownsRow_below OW.out h5)
      clear h5 p2 EK OW C1
      by_cases hd : d ≤ d1
      · have H := Lib.hid (LK.out PF.out (fun _ => by rw [P3.out]; exact decide_eq_true hd))
        go_wp2_with fail
        change (_ : Act → World → Prop) (Act.put _ _ (Value.int .i64 d1)) w5
        go_wp2
        go_ret
        exact ⟨ret_int (by rw [HRR.out, H.out, if_neg (by omega)]), E5.out.bel⟩
      · go_wp2_with fail
        change (_ : Act → World → Prop) (Act.put _ _ (Value.int .i64 d1)) w5
        have E6 := Lib.hid E5.out.drewd
        have O6 : Hid (w5.drew.ownsRow w.heap.size 42 4 (.slice A' k c') k (flatG (List.replicate k ⟨ll, lh, fl, fh⟩))) := O5.out
        have y4 : w5.cell? ⟨w.heap.size + 1, 4, none⟩ = some (.slice A' k c') := E5.out.q.cell 4
        have s5 := stk_pt E5.out HG.out h0 HY.out
        have E6a := E5.out.alloc (.cells #[.int .i64 ll, .int .i64 lh, .int .i64 fl, .int .i64 fh] 42)
        have y4a := E6a.q.cell 4
        have s6a := stk_pt E6a HG.out h0 HY.out
        clear E5 O5 E6a
        go_wp2_with fail
        go_region_law (first | (refine step_append_any rfl (.tmp 23) (.tmp 28) 24 rfl w.heap.size 42 i0 _ 4 32 Try.underlying24 hi hz0 hz1 hz2 rfl (by decide) (.slice A' k c') k (flatG (List.replicate k ⟨ll, lh, fl, fh⟩)) (by rfl) (ownsRow_below O6.out (below_self _ _)) (some ⟨w5.heap.size, 0, none⟩) 1 1 (by rfl) (Gap.cells ⟨ll, lh, fl, fh⟩) (rep_new w5.drew ⟨ll, lh, fl, fh⟩ _) (cells_one _) (by unfold maxLen; omega) (by omega) (by have := E6.out.bel.size; simp at this ⊢; omega) ?_; intro v1 x1 hown hgrow; rw [flatG_rep] at hown; obtain ⟨A3, c3, rfl⟩ := own_slice hown; have E7 := Lib.hid ((E6.out.alloc _).grown (ownsRow_below O6.out (below_self _ _)) (by decide) (by decide) (Nat.le_refl _) hgrow); have O7 := Lib.hid hown; clear hown hgrow; have y7 := E7.out.q.cell 4; have f7 := E7.out.q.frozen 4))
        all_goals
          clear y7 f7 y4 s5 y4a s6a
          go_wp2
          go_roundw
          case rel => exact ⟨k + 1, A3, c3, by omega, by go_num, fun j hj => by (rcases Nat.lt_succ_iff_lt_or_eq.1 hj with h | rfl; exact PF.out j h; rw [P3.out]; exact decide_eq_false (show ¬ d ≤ d1 by omega)), own_setCell O7.out E7.out.q (by decide) _, E7.out.setQ 4 _⟩
          case measure => simp [intOf]; omega
    · obtain rfl : k = 41 := by omega
      have H := Lib.hid (HL.out 41 (by omega) PF.out (fun h => absurd h (by omega)))
      go_wp2
      go_ret
      exact ⟨ret_int (by rw [HRR.out, H.out]; rfl), EK.out.bel⟩
end
end Go.Proofs.Ytdekickmplkdiaa
