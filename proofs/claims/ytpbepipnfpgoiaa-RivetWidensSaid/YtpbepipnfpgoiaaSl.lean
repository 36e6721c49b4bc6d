/- Walks: the reference's Wide, Widen. -/
import Derived.Test.YtpbepipnfpgoiaaSk
namespace Go.Proofs.Ytpbepipnfpgoiaa
open Go.RowKit

theorem RB.setRow_far {w : World} {g g' : Nat} {t : TypeId} {L : List Value} (h : RB w g t L) (hg : g ≠ g') (cs' : Array Value) : RB (w.setRow g' cs') g t L := by
  obtain ⟨cs, h1, h2⟩ := h
  exact ⟨cs, h1.setRow_far hg cs', h2⟩
theorem wide_pt {W : World} {s t b o : Nat} {fa fb fc fd : Int} {A A' : Option Addr} {n c c' : Nat} {x0 x1 : Value} (h : Blk W s 26 #[.int .i64 fa, .int .i64 fb, .int .i64 fc, .int .i64 fd, .slice A n c]) (h' : Blk W t 26 #[.int .i64 fa, .int .i64 fb, .int .i64 fc, .int .i64 fd, .slice A' n c']) (c0 : W.cell? ⟨b, o, none⟩ = some x0) (c1 : W.cell? ⟨b, o + 1, none⟩ = some x1) :
    (W.cell? ⟨s, 0, none⟩ = some (.int .i64 fa) ∧ W.cell? ⟨s, 1, none⟩ = some (.int .i64 fb) ∧ W.cell? ⟨s, 2, none⟩ = some (.int .i64 fc) ∧ W.cell? ⟨s, 3, none⟩ = some (.int .i64 fd) ∧ W.cell? ⟨s, 4, none⟩ = some (.slice A n c)) ∧ (W.cell? ⟨t, 0, none⟩ = some (.int .i64 fa) ∧ W.cell? ⟨t, 1, none⟩ = some (.int .i64 fb) ∧ W.cell? ⟨t, 2, none⟩ = some (.int .i64 fc) ∧ W.cell? ⟨t, 3, none⟩ = some (.int .i64 fd) ∧ W.cell? ⟨t, 4, none⟩ = some (.slice A' n c')) ∧ (W.cell? ⟨b, o, none⟩ = some x0 ∧ W.cell? ⟨b, o + 1, none⟩ = some x1) := ⟨fan_get h, fan_get h', c0, c1⟩
theorem first_ne {b g o i : Nat} (hb : b ≠ g) (e : (⟨g, i, none⟩ : Addr) = ⟨b, o, none⟩) : False := hb (congrArg Addr.block e).symm
theorem wide_ptS {W : World} {s t b o g i : Nat} {fa fb fc fd : Int} {A A' : Option Addr} {n c c' : Nat} {x0 x1 : Value} (h : Blk W s 26 #[.int .i64 fa, .int .i64 fb, .int .i64 fc, .int .i64 fd, .slice A n c]) (h' : Blk W t 26 #[.int .i64 fa, .int .i64 fb, .int .i64 fc, .int .i64 fd, .slice A' n c']) (c0 : W.cell? ⟨b, o, none⟩ = some x0) (c1 : W.cell? ⟨b, o + 1, none⟩ = some x1) (hs : s ≠ g) (ht : t ≠ g) (hb : b ≠ g) (u0 u1 : Value) :
    (((W.setCell ⟨g, i, none⟩ u0).setCell ⟨g, i + 1, none⟩ u1).cell? ⟨s, 0, none⟩ = some (.int .i64 fa) ∧ ((W.setCell ⟨g, i, none⟩ u0).setCell ⟨g, i + 1, none⟩ u1).cell? ⟨s, 1, none⟩ = some (.int .i64 fb) ∧ ((W.setCell ⟨g, i, none⟩ u0).setCell ⟨g, i + 1, none⟩ u1).cell? ⟨s, 2, none⟩ = some (.int .i64 fc) ∧ ((W.setCell ⟨g, i, none⟩ u0).setCell ⟨g, i + 1, none⟩ u1).cell? ⟨s, 3, none⟩ = some (.int .i64 fd) ∧ ((W.setCell ⟨g, i, none⟩ u0).setCell ⟨g, i + 1, none⟩ u1).cell? ⟨s, 4, none⟩ = some (.slice A n c)) ∧ (((W.setCell ⟨g, i, none⟩ u0).setCell ⟨g, i + 1, none⟩ u1).cell? ⟨t, 0, none⟩ = some (.int .i64 fa) ∧ ((W.setCell ⟨g, i, none⟩ u0).setCell ⟨g, i + 1, none⟩ u1).cell? ⟨t, 1, none⟩ = some (.int .i64 fb) ∧ ((W.setCell ⟨g, i, none⟩ u0).setCell ⟨g, i + 1, none⟩ u1).cell? ⟨t, 2, none⟩ = some (.int .i64 fc) ∧ ((W.setCell ⟨g, i, none⟩ u0).setCell ⟨g, i + 1, none⟩ u1).cell? ⟨t, 3, none⟩ = some (.int .i64 fd) ∧ ((W.setCell ⟨g, i, none⟩ u0).setCell ⟨g, i + 1, none⟩ u1).cell? ⟨t, 4, none⟩ = some (.slice A' n c')) ∧ (((W.setCell ⟨g, i, none⟩ u0).setCell ⟨g, i + 1, none⟩ u1).cell? ⟨b, o, none⟩ = some x0 ∧ ((W.setCell ⟨g, i, none⟩ u0).setCell ⟨g, i + 1, none⟩ u1).cell? ⟨b, o + 1, none⟩ = some x1) :=
  wide_pt ((h.far (p := ⟨g, i, none⟩) hs u0).far (p := ⟨g, i + 1, none⟩) hs u1) ((h'.far (p := ⟨g, i, none⟩) ht u0).far (p := ⟨g, i + 1, none⟩) ht u1)
    ((World.cell?_setCell_other _ _ _ _ (fun e => first_ne hb e)).trans ((World.cell?_setCell_other _ _ _ _ (fun e => first_ne hb e)).trans c0))
    ((World.cell?_setCell_other _ _ _ _ (fun e => first_ne hb e)).trans ((World.cell?_setCell_other _ _ _ _ (fun e => first_ne hb e)).trans c1))

set_option maxRecDepth 100000 in
set_option maxHeartbeats 8000000 in
theorem RefWide_any (f : Fan) (A : Option Addr) (n c k : Nat) (more : Int) (w : World) (h : Gaps w A n f.gs) (hk : k < n) (hn : n ≤ 1000) (hm : 0 ≤ more) (hm2 : more ≤ 1000) (hb : ∀ g ∈ f.gs, 0 ≤ g.ll ∧ g.ll ≤ 1000 ∧ 0 ≤ g.lh ∧ g.lh ≤ 1000) :
    Calls Try.prog 75 #[.agg (fanA f A n c), .int .i64 k, .int .i64 more] w (FanRes w (f.wide k more) n) := by
  have hl := h.len
  have E0 := Lib.hid (Env2.start w 26 26 (fanA f A n c) #[.int .i64 0, .int .i64 0, .int .i64 0, .int .i64 0, .slice none 0 0])
  have HC := Lib.hid (fun W (hb : Below w.heap.size w W) => RefCopy_own f A n c W (h.below hb) (by omega))
  have e : f.gs.getD k Gap.zero = f.gs[k]'(by omega) := by simp [List.getD, show k < f.gs.length from by omega]
  have hy : 0 ≤ (f.gs.getD k Gap.zero).ll ∧ (f.gs.getD k Gap.zero).ll ≤ 1000 ∧ 0 ≤ (f.gs.getD k Gap.zero).lh ∧ (f.gs.getD k Gap.zero).lh ≤ 1000 := by
    rw [e]; exact hb _ (List.getElem_mem _)
  have HR : Hid (flatG (f.wide k more).gs = ((flatG f.gs).set (k * 4) (.int .i64 ((f.gs.getD k Gap.zero).ll + more))).set (k * 4 + 1) (.int .i64 ((f.gs.getD k Gap.zero).lh + more))) := (flatG_leaf f.gs k (by omega) _ _).symm
  have HL : Hid ((f.wide k more).gs.length = n) := by unfold Hid Fan.wide; simpa using hl
  have HF : Hid (∀ A c, fanA (f.wide k more) A n c = fanA f A n c) := fun _ _ => rfl
  have HX0 := Lib.hid (flatG_at f.gs k 0 (by omega) (by omega))
  have HX1 := Lib.hid (flatG_at f.gs k 1 (by omega) (by omega))
  rw [← e] at HX0 HX1
  have HLL := Lib.hid (show k * 4 + 1 < (flatG f.gs).length from by rw [flatG_length]; omega)
  have hat := h.at_ hk
  clear e hb h hl
  unfold FanRes
  generalize (f.wide k more) = f2 at *
  obtain ⟨b, off, hA, hbb, c0, c1, _, _⟩ := hat
  subst hA
  generalize f.gs.getD k Gap.zero = y at *
  obtain ⟨yl, yh, zl, zh⟩ := y
  obtain ⟨fa, fb, fc, fd, gs⟩ := f
  simp only [fanA, Gap.cells] at *
  unfold OwnRes at HC
  simp only [fanA] at HC
  go_enter Try.func75, Try.ntmps75
  have p0 := fan_get E0.out.p
  go_wp2_with fail
  refine (HC.out _ E0.out.bel).mono ?_
  rintro e W1 ⟨A1, a1, rfl, hO, hb1⟩
  have E1 := Lib.hid (E0.out.below hb1)
  obtain ⟨g, rfl, hg0, hRB⟩ := hO.2 (by omega)
  have hgw : w.heap.size + 1 < g := by have := E0.out.q.lt; omega
  have hg1 : g < W1.heap.size := hRB.lt
  have RB1 := Lib.hid hRB
  have T1 := Lib.hid (Blk.new W1 26 #[.int .i64 0, .int .i64 0, .int .i64 0, .int .i64 0, .slice none 0 0] (g := W1.heap.size) rfl)
  clear hO hb1 hRB hg0 p0 E0 HC
  go_wp2_with (refine wpList_store_row rfl 26 _ _ rfl W1.heap.size _ rfl rfl 26 _ T1.out (by kernel_rfl) rfl (by kernel_rfl) ?_; have hb2 := below_setR (below_self W1 (.cells #[.int .i64 0, .int .i64 0, .int .i64 0, .int .i64 0, .slice none 0 0] 26)) (Nat.le_refl _) #[.int .i64 fa, .int .i64 fb, .int .i64 fc, .int .i64 fd, .slice (some ⟨g, 0, none⟩) n a1]; have T2 := Lib.hid (T1.out.setRow #[.int .i64 fa, .int .i64 fb, .int .i64 fc, .int .i64 fd, .slice (some ⟨g, 0, none⟩) n a1]); have E2 := Lib.hid (E1.out.below hb2); have RB2 := Lib.hid (RB1.out.below hb2); clear E1 RB1 T1 hb2; generalize (W1.alloc (.cells #[.int .i64 0, .int .i64 0, .int .i64 0, .int .i64 0, .slice none 0 0] 26)).setRow W1.heap.size #[.int .i64 fa, .int .i64 fb, .int .i64 fc, .int .i64 fd, .slice (some ⟨g, 0, none⟩) n a1] = W2 at *; generalize W1.heap.size = t at *)
  have d0 := Lib.hid ((E2.out.bel.cell (lt_of_cell c0)).trans c0)
  have d1 := Lib.hid ((E2.out.bel.cell (lt_of_cell c1)).trans c1)
  clear c0 c1
  have HW := Lib.hid (Eq.refl W2.drew)
  have E3 := Lib.hid E2.out.drewd
  have x0 : W2.cell? ⟨g, k * 4, none⟩ = some (.int .i64 yl) := RB2.out.cell HX0.out
  have x1 : W2.cell? ⟨g, k * 4 + 1, none⟩ = some (.int .i64 yh) := RB2.out.cell HX1.out
  have z0 : W2.frozen? ⟨g, k * 4, none⟩ = false := RB2.out.frozen (k * 4)
  have z1 : W2.frozen? ⟨g, k * 4 + 1, none⟩ = false := RB2.out.frozen (k * 4 + 1)
  have N1 := Lib.hid (show w.heap.size ≠ g from by omega)
  have N2 := Lib.hid (show t ≠ g from by omega)
  have N3 := Lib.hid (show b ≠ g from by omega)
  have N4 := Lib.hid (show w.heap.size + 1 ≠ g from by omega)
  have N5 := Lib.hid (show t ≠ w.heap.size + 1 from by omega)
  have N6 := Lib.hid (show w.heap.size < g from by omega)
  clear hgw hg1 hbb
  go_region_held3 (fun W => (W.cell? ⟨w.heap.size, 0, none⟩ = some (.int .i64 fa) ∧ W.cell? ⟨w.heap.size, 1, none⟩ = some (.int .i64 fb) ∧ W.cell? ⟨w.heap.size, 2, none⟩ = some (.int .i64 fc) ∧ W.cell? ⟨w.heap.size, 3, none⟩ = some (.int .i64 fd) ∧ W.cell? ⟨w.heap.size, 4, none⟩ = some (.slice (some ⟨b, off, none⟩) n c)) ∧ (W.cell? ⟨t, 0, none⟩ = some (.int .i64 fa) ∧ W.cell? ⟨t, 1, none⟩ = some (.int .i64 fb) ∧ W.cell? ⟨t, 2, none⟩ = some (.int .i64 fc) ∧ W.cell? ⟨t, 3, none⟩ = some (.int .i64 fd) ∧ W.cell? ⟨t, 4, none⟩ = some (.slice (some ⟨g, 0, none⟩) n a1)) ∧ (W.cell? ⟨b, off + k * 4, none⟩ = some (.int .i64 yl) ∧ W.cell? ⟨b, off + k * 4 + 1, none⟩ = some (.int .i64 yh)))
    (first | exact wide_pt E3.out.p T2.out d0.out d1.out | exact wide_ptS E3.out.p T2.out d0.out d1.out N1.out N2.out N3.out _ _)
    (first | fail)
  all_goals
    clear x0 x1 z0 z1
    have T3 := ((show Blk W2.drew t _ _ from T2.out).far (p := ⟨g, k * 4, none⟩) N2.out (.int .i64 (yl + more))).far (p := ⟨g, k * 4 + 1, none⟩) N2.out (.int .i64 (yh + more))
    have Q3 := Lib.hid ((E3.out.q.far (p := ⟨g, k * 4, none⟩) N4.out (.int .i64 (yl + more))).far (p := ⟨g, k * 4 + 1, none⟩) N4.out (.int .i64 (yh + more)))
    have p3 := fan_get T3
    clear T3
    go_wp2_with (refine wpList_store_row rfl 26 _ _ rfl (w.heap.size + 1) _ rfl rfl 26 _ Q3.out (by kernel_rfl) rfl (by kernel_rfl) ?_)
    refine bodyPost_ret (results_c rfl _ _ _ _ _ _ _ rfl (Q3.out.setRow _) Try.underlying26 (by kernel_rfl)) rfl ⟨some ⟨g, 0, none⟩, ⟨a1, ?_⟩, ?_, ?_⟩
    · exact congrArg (fun a => Ending.returned (Value.agg a)) (HF.out (some ⟨g, 0, none⟩) a1).symm
    · have R2 := (show RB W2.drew g _ _ from RB2.out).set (i := k * 4) (by have := HLL.out; omega) (.int .i64 (yl + more))
      have R3 := R2.set (i := k * 4 + 1) (by rw [List.length_set]; exact HLL.out) (.int .i64 (yh + more))
      rw [← HR.out] at R3
      have := (R3.setRow_far N4.out.symm #[.int .i64 fa, .int .i64 fb, .int .i64 fc, .int .i64 fd, .slice (some ⟨g, 0, none⟩) n a1]).gaps
      rw [HL.out] at this
      exact this
    · have b2 (o : Nat) : w.heap.size ≤ (⟨g, o, none⟩ : Addr).block := Nat.le_of_lt N6.out
      exact below_setR ((E3.out.bel.setCell (b2 _) _).setCell (b2 _) _) (Nat.le_succ _) _
end Go.Proofs.Ytpbepipnfpgoiaa
