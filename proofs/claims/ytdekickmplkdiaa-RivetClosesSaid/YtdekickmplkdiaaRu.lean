/- Walks: Balance, its face. -/
import Derived.Test.YtdekickmplkdiaaRt
namespace Go.Proofs.Ytdekickmplkdiaa
open Go.RowKit

theorem results_cct {fn : Func} {p q u : Tmp} {ty ty' : TypeId} (h : fn.results = #[.cell p ty, .cell q ty', .tmp u]) (tmps : Array Value) (P : Program) (w : World) (g g' : Nat) (t t' : TypeId) (cs cs' : Array Value) (fs fs' : Array Field)
    (hp : tmps.getD p undef = .pointer (some ⟨g, 0, none⟩)) (hg : Blk w g t cs) (hu : P.underlying ty = some (.struct fs)) (hi : (P.info? ty).map (·.size) = some cs.size)
    (hq : tmps.getD q undef = .pointer (some ⟨g', 0, none⟩)) (hg' : Blk w g' t' cs') (hu' : P.underlying ty' = some (.struct fs')) (hi' : (P.info? ty').map (·.size) = some cs'.size) :
    (results fn tmps).run P w = .ok (.tuple #[.agg cs, .agg cs', tmps.getD u undef]) w := by
  have e1 := run_loadVar_row (P := P) w g t ty cs (0, 0) _ hg hu rfl hi
  have e2 := run_loadVar_row (P := P) w g' t' ty' cs' (0, 0) _ hg' hu' rfl hi'
  simp only [results, h]
  simp at hp hq
  simp [Sem.run_bind, Result.andThen, hp, hq, asAddr, e1, e2]
theorem pick_mem {u : Bool} {rs : List (Int × Int)} (k : Nat) (hk : k < rs.length) : pickGo u rs k ∈ rs := by
  have hg : ∀ i, i < rs.length → rs.getD i (0, 0) ∈ rs := fun i hi => by
    have e : rs.getD i (0, 0) = rs[i] := by simp [List.getD, hi]
    rw [e]; exact List.getElem_mem hi
  induction k with
  | zero => exact hg 0 hk
  | succ k ih =>
    rw [pickGo]
    split
    · exact hg _ hk
    · exact ih (by omega)
theorem bal_bd {l : List Stk} (h : StkB l) (h0 : 0 < l.length) (u : Bool) : 0 ≤ (balL u l).1 ∧ (balL u l).1 ≤ 1000000000 ∧ 1 ≤ (balL u l).2 ∧ (balL u l).2 ≤ 1000000000 := by
  have hm := pick_mem (u := u) (rs := ratsL u l) (l.length - 1) (by simp only [ratsL, List.length_map]; omega)
  obtain ⟨s, _, hs⟩ := List.mem_map.1 hm
  have h1 := numB_bd h u s.pl
  have h2 := denB_bd h u s.pl
  have hn := h.n
  unfold balL
  rw [← hs]
  simp only
  omega
def lowR (r : Int × Int) : Int × Int := lowL r.1.toNat r.2.toNat
/-- The least and the greatest place, and the error. -/
def balR (l : List Stk) : (Int × Int) × (Int × Int) × Int :=
  if stkErr l = 0 then (if l.length = 0 then ((0, 0), (0, 0), 7) else (lowR (balL false l), lowR (balL true l), 0)) else ((0, 0), (0, 0), stkErr l)
theorem lowR_any (r : Int × Int) (w : World) (h : 0 ≤ r.1 ∧ r.1 ≤ 1000000000 ∧ 1 ≤ r.2 ∧ r.2 ≤ 1000000000) :
    Calls Try.prog 89 #[.agg #[.int .i64 r.1, .int .i64 r.2]] w fun e w' => e = .returned (.agg #[.int .i64 (lowR r).1, .int .i64 (lowR r).2]) ∧ Below w.heap.size w w' := by
  have := lowest_any r.1.toNat r.2.toNat w (by omega) (by omega) (by omega)
  rw [Int.toNat_of_nonneg h.1, Int.toNat_of_nonneg (by omega)] at this
  exact this

set_option maxRecDepth 100000 in
set_option maxHeartbeats 2000000 in
theorem Balance_any (l : List Stk) (A : Option Addr) (n c : Nat) (w : World) (h : Stks w A n l) (hn : n ≤ maxLen) :
    Calls Try.prog 46 #[.slice A n c] w fun e w' => e = .returned (.tuple #[.agg #[.int .i64 (balR l).1.1, .int .i64 (balR l).1.2], .agg #[.int .i64 (balR l).2.1.1, .int .i64 (balR l).2.1.2], .int .i64 (balR l).2.2]) ∧ Below w.heap.size w w' := by
  have hl := h.len
  have E0 := Lib.hid (Env2.start w 77 77 #[.int .i64 0, .int .i64 0] #[.int .i64 0, .int .i64 0])
  have HF := Lib.hid (fun W (hb : Below w.heap.size w W) => sticksError_any l A n c W (h.below hb) hn)
  by_cases hE : stkErr l = 0
  · rw [hE] at HF
    by_cases hz : n = 0
    · have HO : Hid (balR l = ((0, 0), (0, 0), 7)) := by unfold Hid balR; rw [if_pos hE, hl, if_pos hz]
      clear h hn hE hl
      subst hz
      generalize balR l = r at *
      go_enter Try.func46, Try.ntmps46
      go_wp2_with fail
      refine (HF.out _ E0.out.bel).mono ?_
      rintro e W1 ⟨rfl, hb1⟩
      have E1 := Lib.hid (E0.out.below hb1)
      have p1 := rat_get E1.out.p
      have q1 := rat_get E1.out.q
      clear hb1
      go_wp2
      exact bodyPost_ret (results_cct rfl _ _ _ w.heap.size (w.heap.size + 1) _ _ _ _ _ _ rfl ((((E1.out.p.set_ 0 _).set_ 1 _).far (p := ⟨w.heap.size + 1, 0, none⟩) (by simp) _).far (p := ⟨w.heap.size + 1, 1, none⟩) (by simp) _) Try.underlying77 (by kernel_rfl) rfl ((((E1.out.q.far (p := ⟨w.heap.size, 0, none⟩) (by simp) _).far (p := ⟨w.heap.size, 1, none⟩) (by simp) _).set_ 0 _).set_ 1 _) Try.underlying77 (by kernel_rfl)) rfl
        ⟨by rw [HO.out]; rfl, (((E1.out.bel.setCell (p := ⟨w.heap.size, 0, none⟩) (Nat.le_refl _) _).setCell (p := ⟨w.heap.size, 1, none⟩) (Nat.le_refl _) _).setCell (p := ⟨w.heap.size + 1, 0, none⟩) (by simp) _).setCell (p := ⟨w.heap.size + 1, 1, none⟩) (by simp) _⟩
    · have HO : Hid (balR l = (lowR (balL false l), lowR (balL true l), 0)) := by unfold Hid balR; rw [if_pos hE, hl, if_neg hz]
      have hs := stkB_of hE
      have h0 : 0 < n := by omega
      have H1 := Lib.hid (fun W (hb : Below w.heap.size w W) => balance_any false l A n c W hs (h.below hb) h0)
      have H2 := Lib.hid (fun W (hb : Below w.heap.size w W) => balance_any true l A n c W hs (h.below hb) h0)
      have H3 := Lib.hid (fun W => lowR_any (balL false l) W (bal_bd hs (by omega) false))
      have H4 := Lib.hid (fun W => lowR_any (balL true l) W (bal_bd hs (by omega) true))
      have L1 := Lib.hid leastEnd_any
      have L2 := Lib.hid mostEnd_any
      have hz1 : ((n : Int) == 0) = false := by simpa using hz
      have hz2 : decide (n = 0) = false := by simpa using hz
      clear h hn hE hl hs
      generalize balR l = r at *
      generalize balL false l = b1 at *
      generalize balL true l = b2 at *
      generalize lowR b1 = r1 at *
      generalize lowR b2 = r2 at *
      obtain ⟨x1, y1⟩ := r1
      obtain ⟨x2, y2⟩ := r2
      simp only [endA] at *
      go_enter Try.func46, Try.ntmps46
      go_wp2_with fail
      refine (HF.out _ E0.out.bel).mono ?_
      rintro e W1 ⟨rfl, hb1⟩
      have E1 := Lib.hid (E0.out.below hb1)
      clear hb1
      go_wp2_with fail
      refine (L1.out _).mono ?_
      rintro e W2 ⟨rfl, hb2⟩
      have E2 := Lib.hid (E1.out.below hb2)
      clear hb2
      go_wp2_with fail
      refine (H1.out _ E2.out.bel).mono ?_
      rintro e W3 ⟨rfl, hb3⟩
      have E3 := Lib.hid (E2.out.below hb3)
      clear hb3
      go_wp2_with fail
      refine (H3.out _).mono ?_
      rintro e W4 ⟨rfl, hb4⟩
      have E4 := Lib.hid (E3.out.below hb4)
      clear hb4
      go_wp2_with fail
      refine (L2.out _).mono ?_
      rintro e W5 ⟨rfl, hb5⟩
      have E5 := Lib.hid (E4.out.below hb5)
      clear hb5
      go_wp2_with fail
      refine (H2.out _ E5.out.bel).mono ?_
      rintro e W6 ⟨rfl, hb6⟩
      have E6 := Lib.hid (E5.out.below hb6)
      clear hb6
      go_wp2_with fail
      refine (H4.out _).mono ?_
      rintro e W7 ⟨rfl, hb7⟩
      have E7 := Lib.hid (E6.out.below hb7)
      have p1 := rat_get E7.out.p
      have q1 := rat_get E7.out.q
      clear hb7
      go_wp2
      exact bodyPost_ret (results_cct rfl _ _ _ w.heap.size (w.heap.size + 1) _ _ _ _ _ _ rfl ((((E7.out.p.set_ 0 _).set_ 1 _).far (p := ⟨w.heap.size + 1, 0, none⟩) (by simp) _).far (p := ⟨w.heap.size + 1, 1, none⟩) (by simp) _) Try.underlying77 (by kernel_rfl) rfl ((((E7.out.q.far (p := ⟨w.heap.size, 0, none⟩) (by simp) _).far (p := ⟨w.heap.size, 1, none⟩) (by simp) _).set_ 0 _).set_ 1 _) Try.underlying77 (by kernel_rfl)) rfl
        ⟨by rw [HO.out]; rfl, (((E7.out.bel.setCell (p := ⟨w.heap.size, 0, none⟩) (Nat.le_refl _) _).setCell (p := ⟨w.heap.size, 1, none⟩) (Nat.le_refl _) _).setCell (p := ⟨w.heap.size + 1, 0, none⟩) (by simp) _).setCell (p := ⟨w.heap.size + 1, 1, none⟩) (by simp) _⟩
  · have HO : Hid (balR l = ((0, 0), (0, 0), stkErr l)) := if_neg hE
    have he1 : decide (stkErr l = 0) = false := by simpa using hE
    clear h hn hl
    generalize balR l = r at *
    generalize stkErr l = e0 at *
    go_enter Try.func46, Try.ntmps46
    go_wp2_with fail
    refine (HF.out _ E0.out.bel).mono ?_
    rintro e W1 ⟨rfl, hb1⟩
    have E1 := Lib.hid (E0.out.below hb1)
    have p1 := rat_get E1.out.p
    have q1 := rat_get E1.out.q
    clear hb1
    go_wp2
    exact bodyPost_ret (results_cct rfl _ _ _ w.heap.size (w.heap.size + 1) _ _ _ _ _ _ rfl ((((E1.out.p.set_ 0 _).set_ 1 _).far (p := ⟨w.heap.size + 1, 0, none⟩) (by simp) _).far (p := ⟨w.heap.size + 1, 1, none⟩) (by simp) _) Try.underlying77 (by kernel_rfl) rfl ((((E1.out.q.far (p := ⟨w.heap.size, 0, none⟩) (by simp) _).far (p := ⟨w.heap.size, 1, none⟩) (by simp) _).set_ 0 _).set_ 1 _) Try.underlying77 (by kernel_rfl)) rfl
      ⟨by rw [HO.out]; rfl, (((E1.out.bel.setCell (p := ⟨w.heap.size, 0, none⟩) (Nat.le_refl _) _).setCell (p := ⟨w.heap.size, 1, none⟩) (Nat.le_refl _) _).setCell (p := ⟨w.heap.size + 1, 0, none⟩) (by simp) _).setCell (p := ⟨w.heap.size + 1, 1, none⟩) (by simp) _⟩
end Go.Proofs.Ytdekickmplkdiaa
