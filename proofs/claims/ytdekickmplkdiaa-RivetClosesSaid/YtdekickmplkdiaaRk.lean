/- Walks: pleated, Widen. -/
import Derived.Test.YtdekickmplkdiaaRj
namespace Go.Proofs.Ytdekickmplkdiaa
open Go.RowKit

def Gap.leaf (arc : Int) (g : Gap) : Gap := ⟨arc, arc, g.fl, g.fh⟩
def plL (arc : Int) (k : Nat) (gs : List Gap) : List Gap := (gs.take k).map (Gap.leaf arc) ++ gs.drop k
theorem plL_length (arc : Int) (k : Nat) (gs : List Gap) : (plL arc k gs).length = gs.length := by simp [plL]; omega
theorem plL_zero (arc : Int) (gs : List Gap) : plL arc 0 gs = gs := by simp [plL]
theorem plL_all (arc : Int) (gs : List Gap) : plL arc gs.length gs = gs.map (Gap.leaf arc) := by simp [plL]
theorem plL_succ (arc : Int) (k : Nat) (gs : List Gap) (hk : k < gs.length) : ((flatG (plL arc k gs)).set (k * 4) (.int .i64 arc)).set (k * 4 + 1) (.int .i64 arc) = flatG (plL arc (k + 1) gs) := by
  have hk2 : k < (plL arc k gs).length := by rw [plL_length]; exact hk
  rw [flatG_leaf _ k hk2]
  congr 1
  have e1 : (plL arc k gs).getD k Gap.zero = gs[k] := by
    simp only [plL, List.getD]
    rw [List.getElem?_append_right (by simp; omega)]
    simp [Nat.min_eq_left (Nat.le_of_lt hk), hk]
  rw [e1]
  apply List.ext_getElem?
  intro i
  rw [List.getElem?_set]
  by_cases hi : k = i
  · subst hi
    rw [if_pos rfl, if_pos hk2]
    simp only [plL]
    rw [List.getElem?_append_left (by simp; omega)]
    simp [hk, Gap.leaf]
  · rw [if_neg hi]
    simp only [plL]
    by_cases h2 : i < k
    · rw [List.getElem?_append_left (by simp; omega), List.getElem?_append_left (by simp; omega)]
      simp [h2, Nat.lt_succ_of_lt h2]
    · rw [List.getElem?_append_right (by simp; omega), List.getElem?_append_right (by simp; omega)]
      simp only [List.length_map, List.length_take, List.getElem?_drop]
      congr 1
      omega
def Fan.pleat (f : Fan) (arc : Int) : Fan := { f with gs := f.gs.map (Gap.leaf arc) }

set_option maxRecDepth 100000 in
set_option maxHeartbeats 1000000 in
theorem pleated_any (f : Fan) (A : Option Addr) (n c : Nat) (arc : Int) (w : World) (h : Gaps w A n f.gs) (hn : n ≤ 1000) :
    Calls Try.prog 84 #[.agg (fanA f A n c), .int .i64 arc] w (FanRes w (f.pleat arc) n) := by
  have hl := h.len
  have E0 := Lib.hid (Env2.start w 26 26 (fanA f A n c) #[.int .i64 0, .int .i64 0, .int .i64 0, .int .i64 0, .slice none 0 0])
  have HC := Lib.hid (fun W (hb : Below w.heap.size w W) => cloneGap_any A n c f.gs W (h.below hb) (by omega))
  have HF : Hid (∀ A c, fanA (f.pleat arc) A n c = fanA f A n c) := fun _ _ => rfl
  have HS := Lib.hid (fun k (hk : k < n) => plL_succ arc k f.gs (by omega))
  have HA : Hid (plL arc n f.gs = (f.pleat arc).gs) := by unfold Hid; rw [← hl]; exact plL_all arc f.gs
  have HZ : Hid (plL arc 0 f.gs = f.gs) := plL_zero arc f.gs
  have HLL := Lib.hid (fun k => plL_length arc k f.gs)
  have HN := Lib.hid hl
  clear h hl
  unfold FanRes
  generalize (f.pleat arc) = f2 at *
  obtain ⟨fa, fb, fc, fd, gs⟩ := f
  simp only [fanA] at *
  unfold CloneRes at HC
  go_enter Try.func84, Try.ntmps84
  go_wp2_with fail
  refine (HC.out _ E0.out.bel).mono ?_
  rintro e W1 ⟨A1, c1, rfl, hO, hb1⟩
  have E1 := Lib.hid (E0.out.below hb1)
  have O1 := Lib.hid hO
  have p1 := fan_get E1.out.p
  have pf := E1.out.p.frozen 4
  have hgg : ∀ g, 0 < n → A1 = some ⟨g, 0, none⟩ → w.heap.size + 1 < g := fun g h0 he => by
    obtain ⟨g', e', hg', _⟩ := hO.2 h0
    rw [he] at e'
    simp only [Option.some.injEq, Addr.mk.injEq, and_true] at e'
    have := E0.out.q.lt
    omega
  have HGG := Lib.hid hgg
  clear hO hb1 hgg
  go_wp2_with fail
  go_loopw [5, 13] (fun _ i wr => ∃ k : Nat, k ≤ n ∧ i = .int .i64 k ∧ Blk wr w.heap.size 26 #[.int .i64 fa, .int .i64 fb, .int .i64 fc, .int .i64 fd, .slice A1 n c1] ∧ Blk wr (w.heap.size + 1) 26 #[.int .i64 0, .int .i64 0, .int .i64 0, .int .i64 0, .slice none 0 0] ∧ Below w.heap.size w wr ∧ Gaps wr A1 n (plL arc k gs) ∧ (0 < n → ∃ g, A1 = some ⟨g, 0, none⟩ ∧ RB wr g 42 (flatG (plL arc k gs)))) (fun _ i _ => n - (intOf i).toNat)
  case atStart =>
    have hq : ¬ w.heap.size + 1 = w.heap.size := by omega
    refine ⟨0, Nat.zero_le _, rfl, E1.out.p.set_ 4 _, E1.out.q.far (p := ⟨w.heap.size, 4, none⟩) hq _, E1.out.bel.setCell (p := ⟨w.heap.size, 4, none⟩) (Nat.le_refl _) _, ?_, fun h0 => ?_⟩
    · rw [HZ.out]
      rcases Nat.eq_zero_or_pos n with h0 | h0
      · exact ⟨O1.out.1.1, fun h => absurd h (by omega)⟩
      · obtain ⟨g, rfl, hg, hR⟩ := O1.out.2 h0
        have hg1 := HGG.out g h0 rfl
        have := (hR.far (p := ⟨w.heap.size, 4, none⟩) (by show ¬ g = w.heap.size; omega) (.slice (some ⟨g, 0, none⟩) n c1)).gaps
        rw [HN.out] at this
        exact this
    · rw [HZ.out]
      obtain ⟨g, rfl, hg, hR⟩ := O1.out.2 h0
      have hg1 := HGG.out g h0 rfl
      exact ⟨g, rfl, hR.far (p := ⟨w.heap.size, 4, none⟩) (by show ¬ g = w.heap.size; omega) _⟩
  case round =>
    obtain ⟨k, hk, rfl, hP, hQ, hB, hG, hR⟩ := hrel
    have P2 := Lib.hid hP
    have Q2 := Lib.hid hQ
    have B2 := Lib.hid hB
    have G2 := Lib.hid hG
    have R2 := Lib.hid hR
    clear hP hQ hB hG hR p1 pf
    by_cases hlt : k < n
    · obtain ⟨g, rfl, hR⟩ := R2.out (by omega)
      have hg1 := HGG.out g (by omega) rfl
      have p2 := fan_get P2.out
      have z0 := hR.frozen (k * 4)
      have z1 := hR.frozen (k * 4 + 1)
      have hgs := hR.lt
      have hgl : k * 4 + 1 < (flatG (plL arc k gs)).length := by rw [flatG_length, HLL.out, HN.out]; omega
      have x0 := hR.cell (List.getElem?_eq_getElem (show k * 4 < (flatG (plL arc k gs)).length by omega))
      have x1 := hR.cell (List.getElem?_eq_getElem hgl)
      have hgl' := Lib.hid hgl
      have R3 := Lib.hid hR
      have n1 : ¬ g = w.heap.size := by omega
      have n2 : ¬ w.heap.size = g := by omega
      have n3 : ¬ w.heap.size + 1 = g := by omega
      have N2 := Lib.hid n2; have N3 := Lib.hid n3
      have hs := Lib.hid (HS.out k hlt)
      have Hg := Lib.hid hg1
      clear hR
      generalize (flatG (plL arc k gs))[k * 4] = y0 at *
      generalize (flatG (plL arc k gs))[k * 4 + 1] = y1 at *
      clear hgl
      go_wp2_with fail
      go_roundw
      case rel =>
        have R4 := ((R3.out.set (i := k * 4) (by have := hgl'.out; omega) (.int .i64 arc)).set (i := k * 4 + 1) (by rw [List.length_set]; exact hgl'.out) (.int .i64 arc))
        rw [hs.out] at R4
        have b2 (o : Nat) : w.heap.size ≤ (⟨g, o, none⟩ : Addr).block := by show w.heap.size ≤ g; have := Hg.out; omega
        refine ⟨k + 1, by omega, by go_num, (P2.out.far (p := ⟨g, k * 4, none⟩) N2.out _).far (p := ⟨g, k * 4 + 1, none⟩) N2.out _, (Q2.out.far (p := ⟨g, k * 4, none⟩) N3.out _).far (p := ⟨g, k * 4 + 1, none⟩) N3.out _, (B2.out.setCell (b2 _) _).setCell (b2 _) _, ?_, fun _ => ⟨g, rfl, R4⟩⟩
        have := R4.gaps
        rw [HLL.out, HN.out] at this
        exact this
      case measure => simp [intOf]; omega
    · obtain rfl : k = n := by omega
      have p2 := fan_get P2.out
      have q2 := fan_get Q2.out
      have q0 := Q2.out.frozen 0; have q1 := Q2.out.frozen 1; have q3 := Q2.out.frozen 2; have q4 := Q2.out.frozen 3; have q5 := Q2.out.frozen 4
      go_wp2_with fail
      refine bodyPost_ret (results_c rfl _ _ _ (w.heap.size + 1) _ _ _ rfl (((((Q2.out.set_ 0 _).set_ 1 _).set_ 2 _).set_ 3 _).set_ 4 _) Try.underlying26 (by kernel_rfl)) rfl ⟨A1, c1, ?_, ?_, ?_⟩
      · exact congrArg (fun a => Ending.returned (Value.agg a)) (HF.out A1 c1).symm
      · rw [← HA.out]
        rcases Nat.eq_zero_or_pos k with h0 | h0
        · exact ⟨G2.out.1, fun h => absurd h (by omega)⟩
        · obtain ⟨g, rfl, hR⟩ := R2.out h0
          have hg1 := HGG.out g h0 rfl
          have n2 : ¬ g = w.heap.size + 1 := by omega
          have := (((((hR.far (p := ⟨w.heap.size + 1, 0, none⟩) n2 (.int .i64 fa)).far (p := ⟨w.heap.size + 1, 1, none⟩) n2 (.int .i64 fb)).far (p := ⟨w.heap.size + 1, 2, none⟩) n2 (.int .i64 fc)).far (p := ⟨w.heap.size + 1, 3, none⟩) n2 (.int .i64 fd)).far (p := ⟨w.heap.size + 1, 4, none⟩) n2 (.slice (some ⟨g, 0, none⟩) k c1)).gaps
          rw [HLL.out, HN.out] at this
          exact this
      · have b (o : Nat) : w.heap.size ≤ (⟨w.heap.size + 1, o, none⟩ : Addr).block := Nat.le_succ _
        exact ((((B2.out.setCell (b 0) _).setCell (b 1) _).setCell (b 2) _).setCell (b 3) _).setCell (b 4) _
end Go.Proofs.Ytdekickmplkdiaa
