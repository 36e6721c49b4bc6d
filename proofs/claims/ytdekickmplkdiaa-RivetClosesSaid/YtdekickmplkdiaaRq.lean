/- Walks: MinFunc, MaxFunc, the outermost ratio. -/
import Derived.Test.YtdekickmplkdiaaRp
import Derived.Test.YtdekickmplkdiaaRh
namespace Go.Proofs.Ytdekickmplkdiaa
open Go.RowKit

/-- The outermost of the first k + 1 ratios. -/
def pickGo (u : Bool) (rs : List (Int × Int)) : Nat → Int × Int
  | 0 => rs.getD 0 (0, 0)
  | k + 1 => if (bif u then decide (0 < ratL (rs.getD (k + 1) (0, 0)).1 (rs.getD (k + 1) (0, 0)).2 (pickGo u rs k).1 (pickGo u rs k).2) else decide (ratL (rs.getD (k + 1) (0, 0)).1 (rs.getD (k + 1) (0, 0)).2 (pickGo u rs k).1 (pickGo u rs k).2 < 0)) = true then rs.getD (k + 1) (0, 0) else pickGo u rs k
def RatB (r : Int × Int) : Prop := (0 ≤ r.1 ∧ r.1 ≤ 1000000000) ∧ (0 ≤ r.2 ∧ r.2 ≤ 25000000)
theorem getD_B {rs : List (Int × Int)} (h : ∀ r ∈ rs, RatB r) (k : Nat) (hk : k < rs.length) : RatB (rs.getD k (0, 0)) := by
  have e : rs.getD k (0, 0) = rs[k] := by simp [List.getD, hk]
  rw [e]; exact h _ (List.getElem_mem hk)
theorem pick_B {u : Bool} {rs : List (Int × Int)} (h : ∀ r ∈ rs, RatB r) (k : Nat) (hk : k < rs.length) : RatB (pickGo u rs k) := by
  induction k with
  | zero => exact getD_B h 0 hk
  | succ k ih =>
    rw [pickGo]
    split
    · exact getD_B h _ hk
    · exact ih (by omega)
theorem rats_get {W : World} {g g' o : Nat} {x0 x1 y0 y1 : Value} (h : Blk W g 77 #[x0, x1]) (c0 : W.cell? ⟨g', o, none⟩ = some y0) (c1 : W.cell? ⟨g', o + 1, none⟩ = some y1) : W.cell? ⟨g, 0, none⟩ = some x0 ∧ W.cell? ⟨g, 1, none⟩ = some x1 ∧ W.cell? ⟨g', o, none⟩ = some y0 ∧ W.cell? ⟨g', o + 1, none⟩ = some y1 := ⟨h.cell 0, h.cell 1, c0, c1⟩
theorem cell_below {W W' : World} {g o : Nat} {v : Value} (hb : Below W.heap.size W W') (h : W.cell? ⟨g, o, none⟩ = some v) : W'.cell? ⟨g, o, none⟩ = some v := (hb.cell (p := ⟨g, o, none⟩) (block_lt_of_cell h)).trans h

set_option maxRecDepth 100000 in
set_option maxHeartbeats 2000000 in
theorem MinFunc_any (rs : List (Int × Int)) (A : Option Addr) (n c : Nat) (w : World) (h : Pairs w A n rs) (h0 : 0 < n) (hn : n ≤ 1000) (hr : ∀ r ∈ rs, RatB r) :
    Calls Try.prog 102 #[.slice A n c, .func (.func 68) #[] #[]] w fun e w' => e = .returned (.agg #[.int .i64 (pickGo false rs (n - 1)).1, .int .i64 (pickGo false rs (n - 1)).2]) ∧ Below w.heap.size w w' := by
  have hl := h.len
  have HG := Lib.hid h
  have Hl := Lib.hid hl
  have HZ := Lib.hid (show pickGo false rs 0 = rs.getD 0 (0, 0) from rfl)
  have HS := Lib.hid (fun k => show pickGo false rs (k + 1) = if decide (ratL (rs.getD (k + 1) (0, 0)).1 (rs.getD (k + 1) (0, 0)).2 (pickGo false rs k).1 (pickGo false rs k).2 < 0) = true then rs.getD (k + 1) (0, 0) else pickGo false rs k from rfl)
  have HP := Lib.hid (fun k (hk : k < n) => pick_B (u := false) hr k (by omega))
  have HR := Lib.hid (fun k (hk : k < n) => getD_B hr k (by omega))
  have ⟨b, off, eA, hb, _⟩ := h.at_ h0
  subst eA
  obtain ⟨b', off', e', hb', c0, c1⟩ := (h.below ((below_self w (.cells #[.int .i64 0, .int .i64 0] 77)))).at_ h0
  simp only [Option.some.injEq, Addr.mk.injEq, and_true] at e'
  obtain ⟨rfl, rfl⟩ := e'
  have E0 := Lib.hid (fun c1 => Env2.start w 77 77 #[.int .i64 0, .int .i64 0] c1)
  clear hl h hr hb'
  generalize pickGo false rs = pk at *
  have hn1 : ¬ (n : Int) < 1 := by omega
  have hn0 : (0 : Int) < (n : Int) := by omega
  generalize hz : rs.getD 0 (0, 0) = z0 at *
  have Hz := Lib.hid hz
  clear hz
  obtain ⟨za, zb⟩ := z0
  simp only [Nat.zero_mul, Nat.add_zero] at c0 c1
  go_enter Try.func102, Try.ntmps102
  go_wp2
  clear c0 c1
  go_loopw [6] (fun i wr => ∃ k : Nat, 1 ≤ k ∧ k ≤ n ∧ i = .int .i64 k ∧ Env2 w wr 77 77 #[.int .i64 0, .int .i64 0] #[.int .i64 (pk (k - 1)).1, .int .i64 (pk (k - 1)).2]) (fun i _ => n - (intOf i).toNat)
  case atStart => exact ⟨1, Nat.le_refl _, h0, rfl, by rw [Nat.sub_self, HZ.out]; exact E0.out _⟩
  case round =>
    obtain ⟨k, hk1, hk, rfl, hE⟩ := hrel
    have E1 := Lib.hid hE
    clear hE
    by_cases hlt : k < n
    · obtain ⟨b', off', e', hb', c0, c1⟩ := (HG.out.below E1.out.bel).at_ hlt
      simp only [Option.some.injEq, Addr.mk.injEq, and_true] at e'
      obtain ⟨rfl, rfl⟩ := e'
      have hgo := HS.out (k - 1)
      rw [Nat.sub_add_cancel hk1] at hgo
      have hp := HP.out (k - 1) (by omega)
      have hr := HR.out k hlt
      generalize rs.getD k (0, 0) = y at *
      generalize pk (k - 1) = z at *
      obtain ⟨ya, yb⟩ := y
      obtain ⟨za, zb⟩ := z
      simp only at hp hr c0 c1 hgo
      have HC := Lib.hid (fun W => compare_any ya yb za zb W hr.1 hr.2 hp.1 hp.2)
      clear hp hr
      generalize ratL ya yb za zb = q at *
      have E1d := Lib.hid E1.out.drewd
      have C0d : Hid (wr.drew.cell? ⟨b, off + k * 2, none⟩ = some (.int .i64 ya)) := c0
      have C1d : Hid (wr.drew.cell? ⟨b, off + k * 2 + 1, none⟩ = some (.int .i64 yb)) := c1
      have hk0 : (0 : Int) ≤ (k : Int) := by omega
      have hkn : (k : Int) < (n : Int) := by omega
      clear c0 c1
      by_cases ht : q < 0
      · have hgo := Lib.hid (show pk (k + 1 - 1) = (ya, yb) from by rw [Nat.add_sub_cancel]; rw [hgo, if_pos (by simpa using ht)])
        go_wp2_with fail
        go_region_held3 (fun W => W.cell? ⟨w.heap.size + 1, 0, none⟩ = some (.int .i64 za) ∧ W.cell? ⟨w.heap.size + 1, 1, none⟩ = some (.int .i64 zb) ∧ W.cell? ⟨b, off + k * 2, none⟩ = some (.int .i64 ya) ∧ W.cell? ⟨b, off + k * 2 + 1, none⟩ = some (.int .i64 yb))
          (first | with_reducible exact rats_get E1d.out.q C0d.out C1d.out | with_reducible exact rats_get E3.out.q D0.out D1.out)
          (first | (go_at_call 68; refine (HC.out _).mono ?_; rintro e W3 ⟨rfl, hb3⟩; have E3 := Lib.hid (E1d.out.below hb3); have D0 := Lib.hid (cell_below hb3 C0d.out); have D1 := Lib.hid (cell_below hb3 C1d.out); clear hb3))
        all_goals
          have r3 := rat_get E3.out.q
          have d0 := D0.out
          have d1 := D1.out
          go_wp2
          go_roundw
          case rel => exact ⟨k + 1, by omega, by omega, by go_num, by rw [hgo.out]; exact ⟨(E3.out.p.far (p := ⟨w.heap.size + 1, 0, none⟩) (by simp) _).far (p := ⟨w.heap.size + 1, 1, none⟩) (by simp) _, (E3.out.q.set_ 0 _).set_ 1 _, (E3.out.bel.setCell (p := ⟨w.heap.size + 1, 0, none⟩) (by simp) _).setCell (p := ⟨w.heap.size + 1, 1, none⟩) (by simp) _⟩⟩
          case measure => simp [intOf]; omega
      · have hgo := Lib.hid (show pk (k + 1 - 1) = (za, zb) from by rw [Nat.add_sub_cancel]; rw [hgo, if_neg (by simpa using ht)])
        go_wp2_with fail
        go_region_held3 (fun W => W.cell? ⟨w.heap.size + 1, 0, none⟩ = some (.int .i64 za) ∧ W.cell? ⟨w.heap.size + 1, 1, none⟩ = some (.int .i64 zb) ∧ W.cell? ⟨b, off + k * 2, none⟩ = some (.int .i64 ya) ∧ W.cell? ⟨b, off + k * 2 + 1, none⟩ = some (.int .i64 yb))
          (first | with_reducible exact rats_get E1d.out.q C0d.out C1d.out | with_reducible exact rats_get E3.out.q D0.out D1.out)
          (first | (go_at_call 68; refine (HC.out _).mono ?_; rintro e W3 ⟨rfl, hb3⟩; have E3 := Lib.hid (E1d.out.below hb3); have D0 := Lib.hid (cell_below hb3 C0d.out); have D1 := Lib.hid (cell_below hb3 C1d.out); clear hb3))
        all_goals
          have r3 := rat_get E3.out.q
          have d0 := D0.out
          have d1 := D1.out
          go_wp2
          go_roundw
          case rel => exact ⟨k + 1, by omega, by omega, by go_num, by rw [hgo.out]; exact E3.out⟩
          case measure => simp [intOf]; omega
    · obtain rfl : k = n := by omega
      have r1 := rat_get E1.out.q
      have q1 := rat_get E1.out.p
      go_wp2
      exact bodyPost_ret (results_c rfl _ _ _ w.heap.size _ _ _ rfl ((E1.out.p.set_ 0 _).set_ 1 _) Try.underlying77 (by kernel_rfl)) rfl ⟨rfl, (E1.out.bel.setCell (p := ⟨w.heap.size, 0, none⟩) (Nat.le_refl _) _).setCell (p := ⟨w.heap.size, 1, none⟩) (Nat.le_refl _) _⟩

set_option maxHeartbeats 400000 in
theorem pickfalse_any (rs : List (Int × Int)) (A : Option Addr) (n c : Nat) (w : World) (h : Pairs w A n rs) (h0 : 0 < n) (hn : n ≤ 1000) (hr : ∀ r ∈ rs, RatB r) :
    Calls Try.prog 101 #[.slice A n c] w fun e w' => e = .returned (.agg #[.int .i64 (pickGo false rs (n - 1)).1, .int .i64 (pickGo false rs (n - 1)).2]) ∧ Below w.heap.size w w' := by
  have B0 := Lib.hid (below_self w (.cells #[.int .i64 0, .int .i64 0] 77))
  have R0 := Lib.hid (Blk.new w 77 #[.int .i64 0, .int .i64 0] rfl)
  have C := Lib.hid (MinFunc_any rs A n c _ (h.below B0.out) h0 hn hr)
  clear h hr
  generalize pickGo false rs (n - 1) = z at *
  go_enter Try.func101, Try.ntmps101
  go_wp2_with fail
  refine C.out.mono ?_
  rintro e W1 ⟨rfl, hb1⟩
  have R1 := Lib.hid (blk_keep hb1 R0.out)
  have B1 := Lib.hid (below_then B0.out hb1)
  have r1 := rat_get R1.out
  clear hb1
  go_wp2
  exact bodyPost_ret (results_c rfl _ _ _ w.heap.size _ _ _ rfl ((R1.out.set_ 0 _).set_ 1 _) Try.underlying77 (by kernel_rfl)) rfl ⟨rfl, (B1.out.setCell (p := ⟨w.heap.size, 0, none⟩) (Nat.le_refl _) _).setCell (p := ⟨w.heap.size, 1, none⟩) (Nat.le_refl _) _⟩

set_option maxRecDepth 100000 in
set_option maxHeartbeats 2000000 in
theorem MaxFunc_any (rs : List (Int × Int)) (A : Option Addr) (n c : Nat) (w : World) (h : Pairs w A n rs) (h0 : 0 < n) (hn : n ≤ 1000) (hr : ∀ r ∈ rs, RatB r) :
    Calls Try.prog 107 #[.slice A n c, .func (.func 68) #[] #[]] w fun e w' => e = .returned (.agg #[.int .i64 (pickGo true rs (n - 1)).1, .int .i64 (pickGo true rs (n - 1)).2]) ∧ Below w.heap.size w w' := by
  have hl := h.len
  have HG := Lib.hid h
  have Hl := Lib.hid hl
  have HZ := Lib.hid (show pickGo true rs 0 = rs.getD 0 (0, 0) from rfl)
  have HS := Lib.hid (fun k => show pickGo true rs (k + 1) = if decide (0 < ratL (rs.getD (k + 1) (0, 0)).1 (rs.getD (k + 1) (0, 0)).2 (pickGo true rs k).1 (pickGo true rs k).2) = true then rs.getD (k + 1) (0, 0) else pickGo true rs k from rfl)
  have HP := Lib.hid (fun k (hk : k < n) => pick_B (u := true) hr k (by omega))
  have HR := Lib.hid (fun k (hk : k < n) => getD_B hr k (by omega))
  have ⟨b, off, eA, hb, _⟩ := h.at_ h0
  subst eA
  obtain ⟨b', off', e', hb', c0, c1⟩ := (h.below ((below_self w (.cells #[.int .i64 0, .int .i64 0] 77)))).at_ h0
  simp only [Option.some.injEq, Addr.mk.injEq, and_true] at e'
  obtain ⟨rfl, rfl⟩ := e'
  have E0 := Lib.hid (fun c1 => Env2.start w 77 77 #[.int .i64 0, .int .i64 0] c1)
  clear hl h hr hb'
  generalize pickGo true rs = pk at *
  have hn1 : ¬ (n : Int) < 1 := by omega
  have hn0 : (0 : Int) < (n : Int) := by omega
  generalize hz : rs.getD 0 (0, 0) = z0 at *
  have Hz := Lib.hid hz
  clear hz
  obtain ⟨za, zb⟩ := z0
  simp only [Nat.zero_mul, Nat.add_zero] at c0 c1
  go_enter Try.func107, Try.ntmps107
  go_wp2
  clear c0 c1
  go_loopw [6] (fun i wr => ∃ k : Nat, 1 ≤ k ∧ k ≤ n ∧ i = .int .i64 k ∧ Env2 w wr 77 77 #[.int .i64 0, .int .i64 0] #[.int .i64 (pk (k - 1)).1, .int .i64 (pk (k - 1)).2]) (fun i _ => n - (intOf i).toNat)
  case atStart => exact ⟨1, Nat.le_refl _, h0, rfl, by rw [Nat.sub_self, HZ.out]; exact E0.out _⟩
  case round =>
    obtain ⟨k, hk1, hk, rfl, hE⟩ := hrel
    have E1 := Lib.hid hE
    clear hE
    by_cases hlt : k < n
    · obtain ⟨b', off', e', hb', c0, c1⟩ := (HG.out.below E1.out.bel).at_ hlt
      simp only [Option.some.injEq, Addr.mk.injEq, and_true] at e'
      obtain ⟨rfl, rfl⟩ := e'
      have hgo := HS.out (k - 1)
      rw [Nat.sub_add_cancel hk1] at hgo
      have hp := HP.out (k - 1) (by omega)
      have hr := HR.out k hlt
      generalize rs.getD k (0, 0) = y at *
      generalize pk (k - 1) = z at *
      obtain ⟨ya, yb⟩ := y
      obtain ⟨za, zb⟩ := z
      simp only at hp hr c0 c1 hgo
      have HC := Lib.hid (fun W => compare_any ya yb za zb W hr.1 hr.2 hp.1 hp.2)
      clear hp hr
      generalize ratL ya yb za zb = q at *
      have E1d := Lib.hid E1.out.drewd
      have C0d : Hid (wr.drew.cell? ⟨b, off + k * 2, none⟩ = some (.int .i64 ya)) := c0
      have C1d : Hid (wr.drew.cell? ⟨b, off + k * 2 + 1, none⟩ = some (.int .i64 yb)) := c1
      have hk0 : (0 : Int) ≤ (k : Int) := by omega
      have hkn : (k : Int) < (n : Int) := by omega
      clear c0 c1
      by_cases ht : 0 < q
      · have hgo := Lib.hid (show pk (k + 1 - 1) = (ya, yb) from by rw [Nat.add_sub_cancel]; rw [hgo, if_pos (by simpa using ht)])
        go_wp2_with fail
        go_region_held3 (fun W => W.cell? ⟨w.heap.size + 1, 0, none⟩ = some (.int .i64 za) ∧ W.cell? ⟨w.heap.size + 1, 1, none⟩ = some (.int .i64 zb) ∧ W.cell? ⟨b, off + k * 2, none⟩ = some (.int .i64 ya) ∧ W.cell? ⟨b, off + k * 2 + 1, none⟩ = some (.int .i64 yb))
          (first | with_reducible exact rats_get E1d.out.q C0d.out C1d.out | with_reducible exact rats_get E3.out.q D0.out D1.out)
          (first | (go_at_call 68; refine (HC.out _).mono ?_; rintro e W3 ⟨rfl, hb3⟩; have E3 := Lib.hid (E1d.out.below hb3); have D0 := Lib.hid (cell_below hb3 C0d.out); have D1 := Lib.hid (cell_below hb3 C1d.out); clear hb3))
        all_goals
          have r3 := rat_get E3.out.q
          have d0 := D0.out
          have d1 := D1.out
          go_wp2
          go_roundw
          case rel => exact ⟨k + 1, by omega, by omega, by go_num, by rw [hgo.out]; exact ⟨(E3.out.p.far (p := ⟨w.heap.size + 1, 0, none⟩) (by simp) _).far (p := ⟨w.heap.size + 1, 1, none⟩) (by simp) _, (E3.out.q.set_ 0 _).set_ 1 _, (E3.out.bel.setCell (p := ⟨w.heap.size + 1, 0, none⟩) (by simp) _).setCell (p := ⟨w.heap.size + 1, 1, none⟩) (by simp) _⟩⟩
          case measure => simp [intOf]; omega
      · have hgo := Lib.hid (show pk (k + 1 - 1) = (za, zb) from by rw [Nat.add_sub_cancel]; rw [hgo, if_neg (by simpa using ht)])
        go_wp2_with fail
        go_region_held3 (fun W => W.cell? ⟨w.heap.size + 1, 0, none⟩ = some (.int .i64 za) ∧ W.cell? ⟨w.heap.size + 1, 1, none⟩ = some (.int .i64 zb) ∧ W.cell? ⟨b, off + k * 2, none⟩ = some (.int .i64 ya) ∧ W.cell? ⟨b, off + k * 2 + 1, none⟩ = some (.int .i64 yb))
          (first | with_reducible exact rats_get E1d.out.q C0d.out C1d.out | with_reducible exact rats_get E3.out.q D0.out D1.out)
          (first | (go_at_call 68; refine (HC.out _).mono ?_; rintro e W3 ⟨rfl, hb3⟩; have E3 := Lib.hid (E1d.out.below hb3); have D0 := Lib.hid (cell_below hb3 C0d.out); have D1 := Lib.hid (cell_below hb3 C1d.out); clear hb3))
        all_goals
          have r3 := rat_get E3.out.q
          have d0 := D0.out
          have d1 := D1.out
          go_wp2
          go_roundw
          case rel => exact ⟨k + 1, by omega, by omega, by go_num, by rw [hgo.out]; exact E3.out⟩
          case measure => simp [intOf]; omega
    · obtain rfl : k = n := by omega
      have r1 := rat_get E1.out.q
      have q1 := rat_get E1.out.p
      go_wp2
      exact bodyPost_ret (results_c rfl _ _ _ w.heap.size _ _ _ rfl ((E1.out.p.set_ 0 _).set_ 1 _) Try.underlying77 (by kernel_rfl)) rfl ⟨rfl, (E1.out.bel.setCell (p := ⟨w.heap.size, 0, none⟩) (Nat.le_refl _) _).setCell (p := ⟨w.heap.size, 1, none⟩) (Nat.le_refl _) _⟩

set_option maxHeartbeats 400000 in
theorem picktrue_any (rs : List (Int × Int)) (A : Option Addr) (n c : Nat) (w : World) (h : Pairs w A n rs) (h0 : 0 < n) (hn : n ≤ 1000) (hr : ∀ r ∈ rs, RatB r) :
    Calls Try.prog 106 #[.slice A n c] w fun e w' => e = .returned (.agg #[.int .i64 (pickGo true rs (n - 1)).1, .int .i64 (pickGo true rs (n - 1)).2]) ∧ Below w.heap.size w w' := by
  have B0 := Lib.hid (below_self w (.cells #[.int .i64 0, .int .i64 0] 77))
  have R0 := Lib.hid (Blk.new w 77 #[.int .i64 0, .int .i64 0] rfl)
  have C := Lib.hid (MaxFunc_any rs A n c _ (h.below B0.out) h0 hn hr)
  clear h hr
  generalize pickGo true rs (n - 1) = z at *
  go_enter Try.func106, Try.ntmps106
  go_wp2_with fail
  refine C.out.mono ?_
  rintro e W1 ⟨rfl, hb1⟩
  have R1 := Lib.hid (blk_keep hb1 R0.out)
  have B1 := Lib.hid (below_then B0.out hb1)
  have r1 := rat_get R1.out
  clear hb1
  go_wp2
  exact bodyPost_ret (results_c rfl _ _ _ w.heap.size _ _ _ rfl ((R1.out.set_ 0 _).set_ 1 _) Try.underlying77 (by kernel_rfl)) rfl ⟨rfl, (B1.out.setCell (p := ⟨w.heap.size, 0, none⟩) (Nat.le_refl _) _).setCell (p := ⟨w.heap.size, 1, none⟩) (Nat.le_refl _) _⟩
end Go.Proofs.Ytdekickmplkdiaa
