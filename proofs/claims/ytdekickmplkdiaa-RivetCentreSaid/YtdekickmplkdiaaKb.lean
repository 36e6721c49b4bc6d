/- Merged: Rd, Re, Rf, Hd, Unt. -/
import Derived.Test.YtdekickmplkdiaaKa
import Derived.Deep.RegionHeld3

/- Walks: parts, angles. -/
namespace Go.Proofs.Ytdekickmplkdiaa
open Go.RowKit

structure FanB (f : Fan) : Prop where
  a1 : 1 ≤ f.a
  ab : f.a ≤ f.b
  b5 : f.b ≤ 5000
  c1 : 1 ≤ f.c
  cd : f.c ≤ f.d
  d5 : f.d ≤ 5000
  n : f.gs.length ≤ 41
  g : ∀ g ∈ f.gs, 0 ≤ g.ll ∧ g.ll ≤ g.lh ∧ g.lh ≤ 3000 ∧ 0 ≤ g.fl ∧ g.fl ≤ g.fh ∧ g.fh ≤ 3000
def Fan.val (f : Fan) (A : Option Addr) (n c : Nat) : Value := .agg #[.int .i64 f.a, .int .i64 f.b, .int .i64 f.c, .int .i64 f.d, .slice A n c]
def fanA (f : Fan) (A : Option Addr) (n c : Nat) : Array Value := #[.int .i64 f.a, .int .i64 f.b, .int .i64 f.c, .int .i64 f.d, .slice A n c]
def partsL (u : Bool) (f : Fan) : Int := fal u f.a f.b * fal u f.c f.d
theorem parts_bd {f : Fan} (h : FanB f) (u : Bool) : 1 ≤ partsL u f ∧ partsL u f ≤ 25000000 := by
  have h1 := h.a1; have h2 := h.ab; have h3 := h.b5; have h4 := h.c1; have h5 := h.cd; have h6 := h.d5
  unfold partsL fal
  cases u
  · have := mul_bd (x := f.b) (X := 5000) (y := f.d) (Y := 5000) (by omega) h3 (by omega) h6
    have q := Int.mul_le_mul (a := 1) (b := 1) (c := f.b) (d := f.d) (by omega) (by omega) (by omega) (by omega)
    simp only [cond_false]; omega
  · have := mul_bd (x := f.a) (X := 5000) (y := f.c) (Y := 5000) (by omega) (by omega) (by omega) (by omega)
    have q := Int.mul_le_mul (a := 1) (b := 1) (c := f.a) (d := f.c) (by omega) (by omega) (by omega) (by omega)
    simp only [cond_true]; omega

theorem env_get {w W : World} {x0 x1 x2 fa fb fc fd sl : Value} (h : Env2 w W 117 26 #[x0, x1, x2] #[fa, fb, fc, fd, sl]) :
    W.cell? ⟨w.heap.size, 0, none⟩ = some x0 ∧ W.cell? ⟨w.heap.size, 1, none⟩ = some x1 ∧ W.cell? ⟨w.heap.size, 2, none⟩ = some x2 ∧ W.cell? ⟨w.heap.size + 1, 0, none⟩ = some fa ∧ W.cell? ⟨w.heap.size + 1, 1, none⟩ = some fb ∧ W.cell? ⟨w.heap.size + 1, 2, none⟩ = some fc ∧ W.cell? ⟨w.heap.size + 1, 3, none⟩ = some fd ∧ W.cell? ⟨w.heap.size + 1, 4, none⟩ = some sl :=
  ⟨h.p.cell 0, h.p.cell 1, h.p.cell 2, h.q.cell 0, h.q.cell 1, h.q.cell 2, h.q.cell 3, h.q.cell 4⟩

set_option maxRecDepth 100000 in
set_option maxHeartbeats 1000000 in
theorem parts_any (u : Bool) (f : Fan) (A : Option Addr) (n c : Nat) (w : World) (hf : FanB f) :
    Calls Try.prog 105 #[.agg (endA u), .agg (fanA f A n c)] w fun e w' => e = .returned (.int .i64 (partsL u f)) ∧ Below w.heap.size w w' := by
  have hp := parts_bd hf u
  have E0 := Lib.hid (Env2.start w 117 26 (endA u) (fanA f A n c))
  obtain ⟨fa, fb, fc, fd, gs⟩ := f
  have q : IntKind.i64.wrap (partsL u ⟨fa, fb, fc, fd, gs⟩) = partsL u ⟨fa, fb, fc, fd, gs⟩ := IntWalk.i64_in _ (by omega)
  clear hf hp
  have Q : Hid (IntKind.i64.wrap (partsL u ⟨fa, fb, fc, fd, gs⟩) = partsL u ⟨fa, fb, fc, fd, gs⟩) := q
  clear q
  cases u <;> simp only [endA, fanA, partsL, fal, cond_true, cond_false] at *
  · go_enter Try.func105, Try.ntmps105
    go_wp2_with fail
    go_region_held3 (fun W => W.cell? ⟨w.heap.size, 0, none⟩ = some (.func (.func 99) #[] #[]) ∧ W.cell? ⟨w.heap.size, 1, none⟩ = some (.func (.func 100) #[] #[]) ∧ W.cell? ⟨w.heap.size, 2, none⟩ = some (.func (.func 101) #[] #[]) ∧ W.cell? ⟨w.heap.size + 1, 0, none⟩ = some (.int .i64 fa) ∧ W.cell? ⟨w.heap.size + 1, 1, none⟩ = some (.int .i64 fb) ∧ W.cell? ⟨w.heap.size + 1, 2, none⟩ = some (.int .i64 fc) ∧ W.cell? ⟨w.heap.size + 1, 3, none⟩ = some (.int .i64 fd) ∧ W.cell? ⟨w.heap.size + 1, 4, none⟩ = some (.slice A n c))
      (first | with_reducible exact env_get E2.out | with_reducible exact env_get E1.out | with_reducible exact env_get E0.out.drewd | with_reducible exact env_get E0.out)
      (first | (go_at_call_of 100 (Value.agg #[Value.int .i64 fa, Value.int .i64 fb]); refine (high_any _ _ _).mono ?_; rintro e W1 ⟨rfl, hb1⟩; have E1 := Lib.hid (E0.out.drewd.below hb1); clear hb1) | (go_at_call_of 100 (Value.agg #[Value.int .i64 fc, Value.int .i64 fd]); refine (high_any _ _ _).mono ?_; rintro e W2 ⟨rfl, hb2⟩; have E2 := Lib.hid (E1.out.below hb2); clear hb2))
    all_goals
      go_wp2
      go_ret
      exact ⟨ret_int Q.out, E2.out.bel⟩
  · go_enter Try.func105, Try.ntmps105
    go_wp2_with fail
    go_region_held3 (fun W => W.cell? ⟨w.heap.size, 0, none⟩ = some (.func (.func 100) #[] #[]) ∧ W.cell? ⟨w.heap.size, 1, none⟩ = some (.func (.func 99) #[] #[]) ∧ W.cell? ⟨w.heap.size, 2, none⟩ = some (.func (.func 106) #[] #[]) ∧ W.cell? ⟨w.heap.size + 1, 0, none⟩ = some (.int .i64 fa) ∧ W.cell? ⟨w.heap.size + 1, 1, none⟩ = some (.int .i64 fb) ∧ W.cell? ⟨w.heap.size + 1, 2, none⟩ = some (.int .i64 fc) ∧ W.cell? ⟨w.heap.size + 1, 3, none⟩ = some (.int .i64 fd) ∧ W.cell? ⟨w.heap.size + 1, 4, none⟩ = some (.slice A n c))
      (first | with_reducible exact env_get E2.out | with_reducible exact env_get E1.out | with_reducible exact env_get E0.out.drewd | with_reducible exact env_get E0.out)
      (first | (go_at_call_of 99 (Value.agg #[Value.int .i64 fa, Value.int .i64 fb]); refine (low_any _ _ _).mono ?_; rintro e W1 ⟨rfl, hb1⟩; have E1 := Lib.hid (E0.out.drewd.below hb1); clear hb1) | (go_at_call_of 99 (Value.agg #[Value.int .i64 fc, Value.int .i64 fd]); refine (low_any _ _ _).mono ?_; rintro e W2 ⟨rfl, hb2⟩; have E2 := Lib.hid (E1.out.below hb2); clear hb2))
    all_goals
      go_wp2
      go_ret
      exact ⟨ret_int Q.out, E2.out.bel⟩

/-- The angle of a gap at an end, in parts. -/
def angF (u : Bool) (f : Fan) (g : Gap) : Int := min (ris u g.ll g.lh * fal u f.c f.d) (ris u g.fl g.fh * fal u f.a f.b)
def anglesF (u : Bool) (f : Fan) : List Int := f.gs.map (angF u f)
theorem ang_parts {f : Fan} (h : FanB f) (u : Bool) {g : Gap} (hg : g ∈ f.gs) : (0 ≤ ris u g.ll g.lh * fal u f.c f.d ∧ ris u g.ll g.lh * fal u f.c f.d ≤ 15000000) ∧ (0 ≤ ris u g.fl g.fh * fal u f.a f.b ∧ ris u g.fl g.fh * fal u f.a f.b ≤ 15000000) := by
  have h1 := h.a1; have h2 := h.ab; have h3 := h.b5; have h4 := h.c1; have h5 := h.cd; have h6 := h.d5
  obtain ⟨k1, k2, k3, k4, k5, k6⟩ := h.g g hg
  unfold ris fal
  cases u
  · exact ⟨mul_bd (X := 3000) (Y := 5000) (by simpa using k1) (by simp only [cond_false]; omega) (by simp only [cond_false]; omega) (by simp only [cond_false]; omega), mul_bd (X := 3000) (Y := 5000) (by simpa using k4) (by simp only [cond_false]; omega) (by simp only [cond_false]; omega) (by simp only [cond_false]; omega)⟩
  · exact ⟨mul_bd (X := 3000) (Y := 5000) (by simp only [cond_true]; omega) (by simp only [cond_true]; omega) (by simp only [cond_true]; omega) (by simp only [cond_true]; omega), mul_bd (X := 3000) (Y := 5000) (by simp only [cond_true]; omega) (by simp only [cond_true]; omega) (by simp only [cond_true]; omega) (by simp only [cond_true]; omega)⟩
theorem ang_bd {f : Fan} (h : FanB f) (u : Bool) {g : Gap} (hg : g ∈ f.gs) : 0 ≤ angF u f g ∧ angF u f g ≤ 15000000 := by
  have := ang_parts h u hg
  unfold angF; omega
theorem angles_bd {f : Fan} (h : FanB f) (u : Bool) : ∀ v ∈ anglesF u f, 0 ≤ v ∧ v ≤ 15000000 := by
  intro v hv
  obtain ⟨g, hg, rfl⟩ := List.mem_map.1 hv
  exact ang_bd h u hg
theorem angles_take (u : Bool) (f : Fan) (k : Nat) (hk : k < f.gs.length) : ((anglesF u f).take (k + 1)).map (Value.int .i64) = ((anglesF u f).take k).map (Value.int .i64) ++ [.int .i64 (angF u f (f.gs.getD k Gap.zero))] := by
  have e : f.gs.getD k Gap.zero = f.gs[k] := by simp [List.getD, hk]
  rw [e, List.take_succ_eq_append_getElem (by simpa [anglesF] using hk)]
  simp [anglesF]
theorem env_get3 {w W : World} {gb : Nat} {x0 x1 x2 fa fb fc fd sl g0 g1 g2 g3 : Value} (h : Env2 w W 117 26 #[x0, x1, x2] #[fa, fb, fc, fd, sl]) (hg : Blk W gb 42 #[g0, g1, g2, g3]) :
    W.cell? ⟨w.heap.size, 0, none⟩ = some x0 ∧ W.cell? ⟨w.heap.size, 1, none⟩ = some x1 ∧ W.cell? ⟨w.heap.size, 2, none⟩ = some x2 ∧ W.cell? ⟨w.heap.size + 1, 0, none⟩ = some fa ∧ W.cell? ⟨w.heap.size + 1, 1, none⟩ = some fb ∧ W.cell? ⟨w.heap.size + 1, 2, none⟩ = some fc ∧ W.cell? ⟨w.heap.size + 1, 3, none⟩ = some fd ∧ W.cell? ⟨w.heap.size + 1, 4, none⟩ = some sl ∧
      W.cell? ⟨gb, 0, none⟩ = some g0 ∧ W.cell? ⟨gb, 1, none⟩ = some g1 ∧ W.cell? ⟨gb, 2, none⟩ = some g2 ∧ W.cell? ⟨gb, 3, none⟩ = some g3 :=
  ⟨h.p.cell 0, h.p.cell 1, h.p.cell 2, h.q.cell 0, h.q.cell 1, h.q.cell 2, h.q.cell 3, h.q.cell 4, hg.cell 0, hg.cell 1, hg.cell 2, hg.cell 3⟩
def ListRes (w : World) (L : List Int) (e : Ending) (w' : World) : Prop := ∃ v, e = .returned v ∧ w'.ownsRow w.heap.size 3 1 v L.length (L.map (Value.int .i64)) ∧ Below w.heap.size w w'

set_option maxRecDepth 100000 in
set_option maxHeartbeats 4000000 in
theorem angles_any (u : Bool) (f : Fan) (A : Option Addr) (n c : Nat) (w : World) (hf : FanB f) (h : Gaps w A n f.gs) :
    Calls Try.prog 104 #[.agg (endA u), .agg (fanA f A n c)] w (ListRes w (anglesF u f)) := by
  obtain ⟨i0, hi0, hz0, hz1, hz2⟩ := info_parts Try.infoInt
  have hl := h.len
  have hn := hf.n
  rw [hl] at hn
  have Hl := Lib.hid hl
  have HG := Lib.hid h
  have E0 := Lib.hid (Env2.start w 117 26 (endA u) (fanA f A n c))
  have HT := Lib.hid (angles_take u f)
  have HB : Hid (∀ k, k < n → (0 ≤ ris u (f.gs.getD k Gap.zero).ll (f.gs.getD k Gap.zero).lh * fal u f.c f.d ∧ ris u (f.gs.getD k Gap.zero).ll (f.gs.getD k Gap.zero).lh * fal u f.c f.d ≤ 15000000) ∧ (0 ≤ ris u (f.gs.getD k Gap.zero).fl (f.gs.getD k Gap.zero).fh * fal u f.a f.b ∧ ris u (f.gs.getD k Gap.zero).fl (f.gs.getD k Gap.zero).fh * fal u f.a f.b ≤ 15000000)) := fun k hk => by
    have e : f.gs.getD k Gap.zero = f.gs[k]'(by omega) := by simp [List.getD, show k < f.gs.length from by omega]
    rw [e]; exact ang_parts hf u (List.getElem_mem _)
  clear hl h hf
  have HA := Lib.hid (fun g => show angF u f g = min (ris u g.ll g.lh * fal u f.c f.d) (ris u g.fl g.fh * fal u f.a f.b) from rfl)
  have HLEN := Lib.hid (show (anglesF u f).length = n from by simp [anglesF, Hl.out])
  generalize angF u f = ang at *
  generalize anglesF u f = L at *
  obtain ⟨fa, fb, fc, fd, gs⟩ := f
  simp only at HG HT HB HA Hl
  cases u <;> simp only [endA, fanA, ris, fal, cond_true, cond_false] at *
  · go_enter Try.func104, Try.ntmps104
    go_wp2
    go_loopw [5, 11] (fun s i wr => ∃ (k : Nat) (v : Value), k ≤ n ∧ i = .int .i64 k ∧ s = v ∧ wr.ownsRow w.heap.size 3 1 v k ((L.take k).map (Value.int .i64)) ∧ Env2 w wr 117 26 #[.func (.func 99) #[] #[], .func (.func 100) #[] #[], .func (.func 101) #[] #[]] #[.int .i64 fa, .int .i64 fb, .int .i64 fc, .int .i64 fd, .slice A n c]) (fun _ i _ => n - (intOf i).toNat)
    case atStart => exact ⟨0, _, Nat.zero_le _, rfl, rfl, World.ownsRow_nil _ _ _ _, E0.out⟩
    case round =>
      obtain ⟨k, v, hk, rfl, rfl, hown, hE⟩ := hrel
      have O1 := Lib.hid hown
      have E1 := Lib.hid hE
      clear hown hE
      by_cases hlt : k < n
      · obtain ⟨b, off, rfl, hb, hc0, hc1, hc2, hc3⟩ := (HG.out.below E1.out.bel).at_ hlt
        have HS := Lib.hid (HT.out k (by rw [Hl.out]; exact hlt))
        have hq := HB.out k hlt
        have HK := Lib.hid (HA.out (gs.getD k Gap.zero))
        generalize gs.getD k Gap.zero = y at *
        generalize ang y = r at *
        obtain ⟨yl, yh, zl, zh⟩ := y
        simp only at hc0 hc1 hc2 hc3 hq HK
        have q1 : IntKind.i64.wrap (yl * fd) = yl * fd := IntWalk.i64_in _ (by omega)
        have q2 : IntKind.i64.wrap (zl * fb) = zl * fb := IntWalk.i64_in _ (by omega)
        have q3 : (if zl * fb < yl * fd then zl * fb else yl * fd) = r := by rw [HK.out]; split <;> omega
        clear hq
        have E2 := Lib.hid (E1.out.alloc (.cells #[.int .i64 yl, .int .i64 yh, .int .i64 zl, .int .i64 zh] 42))
        have G2 := Lib.hid (Blk.new wr 42 #[.int .i64 yl, .int .i64 yh, .int .i64 zl, .int .i64 zh] rfl)
        have E2d := Lib.hid E2.out.drewd
        have G2d : Hid (Blk (wr.alloc (.cells #[.int .i64 yl, .int .i64 yh, .int .i64 zl, .int .i64 zh] 42)).drew wr.heap.size 42 #[.int .i64 yl, .int .i64 yh, .int .i64 zl, .int .i64 zh]) := G2.out
        have O2d : Hid ((wr.alloc (.cells #[.int .i64 yl, .int .i64 yh, .int .i64 zl, .int .i64 zh] 42)).drew.ownsRow w.heap.size 3 1 u5 k ((L.take k).map (Value.int .i64))) := O1.out.alloc _
        go_wp2_with fail
        go_region_held3 (fun W => W.cell? ⟨w.heap.size, 0, none⟩ = some (.func (.func 99) #[] #[]) ∧ W.cell? ⟨w.heap.size, 1, none⟩ = some (.func (.func 100) #[] #[]) ∧ W.cell? ⟨w.heap.size, 2, none⟩ = some (.func (.func 101) #[] #[]) ∧ W.cell? ⟨w.heap.size + 1, 0, none⟩ = some (.int .i64 fa) ∧ W.cell? ⟨w.heap.size + 1, 1, none⟩ = some (.int .i64 fb) ∧ W.cell? ⟨w.heap.size + 1, 2, none⟩ = some (.int .i64 fc) ∧ W.cell? ⟨w.heap.size + 1, 3, none⟩ = some (.int .i64 fd) ∧ W.cell? ⟨w.heap.size + 1, 4, none⟩ = some (.slice (some ⟨b, off, none⟩) n c) ∧ W.cell? ⟨wr.heap.size, 0, none⟩ = some (.int .i64 yl) ∧ W.cell? ⟨wr.heap.size, 1, none⟩ = some (.int .i64 yh) ∧ W.cell? ⟨wr.heap.size, 2, none⟩ = some (.int .i64 zl) ∧ W.cell? ⟨wr.heap.size, 3, none⟩ = some (.int .i64 zh))
          (first | with_reducible exact env_get3 E2d.out G2d.out | with_reducible exact env_get3 E2.out G2.out | with_reducible exact env_get3 E3.out G3.out | with_reducible exact env_get3 E4.out G4.out | with_reducible exact env_get3 E5.out G5.out | with_reducible exact env_get3 E6.out G6.out | with_reducible exact env_get3 (E6.out.alloc _) (G6.out.alloc _) | with_reducible exact env_get3 E7.out G7.out)
          (first | (go_at_call_of 99 (Value.agg #[Value.int .i64 yl, Value.int .i64 yh]); refine (low_any _ _ _).mono ?_; rintro e W3 ⟨rfl, hb3⟩; have E3 := Lib.hid (E2d.out.below hb3); have G3 := Lib.hid (blk_keep hb3 G2d.out); have O3 := Lib.hid (ownsRow_below O2d.out hb3); clear hb3) | (go_at_call_of 100 (Value.agg #[Value.int .i64 fc, Value.int .i64 fd]); refine (high_any _ _ _).mono ?_; rintro e W4 ⟨rfl, hb4⟩; have E4 := Lib.hid (E3.out.below hb4); have G4 := Lib.hid (blk_keep hb4 G3.out); have O4 := Lib.hid (ownsRow_below O3.out hb4); clear hb4) | (go_at_call_of 99 (Value.agg #[Value.int .i64 zl, Value.int .i64 zh]); refine (low_any _ _ _).mono ?_; rintro e W5 ⟨rfl, hb5⟩; have E5 := Lib.hid (E4.out.below hb5); have G5 := Lib.hid (blk_keep hb5 G4.out); have O5 := Lib.hid (ownsRow_below O4.out hb5); clear hb5) | (go_at_call_of 100 (Value.agg #[Value.int .i64 fa, Value.int .i64 fb]); refine (high_any _ _ _).mono ?_; rintro e W6 ⟨rfl, hb6⟩; have E6 := Lib.hid (E5.out.below hb6); have G6 := Lib.hid (blk_keep hb6 G5.out); have O6 := Lib.hid (ownsRow_below O5.out hb6); clear hb6) | (refine step_append_any rfl (.tmp 15) (.tmp 39) 54 rfl w.heap.size 3 i0 (.int .i64 0) 1 8 Try.underlying54 hi0 hz0 hz1 hz2 rfl (by decide) _ k _ (by rfl) (O6.out.alloc _) (some ⟨W6.heap.size, 0, none⟩) 1 1 (by rfl) [.int .i64 r] (ints_new1 W6 r _ rfl) (by intro u hu; rw [List.mem_singleton.1 hu]; rfl) (by unfold maxLen; omega) (by omega) (by have := E6.out.bel.size; simp; omega) ?_; intro v' W7 hown7 hgrow; have O7 : Hid (W7.ownsRow w.heap.size 3 1 v' (k + 1) ((L.take (k + 1)).map (Value.int .i64))) := (by unfold Hid; rw [HS.out]; exact hown7); have E7 := Lib.hid ((E6.out.alloc _).grown (O6.out.alloc _) (by decide) (by decide) (Nat.le_refl _) hgrow); have G7 := Lib.hid ((G6.out.alloc _).grown hgrow (own_blk_ne O6.out G6.out (by decide))); clear hown7 hgrow))
        all_goals
          go_wp2
          go_roundw
          case rel => exact ⟨k + 1, _, by omega, by go_num, rfl, O7.out, E7.out⟩
          case measure => simp [intOf]; omega
      · obtain rfl : k = n := by omega
        have he := Lib.hid (show L.take k = L from List.take_of_length_le (by rw [HLEN.out]; exact Nat.le_refl _))
        go_wp2
        go_ret
        exact ⟨_, rfl, by have h := O1.out; rw [he.out] at h; rw [HLEN.out]; exact h, E1.out.bel⟩
  · go_enter Try.func104, Try.ntmps104
    go_wp2
    go_loopw [5, 11] (fun s i wr => ∃ (k : Nat) (v : Value), k ≤ n ∧ i = .int .i64 k ∧ s = v ∧ wr.ownsRow w.heap.size 3 1 v k ((L.take k).map (Value.int .i64)) ∧ Env2 w wr 117 26 #[.func (.func 100) #[] #[], .func (.func 99) #[] #[], .func (.func 106) #[] #[]] #[.int .i64 fa, .int .i64 fb, .int .i64 fc, .int .i64 fd, .slice A n c]) (fun _ i _ => n - (intOf i).toNat)
    case atStart => exact ⟨0, _, Nat.zero_le _, rfl, rfl, World.ownsRow_nil _ _ _ _, E0.out⟩
    case round =>
      obtain ⟨k, v, hk, rfl, rfl, hown, hE⟩ := hrel
      have O1 := Lib.hid hown
      have E1 := Lib.hid hE
      clear hown hE
      by_cases hlt : k < n
      · obtain ⟨b, off, rfl, hb, hc0, hc1, hc2, hc3⟩ := (HG.out.below E1.out.bel).at_ hlt
        have HS := Lib.hid (HT.out k (by rw [Hl.out]; exact hlt))
        have hq := HB.out k hlt
        have HK := Lib.hid (HA.out (gs.getD k Gap.zero))
        generalize gs.getD k Gap.zero = y at *
        generalize ang y = r at *
        obtain ⟨yl, yh, zl, zh⟩ := y
        simp only at hc0 hc1 hc2 hc3 hq HK
        have q1 : IntKind.i64.wrap (yh * fc) = yh * fc := IntWalk.i64_in _ (by omega)
        have q2 : IntKind.i64.wrap (zh * fa) = zh * fa := IntWalk.i64_in _ (by omega)
        have q3 : (if zh * fa < yh * fc then zh * fa else yh * fc) = r := by rw [HK.out]; split <;> omega
        clear hq
        have E2 := Lib.hid (E1.out.alloc (.cells #[.int .i64 yl, .int .i64 yh, .int .i64 zl, .int .i64 zh] 42))
        have G2 := Lib.hid (Blk.new wr 42 #[.int .i64 yl, .int .i64 yh, .int .i64 zl, .int .i64 zh] rfl)
        have E2d := Lib.hid E2.out.drewd
        have G2d : Hid (Blk (wr.alloc (.cells #[.int .i64 yl, .int .i64 yh, .int .i64 zl, .int .i64 zh] 42)).drew wr.heap.size 42 #[.int .i64 yl, .int .i64 yh, .int .i64 zl, .int .i64 zh]) := G2.out
        have O2d : Hid ((wr.alloc (.cells #[.int .i64 yl, .int .i64 yh, .int .i64 zl, .int .i64 zh] 42)).drew.ownsRow w.heap.size 3 1 u5 k ((L.take k).map (Value.int .i64))) := O1.out.alloc _
        go_wp2_with fail
        go_region_held3 (fun W => W.cell? ⟨w.heap.size, 0, none⟩ = some (.func (.func 100) #[] #[]) ∧ W.cell? ⟨w.heap.size, 1, none⟩ = some (.func (.func 99) #[] #[]) ∧ W.cell? ⟨w.heap.size, 2, none⟩ = some (.func (.func 106) #[] #[]) ∧ W.cell? ⟨w.heap.size + 1, 0, none⟩ = some (.int .i64 fa) ∧ W.cell? ⟨w.heap.size + 1, 1, none⟩ = some (.int .i64 fb) ∧ W.cell? ⟨w.heap.size + 1, 2, none⟩ = some (.int .i64 fc) ∧ W.cell? ⟨w.heap.size + 1, 3, none⟩ = some (.int .i64 fd) ∧ W.cell? ⟨w.heap.size + 1, 4, none⟩ = some (.slice (some ⟨b, off, none⟩) n c) ∧ W.cell? ⟨wr.heap.size, 0, none⟩ = some (.int .i64 yl) ∧ W.cell? ⟨wr.heap.size, 1, none⟩ = some (.int .i64 yh) ∧ W.cell? ⟨wr.heap.size, 2, none⟩ = some (.int .i64 zl) ∧ W.cell? ⟨wr.heap.size, 3, none⟩ = some (.int .i64 zh))
          (first | with_reducible exact env_get3 E2d.out G2d.out | with_reducible exact env_get3 E2.out G2.out | with_reducible exact env_get3 E3.out G3.out | with_reducible exact env_get3 E4.out G4.out | with_reducible exact env_get3 E5.out G5.out | with_reducible exact env_get3 E6.out G6.out | with_reducible exact env_get3 (E6.out.alloc _) (G6.out.alloc _) | with_reducible exact env_get3 E7.out G7.out)
          (first | (go_at_call_of 100 (Value.agg #[Value.int .i64 yl, Value.int .i64 yh]); refine (high_any _ _ _).mono ?_; rintro e W3 ⟨rfl, hb3⟩; have E3 := Lib.hid (E2d.out.below hb3); have G3 := Lib.hid (blk_keep hb3 G2d.out); have O3 := Lib.hid (ownsRow_below O2d.out hb3); clear hb3) | (go_at_call_of 99 (Value.agg #[Value.int .i64 fc, Value.int .i64 fd]); refine (low_any _ _ _).mono ?_; rintro e W4 ⟨rfl, hb4⟩; have E4 := Lib.hid (E3.out.below hb4); have G4 := Lib.hid (blk_keep hb4 G3.out); have O4 := Lib.hid (ownsRow_below O3.out hb4); clear hb4) | (go_at_call_of 100 (Value.agg #[Value.int .i64 zl, Value.int .i64 zh]); refine (high_any _ _ _).mono ?_; rintro e W5 ⟨rfl, hb5⟩; have E5 := Lib.hid (E4.out.below hb5); have G5 := Lib.hid (blk_keep hb5 G4.out); have O5 := Lib.hid (ownsRow_below O4.out hb5); clear hb5) | (go_at_call_of 99 (Value.agg #[Value.int .i64 fa, Value.int .i64 fb]); refine (low_any _ _ _).mono ?_; rintro e W6 ⟨rfl, hb6⟩; have E6 := Lib.hid (E5.out.below hb6); have G6 := Lib.hid (blk_keep hb6 G5.out); have O6 := Lib.hid (ownsRow_below O5.out hb6); clear hb6) | (refine step_append_any rfl (.tmp 15) (.tmp 39) 54 rfl w.heap.size 3 i0 (.int .i64 0) 1 8 Try.underlying54 hi0 hz0 hz1 hz2 rfl (by decide) _ k _ (by rfl) (O6.out.alloc _) (some ⟨W6.heap.size, 0, none⟩) 1 1 (by rfl) [.int .i64 r] (ints_new1 W6 r _ rfl) (by intro u hu; rw [List.mem_singleton.1 hu]; rfl) (by unfold maxLen; omega) (by omega) (by have := E6.out.bel.size; simp; omega) ?_; intro v' W7 hown7 hgrow; have O7 : Hid (W7.ownsRow w.heap.size 3 1 v' (k + 1) ((L.take (k + 1)).map (Value.int .i64))) := (by unfold Hid; rw [HS.out]; exact hown7); have E7 := Lib.hid ((E6.out.alloc _).grown (O6.out.alloc _) (by decide) (by decide) (Nat.le_refl _) hgrow); have G7 := Lib.hid ((G6.out.alloc _).grown hgrow (own_blk_ne O6.out G6.out (by decide))); clear hown7 hgrow))
        all_goals
          go_wp2
          go_roundw
          case rel => exact ⟨k + 1, _, by omega, by go_num, rfl, O7.out, E7.out⟩
          case measure => simp [intOf]; omega
      · obtain rfl : k = n := by omega
        have he := Lib.hid (show L.take k = L from List.take_of_length_le (by rw [HLEN.out]; exact Nat.le_refl _))
        go_wp2
        go_ret
        exact ⟨_, rfl, by have h := O1.out; rw [he.out] at h; rw [HLEN.out]; exact h, E1.out.bel⟩
end Go.Proofs.Ytdekickmplkdiaa

/- Walks: opening, in degrees. -/
namespace Go.Proofs.Ytdekickmplkdiaa
open Go.RowKit

def degF (num den : Int) : Int := min 360 (20340 * num / (355 * den))
set_option maxHeartbeats 400000 in
theorem inDegrees_any (num den : Int) (w : World) (h0 : 0 ≤ num) (h1 : num ≤ 1000000000) (h2 : 1 ≤ den) (h3 : den ≤ 25000000) :
    Calls Try.prog 95 #[.agg #[.int .i64 num, .int .i64 den]] w fun e w' => e = .returned (.int .i64 (degF num den)) ∧ Below w.heap.size w w' := by
  have B := Lib.hid (below_self w (.cells #[.int .i64 num, .int .i64 den] 77))
  have HD : Hid (degF num den = min 360 (20340 * num / (355 * den))) := rfl
  generalize degF num den = r at *
  have hq : 0 ≤ 20340 * num / (355 * den) ∧ 20340 * num / (355 * den) ≤ 20340 * num := ⟨Int.ediv_nonneg (by omega) (by omega), Int.ediv_le_self _ (by omega)⟩
  have hz : ¬ 355 * den = 0 := by omega
  by_cases hc : 20340 * num / (355 * den) < 360
  · have H : Hid (r = 20340 * num / (355 * den)) := by unfold Hid; rw [HD.out]; omega
    clear HD
    go_enter Try.func95, Try.ntmps95
    go_wp2
    go_ret
    exact ⟨ret_int H.out.symm, B.out⟩
  · have H : Hid (r = 360) := by unfold Hid; rw [HD.out]; omega
    clear HD
    go_enter Try.func95, Try.ntmps95
    go_wp2
    go_ret
    exact ⟨ret_int H.out.symm, B.out⟩

def openN (u : Bool) (f : Fan) : Int := (anglesF u f).sum
theorem open_bd {f : Fan} (h : FanB f) (u : Bool) : 0 ≤ openN u f ∧ openN u f ≤ 615000000 := by
  have hl := h.n
  have h2 : ∀ xs : List Int, (∀ v ∈ xs, 0 ≤ v ∧ v ≤ 15000000) → 0 ≤ xs.sum ∧ xs.sum ≤ xs.length * 15000000 := by
    intro xs
    induction xs with
    | nil => intro _; simp
    | cons a r ih =>
      intro hb
      have h1 := hb a (by simp)
      have h2 := ih (fun v hv => hb v (by simp [hv]))
      simp only [List.sum_cons, List.length_cons]; omega
  have h3 := h2 (anglesF u f) (angles_bd h u)
  have : (anglesF u f).length = f.gs.length := by simp [anglesF]
  unfold openN; omega
theorem own_ints {W : World} {base n : Nat} {t : TypeId} {v : Value} {xs : List Int} (h : W.ownsRow base t 1 v n (xs.map (Value.int .i64))) : ∃ A c, v = .slice A n c ∧ Ints W A n xs := by
  rcases Nat.eq_zero_or_pos n with rfl | hp
  · obtain ⟨A, c, rfl⟩ := own_slice h
    have := h.1
    exact ⟨A, c, rfl, ⟨by simpa using this, fun h => absurd h (by omega)⟩⟩
  · obtain ⟨g, c, rfl⟩ := own_form h hp
    exact ⟨_, c, rfl, ints_of_own h⟩
theorem Env2.set {w W : World} {t1 t2 : TypeId} {c1 c2 : Array Value} (h : Env2 w W t1 t2 c1 c2) {g : Nat} (hg : w.heap.size + 1 < g) (i : Nat) (u : Value) : Env2 w (W.setCell ⟨g, i, none⟩ u) t1 t2 c1 c2 :=
  ⟨h.p.far (p := ⟨g, i, none⟩) (by simp; omega) u, h.q.far (p := ⟨g, i, none⟩) (by simp; omega) u, h.bel.setCell (p := ⟨g, i, none⟩) (by show w.heap.size ≤ g; omega) u⟩

set_option maxRecDepth 100000 in
set_option maxHeartbeats 2000000 in
theorem opening_any (u : Bool) (f : Fan) (A : Option Addr) (n c : Nat) (w : World) (hf : FanB f) (h : Gaps w A n f.gs) :
    Calls Try.prog 70 #[.agg (endA u), .agg (fanA f A n c)] w fun e w' => e = .returned (.agg #[.int .i64 (openN u f), .int .i64 (partsL u f)]) ∧ Below w.heap.size w w' := by
  have hn : n ≤ 41 := by have := hf.n; rw [h.len] at this; exact this
  have E := Env2.start w 117 26 (endA u) (fanA f A n c)
  have E0 := Lib.hid (E.alloc (.cells #[.int .i64 0, .int .i64 0] 77))
  have R0 := Lib.hid (Blk.new ((w.alloc (.cells (endA u) 117)).alloc (.cells (fanA f A n c) 26)) 77 #[.int .i64 0, .int .i64 0] (g := w.heap.size + 2) (by simp))
  clear E
  have HA := Lib.hid (fun W (hb : Below w.heap.size w W) => angles_any u f A n c W hf (h.below hb))
  have HP := Lib.hid (fun W => parts_any u f A n c W hf)
  have HS := Lib.hid (fun (B : Option Addr) (d : Nat) (W : World) (hi : Ints W B (anglesF u f).length (anglesF u f)) => sum_any B _ d (anglesF u f) W hi (by simp only [anglesF, List.length_map]; have := hf.n; omega) (fun v hv => by have := angles_bd hf u v hv; omega))
  have HO : Hid (openN u f = (anglesF u f).sum) := rfl
  clear hf h
  unfold ListRes at HA
  generalize openN u f = r at *
  generalize partsL u f = d at *
  generalize anglesF u f = L at *
  obtain ⟨fa, fb, fc, fd, gs⟩ := f
  cases u <;> simp only [endA, fanA] at *
  · go_enter Try.func70, Try.ntmps70
    go_wp2_with fail
    go_region_held3 (fun W => W.cell? ⟨w.heap.size, 0, none⟩ = some (.func (.func 99) #[] #[]) ∧ W.cell? ⟨w.heap.size, 1, none⟩ = some (.func (.func 100) #[] #[]) ∧ W.cell? ⟨w.heap.size, 2, none⟩ = some (.func (.func 101) #[] #[]) ∧ W.cell? ⟨w.heap.size + 1, 0, none⟩ = some (.int .i64 fa) ∧ W.cell? ⟨w.heap.size + 1, 1, none⟩ = some (.int .i64 fb) ∧ W.cell? ⟨w.heap.size + 1, 2, none⟩ = some (.int .i64 fc) ∧ W.cell? ⟨w.heap.size + 1, 3, none⟩ = some (.int .i64 fd) ∧ W.cell? ⟨w.heap.size + 1, 4, none⟩ = some (.slice A n c))
      (first | with_reducible exact env_get E0.out.drewd | with_reducible exact env_get E1.out | with_reducible exact env_get E2.out | with_reducible exact env_get E3.out | with_reducible exact env_get ((E3.out.set Z3.out _ _).set Z3.out _ _) | trace_state)
      (first | (go_at_call 104; refine (HA.out _ E0.out.drewd.bel).mono ?_; rintro e W1 ⟨v1, rfl, hown, hb1⟩; obtain ⟨A1, c1, rfl, hi1⟩ := own_ints hown; have I1 := Lib.hid hi1; have E1 := Lib.hid (E0.out.drewd.below hb1); have R1 : Hid (Blk W1 (w.heap.size + 2) 77 #[.int .i64 0, .int .i64 0]) := (blk_keep hb1 R0.out : _); clear hb1 hown hi1) | (go_at_call 103; refine (HS.out _ _ _ I1.out).mono ?_; rintro e W2 ⟨rfl, hw2⟩; have E2 : Hid (Env2 w W2 _ _ _ _) := (by rw [hw2]; exact E1.out); have R2 : Hid (Blk W2 (w.heap.size + 2) 77 #[.int .i64 0, .int .i64 0]) := (by rw [hw2]; exact R1.out); clear hw2) | (go_at_call 105; refine (HP.out _).mono ?_; rintro e W3 ⟨rfl, hb3⟩; have E3 := Lib.hid (E2.out.below hb3); have R3 := Lib.hid (blk_keep hb3 R2.out); have y0 := R3.out.cell 0; have y1 := R3.out.cell 1; have f0 := R3.out.frozen 0; have f1 := R3.out.frozen 1; have Z3 := Lib.hid (show w.heap.size + 1 < w.heap.size + 1 + 1 from Nat.lt_succ_self _); clear hb3))
    all_goals
      go_wp2
      exact bodyPost_ret (results_c rfl _ _ _ (w.heap.size + 2) _ _ _ rfl ((R3.out.set_ 0 _).set_ 1 _) Try.underlying77 (by kernel_rfl)) rfl ⟨by rw [HO.out]; rfl, ((E3.out.set Z3.out _ _).set Z3.out _ _).bel⟩
  · go_enter Try.func70, Try.ntmps70
    go_wp2_with fail
    go_region_held3 (fun W => W.cell? ⟨w.heap.size, 0, none⟩ = some (.func (.func 100) #[] #[]) ∧ W.cell? ⟨w.heap.size, 1, none⟩ = some (.func (.func 99) #[] #[]) ∧ W.cell? ⟨w.heap.size, 2, none⟩ = some (.func (.func 106) #[] #[]) ∧ W.cell? ⟨w.heap.size + 1, 0, none⟩ = some (.int .i64 fa) ∧ W.cell? ⟨w.heap.size + 1, 1, none⟩ = some (.int .i64 fb) ∧ W.cell? ⟨w.heap.size + 1, 2, none⟩ = some (.int .i64 fc) ∧ W.cell? ⟨w.heap.size + 1, 3, none⟩ = some (.int .i64 fd) ∧ W.cell? ⟨w.heap.size + 1, 4, none⟩ = some (.slice A n c))
      (first | with_reducible exact env_get E0.out.drewd | with_reducible exact env_get E1.out | with_reducible exact env_get E2.out | with_reducible exact env_get E3.out | with_reducible exact env_get ((E3.out.set Z3.out _ _).set Z3.out _ _) | trace_state)
      (first | (go_at_call 104; refine (HA.out _ E0.out.drewd.bel).mono ?_; rintro e W1 ⟨v1, rfl, hown, hb1⟩; obtain ⟨A1, c1, rfl, hi1⟩ := own_ints hown; have I1 := Lib.hid hi1; have E1 := Lib.hid (E0.out.drewd.below hb1); have R1 : Hid (Blk W1 (w.heap.size + 2) 77 #[.int .i64 0, .int .i64 0]) := (blk_keep hb1 R0.out : _); clear hb1 hown hi1) | (go_at_call 103; refine (HS.out _ _ _ I1.out).mono ?_; rintro e W2 ⟨rfl, hw2⟩; have E2 : Hid (Env2 w W2 _ _ _ _) := (by rw [hw2]; exact E1.out); have R2 : Hid (Blk W2 (w.heap.size + 2) 77 #[.int .i64 0, .int .i64 0]) := (by rw [hw2]; exact R1.out); clear hw2) | (go_at_call 105; refine (HP.out _).mono ?_; rintro e W3 ⟨rfl, hb3⟩; have E3 := Lib.hid (E2.out.below hb3); have R3 := Lib.hid (blk_keep hb3 R2.out); have y0 := R3.out.cell 0; have y1 := R3.out.cell 1; have f0 := R3.out.frozen 0; have f1 := R3.out.frozen 1; have Z3 := Lib.hid (show w.heap.size + 1 < w.heap.size + 1 + 1 from Nat.lt_succ_self _); clear hb3))
    all_goals
      go_wp2
      exact bodyPost_ret (results_c rfl _ _ _ (w.heap.size + 2) _ _ _ rfl ((R3.out.set_ 0 _).set_ 1 _) Try.underlying77 (by kernel_rfl)) rfl ⟨by rw [HO.out]; rfl, ((E3.out.set Z3.out _ _).set Z3.out _ _).bel⟩
end Go.Proofs.Ytdekickmplkdiaa

/- Walks: surely, possibly, Check, Opens. -/
namespace Go.Proofs.Ytdekickmplkdiaa
open Go.RowKit

theorem fan_get {W : World} {g : Nat} {fa fb fc fd sl : Value} (h : Blk W g 26 #[fa, fb, fc, fd, sl]) :
    W.cell? ⟨g, 0, none⟩ = some fa ∧ W.cell? ⟨g, 1, none⟩ = some fb ∧ W.cell? ⟨g, 2, none⟩ = some fc ∧ W.cell? ⟨g, 3, none⟩ = some fd ∧ W.cell? ⟨g, 4, none⟩ = some sl := ⟨h.cell 0, h.cell 1, h.cell 2, h.cell 3, h.cell 4⟩
/-- To how many degrees a fan opens at an end. -/
def degL (u : Bool) (f : Fan) : Int := degF (openN u f) (partsL u f)
theorem degF_bd {a b : Int} (h0 : 0 ≤ a) (h1 : 1 ≤ b) : 0 ≤ degF a b ∧ degF a b ≤ 360 := by
  have : 0 ≤ 20340 * a / (355 * b) := Int.ediv_nonneg (by omega) (by omega)
  unfold degF; omega
theorem degL_bd {f : Fan} (h : FanB f) (u : Bool) : 0 ≤ degL u f ∧ degL u f ≤ 360 := degF_bd (open_bd h u).1 (parts_bd h u).1

set_option maxRecDepth 100000 in
set_option maxHeartbeats 1000000 in
theorem surely_any (f : Fan) (A : Option Addr) (n c : Nat) (w : World) (hf : FanB f) (h : Gaps w A n f.gs) :
    Calls Try.prog 61 #[.agg (fanA f A n c)] w fun e w' => e = .returned (.int .i64 (degL false f)) ∧ Below w.heap.size w w' := by
  have B0 := ((below_self w (.cells (fanA f A n c) 26)).drew)
  have R0 : Hid (Blk (w.alloc (.cells (fanA f A n c) 26)).drew w.heap.size 26 (fanA f A n c)) := Blk.new w _ _ rfl
  have HA := Lib.hid (fun W (hb : Below w.heap.size w W) => opening_any false f A n c W hf (h.below hb))
  have HD := Lib.hid (fun W => inDegrees_any (openN false f) (partsL false f) W (open_bd hf false).1 (by have := (open_bd hf false).2; omega) (parts_bd hf false).1 (parts_bd hf false).2)
  have HO : Hid (degL false f = degF (openN false f) (partsL false f)) := rfl
  clear hf h
  generalize degL false f = z at *
  generalize openN false f = r at *
  generalize partsL false f = d at *
  have HE := Lib.hid leastEnd_any
  obtain ⟨fa, fb, fc, fd, gs⟩ := f
  have B0 := Lib.hid B0
  simp only [endA, fanA] at *
  go_enter Try.func61, Try.ntmps61
  go_wp2_with fail
  go_region_held3 (fun W => W.cell? ⟨w.heap.size, 0, none⟩ = some (.int .i64 fa) ∧ W.cell? ⟨w.heap.size, 1, none⟩ = some (.int .i64 fb) ∧ W.cell? ⟨w.heap.size, 2, none⟩ = some (.int .i64 fc) ∧ W.cell? ⟨w.heap.size, 3, none⟩ = some (.int .i64 fd) ∧ W.cell? ⟨w.heap.size, 4, none⟩ = some (.slice A n c))
    (first | with_reducible exact fan_get R0.out | with_reducible exact fan_get R1.out | with_reducible exact fan_get R2.out | with_reducible exact fan_get R3.out)
    (first | (go_at_call 69; refine (HE.out _).mono ?_; rintro e W1 ⟨rfl, hb1⟩; have R1 := Lib.hid (blk_keep hb1 R0.out); have B1 := Lib.hid (below_then B0.out hb1); clear hb1) | (go_at_call 70; refine (HA.out _ B1.out).mono ?_; rintro e W2 ⟨rfl, hb2⟩; have R2 := Lib.hid (blk_keep hb2 R1.out); have B2 := Lib.hid (below_then B1.out hb2); clear hb2) | (go_at_call 95; refine (HD.out _).mono ?_; rintro e W3 ⟨rfl, hb3⟩; have R3 := Lib.hid (blk_keep hb3 R2.out); have B3 := Lib.hid (below_then B2.out hb3); clear hb3))
  all_goals
    go_wp2
    go_ret
    exact ⟨ret_int HO.out.symm, B3.out⟩

set_option maxRecDepth 100000 in
set_option maxHeartbeats 1000000 in
theorem possibly_any (f : Fan) (A : Option Addr) (n c : Nat) (w : World) (hf : FanB f) (h : Gaps w A n f.gs) :
    Calls Try.prog 62 #[.agg (fanA f A n c)] w fun e w' => e = .returned (.int .i64 (degL true f)) ∧ Below w.heap.size w w' := by
  have B0 := ((below_self w (.cells (fanA f A n c) 26)).drew)
  have R0 : Hid (Blk (w.alloc (.cells (fanA f A n c) 26)).drew w.heap.size 26 (fanA f A n c)) := Blk.new w _ _ rfl
  have HA := Lib.hid (fun W (hb : Below w.heap.size w W) => opening_any true f A n c W hf (h.below hb))
  have HD := Lib.hid (fun W => inDegrees_any (openN true f) (partsL true f) W (open_bd hf true).1 (by have := (open_bd hf true).2; omega) (parts_bd hf true).1 (parts_bd hf true).2)
  have HO : Hid (degL true f = degF (openN true f) (partsL true f)) := rfl
  clear hf h
  generalize degL true f = z at *
  generalize openN true f = r at *
  generalize partsL true f = d at *
  have HE := Lib.hid mostEnd_any
  obtain ⟨fa, fb, fc, fd, gs⟩ := f
  have B0 := Lib.hid B0
  simp only [endA, fanA] at *
  go_enter Try.func62, Try.ntmps62
  go_wp2_with fail
  go_region_held3 (fun W => W.cell? ⟨w.heap.size, 0, none⟩ = some (.int .i64 fa) ∧ W.cell? ⟨w.heap.size, 1, none⟩ = some (.int .i64 fb) ∧ W.cell? ⟨w.heap.size, 2, none⟩ = some (.int .i64 fc) ∧ W.cell? ⟨w.heap.size, 3, none⟩ = some (.int .i64 fd) ∧ W.cell? ⟨w.heap.size, 4, none⟩ = some (.slice A n c))
    (first | with_reducible exact fan_get R0.out | with_reducible exact fan_get R1.out | with_reducible exact fan_get R2.out | with_reducible exact fan_get R3.out)
    (first | (go_at_call 71; refine (HE.out _).mono ?_; rintro e W1 ⟨rfl, hb1⟩; have R1 := Lib.hid (blk_keep hb1 R0.out); have B1 := Lib.hid (below_then B0.out hb1); clear hb1) | (go_at_call 70; refine (HA.out _ B1.out).mono ?_; rintro e W2 ⟨rfl, hb2⟩; have R2 := Lib.hid (blk_keep hb2 R1.out); have B2 := Lib.hid (below_then B1.out hb2); clear hb2) | (go_at_call 95; refine (HD.out _).mono ?_; rintro e W3 ⟨rfl, hb3⟩; have R3 := Lib.hid (blk_keep hb3 R2.out); have B3 := Lib.hid (below_then B2.out hb3); clear hb3))
  all_goals
    go_wp2
    go_ret
    exact ⟨ret_int HO.out.symm, B3.out⟩

theorem fanB_of {f : Fan} (h : fanErr f = 0) : FanB f ∧ (∀ g ∈ f.gs, g.lh ≤ 1000 ∧ g.fh ≤ 500) ∧ f.gs.length ≤ 40 := by
  unfold fanErr at h
  split at h
  · omega
  rename_i h1
  split at h
  · omega
  rename_i h2
  split at h
  · omega
  rename_i h3
  simp [headOk, validS] at h1
  have hg : ∀ g ∈ f.gs, 0 ≤ g.ll ∧ g.ll ≤ g.lh ∧ g.lh ≤ 1000 ∧ 0 ≤ g.fl ∧ g.fl ≤ g.fh ∧ g.fh ≤ 500 := by
    intro g hg
    have h4 : gapOk g = true := by
      cases hq : gapOk g
      · exact absurd (List.any_eq_true.2 ⟨g, hg, by rw [hq]; rfl⟩) h3
      · rfl
    simp [gapOk, validS] at h4
    omega
  exact ⟨⟨by omega, by omega, by omega, by omega, by omega, by omega, by omega, fun g h => by have := hg g h; omega⟩, fun g h => by have := hg g h; omega, by omega⟩

set_option maxHeartbeats 400000 in
theorem Check_any (f : Fan) (A : Option Addr) (n c : Nat) (w : World) (h : Gaps w A n f.gs) (hn : n ≤ maxLen) :
    Calls Try.prog 19 #[.agg (fanA f A n c)] w fun e w' => e = .returned (.int .i64 (fanErr f)) ∧ Below w.heap.size w w' := by
  have B0 := Lib.hid (below_self w (.cells (fanA f A n c) 26))
  have HF := Lib.hid (fun W (hb : Below w.heap.size w W) => fanError_any f A n c W (h.below hb) hn)
  clear h hn
  generalize fanErr f = r at *
  unfold fanA at *
  go_enter Try.func19, Try.ntmps19
  go_wp2_with (go_at_call 60; refine (HF.out _ B0.out).mono ?_; rintro e W1 ⟨rfl, hb1⟩)
  go_ret
  exact ⟨rfl, below_then B0.out hb1⟩

def opensL (f : Fan) : Int × Int := if fanErr f = 0 then (degL false f, degL true f) else (0, 0)
set_option maxRecDepth 100000 in
set_option maxHeartbeats 1000000 in
theorem Opens_any (f : Fan) (A : Option Addr) (n c : Nat) (w : World) (h : Gaps w A n f.gs) (hn : n ≤ maxLen) :
    Calls Try.prog 20 #[.agg (fanA f A n c)] w fun e w' => e = .returned (.tuple #[.agg #[.int .i64 (opensL f).1, .int .i64 (opensL f).2], .int .i64 (fanErr f)]) ∧ Below w.heap.size w w' := by
  have E0 := Lib.hid (Env2.start w 26 23 (fanA f A n c) #[.int .i64 0, .int .i64 0])
  have HF := Lib.hid (fun W (hb : Below w.heap.size w W) => fanError_any f A n c W (h.below hb) hn)
  by_cases hE : fanErr f = 0
  · have HS := Lib.hid (fun W (hb : Below w.heap.size w W) => surely_any f A n c W (fanB_of hE).1 (h.below hb))
    have HP := Lib.hid (fun W (hb : Below w.heap.size w W) => possibly_any f A n c W (fanB_of hE).1 (h.below hb))
    have HO : Hid (opensL f = (degL false f, degL true f)) := if_pos hE
    have HE := Lib.hid hE
    clear h hn hE
    generalize opensL f = z at *
    generalize degL false f = z1 at *
    generalize degL true f = z2 at *
    rw [HE.out] at HF ⊢
    obtain ⟨fa, fb, fc, fd, gs⟩ := f
    simp only [fanA] at *
    go_enter Try.func20, Try.ntmps20
    go_wp2_with fail
    refine (HF.out _ E0.out.bel).mono ?_
    rintro e W1 ⟨rfl, hb1⟩
    have E1 := Lib.hid (E0.out.below hb1)
    have E1d := Lib.hid E1.out.drewd
    clear hb1
    go_wp2_with fail
    go_region_held3 (fun W => W.cell? ⟨w.heap.size, 0, none⟩ = some (.int .i64 fa) ∧ W.cell? ⟨w.heap.size, 1, none⟩ = some (.int .i64 fb) ∧ W.cell? ⟨w.heap.size, 2, none⟩ = some (.int .i64 fc) ∧ W.cell? ⟨w.heap.size, 3, none⟩ = some (.int .i64 fd) ∧ W.cell? ⟨w.heap.size, 4, none⟩ = some (.slice A n c))
      (first | with_reducible exact fan_get E1d.out.p | with_reducible exact fan_get E2.out.p | with_reducible exact fan_get E3.out.p | with_reducible exact fan_get ((E3.out.p.far Z3.out _).far Z3.out _))
      (first | (go_at_call 61; refine (HS.out _ E1d.out.bel).mono ?_; rintro e W2 ⟨rfl, hb2⟩; have E2 := Lib.hid (E1d.out.below hb2); clear hb2) | (go_at_call 62; refine (HP.out _ E2.out.bel).mono ?_; rintro e W3 ⟨rfl, hb3⟩; have E3 := Lib.hid (E2.out.below hb3); have y0 := E3.out.q.cell 0; have y1 := E3.out.q.cell 1; have f0 := E3.out.q.frozen 0; have f1 := E3.out.q.frozen 1; have Z3 := Lib.hid (show w.heap.size ≠ w.heap.size + 1 from Nat.ne_of_lt (Nat.lt_succ_self _)); clear hb3))
    all_goals
      go_wp2
      exact bodyPost_ret (results_ct rfl _ _ _ (w.heap.size + 1) _ _ _ rfl ((E3.out.q.set_ 0 _).set_ 1 _) Try.underlying23 (by kernel_rfl)) rfl ⟨by rw [HO.out]; rfl, (E3.out.bel.setCell (p := ⟨w.heap.size + 1, 0, none⟩) (by simp) _).setCell (p := ⟨w.heap.size + 1, 1, none⟩) (by simp) _⟩
  · have HO : Hid (opensL f = (0, 0)) := if_neg hE
    have HE1 : decide (fanErr f = 0) = false := by simpa using hE
    have HE : ¬ fanErr f = 0 := hE
    clear h hn hE
    generalize opensL f = z at *
    obtain ⟨fa, fb, fc, fd, gs⟩ := f
    simp only [fanA] at *
    generalize fanErr ⟨fa, fb, fc, fd, gs⟩ = r at *
    go_enter Try.func20, Try.ntmps20
    go_wp2_with fail
    refine (HF.out _ E0.out.bel).mono ?_
    rintro e W1 ⟨rfl, hb1⟩
    have E1 := Lib.hid (E0.out.below hb1)
    have y0 := E1.out.q.cell 0
    have y1 := E1.out.q.cell 1
    have f0 := E1.out.q.frozen 0
    have f1 := E1.out.q.frozen 1
    clear hb1
    go_wp2
    exact bodyPost_ret (results_ct rfl _ _ _ (w.heap.size + 1) _ _ _ rfl ((E1.out.q.set_ 0 _).set_ 1 _) Try.underlying23 (by kernel_rfl)) rfl ⟨by rw [HO.out]; rfl, (E1.out.bel.setCell (p := ⟨w.heap.size + 1, 0, none⟩) (by simp) _).setCell (p := ⟨w.heap.size + 1, 1, none⟩) (by simp) _⟩
end Go.Proofs.Ytdekickmplkdiaa

/- Regions that draw, walked by hand: what is held may change on the way; takes and stores. -/
namespace Go.Proofs.Ytdekickmplkdiaa
open Go.RowKit Go.Maps

theorem heldMono {P : Program} {ops : Array Oper} {Q : Exit → Act → World → Prop} {md : Region.Mode} {S S' : World → Prop} (h : ∀ w, S' w → S w) : ∀ (fuel : Nat) (listed : Array Bool) (a : Act) (w : World), wpAnyH P md ops Q S' fuel listed a w → wpAnyH P md ops Q S fuel listed a w
  | 0, _, _, _, hh => hh
  | fuel + 1, _, _, _, hh => ⟨hh.1, fun i hi => wpOp_mono (fun a' w' h' => ⟨h _ h'.1, heldMono h fuel _ a' w' h'.2⟩) (hh.2 i hi)⟩
theorem heldTake {P : Program} {ops : Array Oper} {Q : Exit → Act → World → Prop} {md : Region.Mode} {S : World → Prop} {i : Nat} {oi : Oper} (d : Tmp) {v : Value} {fuel : Nat} {listed : Array Bool} {a : Act} {w : World} (hi : ops[i]? = some oi) (hd : (ops[i]?).bind (·.dst) = some d)
    (hs : Region.noSelect ops = true) (hf : Region.free md ops listed i = true) (hr : (Region.ready md ops listed).contains i = true)
    (hQ : ∀ c a w, Q (.panic c) (a.put (some d) v) w → Q (.panic c) a w) (hy : YieldsIf P ops S oi v a) (hS : S w)
    (h : wpAnyH P md ops Q S fuel (listed.setIfInBounds i true) (a.put (some d) v) w) : wpAnyH P md ops Q S (fuel + 1) listed a w := by
  have e : oi.dst = some d := by rw [hi] at hd; exact hd
  rw [← e] at hQ h
  exact wpAnyH_take hi hs hf hr hQ hy hS h
theorem wp_store_rowN {P : Program} {op : Oper} {a : Act} {w : World} {K : Act → World → Prop} {Q : Exit → Act → World → Prop} (hd : op.dst = none) (ty : TypeId) (x y : Operand) (ho : op.op = .store ty x y)
    (g : Nat) (cells : Array Value) (hx : a.eval x = .pointer (some ⟨g, 0, none⟩)) (hy : a.eval y = .agg cells) (t : TypeId) (old : Array Value) (hg : Blk w g t old) (hi : (P.info? ty).map (·.size) = some cells.size) (hold : old.size = cells.size) (h1 : cells.all (·.oneCell') = true)
    (h : K a (w.setRow g cells)) : op.wp P a w K Q := wp_store_row ty x y ho g cells hx hy t old hg hi hold h1 (by rw [hd]; exact h)
theorem ones6 (a b c d e f : Int) : (#[Value.int .i64 a, Value.int .i64 b, Value.int .i64 c, Value.int .i64 d, Value.int .i64 e, Value.int .i64 f]).all (·.oneCell') = true := all_oneCell_toArray (cs := [.int .i64 a, .int .i64 b, .int .i64 c, .int .i64 d, .int .i64 e, .int .i64 f]) (fun v hv => by simp only [List.mem_cons, List.not_mem_nil, or_false] at hv; rcases hv with rfl | rfl | rfl | rfl | rfl | rfl <;> rfl)
theorem ones3 (a b c : Int) : (#[Value.int .i64 a, Value.int .i64 b, Value.int .i64 c]).all (·.oneCell') = true := all_oneCell_toArray (cs := [.int .i64 a, .int .i64 b, .int .i64 c]) (fun v hv => by simp only [List.mem_cons, List.not_mem_nil, or_false] at hv; rcases hv with rfl | rfl | rfl <;> rfl)
theorem ones2c (a b : Int) : (#[Value.int .i64 a, Value.int .i64 b]).all (·.oneCell') = true := all_oneCell_toArray (cs := [.int .i64 a, .int .i64 b]) (fun v hv => by simp only [List.mem_cons, List.not_mem_nil, or_false] at hv; rcases hv with rfl | rfl <;> rfl)
end Go.Proofs.Ytdekickmplkdiaa

/- Regions that draw, in which a cell that is loaded is stored into behind all that could come before: what is held is asked for till the first of those stores. -/
namespace Go.Proofs.Ytdekickmplkdiaa
open Go.RowKit Go.Maps

section
variable {P : Program} {ops : Array Oper} {Q : Exit → Act → World → Prop} {md : Region.Mode} {S : World → Prop} {J : List Nat}
/-- Whatever order is picked; and S holds behind each operation that is none of J. -/
def Untl (P : Program) (md : Region.Mode) (ops : Array Oper) (Q : Exit → Act → World → Prop) (S : World → Prop) (J : List Nat) : Nat → Array Bool → Act → World → Prop
  | 0, l, a, w => Region.ready md ops l = [] ∧ Q .normal a w
  | n + 1, l, a, w => (Region.ready md ops l = [] → Q .normal a w) ∧ ∀ i ∈ Region.ready md ops l, wpOp P ops Q i (fun a' w' => (i ∈ J ∨ S w') ∧ Untl P md ops Q S J n (l.setIfInBounds i true) a' w') a w
theorem Untl.any : ∀ (n : Nat) (l : Array Bool) (a : Act) (w : World), Untl P md ops Q S J n l a w → wpAny P md ops Q n l a w
  | 0, _, _, _, h => h
  | n + 1, _, _, _, h => ⟨h.1, fun i hi => wpOp_mono (fun a' w' h' => Untl.any n _ a' w' h'.2) (h.2 i hi)⟩
/-- k uwaits for i, by at most so many steps. -/
def uhangs (md : Region.Mode) (ops : Array Oper) (i : Nat) : Nat → Nat → Bool
  | 0, _ => false
  | n + 1, k => (ops[k]?).any fun o => o.after.any fun e => Region.binds md e && (e.on == i || uhangs md ops i n e.on)
def uwaits (md : Region.Mode) (ops : Array Oper) (J : List Nat) (i : Nat) : Bool := J.all fun j => uhangs md ops i 8 j
/-- What is listed uwaits for nothing that is not. -/
def UClosed (md : Region.Mode) (ops : Array Oper) (l : Array Bool) : Prop := ∀ k o, ops[k]? = some o → l.getD k true = true → ∀ e ∈ o.after, Region.binds md e = true → l.getD e.on true = true
def uClosedL (md : Region.Mode) (ops : Array Oper) (l : Array Bool) : Bool := (List.range ops.size).all fun k => !(l.getD k true) || (ops[k]?).all fun o => o.after.all fun e => !(Region.binds md e) || l.getD e.on true
theorem uclosed_of {l : Array Bool} (h : uClosedL md ops l = true) : UClosed md ops l := by
  intro k o hk hl e he hb
  have hlt : k < ops.size := by
    rcases Nat.lt_or_ge k ops.size with h | h
    · exact h
    · rw [Array.getElem?_eq_none h] at hk; cases hk
  have := List.all_eq_true.1 h k (List.mem_range.2 hlt)
  rw [hl, hk] at this
  simp only [Bool.not_true, Bool.false_or, Option.all_some, Array.all_eq_true'] at this
  have := this e he
  rw [hb] at this
  simpa using this
theorem uhangs_out {l : Array Bool} {i : Nat} (hc : UClosed md ops l) (hi : l.getD i true = false) : ∀ (n k : Nat), uhangs md ops i n k = true → ∃ o, ops[k]? = some o ∧ ∃ e ∈ o.after, Region.binds md e = true ∧ l.getD e.on true = false := by
  intro n
  induction n with
  | zero => intro k h; cases h
  | succ n ih =>
    intro k h
    unfold uhangs at h
    cases ho : ops[k]? with
    | none => rw [ho] at h; cases h
    | some o =>
      rw [ho] at h
      simp only [Option.any_some, Array.any_eq_true'] at h
      obtain ⟨e, he, hb⟩ := h
      rw [Bool.and_eq_true, Bool.or_eq_true, beq_iff_eq] at hb
      refine ⟨o, rfl, e, he, hb.1, ?_⟩
      rcases hb.2 with h | h
      · rw [h]; exact hi
      · obtain ⟨o', ho', e', he', hb', hf⟩ := ih _ h
        rcases hx : l.getD e.on true with _ | _
        · rfl
        · have := hc _ _ ho' hx e' he' hb'
          rw [hf] at this; cases this
theorem UClosed.set {l : Array Bool} {j : Nat} (hc : UClosed md ops l) (hj : ∀ oj, ops[j]? = some oj → ∀ e ∈ oj.after, Region.binds md e = true → l.getD e.on true = true) : UClosed md ops (l.setIfInBounds j true) := by
  intro k o hk hl e he hb
  have h0 : l.getD e.on true = true := by
    rcases Decidable.em (j = k) with rfl | hne
    · exact hj o hk e he hb
    · rw [getD_set_ne true hne] at hl
      exact hc k o hk hl e he hb
  rcases Decidable.em (j = e.on) with hje | hne
  · rw [hje, Array.getD_eq_getD_getElem?, Array.getElem?_setIfInBounds]
    by_cases hs : e.on < l.size <;> simp [hs]
  · rw [getD_set_ne true hne]; exact h0
theorem Untl.first {i : Nat} {oi : Oper} {v : Value} (hi : ops[i]? = some oi) (hsel : ∀ (j : Nat) (o : Oper) cs b, ops[j]? = some o → o.op ≠ .select cs b) (hJ : uwaits md ops J i = true)
    (hQ : ∀ c a w, Q (.panic c) (a.put oi.dst v) w → Q (.panic c) a w) : ∀ (n : Nat) (l : Array Bool) (a : Act) (w : World),
      (∀ j oj, ops[j]? = some oj → j ≠ i → l.getD j true = false → (∀ e ∈ oj.after, Region.binds md e = true → e.on ≠ i) → oi.apart ops oj = true) →
      UClosed md ops l → i ∈ Region.ready md ops l → YieldsIf P ops S oi v a → S w → Untl P md ops Q S J n (l.setIfInBounds i true) (a.put oi.dst v) w → Untl P md ops Q S J (n + 1) l a w := by
  intro n
  induction n with
  | zero =>
    intro l a w _ _ hr hy hS H
    refine ⟨fun h => absurd (h ▸ hr) (by simp), fun j hj => ?_⟩
    rcases Decidable.em (j = i) with rfl | hne
    · exact hy.wpOp hi hS ⟨.inr hS, H⟩
    · exact absurd (H.1 ▸ ready_mono hj hne) (by simp)
  | succ n ih =>
    intro l a w hf hc hr hy hS H
    refine ⟨fun h => absurd (h ▸ hr) (by simp), fun j hj => ?_⟩
    rcases Decidable.em (j = i) with rfl | hne
    · exact hy.wpOp hi hS ⟨.inr hS, H⟩
    obtain ⟨hju, oj, hoj, hal⟩ := mem_ready.1 hj
    have hiu := (mem_ready.1 hr).1
    have hal' : ∀ e ∈ oj.after, Region.binds md e = true → l.getD e.on true = true := by
      intro e he hb
      have ht := hal e he hb
      by_cases hs : e.on < l.size
      · simp [hs] at ht ⊢; exact ht
      · simp [hs] at ht ⊢
    have hno : ∀ e ∈ oj.after, Region.binds md e = true → e.on ≠ i := by
      rintro e he hb rfl
      have ht := hal e he hb
      by_cases hs : e.on < l.size
      · simp [hs] at hiu ht; rw [hiu] at ht; cases ht
      · simp [hs] at ht
    have hjJ : j ∉ J := fun hm => by
      unfold uwaits at hJ
      obtain ⟨o', ho', e, he, hb, hx⟩ := uhangs_out hc hiu 8 j (List.all_eq_true.1 hJ j hm)
      rw [hoj, Option.some.injEq] at ho'
      subst ho'
      rw [hal' e he hb] at hx
      cases hx
    refine wpOp_mono (fun a' w' h3 => ?_) (wpOp_putIf hoj (hf j oj hoj hne hju hno) (fun cs b => hsel i oi cs b hi) (fun cs b => hsel j oj cs b hoj) hQ hy (H.2 j (ready_mono hj hne)))
    have hS' : S w' := h3.2.1.resolve_left hjJ
    refine ⟨.inr hS', ih _ a' w' (fun k ok hk hki hun hno' => hf k ok hk hki ?_ hno') (hc.set fun o' ho' => by (rw [hoj, Option.some.injEq] at ho'; subst ho'; exact hal')) (ready_mono hr (Ne.symm hne)) h3.1 hS' (by rw [Array.setIfInBounds_comm _ _ hne]; exact h3.2.2)⟩
    rcases Decidable.em (j = k) with rfl | hjk
    · exact hju
    · rwa [getD_set_ne true hjk] at hun
theorem untlTake {i : Nat} {oi : Oper} (d : Tmp) {v : Value} {n : Nat} {l : Array Bool} {a : Act} {w : World} (hi : ops[i]? = some oi) (hd : (ops[i]?).bind (·.dst) = some d)
    (hs : Region.noSelect ops = true) (hf : Region.free md ops l i = true) (hJ : uwaits md ops J i = true) (hc : uClosedL md ops l = true) (hr : (Region.ready md ops l).contains i = true)
    (hQ : ∀ c a w, Q (.panic c) (a.put (some d) v) w → Q (.panic c) a w) (hy : YieldsIf P ops S oi v a) (hS : S w)
    (h : Untl P md ops Q S J n (l.setIfInBounds i true) (a.put (some d) v) w) : Untl P md ops Q S J (n + 1) l a w := by
  have e : oi.dst = some d := by rw [hi] at hd; exact hd
  rw [← e] at hQ h
  exact Untl.first hi (Region.noSelect_spec hs) hJ hQ n l a w (Region.free_spec hi hf) (uclosed_of hc) (by simpa using hr) hy hS h
/-- One comes up alone. -/
theorem untlStep {i : Nat} {o : Oper} {n : Nat} {l : Array Bool} {a : Act} {w : World} (hr : Region.ready md ops l = [i]) (ho : ops[i]? = some o)
    (h : ∀ K : Act → World → Prop, Shut (∀ a w, (i ∈ J ∨ S w) → Untl P md ops Q S J n (l.setIfInBounds i true) a w → K a w) → if Region.wanted o (yielded ops a.tmps) = true then o.wp P a w K Q else K (a.put o.dst undef) w) : Untl P md ops Q S J (n + 1) l a w := by
  refine ⟨fun e => by (rw [hr] at e; cases e), fun j hj => ?_⟩
  rw [hr, List.mem_singleton] at hj
  subst hj
  refine wpOp_step ho (fun K hK => ?_)
  exact h K (fun a w hS hU => hK a w ⟨hS, hU⟩)
/-- Some may come up. -/
def UReady (P : Program) (md : Region.Mode) (ops : Array Oper) (Q : Exit → Act → World → Prop) (S : World → Prop) (J : List Nat) (n : Nat) (l : Array Bool) (a : Act) (w : World) (rs : List Nat) : Prop :=
  ∀ i ∈ rs, wpOp P ops Q i (fun a' w' => (i ∈ J ∨ S w') ∧ Untl P md ops Q S J n (l.setIfInBounds i true) a' w') a w
theorem untlReady {rs : List Nat} {n : Nat} {l : Array Bool} {a : Act} {w : World} (hr : Region.ready md ops l = rs) (hne : rs ≠ []) (h : UReady P md ops Q S J n l a w rs) : Untl P md ops Q S J (n + 1) l a w := ⟨fun e => absurd (hr.symm.trans e) hne, by rw [hr]; exact h⟩
theorem UReady.nil {n : Nat} {l : Array Bool} {a : Act} {w : World} : UReady P md ops Q S J n l a w [] := fun _ h => by cases h
theorem UReady.cons {i : Nat} {o : Oper} {rs : List Nat} {n : Nat} {l : Array Bool} {a : Act} {w : World} (ho : ops[i]? = some o)
    (h : ∀ K : Act → World → Prop, Shut (∀ a w, (i ∈ J ∨ S w) → Untl P md ops Q S J n (l.setIfInBounds i true) a w → K a w) → if Region.wanted o (yielded ops a.tmps) = true then o.wp P a w K Q else K (a.put o.dst undef) w)
    (hs : UReady P md ops Q S J n l a w rs) : UReady P md ops Q S J n l a w (i :: rs) := fun j hj => by
  rcases List.mem_cons.1 hj with rfl | hj
  · exact wpOp_step ho (fun K hK => h K (fun a w hS hU => hK a w ⟨hS, hU⟩))
  · exact hs j hj
theorem untlDone {l : Array Bool} {a : Act} {w : World} (hr : Region.ready md ops l = []) (h : Q .normal a w) : ∀ n, Untl P md ops Q S J n l a w
  | 0 => ⟨hr, h⟩
  | _ + 1 => ⟨fun _ => h, by rw [hr]; simp⟩
end
theorem wp_region_untl {P : Program} {ops : Array Oper} {Q : Exit → Act → World → Prop} {S : World → Prop} (J : List Nat) {id : Nat} {a : Act} {w : World} (hm : P.follows .mixedOrders = true) (hS : S w.drew)
    (h : S w.drew → Untl P .any ops Q S J ops.size (Array.replicate ops.size false) a w.drew) : (Code.region id ops true).wp P Q a w := wp_region_any hm (Untl.any _ _ _ _ (h hS))
end Go.Proofs.Ytdekickmplkdiaa
