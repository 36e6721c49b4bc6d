/- Walks: parts, angles. -/
import Derived.Test.YtdekickmplkdiaaRc
namespace Go.Proofs.Ytdekickmplkdiaa
open Go.RowKit

structure FanB (f : Fan) : Prop where
  a1 : 1 ≤ f.a
  ab : f.a ≤ f.b
  b5 : f.b ≤ 5000
  c1 : 1 ≤ f.c
  cd : f.c ≤ f.d
  d5 : f.d ≤ 5000
  n : f.gs.length ≤ 41
  g : ∀ g ∈ f.gs, 0 ≤ g.ll ∧ g.ll ≤ g.lh ∧ g.lh ≤ 3000 ∧ 0 ≤ g.fl ∧ g.fl ≤ g.fh ∧ g.fh ≤ 3000
def Fan.val (f : Fan) (A : Option Addr) (n c : Nat) : Value := .agg #[.int .i64 f.a, .int .i64 f.b, .int .i64 f.c, .int .i64 f.d, .slice A n c]
def fanA (f : Fan) (A : Option Addr) (n c : Nat) : Array Value := #[.int .i64 f.a, .int .i64 f.b, .int .i64 f.c, .int .i64 f.d, .slice A n c]
def partsL (u : Bool) (f : Fan) : Int := fal u f.a f.b * fal u f.c f.d
theorem parts_bd {f : Fan} (h : FanB f) (u : Bool) : 1 ≤ partsL u f ∧ partsL u f ≤ 25000000 := by
  have h1 := h.a1; have h2 := h.ab; have h3 := h.b5; have h4 := h.c1; have h5 := h.cd; have h6 := h.d5
  unfold partsL fal
  cases u
  · have := mul_bd (x := f.b) (X := 5000) (y := f.d) (Y := 5000) (by omega) h3 (by omega) h6
    have q := Int.mul_le_mul (a := 1) (b := 1) (c := f.b) (d := f.d) (by omega) (by omega) (by omega) (by omega)
    simp only [cond_false]; omega
  · have := mul_bd (x := f.a) (X := 5000) (y := f.c) (Y := 5000) (by omega) (by omega) (by omega) (by omega)
    have q := Int.mul_le_mul (a := 1) (b := 1) (c := f.a) (d := f.c) (by omega) (by omega) (by omega) (by omega)
    simp only [cond_true]; omega

theorem env_get {w W : World} {x0 x1 x2 fa fb fc fd sl : Value} (h : Env2 w W 117 26 #[x0, x1, x2] #[fa, fb, fc, fd, sl]) :
    W.cell? ⟨w.heap.size, 0, none⟩ = some x0 ∧ W.cell? ⟨w.heap.size, 1, none⟩ = some x1 ∧ W.cell? ⟨w.heap.size, 2, none⟩ = some x2 ∧ W.cell? ⟨w.heap.size + 1, 0, none⟩ = some fa ∧ W.cell? ⟨w.heap.size + 1, 1, none⟩ = some fb ∧ W.cell? ⟨w.heap.size + 1, 2, none⟩ = some fc ∧ W.cell? ⟨w.heap.size + 1, 3, none⟩ = some fd ∧ W.cell? ⟨w.heap.size + 1, 4, none⟩ = some sl :=
  ⟨h.p.cell 0, h.p.cell 1, h.p.cell 2, h.q.cell 0, h.q.cell 1, h.q.cell 2, h.q.cell 3, h.q.cell 4⟩

set_option maxRecDepth 100000 in
set_option maxHeartbeats 1000000 in
theorem parts_any (u : Bool) (f : Fan) (A : Option Addr) (n c : Nat) (w : World) (hf : FanB f) :
    Calls Try.prog 105 #[.agg (endA u), .agg (fanA f A n c)] w fun e w' => e = .returned (.int .i64 (partsL u f)) ∧ Below w.heap.size w w' := by
  have hp := parts_bd hf u
  have E0 := Lib.hid (Env2.start w 117 26 (endA u) (fanA f A n c))
  obtain ⟨fa, fb, fc, fd, gs⟩ := f
  have q : IntKind.i64.wrap (partsL u ⟨fa, fb, fc, fd, gs⟩) = partsL u ⟨fa, fb, fc, fd, gs⟩ := IntWalk.i64_in _ (by omega)
  clear hf hp
  have Q : Hid (IntKind.i64.wrap (partsL u ⟨fa, fb, fc, fd, gs⟩) = partsL u ⟨fa, fb, fc, fd, gs⟩) := q
  clear q
  cases u <;> simp only [endA, fanA, partsL, fal, cond_true, cond_false] at *
  · go_enter Try.func105, Try.ntmps105
    go_wp2_with fail
    go_region_held3 (fun W => W.cell? ⟨w.heap.size, 0, none⟩ = some (.func (.func 99) #[] #[]) ∧ W.cell? ⟨w.heap.size, 1, none⟩ = some (.func (.func 100) #[] #[]) ∧ W.cell? ⟨w.heap.size, 2, none⟩ = some (.func (.func 101) #[] #[]) ∧ W.cell? ⟨w.heap.size + 1, 0, none⟩ = some (.int .i64 fa) ∧ W.cell? ⟨w.heap.size + 1, 1, none⟩ = some (.int .i64 fb) ∧ W.cell? ⟨w.heap.size + 1, 2, none⟩ = some (.int .i64 fc) ∧ W.cell? ⟨w.heap.size + 1, 3, none⟩ = some (.int .i64 fd) ∧ W.cell? ⟨w.heap.size + 1, 4, none⟩ = some (.slice A n c))
      (first | with_reducible exact env_get E2.out | with_reducible exact env_get E1.out | with_reducible exact env_get E0.out.drewd | with_reducible exact env_get E0.out)
      (first | (go_at_call_of 100 (Value.agg #[Value.int .i64 fa, Value.int .i64 fb]); refine (high_any _ _ _).mono ?_; rintro e W1 ⟨rfl, hb1⟩; have E1 := Lib.hid (E0.out.drewd.below hb1); clear hb1) | (go_at_call_of 100 (Value.agg #[Value.int .i64 fc, Value.int .i64 fd]); refine (high_any _ _ _).mono ?_; rintro e W2 ⟨rfl, hb2⟩; have E2 := Lib.hid (E1.out.below hb2); clear hb2))
    all_goals
      go_wp2
      go_ret
      exact ⟨ret_int Q.out, E2.out.bel⟩
  · go_enter Try.func105, Try.ntmps105
    go_wp2_with fail
    go_region_held3 (fun W => W.cell? ⟨w.heap.size, 0, none⟩ = some (.func (.func 100) #[] #[]) ∧ W.cell? ⟨w.heap.size, 1, none⟩ = some (.func (.func 99) #[] #[]) ∧ W.cell? ⟨w.heap.size, 2, none⟩ = some (.func (.func 106) #[] #[]) ∧ W.cell? ⟨w.heap.size + 1, 0, none⟩ = some (.int .i64 fa) ∧ W.cell? ⟨w.heap.size + 1, 1, none⟩ = some (.int .i64 fb) ∧ W.cell? ⟨w.heap.size + 1, 2, none⟩ = some (.int .i64 fc) ∧ W.cell? ⟨w.heap.size + 1, 3, none⟩ = some (.int .i64 fd) ∧ W.cell? ⟨w.heap.size + 1, 4, none⟩ = some (.slice A n c))
      (first | with_reducible exact env_get E2.out | with_reducible exact env_get E1.out | with_reducible exact env_get E0.out.drewd | with_reducible exact env_get E0.out)
      (first | (go_at_call_of 99 (Value.agg #[Value.int .i64 fa, Value.int .i64 fb]); refine (low_any _ _ _).mono ?_; rintro e W1 ⟨rfl, hb1⟩; have E1 := Lib.hid (E0.out.drewd.below hb1); clear hb1) | (go_at_call_of 99 (Value.agg #[Value.int .i64 fc, Value.int .i64 fd]); refine (low_any _ _ _).mono ?_; rintro e W2 ⟨rfl, hb2⟩; have E2 := Lib.hid (E1.out.below hb2); clear hb2))
    all_goals
      go_wp2
      go_ret
      exact ⟨ret_int Q.out, E2.out.bel⟩

/-- The angle of a gap at an end, in parts. -/
def angF (u : Bool) (f : Fan) (g : Gap) : Int := min (ris u g.ll g.lh * fal u f.c f.d) (ris u g.fl g.fh * fal u f.a f.b)
def anglesF (u : Bool) (f : Fan) : List Int := f.gs.map (angF u f)
theorem ang_parts {f : Fan} (h : FanB f) (u : Bool) {g : Gap} (hg : g ∈ f.gs) : (0 ≤ ris u g.ll g.lh * fal u f.c f.d ∧ ris u g.ll g.lh * fal u f.c f.d ≤ 15000000) ∧ (0 ≤ ris u g.fl g.fh * fal u f.a f.b ∧ ris u g.fl g.fh * fal u f.a f.b ≤ 15000000) := by
  have h1 := h.a1; have h2 := h.ab; have h3 := h.b5; have h4 := h.c1; have h5 := h.cd; have h6 := h.d5
  obtain ⟨k1, k2, k3, k4, k5, k6⟩ := h.g g hg
  unfold ris fal
  cases u
  · exact ⟨mul_bd (X := 3000) (Y := 5000) (by simpa using k1) (by simp only [cond_false]; omega) (by simp only [cond_false]; omega) (by simp only [cond_false]; omega), mul_bd (X := 3000) (Y := 5000) (by simpa using k4) (by simp only [cond_false]; omega) (by simp only [cond_false]; omega) (by simp only [cond_false]; omega)⟩
  · exact ⟨mul_bd (X := 3000) (Y := 5000) (by simp only [cond_true]; omega) (by simp only [cond_true]; omega) (by simp only [cond_true]; omega) (by simp only [cond_true]; omega), mul_bd (X := 3000) (Y := 5000) (by simp only [cond_true]; omega) (by simp only [cond_true]; omega) (by simp only [cond_true]; omega) (by simp only [cond_true]; omega)⟩
theorem ang_bd {f : Fan} (h : FanB f) (u : Bool) {g : Gap} (hg : g ∈ f.gs) : 0 ≤ angF u f g ∧ angF u f g ≤ 15000000 := by
  have := ang_parts h u hg
  unfold angF; omega
theorem angles_bd {f : Fan} (h : FanB f) (u : Bool) : ∀ v ∈ anglesF u f, 0 ≤ v ∧ v ≤ 15000000 := by
  intro v hv
  obtain ⟨g, hg, rfl⟩ := List.mem_map.1 hv
  exact ang_bd h u hg
theorem angles_take (u : Bool) (f : Fan) (k : Nat) (hk : k < f.gs.length) : ((anglesF u f).take (k + 1)).map (Value.int .i64) = ((anglesF u f).take k).map (Value.int .i64) ++ [.int .i64 (angF u f (f.gs.getD k Gap.zero))] := by
  have e : f.gs.getD k Gap.zero = f.gs[k] := by simp [List.getD, hk]
  rw [e, List.take_succ_eq_append_getElem (by simpa [anglesF] using hk)]
  simp [anglesF]
theorem env_get3 {w W : World} {gb : Nat} {x0 x1 x2 fa fb fc fd sl g0 g1 g2 g3 : Value} (h : Env2 w W 117 26 #[x0, x1, x2] #[fa, fb, fc, fd, sl]) (hg : Blk W gb 42 #[g0, g1, g2, g3]) :
    W.cell? ⟨w.heap.size, 0, none⟩ = some x0 ∧ W.cell? ⟨w.heap.size, 1, none⟩ = some x1 ∧ W.cell? ⟨w.heap.size, 2, none⟩ = some x2 ∧ W.cell? ⟨w.heap.size + 1, 0, none⟩ = some fa ∧ W.cell? ⟨w.heap.size + 1, 1, none⟩ = some fb ∧ W.cell? ⟨w.heap.size + 1, 2, none⟩ = some fc ∧ W.cell? ⟨w.heap.size + 1, 3, none⟩ = some fd ∧ W.cell? ⟨w.heap.size + 1, 4, none⟩ = some sl ∧
      W.cell? ⟨gb, 0, none⟩ = some g0 ∧ W.cell? ⟨gb, 1, none⟩ = some g1 ∧ W.cell? ⟨gb, 2, none⟩ = some g2 ∧ W.cell? ⟨gb, 3, none⟩ = some g3 :=
  ⟨h.p.cell 0, h.p.cell 1, h.p.cell 2, h.q.cell 0, h.q.cell 1, h.q.cell 2, h.q.cell 3, h.q.cell 4, hg.cell 0, hg.cell 1, hg.cell 2, hg.cell 3⟩
def ListRes (w : World) (L : List Int) (e : Ending) (w' : World) : Prop := ∃ v, e = .returned v ∧ w'.ownsRow w.heap.size 3 1 v L.length (L.map (Value.int .i64)) ∧ Below w.heap.size w w'

set_option maxRecDepth 100000 in
set_option maxHeartbeats 4000000 in
theorem angles_any (u : Bool) (f : Fan) (A : Option Addr) (n c : Nat) (w : World) (hf : FanB f) (h : Gaps w A n f.gs) :
    Calls Try.prog 104 #[.agg (endA u), .agg (fanA f A n c)] w (ListRes w (anglesF u f)) := by
  obtain ⟨i0, hi0, hz0, hz1, hz2⟩ := info_parts Try.infoInt
  have hl := h.len
  have hn := hf.n
  rw [hl] at hn
  have Hl := Lib.hid hl
  have HG := Lib.hid h
  have E0 := Lib.hid (Env2.start w 117 26 (endA u) (fanA f A n c))
  have HT := Lib.hid (angles_take u f)
  have HB : Hid (∀ k, k < n → (0 ≤ ris u (f.gs.getD k Gap.zero).ll (f.gs.getD k Gap.zero).lh * fal u f.c f.d ∧ ris u (f.gs.getD k Gap.zero).ll (f.gs.getD k Gap.zero).lh * fal u f.c f.d ≤ 15000000) ∧ (0 ≤ ris u (f.gs.getD k Gap.zero).fl (f.gs.getD k Gap.zero).fh * fal u f.a f.b ∧ ris u (f.gs.getD k Gap.zero).fl (f.gs.getD k Gap.zero).fh * fal u f.a f.b ≤ 15000000)) := fun k hk => by
    have e : f.gs.getD k Gap.zero = f.gs[k]'(by omega) := by simp [List.getD, show k < f.gs.length from by omega]
    rw [e]; exact ang_parts hf u (List.getElem_mem _)
  clear hl h hf
  have HA := Lib.hid (fun g => show angF u f g = min (ris u g.ll g.lh * fal u f.c f.d) (ris u g.fl g.fh * fal u f.a f.b) from rfl)
  have HLEN := Lib.hid (show (anglesF u f).length = n from by simp [anglesF, Hl.out])
  generalize angF u f = ang at *
  generalize anglesF u f = L at *
  obtain ⟨fa, fb, fc, fd, gs⟩ := f
  simp only at HG HT HB HA Hl
  cases u <;> simp only [endA, fanA, ris, fal, cond_true, cond_false] at *
  · go_enter Try.func104, Try.ntmps104
    go_wp2
    go_loopw [5, 11] (fun s i wr => ∃ (k : Nat) (v : Value), k ≤ n ∧ i = .int .i64 k ∧ s = v ∧ wr.ownsRow w.heap.size 3 1 v k ((L.take k).map (Value.int .i64)) ∧ Env2 w wr 117 26 #[.func (.func 99) #[] #[], .func (.func 100) #[] #[], .func (.func 101) #[] #[]] #[.int .i64 fa, .int .i64 fb, .int .i64 fc, .int .i64 fd, .slice A n c]) (fun _ i _ => n - (intOf i).toNat)
    case atStart => exact ⟨0, _, Nat.zero_le _, rfl, rfl, World.ownsRow_nil _ _ _ _, E0.out⟩
    case round =>
      obtain ⟨k, v, hk, rfl, rfl, hown, hE⟩ := hrel
      have O1 := Lib.hid hown
      have E1 := Lib.hid hE
      clear hown hE
      by_cases hlt : k < n
      · obtain ⟨b, off, rfl, hb, hc0, hc1, hc2, hc3⟩ := (HG.out.below E1.out.bel).at_ hlt
        have HS := Lib.hid (HT.out k (by rw [Hl.out]; exact hlt))
        have hq := HB.out k hlt
        have HK := Lib.hid (HA.out (gs.getD k Gap.zero))
        generalize gs.getD k Gap.zero = y at *
        generalize ang y = r at *
        obtain ⟨yl, yh, zl, zh⟩ := y
        simp only at hc0 hc1 hc2 hc3 hq HK
        have q1 : IntKind.i64.wrap (yl * fd) = yl * fd := IntWalk.i64_in _ (by omega)
        have q2 : IntKind.i64.wrap (zl * fb) = zl * fb := IntWalk.i64_in _ (by omega)
        have q3 : (if zl * fb < yl * fd then zl * fb else yl * fd) = r := by rw [HK.out]; split <;> omega
        clear hq
        have E2 := Lib.hid (E1.out.alloc (.cells #[.int .i64 yl, .int .i64 yh, .int .i64 zl, .int .i64 zh] 42))
        have G2 := Lib.hid (Blk.new wr 42 #[.int .i64 yl, .int .i64 yh, .int .i64 zl, .int .i64 zh] rfl)
        have E2d := Lib.hid E2.out.drewd
        have G2d : Hid (Blk (wr.alloc (.cells #[.int .i64 yl, .int .i64 yh, .int .i64 zl, .int .i64 zh] 42)).drew wr.heap.size 42 #[.int .i64 yl, .int .i64 yh, .int .i64 zl, .int .i64 zh]) := G2.out
        have O2d : Hid ((wr.alloc (.cells #[.int .i64 yl, .int .i64 yh, .int .i64 zl, .int .i64 zh] 42)).drew.ownsRow w.heap.size 3 1 u5 k ((L.take k).map (Value.int .i64))) := O1.out.alloc _
        go_wp2_with fail
        go_region_held3 (fun W => W.cell? ⟨w.heap.size, 0, none⟩ = some (.func (.func 99) #[] #[]) ∧ W.cell? ⟨w.heap.size, 1, none⟩ = some (.func (.func 100) #[] #[]) ∧ W.cell? ⟨w.heap.size, 2, none⟩ = some (.func (.func 101) #[] #[]) ∧ W.cell? ⟨w.heap.size + 1, 0, none⟩ = some (.int .i64 fa) ∧ W.cell? ⟨w.heap.size + 1, 1, none⟩ = some (.int .i64 fb) ∧ W.cell? ⟨w.heap.size + 1, 2, none⟩ = some (.int .i64 fc) ∧ W.cell? ⟨w.heap.size + 1, 3, none⟩ = some (.int .i64 fd) ∧ W.cell? ⟨w.heap.size + 1, 4, none⟩ = some (.slice (some ⟨b, off, none⟩) n c) ∧ W.cell? ⟨wr.heap.size, 0, none⟩ = some (.int .i64 yl) ∧ W.cell? ⟨wr.heap.size, 1, none⟩ = some (.int .i64 yh) ∧ W.cell? ⟨wr.heap.size, 2, none⟩ = some (.int .i64 zl) ∧ W.cell? ⟨wr.heap.size, 3, none⟩ = some (.int .i64 zh))
          (first | with_reducible exact env_get3 E2d.out G2d.out | with_reducible exact env_get3 E2.out G2.out | with_reducible exact env_get3 E3.out G3.out | with_reducible exact env_get3 E4.out G4.out | with_reducible exact env_get3 E5.out G5.out | with_reducible exact env_get3 E6.out G6.out | with_reducible exact env_get3 (E6.out.alloc _) (G6.out.alloc _) | with_reducible exact env_get3 E7.out G7.out)
          (first | (go_at_call_of 99 (Value.agg #[Value.int .i64 yl, Value.int .i64 yh]); refine (low_any _ _ _).mono ?_; rintro e W3 ⟨rfl, hb3⟩; have E3 := Lib.hid (E2d.out.below hb3); have G3 := Lib.hid (blk_keep hb3 G2d.out); have O3 := Lib.hid (ownsRow_below O2d.out hb3); clear hb3) | (go_at_call_of 100 (Value.agg #[Value.int .i64 fc, Value.int .i64 fd]); refine (high_any _ _ _).mono ?_; rintro e W4 ⟨rfl, hb4⟩; have E4 := Lib.hid (E3.out.below hb4); have G4 := Lib.hid (blk_keep hb4 G3.out); have O4 := Lib.hid (ownsRow_below O3.out hb4); clear hb4) | (go_at_call_of 99 (Value.agg #[Value.int .i64 zl, Value.int .i64 zh]); refine (low_any _ _ _).mono ?_; rintro e W5 ⟨rfl, hb5⟩; have E5 := Lib.hid (E4.out.below hb5); have G5 := Lib.hid (blk_keep hb5 G4.out); have O5 := Lib.hid (ownsRow_below O4.out hb5); clear hb5) | (go_at_call_of 100 (Value.agg #[Value.int .i64 fa, Value.int .i64 fb]); refine (high_any _ _ _).mono ?_; rintro e W6 ⟨rfl, hb6⟩; have E6 := Lib.hid (E5.out.below hb6); have G6 := Lib.hid (blk_keep hb6 G5.out); have O6 := Lib.hid (ownsRow_below O5.out hb6); clear hb6) | (refine step_append_any rfl (.tmp 15) (.tmp 39) 54 rfl w.heap.size 3 i0 (.int .i64 0) 1 8 Try.underlying54 hi0 hz0 hz1 hz2 rfl (by decide) _ k _ (by rfl) (O6.out.alloc _) (some ⟨W6.heap.size, 0, none⟩) 1 1 (by rfl) [.int .i64 r] (ints_new1 W6 r _ rfl) (by intro u hu; rw [List.mem_singleton.1 hu]; rfl) (by unfold maxLen; omega) (by omega) (by have := E6.out.bel.size; simp; omega) ?_; intro v' W7 hown7 hgrow; have O7 : Hid (W7.ownsRow w.heap.size 3 1 v' (k + 1) ((L.take (k + 1)).map (Value.int .i64))) := (by unfold Hid; rw [HS.out]; exact hown7); have E7 := Lib.hid ((E6.out.alloc _).grown (O6.out.alloc _) (by decide) (by decide) (Nat.le_refl _) hgrow); have G7 := Lib.hid ((G6.out.alloc _).grown hgrow (own_blk_ne O6.out G6.out (by decide))); clear hown7 hgrow))
        all_goals
          go_wp2
          go_roundw
          case rel => exact ⟨k + 1, _, by omega, by go_num, rfl, O7.out, E7.out⟩
          case measure => simp [intOf]; omega
      · obtain rfl : k = n := by omega
        have he := Lib.hid (show L.take k = L from List.take_of_length_le (by rw [HLEN.out]; exact Nat.le_refl _))
        go_wp2
        go_ret
        exact ⟨_, rfl, by have h := O1.out; rw [he.out] at h; rw [HLEN.out]; exact h, E1.out.bel⟩
  · go_enter Try.func104, Try.ntmps104
    go_wp2
    go_loopw [5, 11] (fun s i wr => ∃ (k : Nat) (v : Value), k ≤ n ∧ i = .int .i64 k ∧ s = v ∧ wr.ownsRow w.heap.size 3 1 v k ((L.take k).map (Value.int .i64)) ∧ Env2 w wr 117 26 #[.func (.func 100) #[] #[], .func (.func 99) #[] #[], .func (.func 106) #[] #[]] #[.int .i64 fa, .int .i64 fb, .int .i64 fc, .int .i64 fd, .slice A n c]) (fun _ i _ => n - (intOf i).toNat)
    case atStart => exact ⟨0, _, Nat.zero_le _, rfl, rfl, World.ownsRow_nil _ _ _ _, E0.out⟩
    case round =>
      obtain ⟨k, v, hk, rfl, rfl, hown, hE⟩ := hrel
      have O1 := Lib.hid hown
      have E1 := Lib.hid hE
      clear hown hE
      by_cases hlt : k < n
      · obtain ⟨b, off, rfl, hb, hc0, hc1, hc2, hc3⟩ := (HG.out.below E1.out.bel).at_ hlt
        have HS := Lib.hid (HT.out k (by rw [Hl.out]; exact hlt))
        have hq := HB.out k hlt
        have HK := Lib.hid (HA.out (gs.getD k Gap.zero))
        generalize gs.getD k Gap.zero = y at *
        generalize ang y = r at *
        obtain ⟨yl, yh, zl, zh⟩ := y
        simp only at hc0 hc1 hc2 hc3 hq HK
        have q1 : IntKind.i64.wrap (yh * fc) = yh * fc := IntWalk.i64_in _ (by omega)
        have q2 : IntKind.i64.wrap (zh * fa) = zh * fa := IntWalk.i64_in _ (by omega)
        have q3 : (if zh * fa < yh * fc then zh * fa else yh * fc) = r := by rw [HK.out]; split <;> omega
        clear hq
        have E2 := Lib.hid (E1.out.alloc (.cells #[.int .i64 yl, .int .i64 yh, .int .i64 zl, .int .i64 zh] 42))
        have G2 := Lib.hid (Blk.new wr 42 #[.int .i64 yl, .int .i64 yh, .int .i64 zl, .int .i64 zh] rfl)
        have E2d := Lib.hid E2.out.drewd
        have G2d : Hid (Blk (wr.alloc (.cells #[.int .i64 yl, .int .i64 yh, .int .i64 zl, .int .i64 zh] 42)).drew wr.heap.size 42 #[.int .i64 yl, .int .i64 yh, .int .i64 zl, .int .i64 zh]) := G2.out
        have O2d : Hid ((wr.alloc (.cells #[.int .i64 yl, .int .i64 yh, .int .i64 zl, .int .i64 zh] 42)).drew.ownsRow w.heap.size 3 1 u5 k ((L.take k).map (Value.int .i64))) := O1.out.alloc _
        go_wp2_with fail
        go_region_held3 (fun W => W.cell? ⟨w.heap.size, 0, none⟩ = some (.func (.func 100) #[] #[]) ∧ W.cell? ⟨w.heap.size, 1, none⟩ = some (.func (.func 99) #[] #[]) ∧ W.cell? ⟨w.heap.size, 2, none⟩ = some (.func (.func 106) #[] #[]) ∧ W.cell? ⟨w.heap.size + 1, 0, none⟩ = some (.int .i64 fa) ∧ W.cell? ⟨w.heap.size + 1, 1, none⟩ = some (.int .i64 fb) ∧ W.cell? ⟨w.heap.size + 1, 2, none⟩ = some (.int .i64 fc) ∧ W.cell? ⟨w.heap.size + 1, 3, none⟩ = some (.int .i64 fd) ∧ W.cell? ⟨w.heap.size + 1, 4, none⟩ = some (.slice (some ⟨b, off, none⟩) n c) ∧ W.cell? ⟨wr.heap.size, 0, none⟩ = some (.int .i64 yl) ∧ W.cell? ⟨wr.heap.size, 1, none⟩ = some (.int .i64 yh) ∧ W.cell? ⟨wr.heap.size, 2, none⟩ = some (.int .i64 zl) ∧ W.cell? ⟨wr.heap.size, 3, none⟩ = some (.int .i64 zh))
          (first | with_reducible exact env_get3 E2d.out G2d.out | with_reducible exact env_get3 E2.out G2.out | with_reducible exact env_get3 E3.out G3.out | with_reducible exact env_get3 E4.out G4.out | with_reducible exact env_get3 E5.out G5.out | with_reducible exact env_get3 E6.out G6.out | with_reducible exact env_get3 (E6.out.alloc _) (G6.out.alloc _) | with_reducible exact env_get3 E7.out G7.out)
          (first | (go_at_call_of 100 (Value.agg #[Value.int .i64 yl, Value.int .i64 yh]); refine (high_any _ _ _).mono ?_; rintro e W3 ⟨rfl, hb3⟩; have E3 := Lib.hid (E2d.out.below hb3); have G3 := Lib.hid (blk_keep hb3 G2d.out); have O3 := Lib.hid (ownsRow_below O2d.out hb3); clear hb3) | (go_at_call_of 99 (Value.agg #[Value.int .i64 fc, Value.int .i64 fd]); refine (low_any _ _ _).mono ?_; rintro e W4 ⟨rfl, hb4⟩; have E4 := Lib.hid (E3.out.below hb4); have G4 := Lib.hid (blk_keep hb4 G3.out); have O4 := Lib.hid (ownsRow_below O3.out hb4); clear hb4) | (go_at_call_of 100 (Value.agg #[Value.int .i64 zl, Value.int .i64 zh]); refine (high_any _ _ _).mono ?_; rintro e W5 ⟨rfl, hb5⟩; have E5 := Lib.hid (E4.out.below hb5); have G5 := Lib.hid (blk_keep hb5 G4.out); have O5 := Lib.hid (ownsRow_below O4.out hb5); clear hb5) | (go_at_call_of 99 (Value.agg #[Value.int .i64 fa, Value.int .i64 fb]); refine (low_any _ _ _).mono ?_; rintro e W6 ⟨rfl, hb6⟩; have E6 := Lib.hid (E5.out.below hb6); have G6 := Lib.hid (blk_keep hb6 G5.out); have O6 := Lib.hid (ownsRow_below O5.out hb6); clear hb6) | (refine step_append_any rfl (.tmp 15) (.tmp 39) 54 rfl w.heap.size 3 i0 (.int .i64 0) 1 8 Try.underlying54 hi0 hz0 hz1 hz2 rfl (by decide) _ k _ (by rfl) (O6.out.alloc _) (some ⟨W6.heap.size, 0, none⟩) 1 1 (by rfl) [.int .i64 r] (ints_new1 W6 r _ rfl) (by intro u hu; rw [List.mem_singleton.1 hu]; rfl) (by unfold maxLen; omega) (by omega) (by have := E6.out.bel.size; simp; omega) ?_; intro v' W7 hown7 hgrow; have O7 : Hid (W7.ownsRow w.heap.size 3 1 v' (k + 1) ((L.take (k + 1)).map (Value.int .i64))) := (by unfold Hid; rw [HS.out]; exact hown7); have E7 := Lib.hid ((E6.out.alloc _).grown (O6.out.alloc _) (by decide) (by decide) (Nat.le_refl _) hgrow); have G7 := Lib.hid ((G6.out.alloc _).grown hgrow (own_blk_ne O6.out G6.out (by decide))); clear hown7 hgrow))
        all_goals
          go_wp2
          go_roundw
          case rel => exact ⟨k + 1, _, by omega, by go_num, rfl, O7.out, E7.out⟩
          case measure => simp [intOf]; omega
      · obtain rfl : k = n := by omega
        have he := Lib.hid (show L.take k = L from List.take_of_length_le (by rw [HLEN.out]; exact Nat.le_refl _))
        go_wp2
        go_ret
        exact ⟨_, rfl, by have h := O1.out; rw [he.out] at h; rw [HLEN.out]; exact h, E1.out.bel⟩
end Go.Proofs.Ytdekickmplkdiaa
