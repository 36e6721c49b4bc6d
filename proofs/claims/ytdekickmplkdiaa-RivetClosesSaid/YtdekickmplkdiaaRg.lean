/- Walks: stop, Stops. -/
import Derived.Test.YtdekickmplkdiaaRf
namespace Go.Proofs.Ytdekickmplkdiaa
open Go.RowKit

theorem mul_sm {x y : Int} (h1 : 0 ≤ x) (h2 : x ≤ 5000) (h3 : 0 ≤ y) (h4 : y ≤ 5000) : 0 ≤ x * y ∧ x * y ≤ 25000000 := mul_bd h1 h2 h3 h4
set_option maxHeartbeats 400000 in
theorem smaller_any (al ah dl dh ol oh pl ph : Int) (w : World) (h1 : 0 ≤ ah ∧ ah ≤ 5000) (h2 : 0 ≤ ph ∧ ph ≤ 5000) (h3 : 0 ≤ ol ∧ ol ≤ 5000) (h4 : 0 ≤ dl ∧ dl ≤ 5000) :
    Calls Try.prog 97 #[.agg #[.int .i64 al, .int .i64 ah], .agg #[.int .i64 dl, .int .i64 dh], .agg #[.int .i64 ol, .int .i64 oh], .agg #[.int .i64 pl, .int .i64 ph]] w fun e w' => e = .returned (.bool (decide (ah * ph < ol * dl))) ∧ Below w.heap.size w w' := by
  have B := Lib.hid (((below_self w (.cells #[.int .i64 al, .int .i64 ah] 23)).alloc (by simp) (.cells #[.int .i64 dl, .int .i64 dh] 23)).alloc (by simp; omega) (.cells #[.int .i64 ol, .int .i64 oh] 23) |>.alloc (by simp; omega) (.cells #[.int .i64 pl, .int .i64 ph] 23))
  have q1 := mul_sm h1.1 h1.2 h2.1 h2.2
  have q2 := mul_sm h3.1 h3.2 h4.1 h4.2
  go_enter Try.func97, Try.ntmps97
  go_wp2
  go_ret
  exact ⟨rfl, B.out⟩

def stopL (f : Fan) (g : Gap) : Int := if g.lh * f.d < g.fl * f.a then 1 else if g.fh * f.b < g.ll * f.c then 2 else 3
set_option maxHeartbeats 1000000 in
theorem stop_any (f : Fan) (y : Gap) (A : Option Addr) (n c : Nat) (w : World) (hf : FanB f) (hy : y ∈ f.gs) :
    Calls Try.prog 66 #[.agg (fanA f A n c), .agg #[.int .i64 y.ll, .int .i64 y.lh, .int .i64 y.fl, .int .i64 y.fh]] w fun e w' => e = .returned (.int .i64 (stopL f y)) ∧ Below w.heap.size w w' := by
  have h1 := hf.a1; have h2 := hf.ab; have h3 := hf.b5; have h4 := hf.c1; have h5 := hf.cd; have h6 := hf.d5
  obtain ⟨k1, k2, k3, k4, k5, k6⟩ := hf.g y hy
  have E0 := Lib.hid (Env2.start w 26 42 (fanA f A n c) #[.int .i64 y.ll, .int .i64 y.lh, .int .i64 y.fl, .int .i64 y.fh])
  have HO : Hid (stopL f y = if y.lh * f.d < y.fl * f.a then 1 else if y.fh * f.b < y.ll * f.c then 2 else 3) := rfl
  generalize stopL f y = r at *
  clear hf hy
  obtain ⟨fa, fb, fc, fd, gs⟩ := f
  obtain ⟨ll, lh, fl, fh⟩ := y
  simp only [fanA] at *
  have C1 := Lib.hid (fun W => smaller_any ll lh fa fb fl fh fc fd W (by omega) (by omega) (by omega) (by omega))
  have C2 := Lib.hid (fun W => smaller_any fl fh fc fd ll lh fa fb W (by omega) (by omega) (by omega) (by omega))
  clear h1 h2 h3 h4 h5 h6 k1 k2 k3 k4 k5 k6
  cases q1 : decide (lh * fd < fl * fa)
  · cases q2 : decide (fh * fb < ll * fc)
    · have H : Hid (r = 3) := by unfold Hid; rw [HO.out, if_neg (by simpa using q1), if_neg (by simpa using q2)]
      rw [q1] at C1; rw [q2] at C2
      clear HO q1 q2
      go_enter Try.func66, Try.ntmps66
      go_wp2_with fail
      refine (C1.out _).mono ?_
      rintro e W1 ⟨rfl, hb1⟩
      have E1 := Lib.hid (E0.out.below hb1)
      have p1 := E1.out.p.cell; have p2 := E1.out.q.cell
      clear hb1
      go_wp2_with fail
      refine (C2.out _).mono ?_
      rintro e W2 ⟨rfl, hb2⟩
      have E2 := Lib.hid (E1.out.below hb2)
      clear p1 p2 hb2
      go_wp2
      go_ret
      exact ⟨ret_int H.out.symm, E2.out.bel⟩
    · have H : Hid (r = 2) := by unfold Hid; rw [HO.out, if_neg (by simpa using q1), if_pos (by simpa using q2)]
      rw [q1] at C1; rw [q2] at C2
      clear HO q1 q2
      go_enter Try.func66, Try.ntmps66
      go_wp2_with fail
      refine (C1.out _).mono ?_
      rintro e W1 ⟨rfl, hb1⟩
      have E1 := Lib.hid (E0.out.below hb1)
      have p1 := E1.out.p.cell; have p2 := E1.out.q.cell
      clear hb1
      go_wp2_with fail
      refine (C2.out _).mono ?_
      rintro e W2 ⟨rfl, hb2⟩
      have E2 := Lib.hid (E1.out.below hb2)
      clear p1 p2 hb2
      go_wp2
      go_ret
      exact ⟨ret_int H.out.symm, E2.out.bel⟩
  · have H : Hid (r = 1) := by unfold Hid; rw [HO.out, if_pos (by simpa using q1)]
    rw [q1] at C1
    clear HO q1 C2
    go_enter Try.func66, Try.ntmps66
    go_wp2_with fail
    refine (C1.out _).mono ?_
    rintro e W1 ⟨rfl, hb1⟩
    have E1 := Lib.hid (E0.out.below hb1)
    clear hb1
    go_wp2
    go_ret
    exact ⟨ret_int H.out.symm, E1.out.bel⟩

def stopsL (f : Fan) : List Int := if fanErr f = 0 then f.gs.map (stopL f) else []
theorem stops_take (f : Fan) (k : Nat) (hk : k < f.gs.length) : (((f.gs.map (stopL f)).take (k + 1)).map (Value.int .i64)) = ((f.gs.map (stopL f)).take k).map (Value.int .i64) ++ [.int .i64 (stopL f (f.gs.getD k Gap.zero))] := by
  have e : f.gs.getD k Gap.zero = f.gs[k] := by simp [List.getD, hk]
  rw [e, List.take_succ_eq_append_getElem (by simpa using hk)]
  simp
def StopsRes (w : World) (L : List Int) (r : Int) (e : Ending) (w' : World) : Prop := ∃ v, e = .returned (.tuple #[v, .int .i64 r]) ∧ w'.ownsRow w.heap.size 39 1 v L.length (L.map (Value.int .i64)) ∧ Below w.heap.size w w'
set_option maxRecDepth 100000 in
set_option maxHeartbeats 1000000 in
theorem Stops_any (f : Fan) (A : Option Addr) (n c : Nat) (w : World) (h : Gaps w A n f.gs) (hn : n ≤ maxLen) :
    Calls Try.prog 24 #[.agg (fanA f A n c)] w (StopsRes w (stopsL f) (fanErr f)) := by
  obtain ⟨i0, hi0, hz0, hz1, hz2⟩ := info_parts Try.infoStop
  have HF := Lib.hid (fun W (hb : Below w.heap.size w W) => fanError_any f A n c W (h.below hb) hn)
  have B0 := Lib.hid (below_self w (.cells (fanA f A n c) 26))
  have R0 := Lib.hid (Blk.new w 26 (fanA f A n c) rfl)
  by_cases hE : fanErr f = 0
  · have hlen := h.len
    have hf := (fanB_of hE).1
    have HN : n ≤ 41 := by have := hf.n; rw [hlen] at this; exact this
    have HR : Hid (stopsL f = f.gs.map (stopL f)) := if_pos hE
    have HT := Lib.hid (stops_take f)
    have HC := Lib.hid (fun k (hk : k < n) W => stop_any f (f.gs.getD k Gap.zero) A n c W hf (by
      have e : f.gs.getD k Gap.zero = f.gs[k]'(by omega) := by simp [List.getD, show k < f.gs.length from by omega]
      rw [e]; exact List.getElem_mem _))
    have HG := Lib.hid h
    have HE := Lib.hid hE
    have Hl := Lib.hid hlen
    have HL := Lib.hid (show (f.gs.map (stopL f)).length = n by simp [hlen])
    clear h hn hE hlen hf
    rw [HE.out] at HF ⊢
    generalize stopsL f = L0 at *
    generalize stopL f = st at *
    generalize f.gs.map st = L at *
    obtain ⟨fa, fb, fc, fd, gs⟩ := f
    simp only [fanA] at *
    go_enter Try.func24, Try.ntmps24
    go_wp2_with fail
    refine (HF.out _ B0.out).mono ?_
    rintro e W1 ⟨rfl, hb1⟩
    have R1 := Lib.hid (blk_keep hb1 R0.out)
    have B1 := Lib.hid (below_then B0.out hb1)
    have r1 := R1.out.cell
    clear hb1
    go_wp2_with fail
    clear r1
    go_loopw [5, 16] (fun s i wr => ∃ (k : Nat) (v : Value), k ≤ n ∧ i = .int .i64 k ∧ s = v ∧ wr.ownsRow w.heap.size 39 1 v k ((L.take k).map (Value.int .i64)) ∧ Blk wr w.heap.size 26 #[.int .i64 fa, .int .i64 fb, .int .i64 fc, .int .i64 fd, .slice A n c] ∧ Below w.heap.size w wr) (fun _ i _ => n - (intOf i).toNat)
    case atStart => exact ⟨0, _, Nat.zero_le _, rfl, rfl, World.ownsRow_nil _ _ _ _, R1.out, B1.out⟩
    case round =>
      obtain ⟨k, v, hk, rfl, rfl, hown, hR, hB⟩ := hrel
      have O2 := Lib.hid hown
      have R2 := Lib.hid hR
      have B2 := Lib.hid hB
      clear hown hR hB
      by_cases hlt : k < n
      · obtain ⟨b, off, rfl, hb, hc0, hc1, hc2, hc3⟩ := (HG.out.below B2.out).at_ hlt
        have HS := Lib.hid (HT.out k (by rw [Hl.out]; exact hlt))
        have C := Lib.hid (HC.out k hlt)
        generalize gs.getD k Gap.zero = y at *
        generalize st y = r at *
        obtain ⟨yl, yh, zl, zh⟩ := y
        have bs := below_self wr (.cells #[.int .i64 yl, .int .i64 yh, .int .i64 zl, .int .i64 zh] 42)
        have O3 := Lib.hid (ownsRow_below O2.out bs)
        have R3 := Lib.hid (blk_keep bs R2.out)
        have B3 := Lib.hid (below_then B2.out bs)
        clear bs
        have r2 := fan_get R3.out
        go_wp2_with fail
        refine (C.out _).mono ?_
        rintro e W4 ⟨rfl, hb4⟩
        have O4 := Lib.hid (ownsRow_below O3.out hb4)
        have R4 := Lib.hid (blk_keep hb4 R3.out)
        have B4 := Lib.hid (below_then B3.out hb4)
        clear hb4 r2 hc0 hc1 hc2 hc3
        go_wp2_with (at_builtin; refine wpList_append_any rfl _ _ 36 rfl w.heap.size 39 i0 (.int .i64 0) 1 8 Try.underlying36 hi0 hz0 hz1 hz2 rfl (by decide) _ k _ rfl (O4.out.alloc _) (some ⟨W4.heap.size, 0, none⟩) 1 1 [.int .i64 r] rfl (ints_new1 W4 r _ rfl) ?c1 ?c2 ?c3 ?c4 ?_)
        case c1 => intro u hu; rw [List.mem_singleton.1 hu]; rfl
        case c2 => unfold maxLen; omega
        case c3 => omega
        case c4 => have := B4.out.size; simp; omega
        intro v' W5 hown5 hgrow
        have O5 : Hid (W5.ownsRow w.heap.size 39 1 v' (k + 1) ((L.take (k + 1)).map (Value.int .i64))) := by unfold Hid; rw [HS.out, List.map_take]; exact hown5
        have R5 := Lib.hid ((R4.out.alloc (.cells #[.int .i64 r] 39)).grown hgrow (own_blk_ne O4.out R4.out (by decide)))
        have B5 := Lib.hid ((below_then B4.out (below_self _ _)).grown hgrow (by have := B4.out.size; simp; omega) (fun q e => (O4.out.lt q e.symm.symm).1))
        clear hown5 hgrow
        go_wp2
        go_roundw
        case rel => exact ⟨k + 1, _, by omega, by go_num, rfl, O5.out, R5.out, B5.out⟩
        case measure => simp [intOf]; omega
      · obtain rfl : k = n := by omega
        have he := Lib.hid (show (L).take k = L from List.take_of_length_le (by rw [HL.out]; exact Nat.le_refl _))
        go_wp2
        go_ret2
        exact ⟨_, rfl, by rw [HR.out, HL.out]; have h := O2.out; rw [he.out] at h; exact h, B2.out⟩
  · have HR : Hid (stopsL f = []) := if_neg hE
    clear h hn
    generalize stopsL f = L0 at *
    generalize fanErr f = r at *
    have HE1 : decide (r = 0) = false := by simpa using hE
    unfold fanA at *
    go_enter Try.func24, Try.ntmps24
    go_wp2_with fail
    refine (HF.out _ B0.out).mono ?_
    rintro e W1 ⟨rfl, hb1⟩
    have B1 := Lib.hid (below_then B0.out hb1)
    clear hb1
    go_wp2
    go_ret2
    exact ⟨_, rfl, by rw [HR.out]; exact World.ownsRow_nil _ _ _ _, B1.out⟩
end Go.Proofs.Ytdekickmplkdiaa
