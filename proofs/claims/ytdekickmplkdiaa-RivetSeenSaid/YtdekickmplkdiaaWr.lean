/- Walks: copied, with the row that it owns. -/
import Derived.Test.YtdekickmplkdiaaKl
namespace Go.Proofs.Ytdekickmplkdiaa
open Go.RowKit

theorem own_less {w : World} {b base n size : Nat} {e : TypeId} {v : Value} {xs : List Value} (h : w.ownsRow base e size v n xs) (hb : b ≤ base) : w.ownsRow b e size v n xs := by
  refine ⟨h.1, h.2.imp_right ?_⟩
  rintro ⟨g, cap, cur, h1, h2, h3⟩
  exact ⟨g, cap, cur, h1, Nat.le_trans hb h2, h3⟩
theorem run_append_copyR {P : Program} (w : World) (t ty : TypeId) (i : TypeInfo) (z : Value) (bytes : Nat) (ht : P.underlying t = some (.slice 42)) (hi : P.info? 42 = some i) (hz : i.zero = some z) (hs : i.size = 4) (hby : i.bytes = bytes) (hzs : z.cells.size = 4)
    (base g : Nat) (hg : base ≤ g) (hB : Blk w g 42 #[]) (A : Option Addr) (n c : Nat) (xs : List Gap) (hr : Gaps w A n xs) (hn : n ≤ maxLen) (hb : n * bytes ≤ 140737488355328) (hbw : base ≤ w.heap.size) :
    ∃ A' c' w', (Builtin.append_ #[t, t] ty #[.slice (some ⟨g, 0, none⟩) 0 0, .slice A n c]).run P w = .ok (.slice A' n c') w' ∧ w'.ownsRow base 42 4 (.slice A' n c') n (flatG xs) ∧ Below w.heap.size w w' := by
  rcases Nat.eq_zero_or_pos n with rfl | hpos
  · have hx : xs = [] := List.eq_nil_of_length_eq_zero hr.len
    subst hx
    refine ⟨some ⟨g, 0, none⟩, 0, w, ?_, ⟨rfl, Or.inr ⟨g, 0, #[], rfl, hg, hB, Nat.le_refl _, Nat.zero_le _, rfl, rfl⟩⟩, Below.refl _ _⟩
    cases A with
    | none => simp [Builtin.append_, run_underlying ht, sizeOf, typeInfo, hi, Builtin.lenOf, Builtin.firstCells, storeCells]
    | some ad => simp [Builtin.append_, run_underlying ht, sizeOf, typeInfo, hi, Builtin.lenOf, Builtin.firstCells, storeCells, loadCells, loadCellsFrom]
  · obtain ⟨b, o, rfl, hlt, hc⟩ := hr.2 hpos
    obtain ⟨v', w', hrun, hown, hgr⟩ := run_append_arg_grows (P := P) w t ty 42 i z 4 bytes ht hi hz hs hby hzs (by decide) ⟨g, 0, none⟩ 0 0 [] (by simp) (by simp) ⟨b, o, none⟩ n c (flatG xs) hr.1 (fun j u hu => by rw [addr_add]; exact hc j u hu) (by omega) (by omega) (by rw [Nat.zero_add]; exact hb)
    simp only [Nat.zero_add, List.nil_append] at hown
    obtain ⟨g', c', rfl⟩ := own_form hown hpos
    exact ⟨_, _, w', hrun, own_less hown hbw, grown_none hgr⟩
theorem step_append_copyR {P : Program} {ops : Array Oper} {o : Oper} {a : Act} {w : World} {K : Act → World → Prop} {Q : Exit → Act → World → Prop} {E : Prop}
    (hg : o.guard = none) (s x : Operand) (t : TypeId) (hop : o.op = Op.call { callee := Callee.builtin Builtin.append, args := #[s, x], argTypes := #[t, t] })
    (i : TypeInfo) (z : Value) (bytes : Nat) (ht : P.underlying t = some (.slice 42)) (hi : P.info? 42 = some i) (hz : i.zero = some z) (hsz : i.size = 4) (hby : i.bytes = bytes) (hzs : z.cells.size = 4)
    (base g : Nat) (hbg : base ≤ g) (hB : Blk w g 42 #[]) (hs : a.eval s = .slice (some ⟨g, 0, none⟩) 0 0) (A : Option Addr) (n c : Nat) (hx : a.eval x = .slice A n c) (xs : List Gap) (hr : Gaps w A n xs) (hn : n ≤ maxLen) (hb : n * bytes ≤ 140737488355328) (hbw : base ≤ w.heap.size)
    (hK : ∀ A' c' w', w'.ownsRow base 42 4 (.slice A' n c') n (flatG xs) → Below w.heap.size w w' → K (a.put o.dst (.slice A' n c')) w') :
    if Region.wanted o (yielded ops a.tmps) = true then Oper.wp P o a w K Q else E := by
  have hw : Region.wanted o (yielded ops a.tmps) = true := by simp [Region.wanted, hg]
  rw [if_pos hw]
  obtain ⟨A', c', w', hrun, h1, h2⟩ := run_append_copyR (P := P) w t o.type i z bytes ht hi hz hsz hby hzs base g hbg hB A n c xs hr hn hb hbw
  unfold Oper.wp
  simp [execOp, hop, resolve, invoke, builtin, hs, hx, hrun, Result.andThen]
  exact hK A' c' w' h1 h2
def RowRes (w : World) (f : Fan) (n : Nat) (e : Ending) (w' : World) : Prop := ∃ A c, e = .returned (.agg (fanA f A n c)) ∧ w'.ownsRow w.heap.size 42 4 (.slice A n c) n (flatG f.gs) ∧ Below w.heap.size w w'
theorem own_gaps {w : World} {base n c : Nat} {A : Option Addr} {xs : List Gap} (h : w.ownsRow base 42 4 (.slice A n c) n (flatG xs)) : OwnG base w A n xs := by
  obtain ⟨A2, c2, e, ho⟩ := ownG_of h
  simp only [Value.slice.injEq, true_and] at e
  obtain ⟨rfl, rfl⟩ := e
  exact ho

set_option maxRecDepth 100000 in
set_option maxHeartbeats 4000000 in
theorem copied_row (f : Fan) (A : Option Addr) (n c : Nat) (w : World) (h : Gaps w A n f.gs) (hn : n ≤ 1000) :
    Calls Try.prog 49 #[.agg (fanA f A n c)] w (RowRes w f n) := by
  obtain ⟨i0, hi, hz0, hz1, hz2⟩ := info_parts Try.infoGap
  have E0 := Lib.hid (Env2.start w 26 26 (fanA f A n c) #[.int .i64 0, .int .i64 0, .int .i64 0, .int .i64 0, .slice none 0 0]).drewd
  have HG := Lib.hid h
  clear h
  have HE := Lib.hid (fun W a1 a2 (ho : W.ownsRow w.heap.size 42 4 (.slice a1 n a2) n (flatG f.gs)) (hb : Below w.heap.size w W) => show RowRes w f n (.returned (.agg (fanA f a1 n a2))) W from ⟨a1, a2, rfl, ho, hb⟩)
  generalize RowRes w f n = RR at *
  obtain ⟨fa, fb, fc, fd, gs⟩ := f
  simp only [fanA] at *
  go_enter Try.func49, Try.ntmps49
  go_wp2_with fail
  refine wp_region_untl (S := SFan w (.int .i64 fa) (.int .i64 fb) (.int .i64 fc) (.int .i64 fd) (.slice A n c)) [9] (by kernel_rfl) (fan_get E0.out.p) (fun _ => ?_)
  generalize (((w.alloc (.cells #[.int .i64 fa, .int .i64 fb, .int .i64 fc, .int .i64 fd, .slice A n c] 26)).alloc (.cells #[.int .i64 0, .int .i64 0, .int .i64 0, .int .i64 0, .slice none 0 0] 26)).drew) = wd at *
  refine untlTake (i := 0) 3 (v := ?v1) rfl (by kernel_rfl) (by kernel_rfl) (by kernel_rfl) (by kernel_rfl) (by kernel_rfl) (by kernel_rfl) (fun _ _ _ h => h) (Or.inl ⟨by rfl, ?y1⟩) (by assumption) ?r1
  case y1 => (intro w hSw; obtain ⟨g0, g1, g2, g3, g4⟩ := hSw; go_simp; try with_reducible rfl)
  refine untlTake (i := 1) 4 (v := ?v2) rfl (by kernel_rfl) (by kernel_rfl) (by kernel_rfl) (by kernel_rfl) (by kernel_rfl) (by kernel_rfl) (fun _ _ _ h => h) (Or.inl ⟨by rfl, ?y2⟩) (by assumption) ?r2
  case y2 => (intro w hSw; obtain ⟨g0, g1, g2, g3, g4⟩ := hSw; go_simp; try with_reducible rfl)
  refine untlTake (i := 2) 5 (v := ?v3) rfl (by kernel_rfl) (by kernel_rfl) (by kernel_rfl) (by kernel_rfl) (by kernel_rfl) (by kernel_rfl) (fun _ _ _ h => h) (Or.inl ⟨by rfl, ?y3⟩) (by assumption) ?r3
  case y3 => (intro w hSw; obtain ⟨g0, g1, g2, g3, g4⟩ := hSw; go_simp; try with_reducible rfl)
  refine untlTake (i := 3) 6 (v := ?v4) rfl (by kernel_rfl) (by kernel_rfl) (by kernel_rfl) (by kernel_rfl) (by kernel_rfl) (by kernel_rfl) (fun _ _ _ h => h) (Or.inl ⟨by rfl, ?y4⟩) (by assumption) ?r4
  case y4 => (intro w hSw; obtain ⟨g0, g1, g2, g3, g4⟩ := hSw; go_simp; try with_reducible rfl)
  refine untlTake (i := 5) 8 (v := ?v5) rfl (by kernel_rfl) (by kernel_rfl) (by kernel_rfl) (by kernel_rfl) (by kernel_rfl) (by kernel_rfl) (fun _ _ _ h => h) (Or.inl ⟨by rfl, ?y5⟩) (by assumption) ?r5
  case y5 => (intro w hSw; obtain ⟨g0, g1, g2, g3, g4⟩ := hSw; go_simp; try with_reducible rfl)
  refine untlTake (i := 6) 9 (v := ?v6) rfl (by kernel_rfl) (by kernel_rfl) (by kernel_rfl) (by kernel_rfl) (by kernel_rfl) (by kernel_rfl) (fun _ _ _ h => h) (Or.inl ⟨by rfl, ?y6⟩) (by assumption) ?r6
  case y6 => (intro w hSw; obtain ⟨g0, g1, g2, g3, g4⟩ := hSw; go_simp; try with_reducible rfl)
  simp only [Act.put, List.setIfInBounds_toArray, List.set_cons_zero, List.set_cons_succ]
  refine untlStep (i := 4) (by kernel_rfl) rfl (fun K4 hK4 => ?_)
  go_simp
  have E1 := Lib.hid (E0.out.alloc (.cells #[] 42))
  refine hK4.out _ _ (.inr (fan_get E1.out.p)) ?_
  have NB := Lib.hid (Blk.new wd 42 #[] (g := wd.heap.size) rfl)
  have NZ := Lib.hid E0.out.bel.size
  generalize hV1 : wd.alloc (.cells #[] 42) = V1 at *
  clear hV1
  refine untlStep (i := 7) (by kernel_rfl) rfl (fun K7 hK7 => ?_)
  refine step_append_copyR rfl (.tmp 7) (.tmp 9) 24 rfl i0 _ 32 Try.underlying24 hi hz0 hz1 hz2 rfl w.heap.size wd.heap.size NZ.out NB.out (by rfl) A n c (by rfl) _ (HG.out.below E1.out.bel) (by unfold maxLen; omega) (by omega) E1.out.bel.size ?_
  intro a1 a2 V2 h1 h2
  have E2 := Lib.hid (E1.out.below h2)
  have O2 := Lib.hid h1
  have HZ := Lib.hid E1.out.q.lt
  clear h1 h2
  have s2 : SFan w (.int .i64 fa) (.int .i64 fb) (.int .i64 fc) (.int .i64 fd) (.slice A n c) V2 := fan_get E2.out.p
  refine hK7.out _ _ (.inr s2) ?_
  refine untlTake (i := 8) 11 (v := ?v7) rfl (by kernel_rfl) (by kernel_rfl) (by kernel_rfl) (by kernel_rfl) (by kernel_rfl) (by kernel_rfl) (fun _ _ _ h => h) (Or.inl ⟨by rfl, ?y7⟩) (by assumption) ?r7
  case y7 => (intro w hSw; obtain ⟨g0, g1, g2, g3, g4⟩ := hSw; go_simp; try with_reducible rfl)
  refine untlStep (i := 9) (by kernel_rfl) rfl (fun K9 hK9 => ?_)
  rw [if_pos (by rfl)]
  refine wp_store_rowN rfl _ _ _ rfl _ _ rfl rfl _ _ E2.out.q (by kernel_rfl) rfl (ones5v _ _ _ _ _ _ _) ?_
  have O3 := Lib.hid (own_setRow O2.out E2.out.q (by decide) #[.int .i64 fa, .int .i64 fb, .int .i64 fc, .int .i64 fd, .slice a1 n a2])
  have Q3 := Lib.hid (E2.out.q.setRow #[.int .i64 fa, .int .i64 fb, .int .i64 fc, .int .i64 fd, .slice a1 n a2])
  have B3 := Lib.hid (below_setR E2.out.bel (g := w.heap.size + 1) (Nat.le_succ _) #[.int .i64 fa, .int .i64 fb, .int .i64 fc, .int .i64 fd, .slice a1 n a2])
  refine hK9.out _ _ (.inl (by decide)) ?_
  refine untlDone (by kernel_rfl) ?_ _
  go_wp2_with fail
  exact bodyPost_ret (results_c rfl _ _ _ (w.heap.size + 1) _ _ _ rfl Q3.out Try.underlying26 (by kernel_rfl)) rfl (HE.out _ _ _ O3.out B3.out)
end Go.Proofs.Ytdekickmplkdiaa
