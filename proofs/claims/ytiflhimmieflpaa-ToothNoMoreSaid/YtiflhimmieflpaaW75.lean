/- Walks: the reference's Without. -/
import Derived.Test.YtiflhimmieflpaaW74
namespace Go.Proofs.Ytiflhimmieflpaa
open Go.RowKit Go.Maps

/-- An append of whatever list onto a slice of the call's own, as one step of a region that draws. -/
theorem step_append_any {P : Program} {ops : Array Oper} {o : Oper} {a : Act} {w : World} {K : Act → World → Prop} {Q : Exit → Act → World → Prop} {E : Prop}
    (hg : o.guard = none) (s x : Operand) (t : TypeId) (hop : o.op = Op.call { callee := Callee.builtin Builtin.append, args := #[s, x], argTypes := #[t, t] })
    (base : Nat) (e : TypeId) (i : TypeInfo) (z : Value) (size bytes : Nat) (ht : P.underlying t = some (.slice e)) (hi : P.info? e = some i) (hz : i.zero = some z) (hsz : i.size = size) (hby : i.bytes = bytes) (hzs : z.cells.size = size) (h0 : 0 < size)
    (v : Value) (n : Nat) (xs : List Value) (hs : a.eval s = v) (hown : w.ownsRow base e size v n xs) (A : Option Addr) (m c : Nat) (hx : a.eval x = .slice A m c) (news : List Value) (hr : Reads w size A m news) (h1 : ∀ u ∈ news, u.oneCell' = true)
    (h63 : n + m ≤ maxLen) (hb : (n + m) * bytes ≤ 140737488355328) (hbase : base ≤ w.heap.size)
    (hK : ∀ v' w', w'.ownsRow base e size v' (n + m) (xs ++ news) → w.grownBy w' v.ownBlock → K (a.put o.dst v') w') :
    if Region.wanted o (yielded ops a.tmps) = true then Oper.wp P o a w K Q else E := by
  have hw : Region.wanted o (yielded ops a.tmps) = true := by simp [Region.wanted, hg]
  rw [if_pos hw]
  obtain ⟨v', w', hrun, r1, r2⟩ := run_append_any (P := P) w base t o.type e i z size bytes ht hi hz hsz hby hzs h0 v n xs hown A m c news hr h1 h63 hb hbase
  unfold Oper.wp
  simp [execOp, hop, resolve, invoke, builtin, hs, hx, hrun, Result.andThen]
  exact hK v' w' r1 r2
theorem ON.setFar {b : Nat} {w : World} {e t : TypeId} {size n c g : Nat} {A : Option Addr} {xs : List Value} {cs : Array Value} (h : ON b w e size n A c xs) (hg : Blk w g t cs) (hne : e ≠ t) (i : Nat) (u : Value) : ON b (w.setCell ⟨g, i, none⟩ u) e size n A c xs := by
  rcases Nat.eq_zero_or_pos n with rfl | hp
  · exact ⟨⟨⟨h.nr.r.1, fun h => absurd h (by omega)⟩, fun h => absurd h (by omega)⟩, fun h => absurd h (by omega)⟩
  · have := own_setCell (h.own hp) hg hne i u
    exact ⟨reads_of_own this, fun _ => this⟩
theorem ON.setRowFar {b : Nat} {w : World} {e t : TypeId} {size n c g : Nat} {A : Option Addr} {xs : List Value} {cs : Array Value} (h : ON b w e size n A c xs) (hg : Blk w g t cs) (hne : e ≠ t) (cs' : Array Value) : ON b (w.setRow g cs') e size n A c xs := by
  rcases Nat.eq_zero_or_pos n with rfl | hp
  · exact ⟨⟨⟨h.nr.r.1, fun h => absurd h (by omega)⟩, fun h => absurd h (by omega)⟩, fun h => absurd h (by omega)⟩
  · have := own_setRow (h.own hp) hg hne cs'
    exact ⟨reads_of_own this, fun _ => this⟩
theorem CW.far3 {w W : World} {B : Bl} (h : CW w B W) {g : Nat} (hg : w.heap.size + 1 < g) (u : Value) : CW w B (W.setCell ⟨g, 3, none⟩ u) :=
  ⟨h.b.far (p := ⟨g, 3, none⟩) (by simp; omega) u, h.z.far (p := ⟨g, 3, none⟩) (by simp; omega) u, h.bel.setCell (p := ⟨g, 3, none⟩) (by simp; omega) u⟩
theorem cracks_take {w : World} {A : Option Addr} {n k : Nat} {xs : List Crack} (h : Cracks w A n xs) (hk : k ≤ n) : Reads w 6 A k (flat6 (xs.take k)) := by
  have hl := h.len
  refine ⟨by rw [flat6_length, List.length_take]; omega, fun h0 => ?_⟩
  obtain ⟨b, off, e, hb, hc⟩ := h.2 (by omega)
  refine ⟨b, off, e, hb, fun j u hu => hc j u ?_⟩
  have e2 : flat6 xs = flat6 (xs.take k) ++ flat6 (xs.drop k) := by rw [← flat6_append, List.take_append_drop]
  rw [e2, List.getElem?_append_left (List.getElem?_eq_some_iff.1 hu).1]
  exact hu
theorem cracks_drop {w : World} {b off n k : Nat} {xs : List Crack} (h : Cracks w (some ⟨b, off, none⟩) n xs) (hk : k ≤ n) : Reads w 6 (some ⟨b, off + k * 6, none⟩) (n - k) (flat6 (xs.drop k)) := by
  have hl := h.len
  refine ⟨by rw [flat6_length, List.length_drop]; omega, fun h0 => ?_⟩
  obtain ⟨b', off', e, hb, hc⟩ := h.2 (by omega)
  simp only [Option.some.injEq, Addr.mk.injEq, and_true] at e
  obtain ⟨rfl, rfl⟩ := e
  refine ⟨_, _, rfl, hb, fun j u hu => ?_⟩
  have := hc (k * 6 + j) u (by
    rw [flat6_drop, List.getElem?_drop] at hu
    exact hu)
  rwa [Nat.add_assoc]

set_option maxRecDepth 100000 in
set_option maxHeartbeats 4000000 in
theorem RefWithout_any (B : Bl) (k : Nat) (w : World) (h : B.At w) (hn : B.n ≤ 1000) (hn' : B.n' ≤ 1000) (hm : B.m ≤ 1000) (hk : k < B.m) (hd : B.m ≤ B.d) :
    Calls Try.prog 46 #[B.val, .int .i64 k] w fun e w' => ∃ B' : Bl, e = .returned B'.val ∧ (B.less k 0 0).Like B' ∧ B'.At w' ∧ Below w.heap.size w w' := by
  obtain ⟨j0, hj, hy0, hy1, hy2⟩ := info_parts Try.infoCrack
  have HW : Hid (CW w B ((w.alloc (.cells #[.slice B.A B.n B.c, .slice B.A' B.n' B.c', .int .i64 B.bend, .slice B.K B.m B.d] 25)).alloc (.cells #[.slice none 0 0, .slice none 0 0, .int .i64 0, .slice none 0 0] 25))) :=
    ⟨(Blk.new w _ _ rfl).alloc _, Blk.new _ _ _ (by simp), below_alloc' (below_self _ _) _⟩
  have HA := Lib.hid h
  have HC := Lib.hid (fun W (hb : Below w.heap.size w W) => RefCopy_own B W (h.below hb) hn hn' hm)
  clear h
  unfold Bl.val at *
  go_enter Try.func46, Try.ntmps46
  have s0 := HW.out.s
  go_wp2_with fail
  generalize ((w.alloc (.cells #[.slice B.A B.n B.c, .slice B.A' B.n' B.c', .int .i64 B.bend, .slice B.K B.m B.d] 25)).alloc (.cells #[.slice none 0 0, .slice none 0 0, .int .i64 0, .slice none 0 0] 25)) = W0 at *
  refine (HC.out _ HW.out.bel).mono ?_
  rintro e w2 ⟨B', rfl, hlike, hat, b2, ha, hb, hc, -⟩
  have HL := Lib.hid hlike
  have W2 := Lib.hid (HW.out.below b2)
  have HQ := Lib.hid ((ha.ge HW.out.z.lt).alloc (.cells #[.slice B'.A B'.n B'.c, .slice B'.A' B'.n' B'.c', .int .i64 B'.bend, .slice B'.K B'.m B'.d] 25))
  have HQ' := Lib.hid ((hb.ge HW.out.z.lt).alloc (.cells #[.slice B'.A B'.n B'.c, .slice B'.A' B'.n' B'.c', .int .i64 B'.bend, .slice B'.K B'.m B'.d] 25))
  have W3 := Lib.hid (W2.out.alloc (.cells #[.slice B'.A B'.n B'.c, .slice B'.A' B'.n' B'.c', .int .i64 B'.bend, .slice B'.K B'.m B'.d] 25))
  have X3 := Lib.hid (Blk.new w2 25 #[.slice B'.A B'.n B'.c, .slice B'.A' B'.n' B'.c', .int .i64 B'.bend, .slice B'.K B'.m B'.d] (g := w2.heap.size) rfl)
  have HZ : Hid (w.heap.size + 1 < w2.heap.size) := W2.out.z.lt
  have HAT := Lib.hid hat
  clear hlike hat b2 ha hb hc HC HW s0
  unfold Bl.val
  have x3 := X3.out.cell
  have s3 := W3.out.s
  go_wp2_with fail
  clear x3 s3
  have WD := Lib.hid W3.out.drew
  obtain ⟨kb, ko, hK, hkb, _⟩ := (HA.out.hk.below WD.out.bel).at_ hk
  have HKA := Lib.hid hK
  have s4 := WD.out.s
  rw [hK] at s4
  have HS3 : Hid (∀ W, CW w B W → W.cell? ⟨w.heap.size, 3, none⟩ = some (.slice (some ⟨kb, ko, none⟩) B.m B.d)) := fun W hW => by rw [← hK]; exact hW.s.2.2.2
  generalize (w2.alloc (.cells #[.slice B'.A B'.n B'.c, .slice B'.A' B'.n' B'.c', .int .i64 B'.bend, .slice B'.K B'.m B'.d] 25)) = w3 at *
  have hkd : (k : Int) ≤ (B.d : Int) := by omega
  have hkm : (k : Int) + 1 ≤ (B.m : Int) := by omega
  have hmd : (B.m : Int) ≤ (B.d : Int) := by omega
  have kw : IntKind.i64.wrap ((k : Int) + 1) = (k : Int) + 1 := IntWalk.i64_in _ (by omega)
  have hk0 : (0 : Int) ≤ (k : Int) := by omega
  have HE6 : Hid (0 + k + (B.m - (k + 1)) = B.m - 1) := by unfold Hid; omega
  have HE7 : Hid ([] ++ flat6 (B.cr.take k) ++ flat6 (B.cr.drop (k + 1)) = flat6 (B.cr.eraseIdx k)) := by unfold Hid; rw [List.nil_append, ← flat6_append, List.eraseIdx_eq_take_drop_succ]
  have kt : ((k : Int) + 1).toNat = k + 1 := by omega
  have hk1 : (0 : Int) ≤ (k : Int) + 1 := by omega
  have D4 : Hid (Below w3.heap.size w3 (w3.alloc (.cells #[] 111)).drew) := (below_self w3 _).drew
  have O4 : Hid ((w3.alloc (.cells #[] 111)).drew.ownsRow w3.heap.size 111 6 (.slice (some ⟨w3.heap.size, 0, none⟩) 0 0) 0 []) := own_empty w3 _ 6 rfl
  have W4 := Lib.hid (W3.out.below D4.out)
  have HKR : Hid (Cracks w3 (some ⟨kb, ko, none⟩) B.m B.cr) := by
    have := HA.out.hk.below W3.out.bel
    rw [HKA.out] at this
    exact this
  by_cases hdk : B.d = k + 1
  · have hdt : (B.d = k + 1) = True := eq_true hdk
    have HKD : Hid (∀ W, Below w3.heap.size w3 W → Reads W 6 (some ⟨kb, ko, none⟩) (B.m - (k + 1)) (flat6 (B.cr.drop (k + 1)))) := fun W hW => by
      have hl := HKR.out.len
      rw [show B.m - (k + 1) = 0 by omega, List.drop_eq_nil_of_le (by omega)]
      exact ⟨rfl, fun h => absurd h (by omega)⟩
    clear hdk
    go_region_held3 (fun W => W.cell? ⟨w.heap.size, 3, none⟩ = some (.slice (some ⟨kb, ko, none⟩) B.m B.d))
      (first | with_reducible exact s4.2.2.2 | with_reducible exact HS3.out _ W7.out | with_reducible exact HS3.out _ W6.out | with_reducible exact HS3.out _ W5.out | with_reducible exact HS3.out _ W4.out)
      (first
        | (refine step_append_any rfl (.tmp 8) (.tmp 12) 23 rfl w3.heap.size 111 j0 _ 6 48 Try.underlying23 hj hy0 hy1 hy2 rfl (by decide) _ 0 [] (by rfl) O4.out (some ⟨kb, ko, none⟩) k B.d (by rfl) (flat6 (B.cr.take k)) (cracks_take (HKR.out.below D4.out) (by omega)) (flat6_oneCell _) (by unfold maxLen; omega) (by omega) D4.out.size ?_; intro v5 w5 hown5 hg5; have O5 := Lib.hid hown5; have D5 := Lib.hid (D4.out.grown hg5 D4.out.size (fun q hq => (O4.out.lt q hq).1)); have W5 := Lib.hid (W3.out.below D5.out); clear hown5 hg5)
        | (refine step_append_any rfl (.tmp 13) (.tmp 18) 23 rfl w3.heap.size 111 j0 _ 6 48 Try.underlying23 hj hy0 hy1 hy2 rfl (by decide) _ (0 + k) _ (by rfl) O5.out (some ⟨kb, ko, none⟩) (B.m - (k + 1)) (B.d - (k + 1)) (by rfl) (flat6 (B.cr.drop (k + 1))) (HKD.out _ D5.out) (flat6_oneCell _) (by unfold maxLen; omega) (by omega) D5.out.size ?_; intro v6 w6 hown6 hg6; rw [HE6.out, HE7.out] at hown6; obtain ⟨A6, q6, rfl⟩ := own_slice hown6; have O6 := Lib.hid hown6; have D6 := Lib.hid (D5.out.grown hg6 D5.out.size (fun q hq => (O5.out.lt q hq).1)); have W6 := Lib.hid (W3.out.below D6.out); have X6 := Lib.hid (blk_keep D6.out X3.out); have W7 := Lib.hid (W6.out.far3 HZ.out (.slice A6 (B.m - 1) q6)); have c6 := X6.out.cell; have f6 := X6.out.frozen 3; clear hown6 hg6))
    have X7 : Hid (Blk (w6.setCell ⟨w2.heap.size, 3, none⟩ (.slice A6 (B.m - 1) q6)) w2.heap.size 25 #[.slice B'.A B'.n B'.c, .slice B'.A' B'.n' B'.c', .int .i64 B'.bend, .slice A6 (B.m - 1) q6]) := X6.out.set_ 3 _
    have Q7 := Lib.hid ((HQ.out.below D6.out).setFar X6.out (by decide) 3 (.slice A6 (B.m - 1) q6))
    have Q8 := Lib.hid ((HQ'.out.below D6.out).setFar X6.out (by decide) 3 (.slice A6 (B.m - 1) q6))
    have O7 := Lib.hid (own_setCell O6.out X6.out (by decide) 3 (.slice A6 (B.m - 1) q6))
    have c7 := X7.out.cell
    have z7 := X7.out.lt
    clear c6 f6 X6 O6 W4 W5 W6 O4 O5 D4 D5 D6
    go_wp2_with (refine wpList_store_row rfl 25 _ _ rfl (w.heap.size + 1) _ rfl rfl 25 _ W7.out.z (by kernel_rfl) rfl (by kernel_rfl) ?_)
    exact bodyPost_ret (results_c rfl _ _ _ _ _ _ _ rfl (W7.out.z.setRow _) Try.underlying25 (by kernel_rfl)) rfl
      ⟨⟨B'.A, B'.A', A6, B'.n, B'.c, B'.n', B'.c', B.m - 1, q6, B'.bend, B'.bot, B'.top, B.cr.eraseIdx k⟩, rfl, ⟨HL.out.n, HL.out.n', rfl, HL.out.bend, HL.out.bot, HL.out.top, rfl⟩,
        ⟨(Q7.out.setRowFar W7.out.z (by decide) _).nr.r, (Q8.out.setRowFar W7.out.z (by decide) _).nr.r, (reads_of_own (own_setRow O7.out W7.out.z (by decide) _)).r, HAT.out.n1, HAT.out.n2, Nat.le_trans (Nat.sub_le _ _) (by unfold maxLen; omega)⟩, below_setR W7.out.bel (by omega) _⟩
  · have HKD : Hid (∀ W, Below w3.heap.size w3 W → Reads W 6 (some ⟨kb, ko + (k + 1) * 6, none⟩) (B.m - (k + 1)) (flat6 (B.cr.drop (k + 1)))) := fun W hW => cracks_drop (HKR.out.below hW) (by omega)
    go_region_held3 (fun W => W.cell? ⟨w.heap.size, 3, none⟩ = some (.slice (some ⟨kb, ko, none⟩) B.m B.d))
      (first | with_reducible exact s4.2.2.2 | with_reducible exact HS3.out _ W7.out | with_reducible exact HS3.out _ W6.out | with_reducible exact HS3.out _ W5.out | with_reducible exact HS3.out _ W4.out)
      (first
        | (refine step_append_any rfl (.tmp 8) (.tmp 12) 23 rfl w3.heap.size 111 j0 _ 6 48 Try.underlying23 hj hy0 hy1 hy2 rfl (by decide) _ 0 [] (by rfl) O4.out (some ⟨kb, ko, none⟩) k B.d (by rfl) (flat6 (B.cr.take k)) (cracks_take (HKR.out.below D4.out) (by omega)) (flat6_oneCell _) (by unfold maxLen; omega) (by omega) D4.out.size ?_; intro v5 w5 hown5 hg5; have O5 := Lib.hid hown5; have D5 := Lib.hid (D4.out.grown hg5 D4.out.size (fun q hq => (O4.out.lt q hq).1)); have W5 := Lib.hid (W3.out.below D5.out); clear hown5 hg5)
        | (refine step_append_any rfl (.tmp 13) (.tmp 18) 23 rfl w3.heap.size 111 j0 _ 6 48 Try.underlying23 hj hy0 hy1 hy2 rfl (by decide) _ (0 + k) _ (by rfl) O5.out (some ⟨kb, ko + (k + 1) * 6, none⟩) (B.m - (k + 1)) (B.d - (k + 1)) (by rfl) (flat6 (B.cr.drop (k + 1))) (HKD.out _ D5.out) (flat6_oneCell _) (by unfold maxLen; omega) (by omega) D5.out.size ?_; intro v6 w6 hown6 hg6; rw [HE6.out, HE7.out] at hown6; obtain ⟨A6, q6, rfl⟩ := own_slice hown6; have O6 := Lib.hid hown6; have D6 := Lib.hid (D5.out.grown hg6 D5.out.size (fun q hq => (O5.out.lt q hq).1)); have W6 := Lib.hid (W3.out.below D6.out); have X6 := Lib.hid (blk_keep D6.out X3.out); have W7 := Lib.hid (W6.out.far3 HZ.out (.slice A6 (B.m - 1) q6)); have c6 := X6.out.cell; have f6 := X6.out.frozen 3; clear hown6 hg6))
    have X7 : Hid (Blk (w6.setCell ⟨w2.heap.size, 3, none⟩ (.slice A6 (B.m - 1) q6)) w2.heap.size 25 #[.slice B'.A B'.n B'.c, .slice B'.A' B'.n' B'.c', .int .i64 B'.bend, .slice A6 (B.m - 1) q6]) := X6.out.set_ 3 _
    have Q7 := Lib.hid ((HQ.out.below D6.out).setFar X6.out (by decide) 3 (.slice A6 (B.m - 1) q6))
    have Q8 := Lib.hid ((HQ'.out.below D6.out).setFar X6.out (by decide) 3 (.slice A6 (B.m - 1) q6))
    have O7 := Lib.hid (own_setCell O6.out X6.out (by decide) 3 (.slice A6 (B.m - 1) q6))
    have c7 := X7.out.cell
    have z7 := X7.out.lt
    clear c6 f6 X6 O6 W4 W5 W6 O4 O5 D4 D5 D6
    go_wp2_with (refine wpList_store_row rfl 25 _ _ rfl (w.heap.size + 1) _ rfl rfl 25 _ W7.out.z (by kernel_rfl) rfl (by kernel_rfl) ?_)
    exact bodyPost_ret (results_c rfl _ _ _ _ _ _ _ rfl (W7.out.z.setRow _) Try.underlying25 (by kernel_rfl)) rfl
      ⟨⟨B'.A, B'.A', A6, B'.n, B'.c, B'.n', B'.c', B.m - 1, q6, B'.bend, B'.bot, B'.top, B.cr.eraseIdx k⟩, rfl, ⟨HL.out.n, HL.out.n', rfl, HL.out.bend, HL.out.bot, HL.out.top, rfl⟩,
        ⟨(Q7.out.setRowFar W7.out.z (by decide) _).nr.r, (Q8.out.setRowFar W7.out.z (by decide) _).nr.r, (reads_of_own (own_setRow O7.out W7.out.z (by decide) _)).r, HAT.out.n1, HAT.out.n2, Nat.le_trans (Nat.sub_le _ _) (by unfold maxLen; omega)⟩, below_setR W7.out.bel (by omega) _⟩
end Go.Proofs.Ytiflhimmieflpaa
