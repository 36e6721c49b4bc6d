/- Walks: a blade's copy. -/
import Derived.Test.YtllioljphpgfhaaGE
import Derived.Test.YtllioljphpgfhaaTame
import Derived.ArgAppend
namespace Go.Proofs.Ytllioljphpgfhaa
open Go Go.RowKit

theorem opAt {ops : Array Oper} {k : Nat} {o o' : Oper} (h : ops[k]? = some o) (h' : ops[k]? = some o') : o' = o := by rw [h] at h'; injection h' with h'; exact h'.symm
/-- A region whose effects only add memory, but for its last operation: F tells each value that came up, Fin what stands behind the last one. -/
structure FJ (F : Nat → Value → World → Prop) (Fin : World → Prop) (z : Nat) (w : World) (L : Nat → Bool) (σ : Nat → Value) (W : World) : Prop where
  bel : L z = false → Below w.heap.size w W
  f : L z = false → ∀ k, L k = true → F k (σ k) W
  fin : L z = true → Fin W
theorem FJ.start {F : Nat → Value → World → Prop} {Fin : World → Prop} {z : Nat} {w W : World} {σ : Nat → Value} (h : Below w.heap.size w W) : FJ F Fin z w (fun _ => false) σ W := ⟨fun _ => h, fun _ _ e => (by cases e), fun e => (by cases e)⟩
theorem FJ.step {F : Nat → Value → World → Prop} {Fin : World → Prop} {z k : Nat} {w W W' : World} {L : Nat → Bool} {σ : Nat → Value} {u : Value} (h : FJ F Fin z w L σ W) (hz : L z = false) (hk : k ≠ z) (hb : Below W.heap.size W W') (hm : ∀ k v, F k v W → F k v W') (hu : F k u W') : FJ F Fin z w (upd L k) (updv σ k u) W' := by
  refine ⟨fun _ => below_then (h.bel hz) hb, fun _ j hj => ?_, fun e => ?_⟩
  · by_cases e : j = k
    · subst e; simpa [updv] using hu
    · have e1 : L j = true := by simpa [upd, e] using hj
      have e2 : updv σ k u j = σ j := by simp [updv, e]
      rw [e2]; exact hm _ _ (h.f hz j e1)
  · have : L z = true := by simpa [upd, show z ≠ k from fun e => hk e.symm] using e
    rw [hz] at this; cases this
theorem FJ.last {F : Nat → Value → World → Prop} {Fin : World → Prop} {z : Nat} {w W' : World} {L : Nat → Bool} {σ : Nat → Value} {u : Value} (h : Fin W') : FJ F Fin z w (upd L z) (updv σ z u) W' :=
  ⟨fun e => by simp [upd] at e, fun e => by simp [upd] at e, fun _ => h⟩
theorem tame_store_row {P : Program} {o : Oper} {a : Act} {w : World} {G : Value → World → Prop} (ty : TypeId) (x y : Operand) (ho : o.op = .store ty x y)
    (g : Nat) (cells : Array Value) (hx : a.eval x = .pointer (some ⟨g, 0, none⟩)) (hy : a.eval y = .agg cells) (t : TypeId) (old : Array Value) (hg : Blk w g t old) (hi : (P.info? ty).map (·.size) = some cells.size) (hold : old.size = cells.size) (h1 : cells.all (·.oneCell') = true)
    (h : G undef (w.setRow g cells)) : tame P o a w G := by
  unfold tame execOp
  simp only [ho, hx, hy, Instr.storeAt, Instr.sureAddr, Sem.run_bind, Sem.run_pure, Result.andThen_ok, run_storeVar_row w g t ty old cells hg hi hold h1]
  exact h
theorem own_baseA {w : World} {base base' : Nat} {e : TypeId} {size n : Nat} {v : Value} {xs : List Value} (h : w.ownsRow base e size v n xs) (hb : base' ≤ base) : w.ownsRow base' e size v n xs := by
  rcases h with ⟨h1, h2 | ⟨g, cap, cur, h3, h4, h5⟩⟩
  · exact ⟨h1, .inl h2⟩
  · exact ⟨h1, .inr ⟨g, cap, cur, h3, Nat.le_trans hb h4, h5⟩⟩
theorem run_append_fresh {P : Program} (w : World) (t ty e : TypeId) (i : TypeInfo) (z : Value) (size bytes : Nat) (ht : P.underlying t = some (.slice e)) (hi : P.info? e = some i) (hz : i.zero = some z) (hsize : i.size = size) (hby : i.bytes = bytes) (hzs : z.cells.size = size) (hsz : 0 < size)
    (base g : Nat) (hg : base ≤ g) (hB : Blk w g e #[]) (A : Option Addr) (n c : Nat) (xs : List Value) (hr : Reads w size A n xs) (h1 : ∀ u ∈ xs, u.oneCell' = true) (hn : n ≤ maxLen) (hb : n * bytes ≤ 140737488355328) (hbw : base ≤ w.heap.size) :
    ∃ A' c' w', (Builtin.append_ #[t, t] ty #[.slice (some ⟨g, 0, none⟩) 0 0, .slice A n c]).run P w = .ok (.slice A' n c') w' ∧ w'.ownsRow base e size (.slice A' n c') n xs ∧ Below w.heap.size w w' := by
  rcases Nat.eq_zero_or_pos n with rfl | hpos
  · have hx : xs = [] := List.eq_nil_of_length_eq_zero (by have := hr.1; omega)
    subst hx
    refine ⟨some ⟨g, 0, none⟩, 0, w, ?_, own_nil hg hB, Below.refl _ _⟩
    cases A with
    | none => simp [Builtin.append_, run_underlying ht, sizeOf, typeInfo, hi, Builtin.lenOf, Builtin.firstCells, storeCells]
    | some ad => simp [Builtin.append_, run_underlying ht, sizeOf, typeInfo, hi, Builtin.lenOf, Builtin.firstCells, storeCells, loadCells, loadCellsFrom]
  · obtain ⟨b, off, rfl, hlt, hc⟩ := hr.2 hpos
    obtain ⟨v', w', hrun, hown, hgr⟩ := run_append_arg_grows (P := P) w t ty e i z size bytes ht hi hz hsize hby hzs hsz ⟨g, 0, none⟩ 0 0 [] (by simp) (by simp) ⟨b, off, none⟩ n c xs hr.1 (fun j u hu => by rw [addr_add]; exact hc j u hu) (by omega) (by omega) (by rw [Nat.zero_add]; exact hb)
    simp only [Nat.zero_add, List.nil_append] at hown
    obtain ⟨g', c', rfl⟩ := own_form hown hpos
    exact ⟨_, _, w', hrun, own_baseA hown hbw, ⟨hgr.os, hgr.tape, hgr.output, hgr.size, fun i hi => hgr.block i hi (by simp)⟩⟩

def BladeRes (w : World) (n : Nat) (bend : Int) (bs ts : List (Int × Int)) (e : Ending) (w' : World) : Prop := ∃ A c B d K f, e = .returned (.agg #[.slice A n c, .slice B n d, .int .i64 bend, .slice K 0 f]) ∧ Pairs w' A n bs ∧ Pairs w' B n ts ∧ Below w.heap.size w w'
/-- What each operation of the copy's region leaves. -/
structure FB (n c d : Nat) (A B : Option Addr) (bend : Int) (bs ts : List (Int × Int)) (lo : Nat) (k : Nat) (v : Value) (W : World) : Prop where
  f0 : k = 0 ∨ k = 4 → ∃ q, v = .slice (some ⟨q, 0, none⟩) 0 0 ∧ Blk W q 36 #[] ∧ lo ≤ q
  f10 : k = 10 → ∃ q, v = .slice (some ⟨q, 0, none⟩) 0 0 ∧ Blk W q 76 #[] ∧ lo ≤ q
  f2 : k = 2 → v = .slice A n c
  f6 : k = 6 → v = .slice B n d
  f9 : k = 9 → v = .int .i64 bend
  f12 : k = 12 → v = .slice none 0 0
  f3 : k = 3 → ∃ A c, v = .slice A n c ∧ W.ownsRow lo 36 2 (.slice A n c) n (flat2 bs)
  f7 : k = 7 → ∃ A c, v = .slice A n c ∧ W.ownsRow lo 36 2 (.slice A n c) n (flat2 ts)
  f13 : k = 13 → ∃ A c, v = .slice A 0 c
  f14 : k = 14 → ∃ A c B d K f, v = .agg #[.slice A n c, .slice B n d, .int .i64 bend, .slice K 0 f] ∧ W.ownsRow lo 36 2 (.slice A n c) n (flat2 bs) ∧ W.ownsRow lo 36 2 (.slice B n d) n (flat2 ts)
def FBend (w : World) (n : Nat) (bend : Int) (bs ts : List (Int × Int)) (W : World) : Prop := Below w.heap.size w W ∧ ∃ A c B d K f, Blk W (w.heap.size + 1) 30 #[.slice A n c, .slice B n d, .int .i64 bend, .slice K 0 f] ∧ Pairs W A n bs ∧ Pairs W B n ts
theorem FB.mono {n c d : Nat} {A B : Option Addr} {bend : Int} {bs ts : List (Int × Int)} {lo : Nat} {W W' : World} (hb : Below W.heap.size W W') (k : Nat) (v : Value) (h : FB n c d A B bend bs ts lo k v W) : FB n c d A B bend bs ts lo k v W' :=
  ⟨fun e => by obtain ⟨q, e, h1, h2⟩ := h.f0 e; exact ⟨q, e, blk_keep hb h1, h2⟩, fun e => by obtain ⟨q, e, h1, h2⟩ := h.f10 e; exact ⟨q, e, blk_keep hb h1, h2⟩, h.f2, h.f6, h.f9, h.f12, fun e => by obtain ⟨A, c, e, h1⟩ := h.f3 e; exact ⟨A, c, e, ownsRow_below h1 hb⟩, fun e => by obtain ⟨A, c, e, h1⟩ := h.f7 e; exact ⟨A, c, e, ownsRow_below h1 hb⟩, h.f13,
    fun e => by obtain ⟨A, c, B, d, K, f, e, h1, h2⟩ := h.f14 e; exact ⟨A, c, B, d, K, f, e, ownsRow_below h1 hb, ownsRow_below h2 hb⟩⟩
theorem Try.infoSpan : (Try.prog.info? 36).map (fun i => (i.zero, i.size, i.bytes)) = some (some (.agg #[.int .i64 0, .int .i64 0]), 2, 16) := by kernel_rfl
theorem Try.infoCrack : (Try.prog.info? 76).map (fun i => (i.zero, i.size, i.bytes)) = some (some (.agg #[.int .i64 0, .int .i64 0, .int .i64 0, .int .i64 0, .int .i64 0, .int .i64 0]), 6, 48) := by kernel_rfl
theorem flat2_oneA (xs : List (Int × Int)) : ∀ u ∈ flat2 xs, u.oneCell' = true := by
  intro u hu
  simp only [flat2, List.mem_flatMap, List.mem_cons, List.not_mem_nil, or_false] at hu
  obtain ⟨a, _, h⟩ := hu
  rcases h with rfl | rfl <;> rfl
theorem own_pairsA {w : World} {base n c : Nat} {A : Option Addr} {xs : List (Int × Int)} (h : w.ownsRow base 36 2 (.slice A n c) n (flat2 xs)) : Pairs w A n xs := by
  refine ⟨h.1, fun hn => ?_⟩
  obtain ⟨g, cap, e⟩ := own_form h hn
  simp only [Value.slice.injEq, true_and] at e
  obtain ⟨rfl, rfl⟩ := e
  refine ⟨g, 0, rfl, (h.lt g rfl).2, fun j u hj => ?_⟩
  have hjl : j < n * 2 := by have := (List.getElem?_eq_some_iff.1 hj).1; have := h.1; omega
  rw [Nat.zero_add, h.cellAt j hjl, hj]
theorem FB.no {n c d : Nat} {A B : Option Addr} {bend : Int} {bs ts : List (Int × Int)} {lo : Nat} {k : Nat} {v : Value} {W : World} (h0 : k ≠ 0) (h4 : k ≠ 4) (h10 : k ≠ 10) (h2 : k = 2 → v = .slice A n c) (h6 : k = 6 → v = .slice B n d) (h9 : k = 9 → v = .int .i64 bend) (h12 : k = 12 → v = .slice none 0 0) (h3 : k ≠ 3) (h7 : k ≠ 7) (h13 : k ≠ 13) (h14 : k ≠ 14) : FB n c d A B bend bs ts lo k v W :=
  ⟨fun e => by omega, fun e => by omega, h2, h6, h9, h12, fun e => by omega, fun e => by omega, fun e => by omega, fun e => by omega⟩
set_option maxRecDepth 100000 in
set_option maxHeartbeats 8000000 in
theorem oakBlade_any (n c d : Nat) (A B : Option Addr) (bend : Int) (bs ts : List (Int × Int)) (w : World) (hA : Pairs w A n bs) (hB : Pairs w B n ts) (hn : n ≤ 1000) :
    Calls Try.prog 9 #[.agg #[.slice A n c, .slice B n d, .int .i64 bend, .slice none 0 0]] w (BladeRes w n bend bs ts) := by
  obtain ⟨i0, hi, hz0, hz1, hz2⟩ := info_parts Try.infoSpan
  obtain ⟨i1, ki, kz0, kz1, kz2⟩ := info_parts Try.infoCrack
  have HA := Lib.hid (fun W (hb : Below w.heap.size w W) => hA.below hb)
  have HB := Lib.hid (fun W (hb : Below w.heap.size w W) => hB.below hb)
  have P1 := Lib.hid ((Blk.new w 30 #[.slice A n c, .slice B n d, .int .i64 bend, .slice none 0 0] (g := w.heap.size) rfl).alloc (.cells #[.slice none 0 0, .slice none 0 0, .int .i64 0, .slice none 0 0] 30))
  have P2 := Lib.hid (Blk.new (w.alloc (.cells #[.slice A n c, .slice B n d, .int .i64 bend, .slice none 0 0] 30)) 30 #[.slice none 0 0, .slice none 0 0, .int .i64 0, .slice none 0 0] (g := w.heap.size + 1) (by simp))
  have B1 := Lib.hid (below_alloc' (below_self w (.cells #[.slice A n c, .slice B n d, .int .i64 bend, .slice none 0 0] 30)) (.cells #[.slice none 0 0, .slice none 0 0, .int .i64 0, .slice none 0 0] 30))
  clear hA hB
  go_enter Try.func9, Try.ntmps9
  go_wp2_with fail
  generalize (w.alloc (.cells #[.slice A n c, .slice B n d, .int .i64 bend, .slice none 0 0] 30)).alloc (.cells #[.slice none 0 0, .slice none 0 0, .int .i64 0, .slice none 0 0] 30) = v at *
  refine wp_region_any (by kernel_rfl) ?_
  (refine wpAny_take (i := 1) (v := ?_) rfl (by kernel_rfl) (by kernel_rfl) (by kernel_rfl) (fun _ _ _ h => h) (Or.inl ⟨by rfl, ?_⟩) ?_; rotate_left; focus (intro w; go_simp; try with_reducible rfl))
  (refine wpAny_take (i := 5) (v := ?_) rfl (by kernel_rfl) (by kernel_rfl) (by kernel_rfl) (fun _ _ _ h => h) (Or.inl ⟨by rfl, ?_⟩) ?_; rotate_left; focus (intro w; go_simp; try with_reducible rfl))
  (refine wpAny_take (i := 8) (v := ?_) rfl (by kernel_rfl) (by kernel_rfl) (by kernel_rfl) (fun _ _ _ h => h) (Or.inl ⟨by rfl, ?_⟩) ?_; rotate_left; focus (intro w; go_simp; try with_reducible rfl))
  (refine wpAny_take (i := 11) (v := ?_) rfl (by kernel_rfl) (by kernel_rfl) (by kernel_rfl) (fun _ _ _ h => h) (Or.inl ⟨by rfl, ?_⟩) ?_; rotate_left; focus (intro w; go_simp; try with_reducible rfl))
  show wpAny _ _ _ _ _ _ _ v.drew
  have hlo := Lib.hid B1.out.size
  refine wpAny_tame0 [0, 2, 3, 4, 6, 7, 9, 10, 12, 13, 14, 15] (by decide) (by kernel_rfl) (FJ (FB n c d A B bend bs ts w.heap.size) (FBend w n bend bs ts) 15 v) (by decide) (by kernel_rfl) (by decide) ?_ ?_ ?_
  · exact FJ.start (Below.refl _ _).drew
  · intro i hi' o ho L σ W hLi hW hC hJ
    generalize hAA : allOf _ σ _ _ = AA
    simp only [List.mem_cons, List.not_mem_nil, or_false] at hi'
    have h15 : i ≠ 15 → L 15 = false := fun hne => by
      rcases hi' with rfl | rfl | rfl | rfl | rfl | rfl | rfl | rfl | rfl | rfl | rfl | rfl <;> first | exact absurd rfl hne | exact hC.no hLi rfl rfl (by kernel_rfl)
    have HL := Lib.hid h15
    have HJ := Lib.hid hJ
    clear h15 hJ
    rcases hi' with rfl | rfl | rfl | rfl | rfl | rfl | rfl | rfl | rfl | rfl | rfl | rfl
    · obtain rfl := opAt ho rfl
      have l15 := HL.out (by decide)
      go_simp
      exact HJ.out.step l15 (by decide) (below_self W _) (FB.mono (below_self W _)) ⟨fun _ => ⟨_, rfl, Blk.new W _ _ rfl, Nat.le_trans hlo.out (HJ.out.bel l15).size⟩, fun e => absurd e (by decide), fun e => absurd e (by decide), fun e => absurd e (by decide), fun e => absurd e (by decide), fun e => absurd e (by decide), fun e => absurd e (by decide), fun e => absurd e (by decide), fun e => absurd e (by decide), fun e => absurd e (by decide)⟩
    · obtain rfl := opAt ho rfl
      have l15 := HL.out (by decide)
      have e1 : AA.tmps[4]?.getD undef = .pointer (some ⟨w.heap.size, 0, none⟩) := by rw [← hAA]; kernel_rfl
      have c1 := (blk_keep (HJ.out.bel l15) P1.out).cell 0
      go_simp
      exact HJ.out.step l15 (by decide) (Below.refl _ _) (fun _ _ h => h) (FB.no (by decide) (by decide) (by decide) (fun _ => rfl) (fun e => absurd e (by decide)) (fun e => absurd e (by decide)) (fun e => absurd e (by decide)) (by decide) (by decide) (by decide) (by decide))
    · obtain rfl := opAt ho rfl
      have l15 := HL.out (by decide)
      have h1 : L 0 = true := hW.yes rfl (by kernel_rfl)
      have h2 : L 2 = true := hW.yes rfl (by kernel_rfl)
      obtain ⟨q, hq, hbq, hlq⟩ := (HJ.out.f l15 0 h1).f0 (Or.inl rfl)
      have hx := (HJ.out.f l15 2 h2).f2 rfl
      have e1 : AA.tmps[3]?.getD undef = .slice (some ⟨q, 0, none⟩) 0 0 := by rw [← hq, ← hAA]; kernel_rfl
      have e2 : AA.tmps[5]?.getD undef = .slice A n c := by rw [← hx, ← hAA]; kernel_rfl
      obtain ⟨A', c', W', hrun, hown, hbw⟩ := run_append_fresh (P := Try.prog) W 27 27 36 i0 _ 2 16 Try.underlying27 hi hz0 hz1 hz2 rfl (by decide) w.heap.size q hlq hbq A n c (flat2 bs) (HA.out W (below_then B1.out (HJ.out.bel l15))) (flat2_oneA _) (by unfold maxLen; omega) (by omega) (Nat.le_trans hlo.out (HJ.out.bel l15).size)
      exact tame_append (.tmp 3) (.tmp 5) 27 rfl (by simpa [Act.eval] using e1) (by simpa [Act.eval] using e2) hrun (HJ.out.step l15 (by decide) hbw (FB.mono hbw) ⟨fun e => absurd e (by decide), fun e => absurd e (by decide), fun e => absurd e (by decide), fun e => absurd e (by decide), fun e => absurd e (by decide), fun e => absurd e (by decide), fun _ => ⟨A', c', rfl, hown⟩, fun e => absurd e (by decide), fun e => absurd e (by decide), fun e => absurd e (by decide)⟩)
    · obtain rfl := opAt ho rfl
      have l15 := HL.out (by decide)
      go_simp
      exact HJ.out.step l15 (by decide) (below_self W _) (FB.mono (below_self W _)) ⟨fun _ => ⟨_, rfl, Blk.new W _ _ rfl, Nat.le_trans hlo.out (HJ.out.bel l15).size⟩, fun e => absurd e (by decide), fun e => absurd e (by decide), fun e => absurd e (by decide), fun e => absurd e (by decide), fun e => absurd e (by decide), fun e => absurd e (by decide), fun e => absurd e (by decide), fun e => absurd e (by decide), fun e => absurd e (by decide)⟩
    · obtain rfl := opAt ho rfl
      have l15 := HL.out (by decide)
      have e1 : AA.tmps[8]?.getD undef = .pointer (some ⟨w.heap.size, 1, none⟩) := by rw [← hAA]; kernel_rfl
      have c1 := (blk_keep (HJ.out.bel l15) P1.out).cell 1
      go_simp
      exact HJ.out.step l15 (by decide) (Below.refl _ _) (fun _ _ h => h) (FB.no (by decide) (by decide) (by decide) (fun e => absurd e (by decide)) (fun _ => rfl) (fun e => absurd e (by decide)) (fun e => absurd e (by decide)) (by decide) (by decide) (by decide) (by decide))
    · obtain rfl := opAt ho rfl
      have l15 := HL.out (by decide)
      have h1 : L 4 = true := hW.yes rfl (by kernel_rfl)
      have h2 : L 6 = true := hW.yes rfl (by kernel_rfl)
      obtain ⟨q, hq, hbq, hlq⟩ := (HJ.out.f l15 4 h1).f0 (Or.inr rfl)
      have hx := (HJ.out.f l15 6 h2).f6 rfl
      have e1 : AA.tmps[7]?.getD undef = .slice (some ⟨q, 0, none⟩) 0 0 := by rw [← hq, ← hAA]; kernel_rfl
      have e2 : AA.tmps[9]?.getD undef = .slice B n d := by rw [← hx, ← hAA]; kernel_rfl
      obtain ⟨A', c', W', hrun, hown, hbw⟩ := run_append_fresh (P := Try.prog) W 27 27 36 i0 _ 2 16 Try.underlying27 hi hz0 hz1 hz2 rfl (by decide) w.heap.size q hlq hbq B n d (flat2 ts) (HB.out W (below_then B1.out (HJ.out.bel l15))) (flat2_oneA _) (by unfold maxLen; omega) (by omega) (Nat.le_trans hlo.out (HJ.out.bel l15).size)
      exact tame_append (.tmp 7) (.tmp 9) 27 rfl (by simpa [Act.eval] using e1) (by simpa [Act.eval] using e2) hrun (HJ.out.step l15 (by decide) hbw (FB.mono hbw) ⟨fun e => absurd e (by decide), fun e => absurd e (by decide), fun e => absurd e (by decide), fun e => absurd e (by decide), fun e => absurd e (by decide), fun e => absurd e (by decide), fun e => absurd e (by decide), fun _ => ⟨A', c', rfl, hown⟩, fun e => absurd e (by decide), fun e => absurd e (by decide)⟩)
    · obtain rfl := opAt ho rfl
      have l15 := HL.out (by decide)
      have e1 : AA.tmps[11]?.getD undef = .pointer (some ⟨w.heap.size, 2, none⟩) := by rw [← hAA]; kernel_rfl
      have c1 := (blk_keep (HJ.out.bel l15) P1.out).cell 2
      go_simp
      exact HJ.out.step l15 (by decide) (Below.refl _ _) (fun _ _ h => h) (FB.no (by decide) (by decide) (by decide) (fun e => absurd e (by decide)) (fun e => absurd e (by decide)) (fun _ => rfl) (fun e => absurd e (by decide)) (by decide) (by decide) (by decide) (by decide))
    · obtain rfl := opAt ho rfl
      have l15 := HL.out (by decide)
      go_simp
      exact HJ.out.step l15 (by decide) (below_self W _) (FB.mono (below_self W _)) ⟨fun e => absurd e (by decide), fun _ => ⟨_, rfl, Blk.new W _ _ rfl, Nat.le_trans hlo.out (HJ.out.bel l15).size⟩, fun e => absurd e (by decide), fun e => absurd e (by decide), fun e => absurd e (by decide), fun e => absurd e (by decide), fun e => absurd e (by decide), fun e => absurd e (by decide), fun e => absurd e (by decide), fun e => absurd e (by decide)⟩
    · obtain rfl := opAt ho rfl
      have l15 := HL.out (by decide)
      have e1 : AA.tmps[14]?.getD undef = .pointer (some ⟨w.heap.size, 3, none⟩) := by rw [← hAA]; kernel_rfl
      have c1 := (blk_keep (HJ.out.bel l15) P1.out).cell 3
      go_simp
      exact HJ.out.step l15 (by decide) (Below.refl _ _) (fun _ _ h => h) (FB.no (by decide) (by decide) (by decide) (fun e => absurd e (by decide)) (fun e => absurd e (by decide)) (fun e => absurd e (by decide)) (fun _ => rfl) (by decide) (by decide) (by decide) (by decide))
    · obtain rfl := opAt ho rfl
      have l15 := HL.out (by decide)
      have h1 : L 10 = true := hW.yes rfl (by kernel_rfl)
      have h2 : L 12 = true := hW.yes rfl (by kernel_rfl)
      obtain ⟨q, hq, hbq, hlq⟩ := (HJ.out.f l15 10 h1).f10 rfl
      have hx := (HJ.out.f l15 12 h2).f12 rfl
      have e1 : AA.tmps[13]?.getD undef = .slice (some ⟨q, 0, none⟩) 0 0 := by rw [← hq, ← hAA]; kernel_rfl
      have e2 : AA.tmps[15]?.getD undef = .slice none 0 0 := by rw [← hx, ← hAA]; kernel_rfl
      obtain ⟨A', c', W', hrun, hown, hbw⟩ := run_append_fresh (P := Try.prog) W 28 28 76 i1 _ 6 48 Try.underlying28 ki kz0 kz1 kz2 rfl (by decide) w.heap.size q hlq hbq none 0 0 [] ⟨by simp, fun h => absurd h (by omega)⟩ (by simp) (by decide) (by decide) (Nat.le_trans hlo.out (HJ.out.bel l15).size)
      exact tame_append (.tmp 13) (.tmp 15) 28 rfl (by simpa [Act.eval] using e1) (by simpa [Act.eval] using e2) hrun (HJ.out.step l15 (by decide) hbw (FB.mono hbw) ⟨fun e => absurd e (by decide), fun e => absurd e (by decide), fun e => absurd e (by decide), fun e => absurd e (by decide), fun e => absurd e (by decide), fun e => absurd e (by decide), fun e => absurd e (by decide), fun e => absurd e (by decide), fun _ => ⟨A', c', rfl⟩, fun e => absurd e (by decide)⟩)
    · obtain rfl := opAt ho rfl
      have l15 := HL.out (by decide)
      have h3 : L 3 = true := hW.yes rfl (by kernel_rfl)
      have h7 : L 7 = true := hW.yes rfl (by kernel_rfl)
      have h9 : L 9 = true := hW.yes rfl (by kernel_rfl)
      have h13 : L 13 = true := hW.yes rfl (by kernel_rfl)
      obtain ⟨A3, c3, hq3, p3⟩ := (HJ.out.f l15 3 h3).f3 rfl
      obtain ⟨A7, c7, hq7, p7⟩ := (HJ.out.f l15 7 h7).f7 rfl
      obtain ⟨A13, c13, hq13⟩ := (HJ.out.f l15 13 h13).f13 rfl
      have hq9 := (HJ.out.f l15 9 h9).f9 rfl
      have e1 : AA.tmps[6]?.getD undef = .slice A3 n c3 := by rw [← hq3, ← hAA]; kernel_rfl
      have e2 : AA.tmps[10]?.getD undef = .slice A7 n c7 := by rw [← hq7, ← hAA]; kernel_rfl
      have e3 : AA.tmps[12]?.getD undef = .int .i64 bend := by rw [← hq9, ← hAA]; kernel_rfl
      have e4 : AA.tmps[16]?.getD undef = .slice A13 0 c13 := by rw [← hq13, ← hAA]; kernel_rfl
      go_simp
      exact HJ.out.step l15 (by decide) (Below.refl _ _) (fun _ _ h => h) ⟨fun e => absurd e (by decide), fun e => absurd e (by decide), fun e => absurd e (by decide), fun e => absurd e (by decide), fun e => absurd e (by decide), fun e => absurd e (by decide), fun e => absurd e (by decide), fun e => absurd e (by decide), fun e => absurd e (by decide), fun _ => ⟨A3, c3, A7, c7, A13, c13, rfl, p3, p7⟩⟩
    · obtain rfl := opAt ho rfl
      have h14 : L 14 = true := hW.yes rfl (by kernel_rfl)
      obtain ⟨A3, c3, A7, c7, A13, c13, hq, p3, p7⟩ := (HJ.out.f hLi 14 h14).f14 rfl
      have hb := HJ.out.bel hLi
      have X2 := blk_keep hb P2.out
      have e1 : AA.tmps[2]?.getD undef = .pointer (some ⟨w.heap.size + 1, 0, none⟩) := by rw [← hAA]; kernel_rfl
      have e2 : AA.tmps[17]?.getD undef = .agg #[.slice A3 n c3, .slice A7 n c7, .int .i64 bend, .slice A13 0 c13] := by rw [← hq, ← hAA]; kernel_rfl
      refine tame_store_row 30 (.tmp 2) (.tmp 17) rfl (w.heap.size + 1) #[.slice A3 n c3, .slice A7 n c7, .int .i64 bend, .slice A13 0 c13] (by simpa [Act.eval] using e1) (by simpa [Act.eval] using e2) 30 _ X2 (by kernel_rfl) rfl (by simp [Array.all, Value.oneCell']) ?_
      exact FJ.last ⟨below_setR (below_then B1.out hb) (Nat.le_succ _) _, A3, c3, A7, c7, A13, c13, X2.setRow _, own_pairsA (own_setRowA p3 X2 (by decide) _), own_pairsA (own_setRowA p7 X2 (by decide) _)⟩
  · intro L σ W hL hJ
    obtain ⟨hb, A2, c2, B2, d2, K2, f2, hbk, q1, q2⟩ := hJ.fin (hL 15 (by simp))
    have HF := Lib.hid (show BladeRes w n bend bs ts (.returned (.agg #[.slice A2 n c2, .slice B2 n d2, .int .i64 bend, .slice K2 0 f2])) W from ⟨A2, c2, B2, d2, K2, f2, rfl, q1, q2, hb⟩)
    have HX := Lib.hid hbk
    clear hJ hL hb hbk q1 q2
    simp only [allOf, dstOf]
    go_simp
    go_wp2_with fail
    exact bodyPost_ret (results_c rfl _ _ _ (w.heap.size + 1) _ _ _ rfl HX.out Try.underlying30 (by kernel_rfl)) rfl HF.out
end Go.Proofs.Ytllioljphpgfhaa
