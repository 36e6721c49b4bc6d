/- Merged: Sk, So. -/
import Derived.Test.YtdekickmplkdiaaKs
import Derived.Test.YtdekickmplkdiaaKd

/- Walks: the reference's Copy, with what it owns; Wide, Widen. -/
namespace Go.Proofs.Ytdekickmplkdiaa
open Go.RowKit

section
variable {base : Nat} {w w' : World} {A : Option Addr} {n : Nat} {xs : List Gap}
theorem OwnG.below (h : OwnG base w A n xs) (hb : Below w.heap.size w w') : OwnG base w' A n xs :=
  ⟨h.1.below hb, fun h0 => by obtain ⟨g, e, h1, h2⟩ := h.2 h0; exact ⟨g, e, h1, h2.below hb⟩⟩
theorem OwnG.alloc (h : OwnG base w A n xs) (o : Obj) : OwnG base (w.alloc o) A n xs := h.below (below_self w o)
theorem OwnG.less {b : Nat} (h : OwnG base w A n xs) (hb : b ≤ base) : OwnG b w A n xs :=
  ⟨h.1, fun h0 => by obtain ⟨g, e, h1, h2⟩ := h.2 h0; exact ⟨g, e, Nat.le_trans hb h1, h2⟩⟩
theorem OwnG.setCell (h : OwnG base w A n xs) {p : Addr} (hp : p.block < base) (u : Value) : OwnG base (w.setCell p u) A n xs := by
  refine ⟨⟨h.1.1, fun h0 => ?_⟩, fun h0 => ?_⟩
  · obtain ⟨g, e, h1, h2⟩ := h.2 h0
    obtain ⟨b, o, e', hb, hc⟩ := h.1.2 h0
    have eb : b = g := by rw [e] at e'; simp at e'; exact e'.1.symm
    subst eb
    exact ⟨b, o, e', by simpa using hb, fun j v hv => (World.cell?_setCell_other _ _ _ _ (fun e => by subst e; simp at hp; omega)).trans (hc j v hv)⟩
  · obtain ⟨g, e, h1, h2⟩ := h.2 h0
    exact ⟨g, e, h1, h2.far (fun e => by omega) u⟩
end
theorem run_append_copyG {P : Program} (w : World) (t ty : TypeId) (i : TypeInfo) (z : Value) (bytes : Nat) (ht : P.underlying t = some (.slice 42)) (hi : P.info? 42 = some i) (hz : i.zero = some z) (hs : i.size = 4) (hby : i.bytes = bytes) (hzs : z.cells.size = 4)
    (g : Nat) (A : Option Addr) (n c : Nat) (xs : List Gap) (hr : Gaps w A n xs) (hn : n ≤ maxLen) (hb : n * bytes ≤ 140737488355328) :
    ∃ A' c' w', (Builtin.append_ #[t, t] ty #[.slice (some ⟨g, 0, none⟩) 0 0, .slice A n c]).run P w = .ok (.slice A' n c') w' ∧ OwnG w.heap.size w' A' n xs ∧ Below w.heap.size w w' := by
  rcases Nat.eq_zero_or_pos n with rfl | hpos
  · have hx : xs = [] := List.eq_nil_of_length_eq_zero hr.len
    subst hx
    refine ⟨some ⟨g, 0, none⟩, 0, w, ?_, ⟨⟨by simp [flatG], fun h => absurd h (by omega)⟩, fun h => absurd h (by omega)⟩, Below.refl _ _⟩
    cases A with
    | none => simp [Builtin.append_, run_underlying ht, sizeOf, typeInfo, hi, Builtin.lenOf, Builtin.firstCells, storeCells]
    | some ad => simp [Builtin.append_, run_underlying ht, sizeOf, typeInfo, hi, Builtin.lenOf, Builtin.firstCells, storeCells, loadCells, loadCellsFrom]
  · obtain ⟨b, o, rfl, hlt, hc⟩ := hr.2 hpos
    obtain ⟨v', w', hrun, hown, hgr⟩ := run_append_arg_grows (P := P) w t ty 42 i z 4 bytes ht hi hz hs hby hzs (by decide) ⟨g, 0, none⟩ 0 0 [] (by simp) (by simp) ⟨b, o, none⟩ n c (flatG xs) hr.1 (fun j u hu => by rw [addr_add]; exact hc j u hu) (by omega) (by omega) (by rw [Nat.zero_add]; exact hb)
    simp only [Nat.zero_add, List.nil_append] at hown
    obtain ⟨A', c', rfl, ho⟩ := ownG_of hown
    exact ⟨A', c', w', hrun, ho, grown_none hgr⟩
theorem step_append_copyG {P : Program} {ops : Array Oper} {o : Oper} {a : Act} {w : World} {K : Act → World → Prop} {Q : Exit → Act → World → Prop} {E : Prop}
    (hg : o.guard = none) (s x : Operand) (t : TypeId) (hop : o.op = Op.call { callee := Callee.builtin Builtin.append, args := #[s, x], argTypes := #[t, t] })
    (i : TypeInfo) (z : Value) (bytes : Nat) (ht : P.underlying t = some (.slice 42)) (hi : P.info? 42 = some i) (hz : i.zero = some z) (hsz : i.size = 4) (hby : i.bytes = bytes) (hzs : z.cells.size = 4)
    (g : Nat) (hs : a.eval s = .slice (some ⟨g, 0, none⟩) 0 0) (A : Option Addr) (n c : Nat) (hx : a.eval x = .slice A n c) (xs : List Gap) (hr : Gaps w A n xs) (hn : n ≤ maxLen) (hb : n * bytes ≤ 140737488355328)
    (hK : ∀ A' c' w', OwnG w.heap.size w' A' n xs → Below w.heap.size w w' → K (a.put o.dst (.slice A' n c')) w') :
    if Region.wanted o (yielded ops a.tmps) = true then Oper.wp P o a w K Q else E := by
  have hw : Region.wanted o (yielded ops a.tmps) = true := by simp [Region.wanted, hg]
  rw [if_pos hw]
  obtain ⟨A', c', w', hrun, h1, h2⟩ := run_append_copyG (P := P) w t o.type i z bytes ht hi hz hsz hby hzs g A n c xs hr hn hb
  unfold Oper.wp
  simp [execOp, hop, resolve, invoke, builtin, hs, hx, hrun, Result.andThen]
  exact hK A' c' w' h1 h2
theorem OwnG.set5 {g b : Nat} {W : World} {n : Nat} {A : Option Addr} {xs : List Gap} (h : OwnG b W A n xs) (hb : g < b) (u0 u1 u2 u3 u4 : Value) : OwnG b (((((W.setCell ⟨g, 0, none⟩ u0).setCell ⟨g, 1, none⟩ u1).setCell ⟨g, 2, none⟩ u2).setCell ⟨g, 3, none⟩ u3).setCell ⟨g, 4, none⟩ u4) A n xs :=
  (((((h.setCell (p := ⟨g, 0, none⟩) hb u0).setCell (p := ⟨g, 1, none⟩) hb u1).setCell (p := ⟨g, 2, none⟩) hb u2).setCell (p := ⟨g, 3, none⟩) hb u3).setCell (p := ⟨g, 4, none⟩) hb u4)
def OwnRes (w : World) (f : Fan) (n : Nat) (e : Ending) (w' : World) : Prop := ∃ A c, e = .returned (.agg (fanA f A n c)) ∧ OwnG w.heap.size w' A n f.gs ∧ Below w.heap.size w w'
theorem copy_endG {w W : World} {f : Fan} {n : Nat} {a1 : Option Addr} {a2 : Nat} {c1 c2 : Array Value} {t1 t2 : TypeId} (h : Env2 w W t1 t2 c1 c2) (qa : OwnG (w.heap.size + 1 + 1) W a1 n f.gs) :
    OwnRes w f n (.returned (.agg (fanA f a1 n a2))) (((((W.setCell ⟨w.heap.size + 1, 0, none⟩ (.int .i64 f.a)).setCell ⟨w.heap.size + 1, 1, none⟩ (.int .i64 f.b)).setCell ⟨w.heap.size + 1, 2, none⟩ (.int .i64 f.c)).setCell ⟨w.heap.size + 1, 3, none⟩ (.int .i64 f.d)).setCell ⟨w.heap.size + 1, 4, none⟩ (.slice a1 n a2)) :=
  ⟨a1, a2, rfl, (qa.set5 (Nat.lt_succ_self _) _ _ _ _ _).less (by omega),
    ((((h.bel.setCell (p := ⟨w.heap.size + 1, 0, none⟩) (by simp) _).setCell (p := ⟨w.heap.size + 1, 1, none⟩) (by simp) _).setCell (p := ⟨w.heap.size + 1, 2, none⟩) (by simp) _).setCell (p := ⟨w.heap.size + 1, 3, none⟩) (by simp) _).setCell (p := ⟨w.heap.size + 1, 4, none⟩) (by simp) _⟩
section
attribute [local go_sem ↓] Go.wp_at_zero Go.wp_at_succ
set_option maxRecDepth 100000 in
set_option maxHeartbeats 8000000 in
theorem RefCopy_own (f : Fan) (A : Option Addr) (n c : Nat) (w : World) (h : Gaps w A n f.gs) (hn : n ≤ 1000) :
    Calls Try.prog 18 #[.agg (fanA f A n c)] w (OwnRes w f n) := by
  obtain ⟨i0, hi, hz0, hz1, hz2⟩ := info_parts Try.infoGap
  have HW := Lib.hid (Env2.start w 26 26 (fanA f A n c) #[.int .i64 0, .int .i64 0, .int .i64 0, .int .i64 0, .slice none 0 0]).drewd
  have HG := Lib.hid h
  have HE := Lib.hid (fun (W : World) (a1 : Option Addr) (a2 : Nat) (c1 c2 : Array Value) (hE : Env2 w W 26 26 c1 c2) hq => copy_endG (f := f) (n := n) (a1 := a1) (a2 := a2) hE hq)
  clear h
  generalize OwnRes w f n = RR at *
  obtain ⟨fa, fb, fc, fd, gs⟩ := f
  simp only [fanA] at *
  go_enter Try.func18, Try.ntmps18
  go_wp2_with fail
  go_region_held3 (fun W => W.cell? ⟨w.heap.size, 0, none⟩ = some (.int .i64 fa) ∧ W.cell? ⟨w.heap.size, 1, none⟩ = some (.int .i64 fb) ∧ W.cell? ⟨w.heap.size, 2, none⟩ = some (.int .i64 fc) ∧ W.cell? ⟨w.heap.size, 3, none⟩ = some (.int .i64 fd) ∧ W.cell? ⟨w.heap.size, 4, none⟩ = some (.slice A n c))
    (first | with_reducible exact fan_set HW.out _ _ _ _ _ | exact fan_get HW.out.p | exact fan_get (HW.out.alloc _).p)
    (first
    | (refine step_append_copyG rfl (.tmp 7) (.tmp 9) 24 rfl i0 _ 32 Try.underlying24 hi hz0 hz1 hz2 rfl _ (by rfl) A n c (by rfl) _ (by first | exact HG.out.below HW.out.bel | exact HG.out.below (HW.out.alloc _).bel) (by have := hn; unfold maxLen; omega) (by have := hn; omega) ?_; intro a1 a2 x1 h1 h2; have E1 := Lib.hid (Env2.below (by first | exact HW.out | exact (HW.out.alloc _)) h2); have Qa := Lib.hid (OwnG.less h1 (by first | exact HW.out.q.lt | exact (HW.out.alloc _).q.lt)); clear HW h1 h2; have HW := E1; clear E1; obtain ⟨⟨z0, z1, z2, z3, z4⟩, f0, f1, f2, f3, f4⟩ := fan_row HW.out))
  all_goals
    clear z0 z1 z2 z3 z4 f0 f1 f2 f3 f4
    go_wp2
    exact bodyPost_ret (results_c rfl _ _ _ _ _ _ _ rfl (((((HW.out.q.set_ 0 _).set_ 1 _).set_ 2 _).set_ 3 _).set_ 4 _) Try.underlying26 (by kernel_rfl)) rfl (HE.out _ _ _ _ _ HW.out Qa.out)
end
end Go.Proofs.Ytdekickmplkdiaa

/- The search finds the least arc; walks: the reference's Pleat. -/
namespace Go.Proofs.Ytdekickmplkdiaa
open Go.RowKit

theorem search_go (p : Nat → Bool) (n k : Nat) (h1 : ∀ j, j < k → p j = false) (h2 : k < n → p k = true) (hm : ∀ i j, i ≤ j → j < n → p i = true → p j = true) :
    ∀ f i j, i ≤ k → k ≤ j → j ≤ n → j - i ≤ f → searchGo p f i j = k := by
  intro f
  induction f with
  | zero => intro i j hi hj hn hf; rw [searchGo]; omega
  | succ f ih =>
    intro i j hi hj hn hf
    rw [searchGo]
    by_cases hij : i < j
    · rw [if_pos hij]
      by_cases hp : p ((i + j) / 2) = true
      · rw [if_pos hp]
        refine ih _ _ hi ?_ (by omega) (by omega)
        rcases Nat.lt_or_ge ((i + j) / 2) k with h | h
        · rw [h1 _ h] at hp; cases hp
        · exact h
      · rw [if_neg hp]
        refine ih _ _ ?_ hj hn (by omega)
        rcases Nat.lt_or_ge ((i + j) / 2) k with h | h
        · omega
        · exact absurd (hm k _ h (by omega) (h2 (by omega))) hp
    · rw [if_neg hij]; omega
theorem search_least (p : Nat → Bool) (n k : Nat) (hk : k ≤ n) (h1 : ∀ j, j < k → p j = false) (h2 : k < n → p k = true) (hm : ∀ i j, i ≤ j → j < n → p i = true → p j = true) : searchL p n = k :=
  search_go p n k h1 h2 hm n 0 n (Nat.zero_le _) hk (Nat.le_refl _) (by omega)
theorem sum_mono {α : Type} (u v : α → Int) (l : List α) (h : ∀ g ∈ l, u g ≤ v g) : (l.map u).sum ≤ (l.map v).sum := by
  induction l with
  | nil => simp
  | cons a r ih =>
    simp only [List.map_cons, List.sum_cons]
    have := h a (by simp)
    have := ih (fun g hg => h g (by simp [hg]))
    omega
theorem degF_mono {a b den : Int} (h : a ≤ b) (hd : 1 ≤ den) : degF a den ≤ degF b den := by
  have := Int.ediv_le_ediv (show 0 < 355 * den by omega) (show 20340 * a ≤ 20340 * b by omega)
  unfold degF; omega
theorem pleat_mono {f : Fan} (h : FanB f) {i j : Nat} (hij : i ≤ j) : degL false (f.pleat i) ≤ degL false (f.pleat j) := by
  have hp : partsL false (f.pleat i) = partsL false (f.pleat j) := rfl
  unfold degL
  rw [hp]
  refine degF_mono ?_ (parts_bd (f := f) h false).1
  unfold openN anglesF Fan.pleat
  simp only [List.map_map]
  refine sum_mono _ _ _ fun g _ => ?_
  simp only [Function.comp, angF, ris, fal, Gap.leaf, cond_false]
  have := Int.mul_le_mul_of_nonneg_right (show (i : Int) ≤ (j : Int) by omega) (show 0 ≤ f.d by have := h.c1; have := h.cd; omega)
  omega
theorem pleat_least {f : Fan} (h : FanB f) (d : Int) (k : Nat) (hk : k ≤ 1001) (h1 : ∀ j, j < k → pleatP f d j = false) (h2 : k < 1001 → pleatP f d k = true) : pleatL f d = k := by
  refine search_least _ _ _ hk h1 h2 fun i j hij _ hi => ?_
  have := pleat_mono h hij
  simp only [pleatP, decide_eq_true_eq] at hi ⊢
  omega

def curL (gs : List Gap) : Nat → List Gap
  | 0 => gs
  | k + 1 => gs.map (Gap.leaf k)
theorem curL_length (gs : List Gap) (k : Nat) : (curL gs k).length = gs.length := by cases k <;> simp [curL]
theorem curL_all (gs : List Gap) (k : Nat) : plL k gs.length (curL gs k) = curL gs (k + 1) := by
  have := plL_all (k : Int) (curL gs k)
  rw [curL_length] at this
  rw [this]
  cases k with
  | zero => rfl
  | succ m => simp [curL, Gap.leaf, Function.comp]
/-- The fan of one arc, in its box. -/
structure PO (w W : World) (f : Fan) (A : Option Addr) (n c t : Nat) (cur : List Gap) : Prop where
  bx : Blk W t 26 (fanA f A n c)
  b : Below w.heap.size w W
  o : OwnG w.heap.size W A n cur
  ne : 0 < n → ∀ g, A = some ⟨g, 0, none⟩ → g ≠ t
theorem PO.below {w W W' : World} {f : Fan} {A : Option Addr} {n c t : Nat} {cur : List Gap} (h : PO w W f A n c t cur) (hb : Below W.heap.size W W') : PO w W' f A n c t cur :=
  ⟨blk_keep hb h.bx, below_then h.b hb, h.o.below hb, h.ne⟩
theorem PO.leaf {w W : World} {f : Fan} {n c t g j : Nat} {cur cur' : List Gap} {u : Value} (h : PO w W f (some ⟨g, 0, none⟩) n c t cur) (h0 : 0 < n) (hj : j * 4 + 1 < (flatG cur).length) (he : ((flatG cur).set (j * 4) u).set (j * 4 + 1) u = flatG cur') (hl : cur'.length = n) :
    PO w ((W.setCell ⟨g, j * 4, none⟩ u).setCell ⟨g, j * 4 + 1, none⟩ u) f (some ⟨g, 0, none⟩) n c t cur' := by
  obtain ⟨g', e, hg, hR⟩ := h.o.2 h0
  simp only [Option.some.injEq, Addr.mk.injEq, and_true] at e
  subst e
  have hne : t ≠ g := fun e => h.ne h0 g rfl e.symm
  have R2 := (hR.set (i := j * 4) (by omega) u).set (i := j * 4 + 1) (by rw [List.length_set]; exact hj) u
  rw [he] at R2
  have hG := R2.gaps
  rw [hl] at hG
  exact ⟨(h.bx.far (p := ⟨g, j * 4, none⟩) hne u).far (p := ⟨g, j * 4 + 1, none⟩) hne u, (h.b.setCell (p := ⟨g, j * 4, none⟩) hg u).setCell (p := ⟨g, j * 4 + 1, none⟩) hg u, ⟨hG, fun _ => ⟨g, rfl, hg, R2⟩⟩, h.ne⟩

set_option maxRecDepth 100000 in
set_option maxHeartbeats 8000000 in
theorem RefPleat_any (f : Fan) (d : Int) (A : Option Addr) (n c : Nat) (w : World) (h : Gaps w A n f.gs) (hE : fanErr f = 0) :
    Calls Try.prog 38 #[.agg (fanA f A n c), .int .i64 d] w fun e w' => e = .returned (.int .i64 (if 1000 < pleatL f d then -1 else (pleatL f d : Int))) ∧ Below w.heap.size w w' := by
  have hl := h.len
  have hn : n ≤ 40 := by have := (fanB_of hE).2.2; omega
  have B0 := Lib.hid (below_self w (.cells (fanA f A n c) 26))
  have R0 := Lib.hid (Blk.new w 26 (fanA f A n c) (g := w.heap.size) rfl)
  have HC := Lib.hid (fun W (hb : Below w.heap.size w W) => RefCopy_own f A n c W (h.below hb) (by omega))
  unfold OwnRes at HC
  have HO := Lib.hid (fun (k : Nat) (hk : k ≤ 1000) A' c' W (hG : Gaps W A' n (curL f.gs (k + 1))) => RefOpens_any (f.pleat k) A' n c' W (pleat_B hE (by omega) (by omega)) hG)
  have HP : Hid (∀ k : Nat, pleatP f d k = decide (d ≤ degL false (f.pleat k))) := fun _ => rfl
  have HL := Lib.hid (fun k hk h1 h2 => pleat_least (fanB_of hE).1 d k hk h1 h2)
  have HF : Hid (∀ (k : Nat) A' c', fanA (f.pleat k) A' n c' = fanA f A' n c') := fun _ _ _ => rfl
  have HS := Lib.hid (fun (k j : Nat) (hj : j < n) => plL_succ k j (curL f.gs k) (by rw [curL_length]; omega))
  have HZ := Lib.hid (fun (k : Nat) => plL_zero k (curL f.gs k))
  have HA : Hid (∀ k : Nat, plL k n (curL f.gs k) = curL f.gs (k + 1)) := fun k => by rw [← hl]; exact curL_all f.gs k
  have HLN : Hid (∀ k j : Nat, (plL k j (curL f.gs k)).length = n) := fun k j => by rw [plL_length, curL_length, hl]
  have HC0 : Hid (curL f.gs 0 = f.gs) := rfl
  simp only [HF.out] at HO
  clear h hE hl HF
  generalize pleatL f d = pl at *
  generalize hrr : (if 1000 < pl then -1 else (pl : Int)) = rr at *
  have HRR : Hid (rr = if 1000 < pl then -1 else (pl : Int)) := hrr.symm
  clear hrr
  generalize pleatP f d = P at *
  generalize curL f.gs = cur at *
  obtain ⟨fa, fb, fc, fd, gs⟩ := f
  simp only [fanA] at B0 R0 HC HO ⊢
  have p0 := fan_get R0.out
  go_enter Try.func38, Try.ntmps38
  go_wp2_with fail
  refine (HC.out _ B0.out).mono ?_
  rintro e W1 ⟨A1, a1, rfl, hO, hb1⟩
  have B1 := Lib.hid (below_then B0.out hb1)
  have O1 := Lib.hid (hO.less B0.out.size)
  have T1 := Lib.hid (Blk.new W1 26 #[.int .i64 0, .int .i64 0, .int .i64 0, .int .i64 0, .slice none 0 0] (g := W1.heap.size) rfl)
  clear hb1 hO p0 B0 R0 HC
  go_wp2_with (refine wpList_store_row rfl 26 _ _ rfl W1.heap.size _ rfl rfl 26 _ T1.out (by kernel_rfl) rfl (by kernel_rfl) ?_; have hb2 := below_setR (below_self W1 (.cells #[.int .i64 0, .int .i64 0, .int .i64 0, .int .i64 0, .slice none 0 0] 26)) (Nat.le_refl _) #[.int .i64 fa, .int .i64 fb, .int .i64 fc, .int .i64 fd, .slice A1 n a1]; have Q2 : Hid (PO w ((W1.alloc (.cells #[.int .i64 0, .int .i64 0, .int .i64 0, .int .i64 0, .slice none 0 0] 26)).setRow W1.heap.size #[.int .i64 fa, .int .i64 fb, .int .i64 fc, .int .i64 fd, .slice A1 n a1]) ⟨fa, fb, fc, fd, gs⟩ A1 n a1 W1.heap.size gs) := ⟨T1.out.setRow _, below_then B1.out hb2, O1.out.below hb2, fun h0 g e h => by (subst h; obtain ⟨g', e', _, hR⟩ := O1.out.2 h0; rw [e] at e'; simp at e'; have := hR.lt; omega)⟩; clear B1 O1 T1 hb2; generalize (W1.alloc (.cells #[.int .i64 0, .int .i64 0, .int .i64 0, .int .i64 0, .slice none 0 0] 26)).setRow W1.heap.size #[.int .i64 fa, .int .i64 fb, .int .i64 fc, .int .i64 fd, .slice A1 n a1] = W2 at *; generalize W1.heap.size = t at *)
  have Q2 : Hid (PO w W2 ⟨fa, fb, fc, fd, gs⟩ A1 n a1 t (cur 0)) := by unfold Hid; rw [HC0.out]; exact Q2.out
  go_loopw [6, 7] (fun i _ wr => ∃ k : Nat, k ≤ 1001 ∧ i = .int .i64 k ∧ (∀ j, j < k → P j = false) ∧ PO w wr ⟨fa, fb, fc, fd, gs⟩ A1 n a1 t (cur k)) (fun i _ _ => 1001 - (intOf i).toNat)
  case atStart => exact ⟨0, Nat.zero_le _, rfl, fun j h => absurd h (by omega), Q2.out⟩
  case round =>
    obtain ⟨k, hk, rfl, hpf, hq⟩ := hrel
    have QK := Lib.hid hq
    have PF := Lib.hid hpf
    clear hq hpf Q2
    by_cases hlt : k < 1001
    · have hle : k ≤ 1000 := by omega
      have hz := HZ.out k
      have Q3 : Hid (PO w wr ⟨fa, fb, fc, fd, gs⟩ A1 n a1 t (plL k 0 (cur k))) := by unfold Hid; rw [hz]; exact QK.out
      have S3 := Lib.hid (HS.out k)
      have A3 := Lib.hid (HA.out k)
      have L3 := Lib.hid (HLN.out k)
      have C3 := Lib.hid (HO.out k hle A1 a1)
      have P3 := Lib.hid (HP.out k)
      have LK := Lib.hid (HL.out k (by omega))
      clear hz QK HS HA HLN HO HP HZ
      generalize hpq : (fun j => plL k j (cur k)) = pq at *
      have E3 : Hid (∀ j, plL k j (cur k) = pq j) := fun j => congrFun hpq j
      clear hpq
      simp only [E3.out] at Q3 S3 A3 L3
      clear E3
      go_wp2_with fail
      go_loopw [7] (fun i wr => ∃ j : Nat, j ≤ n ∧ i = .int .i64 j ∧ PO w wr ⟨fa, fb, fc, fd, gs⟩ A1 n a1 t (pq j)) (fun i _ => n - (intOf i).toNat)
      case atStart => exact ⟨0, Nat.zero_le _, rfl, Q3.out⟩
      case round =>
        obtain ⟨j, hj, rfl, hq⟩ := hrel
        have QJ := Lib.hid hq
        clear hq Q3
        by_cases hjn : j < n
        · obtain ⟨g, rfl, hgw, hR⟩ := QJ.out.o.2 (by omega)
          have n1 := QJ.out.ne (by omega) g rfl
          have n2 : ¬ t = g := fun e => n1 e.symm
          have p2 := fan_get QJ.out.bx
          have z0 := hR.frozen (j * 4)
          have z1 := hR.frozen (j * 4 + 1)
          have hgl : j * 4 + 1 < (flatG (pq j)).length := by rw [flatG_length, L3.out]; omega
          have x0 := hR.cell (List.getElem?_eq_getElem (show j * 4 < (flatG (pq j)).length by omega))
          have x1 := hR.cell (List.getElem?_eq_getElem hgl)
          have hgl' := Lib.hid hgl
          have hs := Lib.hid (S3.out j hjn)
          generalize (flatG (pq j))[j * 4] = y0 at *
          generalize (flatG (pq j))[j * 4 + 1] = y1 at *
          clear hgl hR hgw
          go_wp2_with fail
          go_roundw
          case rel => exact ⟨j + 1, by omega, by go_num, QJ.out.leaf (by omega) hgl'.out hs.out (L3.out _)⟩
          case measure => simp [intOf]; omega
        · obtain rfl : j = n := by omega
          have Q4 : Hid (PO w wr ⟨fa, fb, fc, fd, gs⟩ A1 j a1 t (cur (k + 1))) := by unfold Hid; rw [← A3.out]; exact QJ.out
          have C4 := Lib.hid (C3.out _ Q4.out.o.1)
          have p4 := fan_get Q4.out.bx
          clear QJ S3 A3 L3 C3
          generalize degL false ((⟨fa, fb, fc, fd, gs⟩ : Fan).pleat k) = d1 at *
          generalize degL true ((⟨fa, fb, fc, fd, gs⟩ : Fan).pleat k) = d2 at *
          go_wp2_with fail
          refine C4.out.mono ?_
          rintro e w5 ⟨rfl, h5⟩
          have Q5 := Lib.hid (Q4.out.below h5)
          clear h5 p4 Q4 C4
          by_cases hd : d ≤ d1
          · have H := Lib.hid (LK.out PF.out (fun _ => by rw [P3.out]; exact decide_eq_true hd))
            go_wp2_with fail
            change (_ : Act → World → Prop) (Act.put _ _ (Value.int .i64 d1)) w5
            go_wp2
            go_ret
            exact ⟨ret_int (by rw [HRR.out, H.out, if_neg (by omega)]), Q5.out.b⟩
          · go_wp2_with fail
            change (_ : Act → World → Prop) (Act.put _ _ (Value.int .i64 d1)) w5
            go_wp2
            go_roundw
            case rel => exact ⟨k + 1, by omega, by go_num, fun j hj => by (rcases Nat.lt_succ_iff_lt_or_eq.1 hj with h | rfl; exact PF.out j h; rw [P3.out]; exact decide_eq_false (show ¬ d ≤ d1 by omega)), Q5.out⟩
            case measure => simp [intOf]; omega
    · obtain rfl : k = 1001 := by omega
      have H := Lib.hid (HL.out 1001 (by omega) PF.out (fun h => absurd h (by omega)))
      go_wp2
      go_ret
      exact ⟨ret_int (by rw [HRR.out, H.out]; rfl), QK.out.b⟩
end Go.Proofs.Ytdekickmplkdiaa
