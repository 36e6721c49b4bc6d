/- Walks: Possible, all lists of columns tried. -/
import Derived.Test.YtiflhimmieflpaaW94
import Derived.Test.YtiflhimmieflpaaW95
import Derived.Test.YtiflhimmieflpaaM4
import Derived.Lib.Hide
import Derived.Deep.RegionHeld3
namespace Go.Proofs.Ytiflhimmieflpaa
open Go.RowKit Go.Maps Go.Shelf
attribute [local go_sem] Oper.semAt_some

/-- The blade of the best truth with the cracks in these columns. -/
def Bl.bestX (B : Bl) (s : Sw) (xs : List Int) : Sawing := bestL s.long s.wide s.kerf s.across (bentL B.bot B.bend) (bentL B.top B.bend) B.cr xs
theorem err_cracks {B : Bl} (h : curveErr B.n B.n' B.m B.bend B.bot B.top B.cr = 0) : ∀ k ∈ B.cr, crackOk B.n k = true := by
  unfold curveErr at h
  split at h
  · omega
  split at h
  · omega
  split at h
  · omega
  split at h
  · omega
  split at h
  · omega
  rename_i e1 e2 e3 e4 e5
  intro k hk
  simp only [Bool.not_eq_true, List.any_eq_false] at e5
  simpa using e5 k hk
theorem crackOk_in {n : Nat} {k : Crack} (h : crackOk n k = true) : 0 ≤ k.cl ∧ k.cl ≤ k.ch ∧ k.ch < n ∧ 0 ≤ k.fl ∧ k.fl ≤ k.fh ∧ k.fh ≤ k.tl ∧ k.tl ≤ k.th ∧ k.th ≤ 300 := by
  simp only [crackOk, validS, Bool.and_eq_true, List.all_eq_true, decide_eq_true_eq, List.mem_cons, List.not_mem_nil, or_false, forall_eq, forall_eq_or_imp] at h
  omega
theorem best_bounds {B : Bl} {s : Sw} (h : B.Ok) (hs : s.Ok) (hc : ∀ k ∈ B.cr, crackOk B.n k = true) (xs : List Int) : SawBounds (B.bestX s xs) := by
  refine ⟨hs.l1, hs.l2, hs.w1, hs.w2, hs.k1, hs.k2, hs.a1, hs.a2, fun v hv => ?_, fun v hv => ?_, fun k hk => ?_⟩
  · obtain ⟨p, hp, rfl⟩ := List.mem_map.1 hv
    have := bentL_in h.bot h.b0 p hp
    exact ⟨this.1, this.2.1⟩
  · obtain ⟨p, hp, rfl⟩ := List.mem_map.1 hv
    have := bentL_in h.top h.b0 p hp
    exact ⟨this.2.2.1, this.2.2.2⟩
  · have hk' : k ∈ List.zipWith bestSplit xs B.cr := hk
    obtain ⟨i, hi, rfl⟩ := List.getElem_of_mem hk'
    rw [List.getElem_zipWith]
    have := crackOk_in (hc _ (List.getElem_mem (show i < B.cr.length by simp at hi; omega)))
    show 0 ≤ (B.cr[i]'_).tl ∧ (B.cr[i]'_).tl ≤ 300
    omega
theorem best_top (B : Bl) (s : Sw) (g cap g' cap' cx : Nat) (X : Option Addr) (xs : List Int) (w : World) (hB : B.Ok) (h : Pairs w (some ⟨g, 0, none⟩) B.n (bentL B.bot B.bend)) (h' : Pairs w (some ⟨g', 0, none⟩) B.n (bentL B.top B.bend)) (hk : Cracks w B.K B.m B.cr) (hx : Ints w X B.m xs) :
    Calls Try.prog 82 #[B.curved g cap g' cap', s.val, .slice X B.m cx] w (WorstTop w B.n B.m (B.bestX s xs)) := by
  unfold Bl.curved
  rw [hB.nn]
  refine (best_any B.A B.A' B.K X B.c B.c' B.m B.d cx g 0 g' 0 B.n cap cap' B.bend s.long s.wide s.kerf s.across (bentL B.bot B.bend) (bentL B.top B.bend) B.cr xs w h h' hk hx (by have := hB.n1; omega) hB.n2 hB.m4).mono ?_
  rintro e w' ⟨hb, ⟨b, o, so⟩, ⟨b', o', so'⟩, c, c', K, d, rfl, hs, hc, hc', rfl, rfl⟩
  exact ⟨hb, b, o, b', o', c, c', K, d, rfl, hs, hc.1, hc'.1, hc.2⟩

set_option maxRecDepth 100000 in
set_option maxHeartbeats 400000 in
theorem cloneInts_any (b off n c : Nat) (xs : List Int) (w : World) (h : Ints w (some ⟨b, off, none⟩) n xs) (hb : b < w.heap.size) (hn : n ≤ 1000000) :
    Calls Try.prog 84 #[.slice (some ⟨b, off, none⟩) n c] w fun e w' => ∃ v, e = .returned v ∧ w'.ownsRow w.heap.size 3 1 v n (xs.map (Value.int .i64)) ∧ Below w.heap.size w w' := by
  obtain ⟨i0, hi, hz0, hz1, hz2⟩ := info_parts Try.infoInt
  have hl : (xs.map (Value.int .i64)).length = n * 1 := h.1
  have heq := fun w => Lib.run_eql_slice_nil (P := Try.prog) w 44 3 (some ⟨b, off, none⟩) n c 0 0 Try.underlying44
  have hm : n ≤ maxLen := by unfold maxLen; omega
  have hnews : ∀ j u, (xs.map (Value.int .i64))[j]? = some u → (w.alloc (.cells #[] 3)).cell? ((⟨b, off, none⟩ : Addr).add j) = some u := fun j u hj => by
    have hjl : j < n := by have := (List.getElem?_eq_some_iff.1 hj).1; omega
    obtain ⟨b', off', hA, _, hc⟩ := h.2 (by omega)
    simp only [Option.some.injEq, Addr.mk.injEq, and_true] at hA
    obtain ⟨rfl, rfl⟩ := hA
    rw [addr_add, World.cell?_alloc_past _ _ _ hb]
    exact hc j u hj
  have hl' := Lib.hid hl
  have Hnews := Lib.hid hnews
  clear hl hnews h
  go_enter Try.func84, Try.ntmps84
  go_wp2_with (first
    | (at_builtin; refine wpList_append_own _ rfl _ _ 44 rfl w.heap.size 3 i0 (.int .i64 0) 1 8 Try.underlying44 hi hz0 hz1 hz2 rfl (by decide) _ _ _ rfl (World.ownsRow_lit w #[] 0 (Nat.le_refl _) (by decide) rfl) ⟨b, off, none⟩ n c (xs.map (Value.int .i64)) rfl hl'.out Hnews.out ?c1 ?c2 ?c3 ?c4 ?_))
  case c1 => intro u hu; obtain ⟨x, _, rfl⟩ := List.mem_map.1 hu; rfl
  case c2 => simpa using hm
  case c3 => omega
  case c4 => simp
  intro v' w1 hown hgrow hnil
  have Hnil := Lib.hid hnil
  clear hnil
  go_wp2
  go_ret
  refine ⟨_, rfl, by simpa using hown, ((Below.refl _ _).alloc (Nat.le_refl _) _).grown hgrow (by simp) (by rintro k hk; simp [Value.ownBlock] at hk; omega)⟩

/-- The best of some lists of columns, the first one of several. -/
def possStep (B : Bl) (s : Sw) (a : Int × List Int) (xs : List Int) : Int × List Int := if a.1 < countL (B.bestX s xs) B.n then (countL (B.bestX s xs) B.n, xs) else a
def possTo (B : Bl) (s : Sw) (l : List (List Int)) : Int × List Int := l.foldl (possStep B s) (-1, [])
theorem possTo_snoc (B : Bl) (s : Sw) (l : List (List Int)) (xs : List Int) : possTo B s (l ++ [xs]) = possStep B s (possTo B s l) xs := by simp [possTo]
theorem possTo_in (B : Bl) (s : Sw) (h : B.n ≤ 30) (l : List (List Int)) : -1 ≤ (possTo B s l).1 ∧ (possTo B s l).1 ≤ 9060 := by
  unfold possTo
  suffices ∀ a : Int × List Int, -1 ≤ a.1 ∧ a.1 ≤ 9060 → -1 ≤ (l.foldl (possStep B s) a).1 ∧ (l.foldl (possStep B s) a).1 ≤ 9060 from this _ ⟨by simp, by simp⟩
  induction l with
  | nil => exact fun a h => h
  | cons x l ih =>
    intro a ha
    refine ih _ ?_
    unfold possStep
    have := countL_in (B.bestX s x) B.n h
    split
    · dsimp only; omega
    · exact ha
theorem KeepsFrom.of_below {B : Nat} {W W' : World} (h : Below W.heap.size W W') : KeepsFrom B W W' :=
  ⟨h.size, fun k _ _ hk _ => (h.block k (Array.getElem?_eq_some_iff.1 hk).1).trans hk⟩
theorem range_getD_self (x : List Int) (m : Nat) (h : x.length = m) : (List.range m).map (fun i => x.getD i 0) = x := by
  subst h
  apply List.ext_getElem
  · simp
  · intro i h1 h2
    simp [List.getD, h2]
/-- What lay in W0 and lies in W, but for the boxes p and p + 1. -/
structure Save (p : Nat) (W0 W : World) : Prop where
  os : W.os = W0.os
  tape : W.tape = W0.tape
  output : W.output = W0.output
  size : W0.heap.size ≤ W.heap.size
  block : ∀ k, k < W0.heap.size → k ≠ p → k ≠ p + 1 → W.heap[k]? = W0.heap[k]?
theorem Save.refl (p : Nat) (W : World) : Save p W W := ⟨rfl, rfl, rfl, Nat.le_refl _, fun _ _ _ _ => rfl⟩
theorem Save.grown {p : Nat} {W0 W W' : World} {row : Option Nat} (h : Save p W0 W) (hg : W.grownBy W' row) (hr : ∀ r, row = some r → r = p ∨ r = p + 1 ∨ W0.heap.size ≤ r) : Save p W0 W' :=
  ⟨hg.os.trans h.os, hg.tape.trans h.tape, hg.output.trans h.output, Nat.le_trans h.size hg.size, fun k hk h1 h2 => (hg.block k (Nat.lt_of_lt_of_le hk h.size) (fun e => by have := hr k e.symm; omega)).trans (h.block k hk h1 h2)⟩
theorem Save.below {p : Nat} {W0 W W' : World} (h : Save p W0 W) (hb : Below W.heap.size W W') : Save p W0 W' :=
  ⟨hb.os.trans h.os, hb.tape.trans h.tape, hb.output.trans h.output, Nat.le_trans h.size hb.size, fun k hk h1 h2 => (hb.block k (Nat.lt_of_lt_of_le hk h.size)).trans (h.block k hk h1 h2)⟩
/-- What the rounds read. -/
structure PE (B : Bl) (s : Sw) (r q g cap g' cap' : Nat) (W : World) : Prop where
  bc : Blk W q 106 #[.slice B.A B.n B.c, .slice B.A' B.n' B.c', .int .i64 B.bend, .slice B.K B.m B.d, .slice (some ⟨g, 0, none⟩) B.n cap, .slice (some ⟨g', 0, none⟩) B.n cap']
  bs : Blk W r 37 #[.int .i64 s.long, .int .i64 s.wide, .int .i64 s.kerf, .int .i64 s.across]
  pa : Pairs W (some ⟨g, 0, none⟩) B.n (bentL B.bot B.bend)
  pb : Pairs W (some ⟨g', 0, none⟩) B.n (bentL B.top B.bend)
  ck : Cracks W B.K B.m B.cr
theorem PE.below {W W' : World} {B : Bl} {s : Sw} {r q g cap g' cap' : Nat} (h : PE B s r q g cap g' cap' W) (hb : Below W.heap.size W W') : PE B s r q g cap g' cap' W' :=
  ⟨blk_keep hb h.bc, blk_keep hb h.bs, h.pa.below hb, h.pb.below hb, h.ck.below hb⟩
/-- The blocks that are read lie elsewhere than the boxes p and p + 1. -/
structure Apart (B : Bl) (p r q g g' : Nat) : Prop where
  r : r ≠ p ∧ r ≠ p + 1
  q : q ≠ p ∧ q ≠ p + 1
  g : g ≠ p ∧ g ≠ p + 1
  g' : g' ≠ p ∧ g' ≠ p + 1
  k : ∀ b o, B.K = some ⟨b, o, none⟩ → 0 < B.m → b ≠ p ∧ b ≠ p + 1
theorem PE.save {W0 W : World} {B : Bl} {s : Sw} {p r q g cap g' cap' : Nat} (h : PE B s r q g cap g' cap' W0) (hs : Save p W0 W) (ha : Apart B p r q g g') : PE B s r q g cap g' cap' W := by
  have k : ∀ {size n : Nat} {A : Option Addr} {xs : List Value}, Reads W0 size A n xs → (∀ b o, A = some ⟨b, o, none⟩ → 0 < n → b ≠ p ∧ b ≠ p + 1) → Reads W size A n xs := by
    intro size n A xs h hA
    exact Reads.keepBy h fun b o e hn hb => ⟨Nat.lt_of_lt_of_le hb hs.size, hs.block b hb (hA b o e hn).1 (hA b o e hn).2⟩
  exact ⟨(hs.block q h.bc.lt ha.q.1 ha.q.2).trans h.bc, (hs.block _ h.bs.lt ha.r.1 ha.r.2).trans h.bs, k h.pa (fun b o e _ => by cases e; exact ha.g), k h.pb (fun b o e _ => by cases e; exact ha.g'), k h.ck ha.k⟩
/-- Between two rounds. -/
structure PI (B : Bl) (s : Sw) (p : Nat) (W0 : World) (pre : List (List Int)) (W : World) : Prop where
  sv : Save p W0 W
  cA : Boxed W p 3 (.int .i64 (possTo B s pre).1)
  cB : ∃ v, Boxed W (p + 1) 44 v ∧ W.ownsRow (W0.heap.size + 6) 3 1 v (possTo B s pre).2.length ((possTo B s pre).2.map (Value.int .i64))
theorem PI.grown {B : Bl} {s : Sw} {p : Nat} {W0 W W' : World} {row : Option Nat} {pre : List (List Int)} (hp : p + 1 < W0.heap.size) (h : PI B s p W0 pre W) (hg : W.grownBy W' row) (hr : ∀ r, row = some r → W0.heap.size ≤ r ∧ (r < W0.heap.size + 6 ∨ ∃ o : Obj, W.heap[r]? = some o ∧ o.isCells = false)) : PI B s p W0 pre W' := by
  refine ⟨h.sv.grown hg (fun r e => .inr (.inr (hr r e).1)), h.cA.kept hg (fun e => by have := (hr _ e.symm).1; omega), ?_⟩
  obtain ⟨v, hv, ho⟩ := h.cB
  refine ⟨v, hv.kept hg (fun e => by have := (hr _ e.symm).1; omega), ho.kept hg ?_⟩
  rcases ho.2 with ⟨rfl, _⟩ | ⟨gv, cv, cur, rfl, hgv, hgb, _⟩
  · exact .inl rfl
  · refine .inr fun e' => ?_
    obtain ⟨_, h1 | ⟨o, ho', hc⟩⟩ := hr gv (by simpa [Value.ownBlock] using e'.symm)
    · omega
    · rw [hgb] at ho'; cases ho'; cases hc
theorem PI.left {B : Bl} {s : Sw} {p : Nat} {W0 W W3 : World} {pre : List (List Int)} {x : List Int} (h : PI B s p W0 pre W) (hb : Below W.heap.size W W3) (hn : ¬ (possTo B s pre).1 < countL (B.bestX s x) B.n) : PI B s p W0 (pre ++ [x]) W3 := by
  have e : possTo B s (pre ++ [x]) = possTo B s pre := by rw [possTo_snoc]; unfold possStep; rw [if_neg hn]
  obtain ⟨v, hv, ho⟩ := h.cB
  exact ⟨h.sv.below hb, by rw [e]; exact blk_keep hb h.cA, v, blk_keep hb hv, by rw [e]; exact ownsRow_below ho hb⟩
theorem PI.took {B : Bl} {s : Sw} {p b : Nat} {v : Value} {W0 W W3 : World} {pre : List (List Int)} {x : List Int} (hp : p + 1 < W0.heap.size) (h : PI B s p W0 pre W) (hb : Below W.heap.size W W3) (ho : W3.ownsRow b 3 1 v x.length (x.map (Value.int .i64))) (hbb : W0.heap.size + 6 ≤ b)
    (hn : (possTo B s pre).1 < countL (B.bestX s x) B.n) : PI B s p W0 (pre ++ [x]) ((W3.setCell ⟨p, 0, none⟩ (.int .i64 (countL (B.bestX s x) B.n))).setCell ⟨p + 1, 0, none⟩ v) := by
  have e : possTo B s (pre ++ [x]) = (countL (B.bestX s x) B.n, x) := by rw [possTo_snoc]; unfold possStep; rw [if_pos hn]
  obtain ⟨u, hu, -⟩ := h.cB
  have h1 : Boxed W3 p 3 (.int .i64 (possTo B s pre).1) := blk_keep hb h.cA
  have h2 : Boxed W3 (p + 1) 44 u := blk_keep hb hu
  have hne : v.ownBlock ≠ some p ∧ v.ownBlock ≠ some (p + 1) := by
    constructor
    · intro e'; have := ho.lt _ e'; omega
    · intro e'; have := ho.lt _ e'; omega
  refine ⟨((h.sv.below hb).grown (grownBy_set _ _ _) (fun r e => by cases e; exact .inl rfl)).grown (grownBy_set _ _ _) (fun r e => by cases e; exact .inr (.inl rfl)), ?_, v, ?_, ?_⟩
  · rw [e]; exact (h1.set _).other (by omega) _
  · exact (h2.other (by omega) _).set v
  · rw [e]; exact own_base ((ho.kept (grownBy_set _ _ _) (.inr hne.1)).kept (grownBy_set _ _ _) (.inr hne.2)) hbb
theorem run_loadVar_cell {P : Program} {t : TypeId} {w : World} {a : Addr} {v : Value} {d : TypeDesc} (hu : P.underlying t = some d) (hd : (match d with | .struct _ | .array _ _ => true | _ => false) = false) (hc : w.cell? a = some v) : (loadVar t a).run P w = .ok v w := by
  unfold loadVar
  rw [Sem.run_bind, run_isAgg_plain hu hd]
  simp [Result.andThen, load, Sem.run, hc]
theorem results_cct {fn : Func} {p q r : Tmp} {ty tz : TypeId} (h : fn.results = #[.cell p ty, .cell q tz, .tmp r]) (tmps : Array Value) (P : Program) (w : World) (g g' : Nat) (v u x : Value)
    (hp : tmps.getD p undef = .pointer (some ⟨g, 0, none⟩)) (hg : (loadVar ty ⟨g, 0, none⟩).run P w = .ok v w) (hq : tmps.getD q undef = .pointer (some ⟨g', 0, none⟩)) (hg' : (loadVar tz ⟨g', 0, none⟩).run P w = .ok u w) (hr : tmps.getD r undef = x) :
    (results fn tmps).run P w = .ok (.tuple #[v, u, x]) w := by
  have hp' : tmps[p]?.getD undef = .pointer (some ⟨g, 0, none⟩) := by simpa using hp
  have hq' : tmps[q]?.getD undef = .pointer (some ⟨g', 0, none⟩) := by simpa using hq
  have hr' : tmps[r]?.getD undef = x := by simpa using hr
  simp [results, h, hp', hq', hr', asAddr, hg, hg']
def PossRes (w : World) (B : Bl) (s : Sw) (e : Ending) (w' : World) : Prop :=
  Below w.heap.size w w' ∧ ((B.err s ≠ 0 ∧ e = .returned (.tuple #[.int .i64 0, .slice none 0 0, .int .i64 (B.err s)])) ∨
    (B.err s = 0 ∧ ∃ v, e = .returned (.tuple #[.int .i64 (possTo B s (colsFrom B.cr [])).1, v, .int .i64 0]) ∧ w'.ownsRow w.heap.size 3 1 v (possTo B s (colsFrom B.cr [])).2.length ((possTo B s (colsFrom B.cr [])).2.map (Value.int .i64))))

set_option maxRecDepth 100000 in
set_option maxHeartbeats 4000000 in
theorem Possible_any (B : Bl) (s : Sw) (w : World) (h : B.At w) : Calls Try.prog 42 #[B.val, s.val] w (PossRes w B s) := by
  have E0 : Hid (Below w.heap.size w ((((w.alloc (.cells #[.slice B.A B.n B.c, .slice B.A' B.n' B.c', .int .i64 B.bend, .slice B.K B.m B.d] 25)).alloc (.cells #[.int .i64 s.long, .int .i64 s.wide, .int .i64 s.kerf, .int .i64 s.across] 37)).alloc (.cells #[.int .i64 0] 3)).alloc (.cells #[.slice none 0 0] 44))) := below_alloc' (below_alloc' (below_alloc' (below_self _ _) _) _) _
  have S0 := Lib.hid (((Blk.new (w.alloc (.cells #[.slice B.A B.n B.c, .slice B.A' B.n' B.c', .int .i64 B.bend, .slice B.K B.m B.d] 25)) 37 #[.int .i64 s.long, .int .i64 s.wide, .int .i64 s.kerf, .int .i64 s.across] (g := w.heap.size + 1) (by simp)).alloc (.cells #[.int .i64 0] 3)).alloc (.cells #[.slice none 0 0] 44))
  have N0 := Lib.hid ((Blk.new ((w.alloc (.cells #[.slice B.A B.n B.c, .slice B.A' B.n' B.c', .int .i64 B.bend, .slice B.K B.m B.d] 25)).alloc (.cells #[.int .i64 s.long, .int .i64 s.wide, .int .i64 s.kerf, .int .i64 s.across] 37)) 3 #[.int .i64 0] (g := w.heap.size + 1 + 1) (by simp)).alloc (.cells #[.slice none 0 0] 44))
  have M0 := Lib.hid (Blk.new (((w.alloc (.cells #[.slice B.A B.n B.c, .slice B.A' B.n' B.c', .int .i64 B.bend, .slice B.K B.m B.d] 25)).alloc (.cells #[.int .i64 s.long, .int .i64 s.wide, .int .i64 s.kerf, .int .i64 s.across] 37)).alloc (.cells #[.int .i64 0] 3)) 44 #[.slice none 0 0] (g := w.heap.size + 1 + 1 + 1) (by simp))
  have HC := Lib.hid (ready_top B s _ (h.below E0.out))
  have HK := Lib.hid h
  clear h
  unfold Bl.val Sw.val at *
  refine (callsIn_wide (n := 9)).1 ?_
  refine callsIn_of_wp_marks Try.func42 rfl trivial ?_ rfl
  simp only [Try.ntmps42, List.size_toArray, List.length_cons, List.length_nil, Nat.reduceAdd, Nat.reduceSub, Array.replicate_succ, Array.replicate_zero, List.push_toArray, List.append_toArray, List.nil_append, List.cons_append]
  refine wpIn_wide.2 ?_
  go_wp2_with fail
  refine HC.out.mono ?_
  rintro e w2 ⟨hb2, ⟨herr, rfl⟩ | ⟨hok, g, cap, g', cap', rfl, P, P', hg⟩⟩
  · have B2 := Lib.hid (below_then E0.out hb2)
    have N2 := Lib.hid (blk_keep hb2 N0.out)
    have M2 := Lib.hid (blk_keep hb2 M0.out)
    have L2 := Lib.hid hb2.size
    have Herr := Lib.hid herr
    have hz : (B.err s == 0) = false := by simpa using herr
    have hz2 : (B.err s != 0) = true := by simpa using herr
    have n2 := (N2.out.alloc (.cells #[.slice none 0 0, .slice none 0 0, .int .i64 0, .slice none 0 0, .slice none 0 0, .slice none 0 0] 106)).cell 0
    have f2 := (N2.out.alloc (.cells #[.slice none 0 0, .slice none 0 0, .int .i64 0, .slice none 0 0, .slice none 0 0, .slice none 0 0] 106)).frozen 0
    have m2 := (M2.out.alloc (.cells #[.slice none 0 0, .slice none 0 0, .int .i64 0, .slice none 0 0, .slice none 0 0, .slice none 0 0] 106)).cell 0
    have e2 := (M2.out.alloc (.cells #[.slice none 0 0, .slice none 0 0, .int .i64 0, .slice none 0 0, .slice none 0 0, .slice none 0 0] 106)).frozen 0
    clear hb2 herr HC
    unfold zeroCurved
    go_wp2
    refine ⟨_, results_cct rfl _ _ _ (w.heap.size + 2) (w.heap.size + 3) _ _ _ rfl (run_loadVar_cell Try.underlying3 rfl ?_) rfl (run_loadVar_cell Try.underlying44 rfl ?_) rfl, ?_, .inl ⟨Herr.out, rfl⟩⟩
    · exact (Boxed.other (t := 3) (Boxed.set _ (N2.out.alloc _)) (by omega) _).cell
    · exact (Boxed.set (t := 44) _ (Boxed.other (M2.out.alloc _) (by omega) _)).cell
    · exact ((below_alloc' B2.out _).setCell (p := ⟨w.heap.size + 1 + 1, 0, none⟩) (by show w.heap.size ≤ w.heap.size + 1 + 1; omega) _).setCell (p := ⟨w.heap.size + 1 + 1 + 1, 0, none⟩) (by show w.heap.size ≤ w.heap.size + 1 + 1 + 1; omega) _
  · have B2 := Lib.hid (below_then E0.out hb2)
    have S2 := Lib.hid (blk_keep hb2 S0.out)
    have N2 := Lib.hid (blk_keep hb2 N0.out)
    have M2 := Lib.hid (blk_keep hb2 M0.out)
    have L2 := Lib.hid hb2.size
    have Hok := Lib.hid (err_ok hok)
    have Hok0 := Lib.hid hok
    have hP := Lib.hid P
    have hP' := Lib.hid P'
    have HG := Lib.hid hg
    have n2 := (N2.out.alloc (.cells #[.slice B.A B.n B.c, .slice B.A' B.n' B.c', .int .i64 B.bend, .slice B.K B.m B.d, .slice (some ⟨g, 0, none⟩) B.n cap, .slice (some ⟨g', 0, none⟩) B.n cap'] 106)).cell 0
    have f2 := (N2.out.alloc (.cells #[.slice B.A B.n B.c, .slice B.A' B.n' B.c', .int .i64 B.bend, .slice B.K B.m B.d, .slice (some ⟨g, 0, none⟩) B.n cap, .slice (some ⟨g', 0, none⟩) B.n cap'] 106)).frozen 0
    clear hb2 hok P P' hg HC
    unfold Bl.curved
    go_wp2_with (go_at_call 81; refine (callsIn_wide.1 (crackColumns_in Fence.wide 1 trivial rfl _ _ _ _)).mono ?_; rintro e w' ⟨rfl, rfl⟩)
    have hl2 := L2.out
    simp only [World.size_alloc] at hl2
    have hg1 := HG.out
    simp only [World.size_alloc] at hg1
    have E3 : Hid (Below w.heap.size w (((w2.alloc (.cells #[.slice B.A B.n B.c, .slice B.A' B.n' B.c', .int .i64 B.bend, .slice B.K B.m B.d, .slice (some ⟨g, 0, none⟩) B.n cap, .slice (some ⟨g', 0, none⟩) B.n cap'] 106)).setCell ⟨w.heap.size + 1 + 1, 0, none⟩ (.int .i64 (-1))).alloc (.cells #[.slice B.K B.m B.d] 23))) :=
      below_alloc' ((below_alloc' B2.out _).setCell (p := ⟨w.heap.size + 1 + 1, 0, none⟩) (by show w.heap.size ≤ w.heap.size + 1 + 1; omega) _) _
    have hz0 : (((w2.alloc (.cells #[.slice B.A B.n B.c, .slice B.A' B.n' B.c', .int .i64 B.bend, .slice B.K B.m B.d, .slice (some ⟨g, 0, none⟩) B.n cap, .slice (some ⟨g', 0, none⟩) B.n cap'] 106)).setCell ⟨w.heap.size + 1 + 1, 0, none⟩ (.int .i64 (-1))).alloc (.cells #[.slice B.K B.m B.d] 23)).heap.size = w2.heap.size + 2 := by simp [World.setCell]
    have hkb : ∀ b o, B.K = some ⟨b, o, none⟩ → 0 < B.m → b < w.heap.size := fun b o e hm => by
      obtain ⟨b', o', e', hb', _⟩ := HK.out.hk.2 hm
      rw [e] at e'; cases e'; exact hb'
    have hAP : Apart B (w.heap.size + 1 + 1) (w.heap.size + 1) w2.heap.size g g' := ⟨by omega, by omega, by omega, by omega, fun b o e hm => by have := hkb b o e hm; omega⟩
    have hkeep : ∀ {size n : Nat} {A : Option Addr} {xs : List Value}, Reads w2 size A n xs → (∀ b o, A = some ⟨b, o, none⟩ → 0 < n → b ≠ w.heap.size + 1 + 1) → Reads (((w2.alloc (.cells #[.slice B.A B.n B.c, .slice B.A' B.n' B.c', .int .i64 B.bend, .slice B.K B.m B.d, .slice (some ⟨g, 0, none⟩) B.n cap, .slice (some ⟨g', 0, none⟩) B.n cap'] 106)).setCell ⟨w.heap.size + 1 + 1, 0, none⟩ (.int .i64 (-1))).alloc (.cells #[.slice B.K B.m B.d] 23)) size A n xs := by
      intro size n A xs h hA
      refine Reads.keepBy h fun b o e hn hb => ⟨by rw [hz0]; omega, ?_⟩
      exact ((Below.heap_alloc _ _ b (by simp [World.setCell]; omega)).trans (Below.heap_setCell _ _ _ b (hA b o e hn))).trans (Below.heap_alloc _ _ b hb)
    have hPE : PE B s (w.heap.size + 1) w2.heap.size g cap g' cap' (((w2.alloc (.cells #[.slice B.A B.n B.c, .slice B.A' B.n' B.c', .int .i64 B.bend, .slice B.K B.m B.d, .slice (some ⟨g, 0, none⟩) B.n cap, .slice (some ⟨g', 0, none⟩) B.n cap'] 106)).setCell ⟨w.heap.size + 1 + 1, 0, none⟩ (.int .i64 (-1))).alloc (.cells #[.slice B.K B.m B.d] 23)) :=
      ⟨((Blk.new w2 _ _ rfl).far (p := ⟨w.heap.size + 1 + 1, 0, none⟩) (by show w2.heap.size ≠ w.heap.size + 1 + 1; omega) _).alloc _, ((S2.out.alloc _).far (p := ⟨w.heap.size + 1 + 1, 0, none⟩) (by show w.heap.size + 1 ≠ w.heap.size + 1 + 1; omega) _).alloc _,
        hkeep hP.out (fun b o e _ => by cases e; omega), hkeep hP'.out (fun b o e _ => by cases e; omega), hkeep (HK.out.below B2.out).hk (fun b o e hm => by have := hkb b o e hm; omega)⟩
    have hPI : PI B s (w.heap.size + 1 + 1) (((w2.alloc (.cells #[.slice B.A B.n B.c, .slice B.A' B.n' B.c', .int .i64 B.bend, .slice B.K B.m B.d, .slice (some ⟨g, 0, none⟩) B.n cap, .slice (some ⟨g', 0, none⟩) B.n cap'] 106)).setCell ⟨w.heap.size + 1 + 1, 0, none⟩ (.int .i64 (-1))).alloc (.cells #[.slice B.K B.m B.d] 23)) [] (((w2.alloc (.cells #[.slice B.A B.n B.c, .slice B.A' B.n' B.c', .int .i64 B.bend, .slice B.K B.m B.d, .slice (some ⟨g, 0, none⟩) B.n cap, .slice (some ⟨g', 0, none⟩) B.n cap'] 106)).setCell ⟨w.heap.size + 1 + 1, 0, none⟩ (.int .i64 (-1))).alloc (.cells #[.slice B.K B.m B.d] 23)) :=
      ⟨Save.refl _ _, (Boxed.set (t := 3) _ (N2.out.alloc _)).alloc _, .slice none 0 0, (Boxed.other (t := 44) (M2.out.alloc _) (by omega) _).alloc _, World.ownsRow_nil _ _ _ _⟩
    have hc1 : ((((w2.alloc (.cells #[.slice B.A B.n B.c, .slice B.A' B.n' B.c', .int .i64 B.bend, .slice B.K B.m B.d, .slice (some ⟨g, 0, none⟩) B.n cap, .slice (some ⟨g', 0, none⟩) B.n cap'] 106)).setCell ⟨w.heap.size + 1 + 1, 0, none⟩ (.int .i64 (-1))).alloc (.cells #[.slice B.K B.m B.d] 23))).cell? ⟨w2.heap.size + 1, 0, none⟩ = some (.slice B.K B.m B.d) := by
      have h := Boxed.new ((w2.alloc (.cells #[.slice B.A B.n B.c, .slice B.A' B.n' B.c', .int .i64 B.bend, .slice B.K B.m B.d, .slice (some ⟨g, 0, none⟩) B.n cap, .slice (some ⟨g', 0, none⟩) B.n cap'] 106)).setCell ⟨w.heap.size + 1 + 1, 0, none⟩ (.int .i64 (-1))) 23 (.slice B.K B.m B.d)
      have e : ((w2.alloc (.cells #[.slice B.A B.n B.c, .slice B.A' B.n' B.c', .int .i64 B.bend, .slice B.K B.m B.d, .slice (some ⟨g, 0, none⟩) B.n cap, .slice (some ⟨g', 0, none⟩) B.n cap'] 106)).setCell ⟨w.heap.size + 1 + 1, 0, none⟩ (.int .i64 (-1))).heap.size = w2.heap.size + 1 := by simp [World.setCell]
      rw [e] at h
      exact h.cell
    have hOK := Hok.out.2.1
    have hCR := err_cracks Hok.out.1
    have hcb : ∀ k, k < B.m → 0 ≤ (B.cr.getD k Crack.zero).cl ∧ (B.cr.getD k Crack.zero).cl ≤ 1000 ∧ 0 ≤ (B.cr.getD k Crack.zero).ch ∧ (B.cr.getD k Crack.zero).ch ≤ 1000 := fun k hk => by
      have hl : k < B.cr.length := by rw [hPE.ck.len]; exact hk
      have h := crackOk_in (hCR _ (List.getElem_mem hl))
      have e : B.cr.getD k Crack.zero = B.cr[k] := by simp [List.getD, hl]
      rw [e]
      have := hOK.n2
      omega
    generalize hW0 : (((w2.alloc (.cells #[.slice B.A B.n B.c, .slice B.A' B.n' B.c', .int .i64 B.bend, .slice B.K B.m B.d, .slice (some ⟨g, 0, none⟩) B.n cap, .slice (some ⟨g', 0, none⟩) B.n cap'] 106)).setCell ⟨w.heap.size + 1 + 1, 0, none⟩ (.int .i64 (-1))).alloc (.cells #[.slice B.K B.m B.d] 23)) = W0 at *
    clear hW0
    have HPE := Lib.hid hPE
    have HPI := Lib.hid hPI
    have HAP := Lib.hid hAP
    have HZ0 := Lib.hid hz0
    have HOK := Lib.hid hOK
    have HTO := cracks_told Fence.wide rfl 8 trivial trivial rfl w.heap.size (w2.heap.size + 1) B.m B.d B.K B.cr W0 (by have := hOK.m4; omega) hcb (by omega) hc1 hPE.ck (fun b o e hm => by have := hkb b o e hm; omega)
    have HBB := Lib.hid (fun xs => best_bounds hOK Hok.out.2.2 hCR xs)
    have HCI := Lib.hid (fun x => countL_in x B.n hOK.n2)
    have HPO := Lib.hid (possTo_in B s hOK.n2)
    have q1 : w.heap.size + 1 + 1 + 1 < W0.heap.size := by omega
    have HQ2 : Hid (w.heap.size + 1 + 1 + 1 < w2.heap.size) := by unfold Hid; omega
    clear hz0 hPE hPI hAP hOK hcb hc1 hkeep hkb n2 f2 N2 M2 S2 hP hP' HK L2 hl2 hg1 HG S0 N0 M0
    refine (wpIn_wide (n := 9)).1 ?_
    refine wpIn_range_told (F := Fence.wide) (n := 9) rfl (by omega) (gf := 105) (lb := #[.pointer (some ⟨w2.heap.size + 1, 0, none⟩)]) rfl trivial (enters_of Try.func105 (by kernel_rfl) rfl)
      HTO (fun x W r r' _ ht => ht.put r') KI.trans (fun W r r' _ => KI.put r' (by have := HZ0.out; have := E3.out.size; omega) (by have := HZ0.out; omega)) (fun _ => rfl)
      (PI B s (w.heap.size + 1 + 1) W0) (fun _ _ _ => False) (fun pre W W' row h hg hr => h.grown q1 hg (fun r e => ⟨(hr r e).1, .inr (hr r e).2⟩)) (fun _ _ _ _ _ h _ _ => h)
      (fun pre W W' row h hg hr => h.grown q1 hg (fun r e => by have := hr r e; exact ⟨by omega, .inl (by omega)⟩)) HPI.out (fun _ => ?act) ?assign ?body ?done ?stop
    case assign =>
      intro l x W K hK
      gi_wp2
      exact hK
    case stop => intro D c pre W _ _ h; exact h.elim
    case body =>
      rintro l pre x W hz hI ht
      have HE := Lib.hid (HPE.out.save hI.sv HAP.out)
      have HI := Lib.hid hI
      obtain ⟨hxl, hrow, hz6, -⟩ := ht
      have HX : Hid (Ints W (some ⟨W0.heap.size + 2 + 1, 0, none⟩) B.m x) := by have h := ints_of_row hrow; rw [range_getD_self x B.m hxl] at h; exact h
      have HXL := Lib.hid hxl
      have HZ6 := Lib.hid hz6
      have e7 := HE.out.bc.cell
      have s7 := HE.out.bs.cell
      have HBT := Lib.hid (best_top B s g cap g' cap' B.m (some ⟨W0.heap.size + 2 + 1, 0, none⟩) x W HOK.out HE.out.pa HE.out.pb HE.out.ck HX.out)
      unfold Bl.curved Sw.val at HBT
      clear hI hxl hrow hz6
      gi_wp2_with fail
      refine ⟨trivial, ?_⟩
      refine (CallsIn.inRound l (callsIn_wide.2 HBT.out)).mono ?_
      rintro e W1 ⟨hb1, b, o, b', o', c, c', K, d, rfl, hs, hc, hc', hm⟩
      have B1 := Lib.hid hb1
      have HCT := Lib.hid (count_top B (B.bestX s x) b o b' o' c c' K B.m d W1 HOK.out (HBB.out x) HOK.out.m4 hs hc hc' hm)
      clear hb1 hs hc hc' hm HBT e7 s7
      gi_wp2_with fail
      refine ⟨trivial, ?_⟩
      refine (CallsIn.inRound l (callsIn_wide.2 HCT.out)).mono ?_
      rintro e W2 ⟨rfl, hb2⟩
      have B2' := Lib.hid (below_then B1.out hb2)
      have cA := (blk_keep B2'.out HI.out.cA : Boxed _ _ _ _).cell
      have fA := (blk_keep B2'.out HI.out.cA : Boxed _ _ _ _).frozen
      clear hb2 HCT B1
      have HX2 := Lib.hid (HX.out.below B2'.out)
      have hxb : W0.heap.size + 2 + 1 < W2.heap.size := by have := B2'.out.size; have := HZ6.out; omega
      have hi1 := HCI.out (B.bestX s x)
      have hi2 := HPO.out pre
      have HT := Lib.hid (fun (W3 : World) (v : Value) (hb : Below W.heap.size W W3) (ho : W3.ownsRow W2.heap.size 3 1 v x.length (x.map (Value.int .i64))) hn => PI.took q1 HI.out hb ho (by have := B2'.out.size; have := HZ6.out; omega) hn)
      have HL := Lib.hid (PI.left HI.out B2'.out (x := x))
      have HA2 : Hid (Boxed W2 (w.heap.size + 1 + 1) 3 (.int .i64 (possTo B s pre).1)) := blk_keep B2'.out HI.out.cA
      have HU : Hid (∃ u, Boxed W2 (w.heap.size + 1 + 1 + 1) 44 u) := by obtain ⟨u, hu, _⟩ := HI.out.cB; exact ⟨u, blk_keep B2'.out hu⟩
      by_cases hlt : (possTo B s pre).1 < countL (B.bestX s x) B.n
      · have HN := Lib.hid hlt
        have HCL := Lib.hid (cloneInts_any (W0.heap.size + 2 + 1) 0 B.m B.m x W2 HX2.out hxb (by have := HOK.out.m4; omega))
        generalize (possTo B s pre).1 = a1 at *
        generalize countL (B.bestX s x) B.n = n1 at *
        gi_wp2_with fail
        refine ⟨trivial, ?_⟩
        refine (CallsIn.inRound l (callsIn_wide.2 HCL.out)).mono ?_
        rintro e W3 ⟨v, rfl, hown, hb3⟩
        obtain ⟨VA, vc, rfl⟩ := own_slice hown
        have HO := Lib.hid hown
        have B3 := Lib.hid (below_then B2'.out hb3)
        obtain ⟨u, hu⟩ := HU.out
        have hu3 : Boxed W3 (w.heap.size + 1 + 1 + 1) 44 u := blk_keep hb3 hu
        have hA3 : Boxed W3 (w.heap.size + 1 + 1) 3 (.int .i64 a1) := blk_keep hb3 HA2.out
        have c3 := hA3.cell
        have f3 := hA3.frozen
        have c4 := hu3.cell
        have f4 := hu3.frozen
        clear hown hb3 hu hu3 hA3 cA fA HCL
        gi_wp2_with fail
        have HW := Lib.hid (HT.out W3 _ B3.out (by rw [HXL.out]; exact HO.out) HN.out)
        exact ⟨(KeepsFrom.of_below B3.out).trans (((KeepsOthers.setCell _ _ _).from _).trans ((KeepsOthers.setCell _ _ _).from _)),
          (KI.of_below B3.out).trans ((KI.set _ _ (by show w.heap.size ≤ w.heap.size + 1 + 1; omega) (by show w.heap.size + 1 + 1 ≠ w2.heap.size + 1; have := HQ2.out; omega) (by show w.heap.size + 1 + 1 < W0.heap.size + 2; omega)).trans
            (KI.set _ _ (by show w.heap.size ≤ w.heap.size + 1 + 1 + 1; omega) (by show w.heap.size + 1 + 1 + 1 ≠ w2.heap.size + 1; have := HQ2.out; omega) (by show w.heap.size + 1 + 1 + 1 < W0.heap.size + 2; omega))), HW.out⟩
      · have HN := Lib.hid hlt
        have hle : countL (B.bestX s x) B.n ≤ (possTo B s pre).1 := by omega
        generalize (possTo B s pre).1 = a1 at *
        generalize countL (B.bestX s x) B.n = n1 at *
        clear hlt
        gi_wp2_with fail
        exact ⟨KeepsFrom.of_below B2'.out, KI.of_below B2'.out, HL.out HN.out⟩
    case done =>
      rintro D xs W hD rfl hI hK
      have HI := Lib.hid hI
      have cA := hI.cA.cell
      have fA := hI.cA.frozen
      obtain ⟨v, hv, ho⟩ := hI.cB
      obtain ⟨VA, vc, rfl⟩ := own_slice ho
      have HV := Lib.hid hv
      have HO := Lib.hid ho
      have cB := hv.cell
      have fB := hv.frozen
      have HK := Lib.hid hK
      clear hI hv ho hK
      go_wp2_with fail
      go_region
      all_goals go_wp2
      have hp : w.heap.size + 1 + 1 ≠ D ∧ w.heap.size + 1 + 1 + 1 ≠ D := by omega
      have hne : (Value.slice VA (possTo B s (colsFrom B.cr [])).2.length vc).ownBlock ≠ some (w.heap.size + 1 + 1) ∧ (Value.slice VA (possTo B s (colsFrom B.cr [])).2.length vc).ownBlock ≠ some (w.heap.size + 1 + 1 + 1) := by
        constructor
        · intro e'; have := HO.out.lt _ e'; omega
        · intro e'; have := HO.out.lt _ e'; omega
      have hb1 : Below w.heap.size w W := ⟨HI.out.sv.os.trans E3.out.os, HI.out.sv.tape.trans E3.out.tape, HI.out.sv.output.trans E3.out.output, Nat.le_trans E3.out.size HI.out.sv.size, fun k hk => (HI.out.sv.block k (by omega) (by omega) (by omega)).trans (E3.out.block k hk)⟩
      have hA : Boxed _ (w.heap.size + 1 + 1) 3 _ := Boxed.other (B' := w.heap.size + 1 + 1 + 1) (HI.out.cA.set (.int .i64 (possTo B s (colsFrom B.cr [])).1)) (by omega) (.slice VA (possTo B s (colsFrom B.cr [])).2.length vc)
      have hB : Boxed _ (w.heap.size + 1 + 1 + 1) 44 _ := Boxed.set (.slice VA (possTo B s (colsFrom B.cr [])).2.length vc) (Boxed.other (B' := w.heap.size + 1 + 1) HV.out (by omega) (.int .i64 (possTo B s (colsFrom B.cr [])).1))
      have hO := (HO.out.kept (grownBy_set W ⟨w.heap.size + 1 + 1, 0, none⟩ (.int .i64 (possTo B s (colsFrom B.cr [])).1)) (.inr hne.1)).kept (grownBy_set _ ⟨w.heap.size + 1 + 1 + 1, 0, none⟩ (.slice VA (possTo B s (colsFrom B.cr [])).2.length vc)) (.inr hne.2)
      have hb2 := ((hb1.setCell (p := ⟨w.heap.size + 1 + 1, 0, none⟩) (by show w.heap.size ≤ w.heap.size + 1 + 1; omega) (.int .i64 (possTo B s (colsFrom B.cr [])).1)).setCell (p := ⟨w.heap.size + 1 + 1 + 1, 0, none⟩) (by show w.heap.size ≤ w.heap.size + 1 + 1 + 1; omega) (.slice VA (possTo B s (colsFrom B.cr [])).2.length vc)).drew
      have hKf := ((Below.heap_setCell _ ⟨w.heap.size + 1 + 1 + 1, 0, none⟩ (.slice VA (possTo B s (colsFrom B.cr [])).2.length vc) D (Ne.symm hp.2)).trans (Below.heap_setCell W ⟨w.heap.size + 1 + 1, 0, none⟩ (.int .i64 (possTo B s (colsFrom B.cr [])).1) D (Ne.symm hp.1))).trans HK.out
      generalize hWf : (W.setCell ⟨w.heap.size + 1 + 1, 0, none⟩ (.int .i64 (possTo B s (colsFrom B.cr [])).1)).setCell ⟨w.heap.size + 1 + 1 + 1, 0, none⟩ (.slice VA (possTo B s (colsFrom B.cr [])).2.length vc) = Wf at *
      have hKd : Wf.drew.heap[D]? = some (.deferred (some [])) := hKf
      refine ⟨by simp, .inl ⟨D, _, rfl, run_takeDeferred hKd, ?_⟩⟩
      refine ⟨_, results_cct rfl _ _ _ (w.heap.size + 1 + 1) (w.heap.size + 1 + 1 + 1) _ _ _ rfl (run_loadVar_cell Try.underlying3 rfl (Boxed.kept (show Boxed Wf.drew _ _ _ from hA) (grownBy_putObj' _ D (.deferred none)) (fun e => hp.1 (Option.some.inj e))).cell) rfl (run_loadVar_cell Try.underlying44 rfl (Boxed.kept (show Boxed Wf.drew _ _ _ from hB) (grownBy_putObj' _ D (.deferred none)) (fun e => hp.2 (Option.some.inj e))).cell) rfl, ?_, .inr ⟨Hok0.out, _, rfl, ?_⟩⟩
      · exact hb2.trans (belowK_b (w := w) (Nat.le_refl _) Wf.drew D _ (.deferred none) (by omega) hKd rfl rfl)
      · exact own_base (ownsRow_putObj (show Wf.drew.ownsRow _ _ _ _ _ _ from hO) (.deferred none) hKd rfl) (by have := E3.out.size; omega)
end Go.Proofs.Ytiflhimmieflpaa
