/- Two guards with the curve of one blade: pure facts, and what the law's loop holds. -/
import Derived.Test.YtllioljphpgfhaaHA
import Derived.Test.YtllioljphpgfhaaTM2
import Derived.Test.YtllioljphpgfhaaFKk
namespace Go.Proofs.Ytllioljphpgfhaa
open Go Go.RowKit

theorem toTooth {w : World} {A : Option Addr} {n : Nat} {xs : List (Int × Int)} (h : Pairs w A n xs) : Tooth.Pairs w A n xs := h
theorem ofTooth {w : World} {A : Option Addr} {n : Nat} {xs : List (Int × Int)} (h : Tooth.Pairs w A n xs) : Pairs w A n xs := h
theorem getD_at {xs : List (Int × Int)} {k : Nat} (hk : k < xs.length) : xs.getD k (0, 0) = xs[k] := by simp [List.getD, hk]
theorem inR_at {xs : List (Int × Int)} (h : ∀ s ∈ xs, Tooth.InR s) {k : Nat} (hk : k < xs.length) : Tooth.InR (xs.getD k (0, 0)) := by rw [getD_at hk]; exact h _ (List.getElem_mem hk)
theorem fw300 {xs : List (Int × Int)} (h : ∀ s ∈ xs, Tooth.InR s) (k : Nat) (hk : k < xs.length) : Tooth.fw xs 300 k = xs.getD k (0, 0) := by
  cases k with
  | zero => rfl
  | succ k =>
    have a := Tooth.fw_in (bend := 300) h (by decide) k (by omega)
    have b := inR_at h hk
    rw [Tooth.fw_succ]
    unfold Tooth.InR at a b
    apply Prod.ext <;> simp only <;> omega
theorem bw300 {xs : List (Int × Int)} (h : ∀ s ∈ xs, Tooth.InR s) (j : Nat) (hj : j < xs.length) : Tooth.bw xs 300 xs.length j = xs.getD (xs.length - 1 - j) (0, 0) := by
  cases j with
  | zero => rw [Tooth.bw_zero, fw300 h _ (by omega)]; rfl
  | succ j =>
    have a := Tooth.bw_in (bend := 300) h (by decide) j (by omega)
    have b := inR_at h (show xs.length - 1 - (j + 1) < xs.length by omega)
    rw [Tooth.bw_succ, fw300 h _ (by omega)]
    unfold Tooth.InR at a b
    apply Prod.ext <;> simp only <;> omega
theorem bent300 {xs : List (Int × Int)} (h : ∀ s ∈ xs, Tooth.InR s) : Tooth.bentL xs 300 = xs := by
  apply List.ext_getElem (Tooth.bentL_length xs 300)
  intro i h1 h2
  have e := Tooth.bentL_getD xs 300 i h2
  rw [bw300 h _ (by omega), show xs.length - 1 - (xs.length - 1 - i) = i by omega, getD_at h1, getD_at h2] at e
  exact e
theorem bentOk300 {xs : List (Int × Int)} (h : ∀ s ∈ xs, Tooth.InR s) (hs : ∀ s ∈ xs, s.1 ≤ s.2) : Tooth.bentOk xs 300 = true := by
  unfold Tooth.bentOk Tooth.fwOk
  rw [List.all_eq_true]
  intro k hk
  have hk := List.mem_range.1 hk
  rw [fw300 h k hk, getD_at hk]
  exact decide_eq_true (hs _ (List.getElem_mem hk))
/-- Where the edge is at a mark. -/
def atC (off : Int) (xs : List Int) (k : Nat) : Int := off + (if k < xs.length then (xs.getD k 0).tmod 100 else 0)
def asC (off : Int) (xs : List Int) (k : Nat) : List Int := (List.range k).map (atC off xs)
def bsC (off : Int) (xs : List Int) (k : Nat) : List (Int × Int) := (List.range k).map fun i => (atC off xs i - off, atC off xs i + off)
theorem asC_succ (off : Int) (xs : List Int) (k : Nat) : asC off xs (k + 1) = asC off xs k ++ [atC off xs k] := by simp [asC, List.range_succ]
theorem bsC_succ (off : Int) (xs : List Int) (k : Nat) : bsC off xs (k + 1) = bsC off xs k ++ [(atC off xs k - off, atC off xs k + off)] := by simp [bsC, List.range_succ]
theorem atC_bd {off : Int} {xs : List Int} (hx : ∀ x ∈ xs, Byte x) (k : Nat) : off ≤ atC off xs k ∧ atC off xs k ≤ off + 99 := by
  unfold atC
  split
  · rename_i hk
    have : xs.getD k 0 = xs[k] := by simp [List.getD, hk]
    rw [this]
    have hb := hx _ (List.getElem_mem hk)
    unfold Byte at hb
    rw [Int.tmod_eq_emod_of_nonneg hb.1]
    omega
  · omega
theorem bsC_in {off : Int} {xs : List Int} (h0 : 0 ≤ off) (h7 : off ≤ 7) (hx : ∀ x ∈ xs, Byte x) (k : Nat) : ∀ s ∈ bsC off xs k, (0 ≤ s.1 ∧ s.1 ≤ s.2) ∧ s.2 ≤ 113 := by
  intro s hs
  obtain ⟨i, _, rfl⟩ := List.mem_map.1 hs
  have := atC_bd (off := off) hx i
  simp only
  omega
theorem flat2_snoc (xs : List (Int × Int)) (s : Int × Int) : flat2 xs ++ [.int .i64 s.1, .int .i64 s.2] = flat2 (xs ++ [s]) := by simp [flat2]
def tsC (k : Nat) : List (Int × Int) := List.replicate k (200, 200)
theorem tsC_succ (k : Nat) : tsC (k + 1) = tsC k ++ [(200, 200)] := by unfold tsC; rw [List.replicate_succ', ]
theorem validS_of {lo hi : Int} {xs : List (Int × Int)} (h : ∀ s ∈ xs, s.1 ≤ s.2 ∧ lo ≤ s.1 ∧ s.2 ≤ hi) : Tooth.validS lo hi xs = true := by
  unfold Tooth.validS
  rw [List.all_eq_true]
  intro s hs
  have := h s hs
  simp only [Bool.and_eq_true, decide_eq_true_eq]
  omega

theorem bsC_len (off : Int) (xs : List Int) (k : Nat) : (bsC off xs k).length = k := by simp [bsC]
theorem asC_len (off : Int) (xs : List Int) (k : Nat) : (asC off xs k).length = k := by simp [asC]
theorem tsC_len (k : Nat) : (tsC k).length = k := by simp [tsC]
theorem tooth_err {off : Int} {xs : List Int} (h0 : 0 ≤ off) (h7 : off ≤ 7) (hx : ∀ x ∈ xs, Byte x) {n : Nat} (h1 : 1 ≤ n) (h4 : n ≤ 4) : Tooth.curveErr n n 0 300 (bsC off xs n) (tsC n) [] = 0 ∧ Tooth.bentL (bsC off xs n) 300 = bsC off xs n := by
  have hb := bsC_in h0 h7 hx n
  have ht : ∀ s ∈ tsC n, s = (200, 200) := fun s hs => List.eq_of_mem_replicate hs
  have rb : ∀ s ∈ bsC off xs n, Tooth.InR s := fun s hs => by have := hb s hs; unfold Tooth.InR; omega
  have rt : ∀ s ∈ tsC n, Tooth.InR s := fun s hs => by rw [ht s hs]; unfold Tooth.InR; decide
  refine ⟨?_, bent300 rb⟩
  have w0 : ∀ lo hi : Int, Tooth.within lo hi [] = true := fun _ _ => rfl
  have w1 : Tooth.within 1 30 [(n : Int)] = true := by simp [Tooth.within]; omega
  have e1 : Tooth.edgesOk 300 (bsC off xs n) (tsC n) = true := by
    unfold Tooth.edgesOk
    rw [validS_of (fun s hs => by have := hb s hs; omega), validS_of (fun s hs => by rw [ht s hs]; decide)]
    rw [show Tooth.within 0 300 [300] = true from by decide, bsC_len]
    simp only [Bool.true_and]
    unfold Tooth.below2
    rw [List.all_eq_true]
    intro j hj
    have hj := List.mem_range.1 hj
    have a := hb _ (by rw [getD_at (show j < (bsC off xs n).length by rw [bsC_len]; exact hj)]; exact List.getElem_mem _ : (bsC off xs n).getD j (0, 0) ∈ bsC off xs n)
    have b := ht _ (by rw [getD_at (show j < (tsC n).length by rw [tsC_len]; exact hj)]; exact List.getElem_mem _ : (tsC n).getD j (0, 0) ∈ tsC n)
    rw [b]
    exact decide_eq_true (by simp only; omega)
  unfold Tooth.curveErr
  rw [if_neg (by simp), w1, e1, bentOk300 rb (fun s hs => by have := hb s hs; omega), bentOk300 rt (fun s hs => by rw [ht s hs]; decide)]
  simp
theorem okTo_same (xs : List Int) (lim : Int) {n : Nat} (h : 1 ≤ n) : okTo xs xs lim n = decide (0 ≤ lim) := by
  have e : ∀ i, decide (apartI (xs.getD i 0) (xs.getD i 0) ≤ lim) = decide (0 ≤ lim) := fun i => by
    unfold apartI
    exact decide_eq_decide.2 (by omega)
  unfold okTo
  simp only [e]
  by_cases hl : 0 ≤ lim
  · rw [decide_eq_true hl]; simp
  · rw [decide_eq_false hl]
    rw [List.all_eq_false]
    exact ⟨0, List.mem_range.2 (by omega), by simp⟩
theorem alike_same {off cu : Int} {xs : List Int} (h0 : 0 ≤ off) (h7 : off ≤ 7) (hx : ∀ x ∈ xs, Byte x) (hc : 0 ≤ cu ∧ cu ≤ 19) {n : Nat} (h1 : 1 ≤ n) (h4 : n ≤ 4) (A B : Option Addr) (c d : Nat) :
    alikeR ⟨50, A, n, c, asC off xs n⟩ ⟨50, B, n, d, asC off xs n⟩ ⟨0, off, 0, cu⟩ (-2) = decide (2 * off ≤ cu) ∧ alikeR ⟨50, A, n, c, asC off xs n⟩ ⟨50, B, n, d, asC off xs n⟩ ⟨0, off, 0, cu⟩ 2 = true ∧
    guardsErr [⟨50, A, n, c, asC off xs n⟩, ⟨50, B, n, d, asC off xs n⟩] ⟨0, off, 0, cu⟩ = 0 := by
  have ha : ∀ x ∈ asC off xs n, 0 ≤ x ∧ x ≤ 500 := fun x hm => by
    obtain ⟨i, _, rfl⟩ := List.mem_map.1 hm
    have := atC_bd (off := off) hx i
    omega
  have e : guardsErr [⟨50, A, n, c, asC off xs n⟩, ⟨50, B, n, d, asC off xs n⟩] ⟨0, off, 0, cu⟩ = 0 :=
    guards_ok ⟨by simp only; omega, ha⟩ ⟨by simp only; omega, ha⟩ rfl h1 h4 (by simp only; omega)
  refine ⟨?_, ?_, e⟩
  · unfold alikeR
    rw [if_pos e]
    show (okTo (asC off xs n) (asC off xs n) (cu + -2 * off) n && decide (apartI 50 50 ≤ 0 + -2 * 0)) = _
    rw [okTo_same _ _ h1, show decide (apartI 50 50 ≤ 0 + -2 * 0) = true from by decide, Bool.and_true]
    exact decide_eq_decide.2 (by omega)
  · unfold alikeR
    rw [if_pos e]
    show (okTo (asC off xs n) (asC off xs n) (cu + 2 * off) n && decide (apartI 50 50 ≤ 0 + 2 * 0)) = _
    rw [okTo_same _ _ h1, show decide (apartI 50 50 ≤ 0 + 2 * 0) = true from by decide, Bool.and_true]
    exact decide_eq_true (by omega)
theorem own_cellA {w : World} {base : Nat} {e t : TypeId} {size n g i : Nat} {v : Value} {xs : List Value} {cs : Array Value} (h : w.ownsRow base e size v n xs) (hg : Blk w g t cs) (hne : e ≠ t) (u : Value) : (w.setCell ⟨g, i, none⟩ u).ownsRow base e size v n xs := by
  have hb0 := own_blk_ne h hg hne
  obtain ⟨hl, ⟨hv, hx⟩ | ⟨g', cap', cur, hv, hbase, hb, h1, h2, h3, h4⟩⟩ := h
  · exact ⟨hl, .inl ⟨hv, hx⟩⟩
  · refine ⟨hl, .inr ⟨g', cap', cur, hv, hbase, ?_, h1, h2, h3, h4⟩⟩
    refine Blk.far (p := ⟨g, i, none⟩) (show Blk w g' e cur from hb) (fun e' => hb0 ?_) u
    subst hv e'
    rfl
theorem own_apartA {w : World} {b b' size size' n n' : Nat} {e e' : TypeId} {v v' : Value} {xs xs' : List Value} (h : w.ownsRow b e size v n xs) (h' : w.ownsRow b' e' size' v' n' xs') (hne : e ≠ e') : v.ownBlock = none ∨ v.ownBlock ≠ v'.ownBlock := by
  rcases h.2 with ⟨rfl, _⟩ | ⟨g, cap, cur, rfl, _, hh, _⟩
  · exact .inl rfl
  · refine .inr fun he => ?_
    rcases h'.2 with ⟨rfl, _⟩ | ⟨g', cap', cur', rfl, _, hh', _⟩
    · simp [Value.ownBlock] at he
    · have : g = g' := by simpa [Value.ownBlock] using he
      subst this
      rw [hh] at hh'
      simp only [Option.some.injEq, Obj.cells.injEq] at hh'
      exact hne hh'.2.1
/-- What the loop holds: the blade's and the guard's box, and their three lists. -/
structure CG (w W : World) (g gx : Nat) (cb cx : Array Value) (v1 : Value) (n1 : Nat) (L1 : List Value) (v2 : Value) (n2 : Nat) (L2 : List Value) (v3 : Value) (n3 : Nat) (L3 : List Value) : Prop where
  bel : Below w.heap.size w W
  gl : w.heap.size ≤ g
  gxl : w.heap.size ≤ gx
  bx : Blk W g 30 cb
  xx : Blk W gx 33 cx
  o1 : W.ownsRow w.heap.size 36 2 v1 n1 L1
  o2 : W.ownsRow w.heap.size 36 2 v2 n2 L2
  o3 : W.ownsRow w.heap.size 3 1 v3 n3 L3
  sep : v1.ownBlock = none ∨ v2.ownBlock = none ∨ v1.ownBlock ≠ v2.ownBlock
section
variable {w W W' : World} {g gx : Nat} {cb cx : Array Value} {v1 v2 v3 v' : Value} {n1 n2 n3 n' : Nat} {L1 L2 L3 L' : List Value}
theorem CG.ne (h : CG w W g gx cb cx v1 n1 L1 v2 n2 L2 v3 n3 L3) : g ≠ gx := fun e => by
  have a := h.bx
  have b := h.xx
  rw [e] at a
  unfold Blk at a b
  rw [a] at b
  simp only [Option.some.injEq, Obj.cells.injEq] at b
  exact absurd b.2.1 (by decide)
theorem CG.below (h : CG w W g gx cb cx v1 n1 L1 v2 n2 L2 v3 n3 L3) (hb : Below W.heap.size W W') : CG w W' g gx cb cx v1 n1 L1 v2 n2 L2 v3 n3 L3 :=
  ⟨below_then h.bel hb, h.gl, h.gxl, blk_keep hb h.bx, blk_keep hb h.xx, ownsRow_below h.o1 hb, ownsRow_below h.o2 hb, ownsRow_below h.o3 hb, h.sep⟩
theorem CG.app1 (h : CG w W g gx cb cx v1 n1 L1 v2 n2 L2 v3 n3 L3) (hown : W'.ownsRow w.heap.size 36 2 v' n' L') (hg : W.grownBy W' v1.ownBlock) (hat : v'.ownBlock = v1.ownBlock ∨ v'.ownBlock = some W.heap.size) : CG w W' g gx cb cx v' n' L' v2 n2 L2 v3 n3 L3 :=
  ⟨h.bel.grown hg h.bel.size (fun k e => (h.o1.lt k e.symm.symm).1), h.gl, h.gxl, h.bx.grown hg (own_blk_ne h.o1 h.bx (by decide)), h.xx.grown hg (own_blk_ne h.o1 h.xx (by decide)), hown,
    h.o2.kept hg (by
      rcases h.sep with e | e | e
      · rw [e]; cases v2.ownBlock <;> simp
      · exact .inl e
      · exact .inr (fun e2 => e e2.symm)),
    h.o3.kept hg (by
      rcases own_apartA h.o3 h.o1 (by decide) with e | e
      · exact .inl e
      · exact .inr e), by
    rcases hat with e | e
    · rw [e]; exact h.sep
    · refine .inr (.inr fun e2 => ?_)
      have := h.o2.lt W.heap.size (by rw [← e2, e])
      omega⟩
theorem CG.app2 (h : CG w W g gx cb cx v1 n1 L1 v2 n2 L2 v3 n3 L3) (hown : W'.ownsRow w.heap.size 36 2 v' n' L') (hg : W.grownBy W' v2.ownBlock) (hat : v'.ownBlock = v2.ownBlock ∨ v'.ownBlock = some W.heap.size) : CG w W' g gx cb cx v1 n1 L1 v' n' L' v3 n3 L3 :=
  ⟨h.bel.grown hg h.bel.size (fun k e => (h.o2.lt k e.symm.symm).1), h.gl, h.gxl, h.bx.grown hg (own_blk_ne h.o2 h.bx (by decide)), h.xx.grown hg (own_blk_ne h.o2 h.xx (by decide)),
    h.o1.kept hg (by
      rcases h.sep with e | e | e
      · exact .inl e
      · rw [e]; cases v1.ownBlock <;> simp
      · exact .inr e), hown,
    h.o3.kept hg (by
      rcases own_apartA h.o3 h.o2 (by decide) with e | e
      · exact .inl e
      · exact .inr e), by
    rcases hat with e | e
    · rw [e]; exact h.sep
    · refine .inr (.inr fun e2 => ?_)
      have := h.o1.lt W.heap.size (by rw [e2, e])
      omega⟩
theorem CG.app3 (h : CG w W g gx cb cx v1 n1 L1 v2 n2 L2 v3 n3 L3) (hown : W'.ownsRow w.heap.size 3 1 v' n' L') (hg : W.grownBy W' v3.ownBlock) : CG w W' g gx cb cx v1 n1 L1 v2 n2 L2 v' n' L' :=
  ⟨h.bel.grown hg h.bel.size (fun k e => (h.o3.lt k e.symm.symm).1), h.gl, h.gxl, h.bx.grown hg (own_blk_ne h.o3 h.bx (by decide)), h.xx.grown hg (own_blk_ne h.o3 h.xx (by decide)),
    h.o1.kept hg (by
      rcases own_apartA h.o1 h.o3 (by decide) with e | e
      · exact .inl e
      · exact .inr e),
    h.o2.kept hg (by
      rcases own_apartA h.o2 h.o3 (by decide) with e | e
      · exact .inl e
      · exact .inr e), hown, h.sep⟩
theorem CG.setB (h : CG w W g gx cb cx v1 n1 L1 v2 n2 L2 v3 n3 L3) (i : Nat) (u : Value) : CG w (W.setCell ⟨g, i, none⟩ u) g gx (cb.setIfInBounds i u) cx v1 n1 L1 v2 n2 L2 v3 n3 L3 :=
  ⟨h.bel.setCell (p := ⟨g, i, none⟩) h.gl u, h.gl, h.gxl, h.bx.set_ i u, h.xx.far (p := ⟨g, i, none⟩) (fun e => h.ne e.symm) u, own_cellA h.o1 h.bx (by decide) u, own_cellA h.o2 h.bx (by decide) u, own_cellA h.o3 h.bx (by decide) u, h.sep⟩
theorem CG.setX (h : CG w W g gx cb cx v1 n1 L1 v2 n2 L2 v3 n3 L3) (i : Nat) (u : Value) : CG w (W.setCell ⟨gx, i, none⟩ u) g gx cb (cx.setIfInBounds i u) v1 n1 L1 v2 n2 L2 v3 n3 L3 :=
  ⟨h.bel.setCell (p := ⟨gx, i, none⟩) h.gxl u, h.gl, h.gxl, h.bx.far (p := ⟨gx, i, none⟩) h.ne u, h.xx.set_ i u, own_cellA h.o1 h.xx (by decide) u, own_cellA h.o2 h.xx (by decide) u, own_cellA h.o3 h.xx (by decide) u, h.sep⟩
end
theorem step_append_at {P : Program} {ops : Array Oper} {o : Oper} {a : Act} {w : World} {K : Act → World → Prop} {Q : Exit → Act → World → Prop} {E : Prop}
    (hg : o.guard = none) (s x : Operand) (t : TypeId) (hop : o.op = Op.call { callee := Callee.builtin Builtin.append, args := #[s, x], argTypes := #[t, t] })
    (base : Nat) (e : TypeId) (i : TypeInfo) (z : Value) (size bytes : Nat) (ht : P.underlying t = some (.slice e)) (hi : P.info? e = some i) (hz : i.zero = some z) (hsz : i.size = size) (hby : i.bytes = bytes) (hzs : z.cells.size = size) (h0 : 0 < size)
    (v : Value) (n : Nat) (xs : List Value) (hs : a.eval s = v) (hown : w.ownsRow base e size v n xs) (b : Addr) (m c : Nat) (hx : a.eval x = .slice (some b) m c) (news : List Value) (hl : news.length = m * size) (hnews : ∀ j u, news[j]? = some u → w.cell? (b.add j) = some u) (h1 : ∀ u ∈ news, u.oneCell' = true)
    (h63 : n + m ≤ maxLen) (hb : (n + m) * bytes ≤ 140737488355328) (hbase : base ≤ w.heap.size)
    (hK : ∀ v' w', w'.ownsRow base e size v' (n + m) (xs ++ news) → w.grownBy w' v.ownBlock → (v'.ownBlock = v.ownBlock ∨ v'.ownBlock = some w.heap.size) → K (a.put o.dst v') w') :
    if Region.wanted o (yielded ops a.tmps) = true then Oper.wp P o a w K Q else E := by
  have hw : Region.wanted o (yielded ops a.tmps) = true := by simp [Region.wanted, hg]
  rw [if_pos hw]
  obtain ⟨v', w', hrun, r1, r2, _, r3⟩ := run_append_own_at (P := P) w base t o.type e i z size bytes ht hi hz hsz hby hzs h0 v n xs hown b m c news hl hnews h1 h63 hb hbase
  unfold Oper.wp
  simp [execOp, hop, resolve, invoke, builtin, hs, hx, hrun, Result.andThen]
  exact hK v' w' r1 r2 r3
theorem span_news (w : World) (x y : Int) {g : Nat} (hg : g = w.heap.size) : ∀ j u, [Value.int .i64 x, .int .i64 y][j]? = some u → (w.alloc (.cells #[.int .i64 x, .int .i64 y] 36)).cell? ((⟨g, 0, none⟩ : Addr).add j) = some u := fun j u hu => by
  rw [addr_add, Nat.zero_add, (Blk.new w 36 #[.int .i64 x, .int .i64 y] hg).cell, ← hu]
  simp
end Go.Proofs.Ytllioljphpgfhaa
