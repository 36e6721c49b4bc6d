/- Walks: worst, the walk. -/
import Derived.Test.YtiflhimmieflpaaW9
namespace Go.Proofs.Ytiflhimmieflpaa
open Go.RowKit

def WorstRes (w : World) (n m : Nat) (s : Sawing) (e : Ending) (w' : World) : Prop :=
  Below w.heap.size w w' ∧ ∃ b b' c c' K d, e = .returned (sawVal s b b' n c c' K m d) ∧ SawAt w' s b b' n K m ∧ (n ≤ c ∧ c ≤ maxLen) ∧ (n ≤ c' ∧ c' ≤ maxLen) ∧ b.spot = none ∧ b'.spot = none
abbrev zero7 : Array Value := #[.int .i64 0, .int .i64 0, .int .i64 0, .int .i64 0, .slice none 0 0, .slice none 0 0, .slice none 0 0]

/-- The blocks of worst ahead of its loop. -/
structure WS (w W : World) (cur saw Z : Array Value) : Prop where
  bc : Blk W w.heap.size 106 cur
  bs : Blk W (w.heap.size + 1) 37 saw
  bz : Blk W (w.heap.size + 2) 120 Z
theorem WS.below {w W W' : World} {cur saw Z : Array Value} (h : WS w W cur saw Z) (hb : Below W.heap.size W W') : WS w W' cur saw Z := ⟨h.bc.below hb h.bc.lt, h.bs.below hb h.bs.lt, h.bz.below hb h.bz.lt⟩
theorem WS.alloc {w W : World} {cur saw Z : Array Value} (h : WS w W cur saw Z) (o : Obj) : WS w (W.alloc o) cur saw Z := ⟨h.bc.alloc _, h.bs.alloc _, h.bz.alloc _⟩
theorem WS.set {w W : World} {cur saw Z : Array Value} (h : WS w W cur saw Z) {g : Nat} (hg : w.heap.size + 2 < g) (i : Nat) (u : Value) : WS w (W.setCell ⟨g, i, none⟩ u) cur saw Z :=
  ⟨h.bc.far (p := ⟨g, i, none⟩) (by show w.heap.size ≠ g; omega) u, h.bs.far (p := ⟨g, i, none⟩) (by show w.heap.size + 1 ≠ g; omega) u, h.bz.far (p := ⟨g, i, none⟩) (by show w.heap.size + 2 ≠ g; omega) u⟩
theorem WS.set7 {w W : World} {cur saw Z : Array Value} (h : WS w W cur saw Z) {g : Nat} (hg : w.heap.size + 2 < g) (u0 u1 u2 u3 u4 u5 u6 : Value) :
    WS w (((((((W.setCell ⟨g, 0, none⟩ u0).setCell ⟨g, 1, none⟩ u1).setCell ⟨g, 2, none⟩ u2).setCell ⟨g, 3, none⟩ u3).setCell ⟨g, 4, none⟩ u4).setCell ⟨g, 5, none⟩ u5).setCell ⟨g, 6, none⟩ u6) cur saw Z :=
  ((((((h.set hg 0 _).set hg 1 _).set hg 2 _).set hg 3 _).set hg 4 _).set hg 5 _).set hg 6 _
theorem WS.get {w W : World} {l1 l2 l3 l4 : Int} {a b c d x y : Value} {Z : Array Value} (h : WS w W #[a, b, c, d, x, y] #[.int .i64 l1, .int .i64 l2, .int .i64 l3, .int .i64 l4] Z) : W.cell? ⟨w.heap.size + 1, 0, none⟩ = some (.int .i64 l1) ∧ W.cell? ⟨w.heap.size + 1, 1, none⟩ = some (.int .i64 l2) ∧ W.cell? ⟨w.heap.size + 1, 2, none⟩ = some (.int .i64 l3) ∧ W.cell? ⟨w.heap.size + 1, 3, none⟩ = some (.int .i64 l4) ∧
    W.cell? ⟨w.heap.size, 4, none⟩ = some x ∧ W.cell? ⟨w.heap.size, 5, none⟩ = some y := ⟨h.bs.cell 0, h.bs.cell 1, h.bs.cell 2, h.bs.cell 3, h.bc.cell 4, h.bc.cell 5⟩
theorem WS.allocd {w W : World} {cur saw Z : Array Value} (h : WS w W.drew cur saw Z) (o : Obj) : WS w (W.alloc o).drew cur saw Z := WS.alloc (W := W.drew) h o
theorem blk7 {W : World} {g : Nat} {t : TypeId} (h : Blk W g t zero7) : W.cell? ⟨g, 0, none⟩ = some (.int .i64 0) ∧ W.cell? ⟨g, 1, none⟩ = some (.int .i64 0) ∧ W.cell? ⟨g, 2, none⟩ = some (.int .i64 0) ∧ W.cell? ⟨g, 3, none⟩ = some (.int .i64 0) ∧ W.cell? ⟨g, 4, none⟩ = some (.slice none 0 0) ∧
    W.cell? ⟨g, 5, none⟩ = some (.slice none 0 0) ∧ W.cell? ⟨g, 6, none⟩ = some (.slice none 0 0) ∧ (W.frozen? ⟨g, 0, none⟩ = false ∧ W.frozen? ⟨g, 1, none⟩ = false ∧ W.frozen? ⟨g, 2, none⟩ = false ∧ W.frozen? ⟨g, 3, none⟩ = false ∧ W.frozen? ⟨g, 4, none⟩ = false ∧ W.frozen? ⟨g, 5, none⟩ = false ∧ W.frozen? ⟨g, 6, none⟩ = false) :=
  ⟨h.cell 0, h.cell 1, h.cell 2, h.cell 3, h.cell 4, h.cell 5, h.cell 6, h.frozen 0, h.frozen 1, h.frozen 2, h.frozen 3, h.frozen 4, h.frozen 5, h.frozen 6⟩
theorem below_allocd {w W : World} (h : Below w.heap.size w W.drew) (o : Obj) : Below w.heap.size w (W.alloc o).drew := Below.alloc (w := W.drew) h h.size o
theorem below_alloc' {w W : World} (h : Below w.heap.size w W) (o : Obj) : Below w.heap.size w (W.alloc o) := h.alloc h.size o
theorem below_then {w W W' : World} (h : Below w.heap.size w W) (hb : Below W.heap.size W W') : Below w.heap.size w W' := h.trans (hb.mono h.size)
theorem blk_keep {W W1 : World} {g : Nat} {t : TypeId} {cs : Array Value} (hb : Below W.heap.size W W1) (h : Blk W g t cs) : Blk W1 g t cs := h.below hb h.lt
theorem blk_new_drew (w : World) (t : TypeId) (cs : Array Value) {g : Nat} (hg : g = w.heap.size) : Blk (w.alloc (.cells cs t)).drew g t cs := Blk.new w t cs hg
theorem z1_of {w W1 : World} {o1 o2 o3 : Obj} {t : TypeId} {cs : Array Value} (hb : Below ((((w.alloc o1).alloc o2).alloc o3).alloc (.cells cs t)).drew.heap.size ((((w.alloc o1).alloc o2).alloc o3).alloc (.cells cs t)).drew W1) : Blk W1 (w.heap.size + 1 + 1 + 1) t cs :=
  blk_keep hb (blk_new_drew _ _ _ (by simp))
theorem z2_of {W W1 : World} {t : TypeId} {cs : Array Value} (hb : Below (W.alloc (.cells cs t)).heap.size (W.alloc (.cells cs t)) W1) : Blk W1 W.heap.size t cs := blk_keep hb (Blk.new _ _ _ rfl)
theorem own_base {w : World} {base base' : Nat} {e : TypeId} {size n : Nat} {v : Value} {xs : List Value} (h : w.ownsRow base e size v n xs) (hb : base' ≤ base) : w.ownsRow base' e size v n xs := by
  refine ⟨h.1, ?_⟩
  rcases h.2 with h1 | ⟨g, cap, cur, h1, h2, h3⟩
  · exact .inl h1
  · exact .inr ⟨g, cap, cur, h1, Nat.le_trans hb h2, h3⟩
/-- What both calls of heights leave. -/
def HM (w W : World) (v1 v2 : Value) (n : Nat) (H L : List Value) : Prop := W.ownsRow w.heap.size 3 1 v1 n H ∧ W.ownsRow w.heap.size 3 1 v2 n L ∧ Below w.heap.size w W
def HO (w W : World) (v1 : Value) (n : Nat) (H : List Value) : Prop := W.ownsRow w.heap.size 3 1 v1 n H ∧ Below w.heap.size w W
theorem ho_of {w W W1 : World} {v1 : Value} {n : Nat} {H : List Value} (hb : Below w.heap.size w W) (ho : W1.ownsRow W.heap.size 3 1 v1 n H) (hb1 : Below W.heap.size W W1) : HO w W1 v1 n H := ⟨own_base ho hb.size, below_then hb hb1⟩
theorem hm_of {w W1 W2 : World} {v1 v2 : Value} {n : Nat} {H L : List Value} (h : HO w W1 v1 n H) (ho : W2.ownsRow W1.heap.size 3 1 v2 n L) (hb2 : Below W1.heap.size W1 W2) : HM w W2 v1 v2 n H L := ⟨ownsRow_below h.1 hb2, own_base ho h.2.size, below_then h.2 hb2⟩
theorem HO.bel {w W : World} {v1 : Value} {n : Nat} {H : List Value} (h : HO w W v1 n H) : Below w.heap.size w W := h.2
theorem HO.alloc {w W : World} {v1 : Value} {n : Nat} {H : List Value} (h : HO w W v1 n H) (o : Obj) : HO w (W.alloc o) v1 n H := ⟨h.1.alloc o, below_alloc' h.2 o⟩

theorem meet3 {w W : World} {cur : Array Value} {a b c d v1 v2 : Value} {n : Nat} {H L : List Value} (hs : WS w W cur #[a, b, c, d] zero7) (hm : HM w W v1 v2 n H L) :
    WorstMid w (W.alloc (.cells #[a, b, c, d, v1, v2, .slice none 0 0] 120)) cur #[a, b, c, d] W.heap.size v1 v2 (.slice none 0 0) n H L 0 [] :=
  ⟨hs.bc.alloc _, hs.bz.alloc _, Blk.new W _ _ rfl, by have := hs.bz.lt; omega, hm.2.2.size, hm.1.alloc _, hm.2.1.alloc _, World.ownsRow_nil _ _ _ _, below_alloc' hm.2.2 _⟩
theorem meet12 {w W : World} {cur : Array Value} {a b c d v1 v2 : Value} {n g : Nat} {H L : List Value} (hs : WS w W cur #[a, b, c, d] zero7) (hm : HM w W v1 v2 n H L) (hz : Blk W g 120 zero7) (hg : w.heap.size + 2 < g) :
    WorstMid w (((((((W.setCell ⟨g, 0, none⟩ a).setCell ⟨g, 1, none⟩ b).setCell ⟨g, 2, none⟩ c).setCell ⟨g, 3, none⟩ d).setCell ⟨g, 4, none⟩ v1).setCell ⟨g, 5, none⟩ v2).setCell ⟨g, 6, none⟩ (.slice none 0 0)) cur #[a, b, c, d] g v1 v2 (.slice none 0 0) n H L 0 [] := by
  have h7 := hs.set7 hg a b c d v1 v2 (.slice none 0 0)
  have z := ((((((hz.set_ 0 a).set_ 1 b).set_ 2 c).set_ 3 d).set_ 4 v1).set_ 5 v2).set_ 6 (.slice none 0 0)
  have keep : ∀ {W' : World} {cs : Array Value} {v : Value} {xs : List Value}, W'.ownsRow w.heap.size 3 1 v n xs → Blk W' g 120 cs → ∀ i u, (W'.setCell ⟨g, i, none⟩ u).ownsRow w.heap.size 3 1 v n xs := fun ho hb i u => own_setCell ho hb (by decide) i u
  have k1 := hz.set_ 0 a
  have k2 := k1.set_ 1 b
  have k3 := k2.set_ 2 c
  have k4 := k3.set_ 3 d
  have k5 := k4.set_ 4 v1
  have k6 := k5.set_ 5 v2
  refine ⟨h7.bc, h7.bz, z, by omega, by omega, ?_, ?_, World.ownsRow_nil _ _ _ _, ?_⟩
  · exact keep (keep (keep (keep (keep (keep (keep hm.1 hz 0 _) k1 1 _) k2 2 _) k3 3 _) k4 4 _) k5 5 _) k6 6 _
  · exact keep (keep (keep (keep (keep (keep (keep hm.2.1 hz 0 _) k1 1 _) k2 2 _) k3 3 _) k4 4 _) k5 5 _) k6 6 _
  · have st : ∀ {W' : World}, Below w.heap.size w W' → ∀ i u, Below w.heap.size w (W'.setCell ⟨g, i, none⟩ u) := fun h i u => h.setCell (p := ⟨g, i, none⟩) (by show w.heap.size ≤ g; omega) u
    exact st (st (st (st (st (st (st hm.2.2 0 _) 1 _) 2 _) 3 _) 4 _) 5 _) 6 _

theorem below_self (W : World) (o : Obj) : Below W.heap.size W (W.alloc o) := (Below.refl _ _).alloc (Nat.le_refl _) o
theorem cell_four_new (w : World) (x0 x1 x2 x3 : Value) (t : TypeId) {g : Nat} (hg : g = w.heap.size) : ∀ j u, [x0, x1, x2, x3][j]? = some u → (w.alloc (.cells #[x0, x1, x2, x3] t)).cell? ((⟨g, 0, none⟩ : Addr).add j) = some u := by
  subst hg
  intro j u hj
  rw [addr_add, Nat.zero_add]
  rw [(Blk.new w t #[x0, x1, x2, x3] rfl).cell]
  simpa using hj
theorem flat4_map_snoc (cr : List Crack) (k : Nat) (hk : k < cr.length) : flat4 ((cr.map worstSplit).take (k + 1)) = flat4 ((cr.map worstSplit).take k) ++ [.int .i64 (cr.getD k Crack.zero).cl, .int .i64 (cr.getD k Crack.zero).ch, .int .i64 (cr.getD k Crack.zero).fl, .int .i64 (cr.getD k Crack.zero).th] := by
  rw [flat4_snoc _ _ (by simpa using hk)]
  have : (cr.map worstSplit).getD k Split.zero = worstSplit (cr.getD k Crack.zero) := by simp [List.getD, hk]
  rw [this]
  rfl
theorem splits_of_own {w : World} {base n : Nat} {t : TypeId} {A : Option Addr} {cap : Nat} {xs : List Split} (h : w.ownsRow base t 4 (.slice A n cap) n (flat4 xs)) : Splits w A n xs := by
  refine ⟨h.1, fun hn => ?_⟩
  obtain ⟨g, cap', hv⟩ := own_form h hn
  simp only [Value.slice.injEq] at hv
  obtain ⟨rfl, _, rfl⟩ := hv
  refine ⟨g, 0, rfl, (h.lt g rfl).2, fun j u hj => ?_⟩
  have hjl : j < n * 4 := by have := (List.getElem?_eq_some_iff.1 hj).1; have := h.1; omega
  rw [Nat.zero_add, h.cellAt j hjl, hj]
theorem own_cap {w : World} {base n size cap : Nat} {A : Option Addr} {t : TypeId} {xs : List Value} (h : w.ownsRow base t size (.slice A n cap) n xs) : n ≤ cap ∧ cap ≤ maxLen := by
  rcases h.2 with ⟨h1, h2⟩ | ⟨g, cap', _, hv, _, _, h3, h4, _⟩
  · simp only [Value.slice.injEq] at h1
    obtain ⟨_, _, rfl⟩ := h1
    subst h2
    exact ⟨Nat.le_refl _, Nat.zero_le _⟩
  · simp only [Value.slice.injEq] at hv
    obtain ⟨_, _, rfl⟩ := hv
    exact ⟨h3, h4⟩
theorem own_slice {w : World} {base n size : Nat} {t : TypeId} {v : Value} {xs : List Value} (h : w.ownsRow base t size v n xs) : ∃ A cap, v = .slice A n cap := by
  rcases h.2 with ⟨rfl, rfl⟩ | ⟨g, cap, _, hv, _⟩
  · exact ⟨none, 0, rfl⟩
  · exact ⟨_, _, hv⟩

set_option maxRecDepth 100000 in
set_option maxHeartbeats 4000000 in
theorem worst_any (A A' K : Option Addr) (c c' m d gb ob gt ot n cb ct : Nat) (bend long wide kerf across : Int) (bot top : List (Int × Int)) (cr : List Crack) (w : World)
    (h : Pairs w (some ⟨gb, ob, none⟩) n bot) (h' : Pairs w (some ⟨gt, ot, none⟩) n top) (hk : Cracks w K m cr) (h0 : 0 < n) (hn : n ≤ 30) (hm : m ≤ 4) :
    Calls Try.prog 66 #[.agg #[.slice A n c, .slice A' n c', .int .i64 bend, .slice K m d, .slice (some ⟨gb, ob, none⟩) n cb, .slice (some ⟨gt, ot, none⟩) n ct], .agg #[.int .i64 long, .int .i64 wide, .int .i64 kerf, .int .i64 across]] w
      (WorstRes w n m (worstL long wide kerf across bot top cr)) := by
  have Hp := Lib.hid (fun W (hb : Below w.heap.size w W) => h.below hb)
  have Hp' := Lib.hid (fun W (hb : Below w.heap.size w W) => h'.below hb)
  have Hk := Lib.hid (fun W (hb : Below w.heap.size w W) => hk.below hb)
  clear h h' hk
  go_enter Try.func66, Try.ntmps66
  go_upto_region 1 with (fail)
  go_cut [5] (fun s5 W => ∃ g v1 v2, s5 = .pointer (some ⟨g, 0, none⟩) ∧ WorstMid w W #[.slice A n c, .slice A' n c', .int .i64 bend, .slice K m d, .slice (some ⟨gb, ob, none⟩) n cb, .slice (some ⟨gt, ot, none⟩) n ct] #[.int .i64 long, .int .i64 wide, .int .i64 kerf, .int .i64 across] g v1 v2 (.slice none 0 0) n ((bot.map (·.2)).map (Value.int .i64)) ((top.map (·.1)).map (Value.int .i64)) 0 [])
  case first =>
    have hs0 : ∀ Z, WS w (((w.alloc (.cells #[.slice A n c, .slice A' n c', .int .i64 bend, .slice K m d, .slice (some ⟨gb, ob, none⟩) n cb, .slice (some ⟨gt, ot, none⟩) n ct] 106)).alloc (.cells #[.int .i64 long, .int .i64 wide, .int .i64 kerf, .int .i64 across] 37)).alloc (.cells Z 120)).drew #[.slice A n c, .slice A' n c', .int .i64 bend, .slice K m d, .slice (some ⟨gb, ob, none⟩) n cb, .slice (some ⟨gt, ot, none⟩) n ct] #[.int .i64 long, .int .i64 wide, .int .i64 kerf, .int .i64 across] Z :=
      fun Z => ⟨((Blk.new w _ _ rfl).alloc _).alloc _, (Blk.new _ _ _ (by simp)).alloc _, Blk.new _ _ _ (by simp)⟩
    have b0 : ∀ Z, Below w.heap.size w (((w.alloc (.cells #[.slice A n c, .slice A' n c', .int .i64 bend, .slice K m d, .slice (some ⟨gb, ob, none⟩) n cb, .slice (some ⟨gt, ot, none⟩) n ct] 106)).alloc (.cells #[.int .i64 long, .int .i64 wide, .int .i64 kerf, .int .i64 across] 37)).alloc (.cells Z 120)).drew := fun _ =>
      ((((Below.refl _ _).alloc (Nat.le_refl _) _).alloc (by simp) _).alloc (by simp <;> omega) _).drew
    have Hs0 := Lib.hid hs0
    have Hb0 := Lib.hid b0
    clear hs0 b0
    go_region_held3 (fun W' => W'.cell? ⟨w.heap.size + 1, 0, none⟩ = some (.int .i64 long) ∧ W'.cell? ⟨w.heap.size + 1, 1, none⟩ = some (.int .i64 wide) ∧ W'.cell? ⟨w.heap.size + 1, 2, none⟩ = some (.int .i64 kerf) ∧ W'.cell? ⟨w.heap.size + 1, 3, none⟩ = some (.int .i64 across) ∧
      W'.cell? ⟨w.heap.size, 4, none⟩ = some (.slice (some ⟨gb, ob, none⟩) n cb) ∧ W'.cell? ⟨w.heap.size, 5, none⟩ = some (.slice (some ⟨gt, ot, none⟩) n ct)) (first | with_reducible exact WS.get (Hs0.out _) | with_reducible exact WS.get ((Hs0.out _).allocd _) | with_reducible exact WS.get Hs2.out | with_reducible exact WS.get (Hs2.out.alloc _) | with_reducible exact WS.get (Hs2.out.set7 Hg.out _ _ _ _ _ _ _) | with_reducible exact WS.get Hs1.out | with_reducible exact WS.get (Hs1.out.alloc _))
      (first
        | (go_at_call_of 98 (Value.slice (some ⟨gb, ob, none⟩) n cb); refine (heightsHigh_any gb ob n cb bot _ (Hp.out _ ?_) h0 (by omega)).mono ?_; (first | with_reducible exact Hb0.out _ | with_reducible exact below_allocd (Hb0.out _) _); rintro e W1 ⟨h1, c1, rfl, ho1, hb1⟩; (first | (with_reducible have Z1 : Hid (Blk W1 (w.heap.size + 1 + 1 + 1) 120 zero7) := Lib.hid (z1_of hb1)) | skip); have Hs1 : Hid (WS w W1 _ _ zero7) := (by first | with_reducible exact Lib.hid ((Hs0.out _).below hb1) | with_reducible exact Lib.hid (((Hs0.out _).allocd _).below hb1)); have Ho1 : Hid (HO w W1 _ n _) := (by first | with_reducible exact Lib.hid (ho_of (Hb0.out _) ho1 hb1) | with_reducible exact Lib.hid (ho_of (below_allocd (Hb0.out _) _) ho1 hb1)); clear ho1)
        | (go_at_call_of 98 (Value.slice (some ⟨gt, ot, none⟩) n ct); refine (heightsLow_any gt ot n ct top _ (Hp'.out _ ?_) h0 (by omega)).mono ?_; (first | with_reducible exact Ho1.out.bel | with_reducible exact (Ho1.out.alloc _).bel); rintro e W2 ⟨h2, c2, rfl, ho2, hb2⟩; (first | ((with_reducible have Z2 : Hid (Blk W2 (w.heap.size + 1 + 1 + 1) 120 zero7) := Lib.hid (blk_keep hb2 Z1.out)); have Hg := Lib.hid (show w.heap.size + 2 < w.heap.size + 1 + 1 + 1 from by omega); obtain ⟨y0, y1, y2, y3, y4, y5, y6, f0, f1, f2, f3, f4, f5, f6⟩ := blk7 Z2.out) | ((with_reducible have Z3 : Hid (Blk W2 W1.heap.size 120 zero7) := Lib.hid (z2_of hb2)); have Hg := Lib.hid (show w.heap.size + 2 < W1.heap.size from Hs1.out.bz.lt); obtain ⟨y0, y1, y2, y3, y4, y5, y6, f0, f1, f2, f3, f4, f5, f6⟩ := blk7 Z3.out) | skip); have Hs2 : Hid (WS w W2 _ _ zero7) := (by first | with_reducible exact Lib.hid (Hs1.out.below hb2) | with_reducible exact Lib.hid ((Hs1.out.alloc _).below hb2)); have Hm2 : Hid (HM w W2 _ _ n _ _) := (by first | with_reducible exact Lib.hid (hm_of Ho1.out ho2 hb2) | with_reducible exact Lib.hid (hm_of (Ho1.out.alloc _) ho2 hb2)); clear ho2))
    all_goals (go_wp2_with fail; go_meet)
    · exact ⟨_, _, _, rfl, meet3 Hs2.out Hm2.out⟩
    · exact ⟨_, _, _, rfl, meet12 Hs2.out Hm2.out Z3.out Hg.out⟩
    · exact ⟨_, _, _, rfl, meet12 Hs2.out Hm2.out Z2.out Hg.out⟩
  case rest =>
    obtain ⟨g, v1, v2, rfl, hM⟩ := hcut
    have HM0 := Lib.hid hM
    clear hM
    obtain ⟨i0, hi, hz0, hz1, hz2⟩ := info_parts Try.infoSplit
    have hlen : cr.length = m := (Hk.out w (Below.refl _ _)).len
    have Hlen := Lib.hid hlen
    clear hlen
    have hcc := HM0.out.fc.cell
    go_wp2_with fail
    clear hcc
    go_loopw [20] (fun i wr => ∃ (k : Nat) (sv : Value), k ≤ m ∧ i = .int .i64 k ∧ WorstMid w wr #[.slice A n c, .slice A' n c', .int .i64 bend, .slice K m d, .slice (some ⟨gb, ob, none⟩) n cb, .slice (some ⟨gt, ot, none⟩) n ct] #[.int .i64 long, .int .i64 wide, .int .i64 kerf, .int .i64 across] g v1 v2 sv n ((bot.map (·.2)).map (Value.int .i64)) ((top.map (·.1)).map (Value.int .i64)) k (flat4 ((cr.map worstSplit).take k))) (fun i _ => m - (intOf i).toNat)
    case atStart => exact ⟨0, _, Nat.zero_le _, rfl, HM0.out⟩
    case round =>
      obtain ⟨k, sv, hk, rfl, hM⟩ := hrel
      have HM := Lib.hid hM
      clear hM
      by_cases hlt : k < m
      · obtain ⟨b, off, rfl, hb, hc0, hc1, hc2, hc3, hc4, hc5⟩ := (Hk.out _ HM.out.bel).at_ hlt
        have HS := Lib.hid (flat4_map_snoc cr k (by rw [Hlen.out]; exact hlt))
        generalize cr.getD k Crack.zero = y at *
        have hg6 : ∀ W, Below wr.heap.size wr W → W.cell? ⟨g, 6, none⟩ = some sv := fun W hW => by simpa using (HM.out.below hW).fg.cell 6
        have HA := Lib.hid (fun W (hW : Below wr.heap.size wr W) => (HM.out.below hW))
        have Hg6 := Lib.hid hg6
        have hg7 := hg6 (wr.alloc (.cells #[.int .i64 y.cl, .int .i64 y.ch, .int .i64 y.fl, .int .i64 y.fh, .int .i64 y.tl, .int .i64 y.th] 111)) (below_self _ _)
        clear hg6
        obtain ⟨SA, sc, hsv⟩ := own_slice HM.out.os
        have B2 := Lib.hid ((below_self wr (.cells #[.int .i64 y.cl, .int .i64 y.ch, .int .i64 y.fl, .int .i64 y.fh, .int .i64 y.tl, .int .i64 y.th] 111)).alloc (by simp) (.cells #[.int .i64 y.cl, .int .i64 y.ch, .int .i64 y.fl, .int .i64 y.th] 161))
        have HA2 := Lib.hid (HA.out _ B2.out)
        have Hnews := Lib.hid (cell_four_new (wr.alloc (.cells #[.int .i64 y.cl, .int .i64 y.ch, .int .i64 y.fl, .int .i64 y.fh, .int .i64 y.tl, .int .i64 y.th] 111)) (.int .i64 y.cl) (.int .i64 y.ch) (.int .i64 y.fl) (.int .i64 y.th) 161 (g := wr.heap.size + 1) (by simp))
        clear hsv
        go_wp2_with (at_builtin; refine wpList_append_own _ rfl _ _ 118 rfl w.heap.size 161 i0 (.agg #[.int .i64 0, .int .i64 0, .int .i64 0, .int .i64 0]) 4 32 Try.underlying118 hi hz0 hz1 hz2 rfl (by decide) _ _ _ rfl HA2.out.os ⟨wr.heap.size + 1, 0, none⟩ 1 1 [.int .i64 y.cl, .int .i64 y.ch, .int .i64 y.fl, .int .i64 y.th] rfl rfl Hnews.out ?c2 ?c3 ?c4 ?c5 ?_)
        case c2 => intro u hu; simp only [List.mem_cons, List.not_mem_nil, or_false] at hu; rcases hu with rfl | rfl | rfl | rfl <;> rfl
        case c3 => unfold maxLen; omega
        case c4 => omega
        case c5 => exact HA2.out.bel.size
        intro v' w4 hown4 hgrow _
        obtain ⟨gv, cv, rfl⟩ := own_form hown4 (Nat.succ_pos k)
        have hown5 : Hid (w4.ownsRow w.heap.size 161 4 (.slice (some ⟨gv, 0, none⟩) (k + 1) cv) (k + 1) (flat4 ((cr.map worstSplit).take (k + 1)))) := by unfold Hid; rw [HS.out]; exact hown4
        have HN := Lib.hid (HA2.out.appended hgrow hown5.out rfl)
        have gg := HA2.out.fg.grown hgrow (own_blk_ne HA2.out.os HA2.out.fg (by decide))
        have g6 : w4.cell? ⟨g, 6, none⟩ = some sv := by simpa using gg.cell 6
        have f6 := gg.frozen 6
        clear hown4 hgrow gg hg7 hc0 hc1 hc2 hc3 hc4 hc5
        go_wp2
        go_roundw
        case rel => exact ⟨k + 1, _, by omega, by go_num, HN.out⟩
        case measure => simp [intOf]; omega
      · obtain rfl : k = m := by omega
        have hM := HM.out
        rw [List.take_of_length_le (by rw [List.length_map, Hlen.out]; exact Nat.le_refl _)] at hM
        obtain ⟨g1, k1, rfl⟩ := own_form hM.o1 h0
        obtain ⟨g2, k2, rfl⟩ := own_form hM.o2 h0
        obtain ⟨SA, sc, rfl⟩ := own_slice hM.os
        have hg : Blk wr g 120 #[.int .i64 long, .int .i64 wide, .int .i64 kerf, .int .i64 across, .slice (some ⟨g1, 0, none⟩) n k1, .slice (some ⟨g2, 0, none⟩) n k2, .slice SA k sc] := hM.fg
        have hr := hM.fr
        have HF := Lib.hid (own_setRow hM.o1 hM.fr (by decide) #[.int .i64 long, .int .i64 wide, .int .i64 kerf, .int .i64 across, .slice (some ⟨g1, 0, none⟩) n k1, .slice (some ⟨g2, 0, none⟩) n k2, .slice SA k sc])
        have HF2 := Lib.hid (own_setRow hM.o2 hM.fr (by decide) #[.int .i64 long, .int .i64 wide, .int .i64 kerf, .int .i64 across, .slice (some ⟨g1, 0, none⟩) n k1, .slice (some ⟨g2, 0, none⟩) n k2, .slice SA k sc])
        have HF3 := Lib.hid (own_setRow hM.os hM.fr (by decide) #[.int .i64 long, .int .i64 wide, .int .i64 kerf, .int .i64 across, .slice (some ⟨g1, 0, none⟩) n k1, .slice (some ⟨g2, 0, none⟩) n k2, .slice SA k sc])
        have HB := Lib.hid hM.bel
        have Hr := Lib.hid hr
        have Hg := Lib.hid hg
        clear hM hr hg HM HM0
        go_wp2_with (first | (refine wpList_load_row rfl 120 _ rfl g rfl 120 _ _ _ Hg.out Try.underlying120 rfl (by kernel_rfl) ?_) | (refine wpList_store_row rfl 120 _ _ rfl (w.heap.size + 2) _ rfl rfl 120 _ Hr.out (by kernel_rfl) rfl (by kernel_rfl) ?_))
        exact bodyPost_ret (results_c rfl _ _ _ _ _ _ _ rfl (Hr.out.setRow _) Try.underlying120 (by kernel_rfl)) rfl ⟨below_setR HB.out (by omega) _, ⟨g1, 0, none⟩, ⟨g2, 0, none⟩, k1, k2, SA, sc, rfl, ⟨ints_of_own HF.out, ints_of_own HF2.out, splits_of_own HF3.out⟩, own_cap HF.out, own_cap HF2.out, rfl, rfl⟩
end Go.Proofs.Ytiflhimmieflpaa
