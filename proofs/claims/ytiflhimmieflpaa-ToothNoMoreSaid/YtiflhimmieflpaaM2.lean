/- Merged: W10, W12, W13, W14, W15, W16, W17, W11. -/
import Derived.Test.YtiflhimmieflpaaM1
import Derived.BigQuiet
import Derived.Maps.Own
import Derived.Maps.Views
import Derived.Deep.OwnRows
import Derived.StillTailTactics

/- Walks: worst, the walk. -/
namespace Go.Proofs.Ytiflhimmieflpaa
open Go.RowKit

def WorstRes (w : World) (n m : Nat) (s : Sawing) (e : Ending) (w' : World) : Prop :=
  Below w.heap.size w w' ∧ ∃ b b' c c' K d, e = .returned (sawVal s b b' n c c' K m d) ∧ SawAt w' s b b' n K m ∧ (n ≤ c ∧ c ≤ maxLen) ∧ (n ≤ c' ∧ c' ≤ maxLen) ∧ b.spot = none ∧ b'.spot = none
abbrev zero7 : Array Value := #[.int .i64 0, .int .i64 0, .int .i64 0, .int .i64 0, .slice none 0 0, .slice none 0 0, .slice none 0 0]

/-- The blocks of worst ahead of its loop. -/
structure WS (w W : World) (cur saw Z : Array Value) : Prop where
  bc : Blk W w.heap.size 106 cur
  bs : Blk W (w.heap.size + 1) 37 saw
  bz : Blk W (w.heap.size + 2) 120 Z
theorem WS.below {w W W' : World} {cur saw Z : Array Value} (h : WS w W cur saw Z) (hb : Below W.heap.size W W') : WS w W' cur saw Z := ⟨h.bc.below hb h.bc.lt, h.bs.below hb h.bs.lt, h.bz.below hb h.bz.lt⟩
theorem WS.alloc {w W : World} {cur saw Z : Array Value} (h : WS w W cur saw Z) (o : Obj) : WS w (W.alloc o) cur saw Z := ⟨h.bc.alloc _, h.bs.alloc _, h.bz.alloc _⟩
theorem WS.set {w W : World} {cur saw Z : Array Value} (h : WS w W cur saw Z) {g : Nat} (hg : w.heap.size + 2 < g) (i : Nat) (u : Value) : WS w (W.setCell ⟨g, i, none⟩ u) cur saw Z :=
  ⟨h.bc.far (p := ⟨g, i, none⟩) (by show w.heap.size ≠ g; omega) u, h.bs.far (p := ⟨g, i, none⟩) (by show w.heap.size + 1 ≠ g; omega) u, h.bz.far (p := ⟨g, i, none⟩) (by show w.heap.size + 2 ≠ g; omega) u⟩
theorem WS.set7 {w W : World} {cur saw Z : Array Value} (h : WS w W cur saw Z) {g : Nat} (hg : w.heap.size + 2 < g) (u0 u1 u2 u3 u4 u5 u6 : Value) :
    WS w (((((((W.setCell ⟨g, 0, none⟩ u0).setCell ⟨g, 1, none⟩ u1).setCell ⟨g, 2, none⟩ u2).setCell ⟨g, 3, none⟩ u3).setCell ⟨g, 4, none⟩ u4).setCell ⟨g, 5, none⟩ u5).setCell ⟨g, 6, none⟩ u6) cur saw Z :=
  ((((((h.set hg 0 _).set hg 1 _).set hg 2 _).set hg 3 _).set hg 4 _).set hg 5 _).set hg 6 _
theorem WS.get {w W : World} {l1 l2 l3 l4 : Int} {a b c d x y : Value} {Z : Array Value} (h : WS w W #[a, b, c, d, x, y] #[.int .i64 l1, .int .i64 l2, .int .i64 l3, .int .i64 l4] Z) : W.cell? ⟨w.heap.size + 1, 0, none⟩ = some (.int .i64 l1) ∧ W.cell? ⟨w.heap.size + 1, 1, none⟩ = some (.int .i64 l2) ∧ W.cell? ⟨w.heap.size + 1, 2, none⟩ = some (.int .i64 l3) ∧ W.cell? ⟨w.heap.size + 1, 3, none⟩ = some (.int .i64 l4) ∧
    W.cell? ⟨w.heap.size, 4, none⟩ = some x ∧ W.cell? ⟨w.heap.size, 5, none⟩ = some y := ⟨h.bs.cell 0, h.bs.cell 1, h.bs.cell 2, h.bs.cell 3, h.bc.cell 4, h.bc.cell 5⟩
theorem WS.allocd {w W : World} {cur saw Z : Array Value} (h : WS w W.drew cur saw Z) (o : Obj) : WS w (W.alloc o).drew cur saw Z := WS.alloc (W := W.drew) h o
theorem blk7 {W : World} {g : Nat} {t : TypeId} (h : Blk W g t zero7) : W.cell? ⟨g, 0, none⟩ = some (.int .i64 0) ∧ W.cell? ⟨g, 1, none⟩ = some (.int .i64 0) ∧ W.cell? ⟨g, 2, none⟩ = some (.int .i64 0) ∧ W.cell? ⟨g, 3, none⟩ = some (.int .i64 0) ∧ W.cell? ⟨g, 4, none⟩ = some (.slice none 0 0) ∧
    W.cell? ⟨g, 5, none⟩ = some (.slice none 0 0) ∧ W.cell? ⟨g, 6, none⟩ = some (.slice none 0 0) ∧ (W.frozen? ⟨g, 0, none⟩ = false ∧ W.frozen? ⟨g, 1, none⟩ = false ∧ W.frozen? ⟨g, 2, none⟩ = false ∧ W.frozen? ⟨g, 3, none⟩ = false ∧ W.frozen? ⟨g, 4, none⟩ = false ∧ W.frozen? ⟨g, 5, none⟩ = false ∧ W.frozen? ⟨g, 6, none⟩ = false) :=
  ⟨h.cell 0, h.cell 1, h.cell 2, h.cell 3, h.cell 4, h.cell 5, h.cell 6, h.frozen 0, h.frozen 1, h.frozen 2, h.frozen 3, h.frozen 4, h.frozen 5, h.frozen 6⟩
theorem below_allocd {w W : World} (h : Below w.heap.size w W.drew) (o : Obj) : Below w.heap.size w (W.alloc o).drew := Below.alloc (w := W.drew) h h.size o
theorem below_alloc' {w W : World} (h : Below w.heap.size w W) (o : Obj) : Below w.heap.size w (W.alloc o) := h.alloc h.size o
theorem below_then {w W W' : World} (h : Below w.heap.size w W) (hb : Below W.heap.size W W') : Below w.heap.size w W' := h.trans (hb.mono h.size)
theorem blk_keep {W W1 : World} {g : Nat} {t : TypeId} {cs : Array Value} (hb : Below W.heap.size W W1) (h : Blk W g t cs) : Blk W1 g t cs := h.below hb h.lt
theorem blk_new_drew (w : World) (t : TypeId) (cs : Array Value) {g : Nat} (hg : g = w.heap.size) : Blk (w.alloc (.cells cs t)).drew g t cs := Blk.new w t cs hg
theorem z1_of {w W1 : World} {o1 o2 o3 : Obj} {t : TypeId} {cs : Array Value} (hb : Below ((((w.alloc o1).alloc o2).alloc o3).alloc (.cells cs t)).drew.heap.size ((((w.alloc o1).alloc o2).alloc o3).alloc (.cells cs t)).drew W1) : Blk W1 (w.heap.size + 1 + 1 + 1) t cs :=
  blk_keep hb (blk_new_drew _ _ _ (by simp))
theorem z2_of {W W1 : World} {t : TypeId} {cs : Array Value} (hb : Below (W.alloc (.cells cs t)).heap.size (W.alloc (.cells cs t)) W1) : Blk W1 W.heap.size t cs := blk_keep hb (Blk.new _ _ _ rfl)
theorem own_base {w : World} {base base' : Nat} {e : TypeId} {size n : Nat} {v : Value} {xs : List Value} (h : w.ownsRow base e size v n xs) (hb : base' ≤ base) : w.ownsRow base' e size v n xs := by
  refine ⟨h.1, ?_⟩
  rcases h.2 with h1 | ⟨g, cap, cur, h1, h2, h3⟩
  · exact .inl h1
  · exact .inr ⟨g, cap, cur, h1, Nat.le_trans hb h2, h3⟩
/-- What both calls of heights leave. -/
def HM (w W : World) (v1 v2 : Value) (n : Nat) (H L : List Value) : Prop := W.ownsRow w.heap.size 3 1 v1 n H ∧ W.ownsRow w.heap.size 3 1 v2 n L ∧ Below w.heap.size w W
def HO (w W : World) (v1 : Value) (n : Nat) (H : List Value) : Prop := W.ownsRow w.heap.size 3 1 v1 n H ∧ Below w.heap.size w W
theorem ho_of {w W W1 : World} {v1 : Value} {n : Nat} {H : List Value} (hb : Below w.heap.size w W) (ho : W1.ownsRow W.heap.size 3 1 v1 n H) (hb1 : Below W.heap.size W W1) : HO w W1 v1 n H := ⟨own_base ho hb.size, below_then hb hb1⟩
theorem hm_of {w W1 W2 : World} {v1 v2 : Value} {n : Nat} {H L : List Value} (h : HO w W1 v1 n H) (ho : W2.ownsRow W1.heap.size 3 1 v2 n L) (hb2 : Below W1.heap.size W1 W2) : HM w W2 v1 v2 n H L := ⟨ownsRow_below h.1 hb2, own_base ho h.2.size, below_then h.2 hb2⟩
theorem HO.bel {w W : World} {v1 : Value} {n : Nat} {H : List Value} (h : HO w W v1 n H) : Below w.heap.size w W := h.2
theorem HO.alloc {w W : World} {v1 : Value} {n : Nat} {H : List Value} (h : HO w W v1 n H) (o : Obj) : HO w (W.alloc o) v1 n H := ⟨h.1.alloc o, below_alloc' h.2 o⟩

theorem meet3 {w W : World} {cur : Array Value} {a b c d v1 v2 : Value} {n : Nat} {H L : List Value} (hs : WS w W cur #[a, b, c, d] zero7) (hm : HM w W v1 v2 n H L) :
    WorstMid w (W.alloc (.cells #[a, b, c, d, v1, v2, .slice none 0 0] 120)) cur #[a, b, c, d] W.heap.size v1 v2 (.slice none 0 0) n H L 0 [] :=
  ⟨hs.bc.alloc _, hs.bz.alloc _, Blk.new W _ _ rfl, by have := hs.bz.lt; omega, hm.2.2.size, hm.1.alloc _, hm.2.1.alloc _, World.ownsRow_nil _ _ _ _, below_alloc' hm.2.2 _⟩
theorem meet12 {w W : World} {cur : Array Value} {a b c d v1 v2 : Value} {n g : Nat} {H L : List Value} (hs : WS w W cur #[a, b, c, d] zero7) (hm : HM w W v1 v2 n H L) (hz : Blk W g 120 zero7) (hg : w.heap.size + 2 < g) :
    WorstMid w (((((((W.setCell ⟨g, 0, none⟩ a).setCell ⟨g, 1, none⟩ b).setCell ⟨g, 2, none⟩ c).setCell ⟨g, 3, none⟩ d).setCell ⟨g, 4, none⟩ v1).setCell ⟨g, 5, none⟩ v2).setCell ⟨g, 6, none⟩ (.slice none 0 0)) cur #[a, b, c, d] g v1 v2 (.slice none 0 0) n H L 0 [] := by
  have h7 := hs.set7 hg a b c d v1 v2 (.slice none 0 0)
  have z := ((((((hz.set_ 0 a).set_ 1 b).set_ 2 c).set_ 3 d).set_ 4 v1).set_ 5 v2).set_ 6 (.slice none 0 0)
  have keep : ∀ {W' : World} {cs : Array Value} {v : Value} {xs : List Value}, W'.ownsRow w.heap.size 3 1 v n xs → Blk W' g 120 cs → ∀ i u, (W'.setCell ⟨g, i, none⟩ u).ownsRow w.heap.size 3 1 v n xs := fun ho hb i u => own_setCell ho hb (by decide) i u
  have k1 := hz.set_ 0 a
  have k2 := k1.set_ 1 b
  have k3 := k2.set_ 2 c
  have k4 := k3.set_ 3 d
  have k5 := k4.set_ 4 v1
  have k6 := k5.set_ 5 v2
  refine ⟨h7.bc, h7.bz, z, by omega, by omega, ?_, ?_, World.ownsRow_nil _ _ _ _, ?_⟩
  · exact keep (keep (keep (keep (keep (keep (keep hm.1 hz 0 _) k1 1 _) k2 2 _) k3 3 _) k4 4 _) k5 5 _) k6 6 _
  · exact keep (keep (keep (keep (keep (keep (keep hm.2.1 hz 0 _) k1 1 _) k2 2 _) k3 3 _) k4 4 _) k5 5 _) k6 6 _
  · have st : ∀ {W' : World}, Below w.heap.size w W' → ∀ i u, Below w.heap.size w (W'.setCell ⟨g, i, none⟩ u) := fun h i u => h.setCell (p := ⟨g, i, none⟩) (by show w.heap.size ≤ g; omega) u
    exact st (st (st (st (st (st (st hm.2.2 0 _) 1 _) 2 _) 3 _) 4 _) 5 _) 6 _

theorem below_self (W : World) (o : Obj) : Below W.heap.size W (W.alloc o) := (Below.refl _ _).alloc (Nat.le_refl _) o
theorem cell_four_new (w : World) (x0 x1 x2 x3 : Value) (t : TypeId) {g : Nat} (hg : g = w.heap.size) : ∀ j u, [x0, x1, x2, x3][j]? = some u → (w.alloc (.cells #[x0, x1, x2, x3] t)).cell? ((⟨g, 0, none⟩ : Addr).add j) = some u := by
  subst hg
  intro j u hj
  rw [addr_add, Nat.zero_add]
  rw [(Blk.new w t #[x0, x1, x2, x3] rfl).cell]
  simpa using hj
theorem flat4_map_snoc (cr : List Crack) (k : Nat) (hk : k < cr.length) : flat4 ((cr.map worstSplit).take (k + 1)) = flat4 ((cr.map worstSplit).take k) ++ [.int .i64 (cr.getD k Crack.zero).cl, .int .i64 (cr.getD k Crack.zero).ch, .int .i64 (cr.getD k Crack.zero).fl, .int .i64 (cr.getD k Crack.zero).th] := by
  rw [flat4_snoc _ _ (by simpa using hk)]
  have : (cr.map worstSplit).getD k Split.zero = worstSplit (cr.getD k Crack.zero) := by simp [List.getD, hk]
  rw [this]
  rfl
theorem splits_of_own {w : World} {base n : Nat} {t : TypeId} {A : Option Addr} {cap : Nat} {xs : List Split} (h : w.ownsRow base t 4 (.slice A n cap) n (flat4 xs)) : Splits w A n xs := by
  refine ⟨h.1, fun hn => ?_⟩
  obtain ⟨g, cap', hv⟩ := own_form h hn
  simp only [Value.slice.injEq] at hv
  obtain ⟨rfl, _, rfl⟩ := hv
  refine ⟨g, 0, rfl, (h.lt g rfl).2, fun j u hj => ?_⟩
  have hjl : j < n * 4 := by have := (List.getElem?_eq_some_iff.1 hj).1; have := h.1; omega
  rw [Nat.zero_add, h.cellAt j hjl, hj]
theorem own_cap {w : World} {base n size cap : Nat} {A : Option Addr} {t : TypeId} {xs : List Value} (h : w.ownsRow base t size (.slice A n cap) n xs) : n ≤ cap ∧ cap ≤ maxLen := by
  rcases h.2 with ⟨h1, h2⟩ | ⟨g, cap', _, hv, _, _, h3, h4, _⟩
  · simp only [Value.slice.injEq] at h1
    obtain ⟨_, _, rfl⟩ := h1
    subst h2
    exact ⟨Nat.le_refl _, Nat.zero_le _⟩
  · simp only [Value.slice.injEq] at hv
    obtain ⟨_, _, rfl⟩ := hv
    exact ⟨h3, h4⟩
theorem own_slice {w : World} {base n size : Nat} {t : TypeId} {v : Value} {xs : List Value} (h : w.ownsRow base t size v n xs) : ∃ A cap, v = .slice A n cap := by
  rcases h.2 with ⟨rfl, rfl⟩ | ⟨g, cap, _, hv, _⟩
  · exact ⟨none, 0, rfl⟩
  · exact ⟨_, _, hv⟩

set_option maxRecDepth 100000 in
set_option maxHeartbeats 4000000 in
theorem worst_any (A A' K : Option Addr) (c c' m d gb ob gt ot n cb ct : Nat) (bend long wide kerf across : Int) (bot top : List (Int × Int)) (cr : List Crack) (w : World)
    (h : Pairs w (some ⟨gb, ob, none⟩) n bot) (h' : Pairs w (some ⟨gt, ot, none⟩) n top) (hk : Cracks w K m cr) (h0 : 0 < n) (hn : n ≤ 30) (hm : m ≤ 4) :
    Calls Try.prog 66 #[.agg #[.slice A n c, .slice A' n c', .int .i64 bend, .slice K m d, .slice (some ⟨gb, ob, none⟩) n cb, .slice (some ⟨gt, ot, none⟩) n ct], .agg #[.int .i64 long, .int .i64 wide, .int .i64 kerf, .int .i64 across]] w
      (WorstRes w n m (worstL long wide kerf across bot top cr)) := by
  have Hp := Lib.hid (fun W (hb : Below w.heap.size w W) => h.below hb)
  have Hp' := Lib.hid (fun W (hb : Below w.heap.size w W) => h'.below hb)
  have Hk := Lib.hid (fun W (hb : Below w.heap.size w W) => hk.below hb)
  clear h h' hk
  go_enter Try.func66, Try.ntmps66
  go_upto_region 1 with (fail)
  go_cut [5] (fun s5 W => ∃ g v1 v2, s5 = .pointer (some ⟨g, 0, none⟩) ∧ WorstMid w W #[.slice A n c, .slice A' n c', .int .i64 bend, .slice K m d, .slice (some ⟨gb, ob, none⟩) n cb, .slice (some ⟨gt, ot, none⟩) n ct] #[.int .i64 long, .int .i64 wide, .int .i64 kerf, .int .i64 across] g v1 v2 (.slice none 0 0) n ((bot.map (·.2)).map (Value.int .i64)) ((top.map (·.1)).map (Value.int .i64)) 0 [])
  case first =>
    have hs0 : ∀ Z, WS w (((w.alloc (.cells #[.slice A n c, .slice A' n c', .int .i64 bend, .slice K m d, .slice (some ⟨gb, ob, none⟩) n cb, .slice (some ⟨gt, ot, none⟩) n ct] 106)).alloc (.cells #[.int .i64 long, .int .i64 wide, .int .i64 kerf, .int .i64 across] 37)).alloc (.cells Z 120)).drew #[.slice A n c, .slice A' n c', .int .i64 bend, .slice K m d, .slice (some ⟨gb, ob, none⟩) n cb, .slice (some ⟨gt, ot, none⟩) n ct] #[.int .i64 long, .int .i64 wide, .int .i64 kerf, .int .i64 across] Z :=
      fun Z => ⟨((Blk.new w _ _ rfl).alloc _).alloc _, (Blk.new _ _ _ (by simp)).alloc _, Blk.new _ _ _ (by simp)⟩
    have b0 : ∀ Z, Below w.heap.size w (((w.alloc (.cells #[.slice A n c, .slice A' n c', .int .i64 bend, .slice K m d, .slice (some ⟨gb, ob, none⟩) n cb, .slice (some ⟨gt, ot, none⟩) n ct] 106)).alloc (.cells #[.int .i64 long, .int .i64 wide, .int .i64 kerf, .int .i64 across] 37)).alloc (.cells Z 120)).drew := fun _ =>
      ((((Below.refl _ _).alloc (Nat.le_refl _) _).alloc (by simp) _).alloc (by simp <;> omega) _).drew
    have Hs0 := Lib.hid hs0
    have Hb0 := Lib.hid b0
    clear hs0 b0
    go_region_held3 (fun W' => W'.cell? ⟨w.heap.size + 1, 0, none⟩ = some (.int .i64 long) ∧ W'.cell? ⟨w.heap.size + 1, 1, none⟩ = some (.int .i64 wide) ∧ W'.cell? ⟨w.heap.size + 1, 2, none⟩ = some (.int .i64 kerf) ∧ W'.cell? ⟨w.heap.size + 1, 3, none⟩ = some (.int .i64 across) ∧
      W'.cell? ⟨w.heap.size, 4, none⟩ = some (.slice (some ⟨gb, ob, none⟩) n cb) ∧ W'.cell? ⟨w.heap.size, 5, none⟩ = some (.slice (some ⟨gt, ot, none⟩) n ct)) (first | with_reducible exact WS.get (Hs0.out _) | with_reducible exact WS.get ((Hs0.out _).allocd _) | with_reducible exact WS.get Hs2.out | with_reducible exact WS.get (Hs2.out.alloc _) | with_reducible exact WS.get (Hs2.out.set7 Hg.out _ _ _ _ _ _ _) | with_reducible exact WS.get Hs1.out | with_reducible exact WS.get (Hs1.out.alloc _))
      (first
        | (go_at_call_of 98 (Value.slice (some ⟨gb, ob, none⟩) n cb); refine (heightsHigh_any gb ob n cb bot _ (Hp.out _ ?_) h0 (by omega)).mono ?_; (first | with_reducible exact Hb0.out _ | with_reducible exact below_allocd (Hb0.out _) _); rintro e W1 ⟨h1, c1, rfl, ho1, hb1⟩; (first | (with_reducible have Z1 : Hid (Blk W1 (w.heap.size + 1 + 1 + 1) 120 zero7) := Lib.hid (z1_of hb1)) | skip); have Hs1 : Hid (WS w W1 _ _ zero7) := (by first | with_reducible exact Lib.hid ((Hs0.out _).below hb1) | with_reducible exact Lib.hid (((Hs0.out _).allocd _).below hb1)); have Ho1 : Hid (HO w W1 _ n _) := (by first | with_reducible exact Lib.hid (ho_of (Hb0.out _) ho1 hb1) | with_reducible exact Lib.hid (ho_of (below_allocd (Hb0.out _) _) ho1 hb1)); clear ho1)
        | (go_at_call_of 98 (Value.slice (some ⟨gt, ot, none⟩) n ct); refine (heightsLow_any gt ot n ct top _ (Hp'.out _ ?_) h0 (by omega)).mono ?_; (first | with_reducible exact Ho1.out.bel | with_reducible exact (Ho1.out.alloc _).bel); rintro e W2 ⟨h2, c2, rfl, ho2, hb2⟩; (first | ((with_reducible have Z2 : Hid (Blk W2 (w.heap.size + 1 + 1 + 1) 120 zero7) := Lib.hid (blk_keep hb2 Z1.out)); have Hg := Lib.hid (show w.heap.size + 2 < w.heap.size + 1 + 1 + 1 from by omega); obtain ⟨y0, y1, y2, y3, y4, y5, y6, f0, f1, f2, f3, f4, f5, f6⟩ := blk7 Z2.out) | ((with_reducible have Z3 : Hid (Blk W2 W1.heap.size 120 zero7) := Lib.hid (z2_of hb2)); have Hg := Lib.hid (show w.heap.size + 2 < W1.heap.size from Hs1.out.bz.lt); obtain ⟨y0, y1, y2, y3, y4, y5, y6, f0, f1, f2, f3, f4, f5, f6⟩ := blk7 Z3.out) | skip); have Hs2 : Hid (WS w W2 _ _ zero7) := (by first | with_reducible exact Lib.hid (Hs1.out.below hb2) | with_reducible exact Lib.hid ((Hs1.out.alloc _).below hb2)); have Hm2 : Hid (HM w W2 _ _ n _ _) := (by first | with_reducible exact Lib.hid (hm_of Ho1.out ho2 hb2) | with_reducible exact Lib.hid (hm_of (Ho1.out.alloc _) ho2 hb2)); clear ho2))
    all_goals (go_wp2_with fail; go_meet)
    · exact ⟨_, _, _, rfl, meet3 Hs2.out Hm2.out⟩
    · exact ⟨_, _, _, rfl, meet12 Hs2.out Hm2.out Z3.out Hg.out⟩
    · exact ⟨_, _, _, rfl, meet12 Hs2.out Hm2.out Z2.out Hg.out⟩
  case rest =>
    obtain ⟨g, v1, v2, rfl, hM⟩ := hcut
    have HM0 := Lib.hid hM
    clear hM
    obtain ⟨i0, hi, hz0, hz1, hz2⟩ := info_parts Try.infoSplit
    have hlen : cr.length = m := (Hk.out w (Below.refl _ _)).len
    have Hlen := Lib.hid hlen
    clear hlen
    have hcc := HM0.out.fc.cell
    go_wp2_with fail
    clear hcc
    go_loopw [20] (fun i wr => ∃ (k : Nat) (sv : Value), k ≤ m ∧ i = .int .i64 k ∧ WorstMid w wr #[.slice A n c, .slice A' n c', .int .i64 bend, .slice K m d, .slice (some ⟨gb, ob, none⟩) n cb, .slice (some ⟨gt, ot, none⟩) n ct] #[.int .i64 long, .int .i64 wide, .int .i64 kerf, .int .i64 across] g v1 v2 sv n ((bot.map (·.2)).map (Value.int .i64)) ((top.map (·.1)).map (Value.int .i64)) k (flat4 ((cr.map worstSplit).take k))) (fun i _ => m - (intOf i).toNat)
    case atStart => exact ⟨0, _, Nat.zero_le _, rfl, HM0.out⟩
    case round =>
      obtain ⟨k, sv, hk, rfl, hM⟩ := hrel
      have HM := Lib.hid hM
      clear hM
      by_cases hlt : k < m
      · obtain ⟨b, off, rfl, hb, hc0, hc1, hc2, hc3, hc4, hc5⟩ := (Hk.out _ HM.out.bel).at_ hlt
        have HS := Lib.hid (flat4_map_snoc cr k (by rw [Hlen.out]; exact hlt))
        generalize cr.getD k Crack.zero = y at *
        have hg6 : ∀ W, Below wr.heap.size wr W → W.cell? ⟨g, 6, none⟩ = some sv := fun W hW => by simpa using (HM.out.below hW).fg.cell 6
        have HA := Lib.hid (fun W (hW : Below wr.heap.size wr W) => (HM.out.below hW))
        have Hg6 := Lib.hid hg6
        have hg7 := hg6 (wr.alloc (.cells #[.int .i64 y.cl, .int .i64 y.ch, .int .i64 y.fl, .int .i64 y.fh, .int .i64 y.tl, .int .i64 y.th] 111)) (below_self _ _)
        clear hg6
        obtain ⟨SA, sc, hsv⟩ := own_slice HM.out.os
        have B2 := Lib.hid ((below_self wr (.cells #[.int .i64 y.cl, .int .i64 y.ch, .int .i64 y.fl, .int .i64 y.fh, .int .i64 y.tl, .int .i64 y.th] 111)).alloc (by simp) (.cells #[.int .i64 y.cl, .int .i64 y.ch, .int .i64 y.fl, .int .i64 y.th] 161))
        have HA2 := Lib.hid (HA.out _ B2.out)
        have Hnews := Lib.hid (cell_four_new (wr.alloc (.cells #[.int .i64 y.cl, .int .i64 y.ch, .int .i64 y.fl, .int .i64 y.fh, .int .i64 y.tl, .int .i64 y.th] 111)) (.int .i64 y.cl) (.int .i64 y.ch) (.int .i64 y.fl) (.int .i64 y.th) 161 (g := wr.heap.size + 1) (by simp))
        clear hsv
        go_wp2_with (at_builtin; refine wpList_append_own _ rfl _ _ 118 rfl w.heap.size 161 i0 (.agg #[.int .i64 0, .int .i64 0, .int .i64 0, .int .i64 0]) 4 32 Try.underlying118 hi hz0 hz1 hz2 rfl (by decide) _ _ _ rfl HA2.out.os ⟨wr.heap.size + 1, 0, none⟩ 1 1 [.int .i64 y.cl, .int .i64 y.ch, .int .i64 y.fl, .int .i64 y.th] rfl rfl Hnews.out ?c2 ?c3 ?c4 ?c5 ?_)
        case c2 => intro u hu; simp only [List.mem_cons, List.not_mem_nil, or_false] at hu; rcases hu with rfl | rfl | rfl | rfl <;> rfl
        case c3 => unfold maxLen; omega
        case c4 => omega
        case c5 => exact HA2.out.bel.size
        intro v' w4 hown4 hgrow _
        obtain ⟨gv, cv, rfl⟩ := own_form hown4 (Nat.succ_pos k)
        have hown5 : Hid (w4.ownsRow w.heap.size 161 4 (.slice (some ⟨gv, 0, none⟩) (k + 1) cv) (k + 1) (flat4 ((cr.map worstSplit).take (k + 1)))) := by unfold Hid; rw [HS.out]; exact hown4
        have HN := Lib.hid (HA2.out.appended hgrow hown5.out rfl)
        have gg := HA2.out.fg.grown hgrow (own_blk_ne HA2.out.os HA2.out.fg (by decide))
        have g6 : w4.cell? ⟨g, 6, none⟩ = some sv := by simpa using gg.cell 6
        have f6 := gg.frozen 6
        clear hown4 hgrow gg hg7 hc0 hc1 hc2 hc3 hc4 hc5
        go_wp2
        go_roundw
        case rel => exact ⟨k + 1, _, by omega, by go_num, HN.out⟩
        case measure => simp [intOf]; omega
      · obtain rfl : k = m := by omega
        have hM := HM.out
        rw [List.take_of_length_le (by rw [List.length_map, Hlen.out]; exact Nat.le_refl _)] at hM
        obtain ⟨g1, k1, rfl⟩ := own_form hM.o1 h0
        obtain ⟨g2, k2, rfl⟩ := own_form hM.o2 h0
        obtain ⟨SA, sc, rfl⟩ := own_slice hM.os
        have hg : Blk wr g 120 #[.int .i64 long, .int .i64 wide, .int .i64 kerf, .int .i64 across, .slice (some ⟨g1, 0, none⟩) n k1, .slice (some ⟨g2, 0, none⟩) n k2, .slice SA k sc] := hM.fg
        have hr := hM.fr
        have HF := Lib.hid (own_setRow hM.o1 hM.fr (by decide) #[.int .i64 long, .int .i64 wide, .int .i64 kerf, .int .i64 across, .slice (some ⟨g1, 0, none⟩) n k1, .slice (some ⟨g2, 0, none⟩) n k2, .slice SA k sc])
        have HF2 := Lib.hid (own_setRow hM.o2 hM.fr (by decide) #[.int .i64 long, .int .i64 wide, .int .i64 kerf, .int .i64 across, .slice (some ⟨g1, 0, none⟩) n k1, .slice (some ⟨g2, 0, none⟩) n k2, .slice SA k sc])
        have HF3 := Lib.hid (own_setRow hM.os hM.fr (by decide) #[.int .i64 long, .int .i64 wide, .int .i64 kerf, .int .i64 across, .slice (some ⟨g1, 0, none⟩) n k1, .slice (some ⟨g2, 0, none⟩) n k2, .slice SA k sc])
        have HB := Lib.hid hM.bel
        have Hr := Lib.hid hr
        have Hg := Lib.hid hg
        clear hM hr hg HM HM0
        go_wp2_with (first | (refine wpList_load_row rfl 120 _ rfl g rfl 120 _ _ _ Hg.out Try.underlying120 rfl (by kernel_rfl) ?_) | (refine wpList_store_row rfl 120 _ _ rfl (w.heap.size + 2) _ rfl rfl 120 _ Hr.out (by kernel_rfl) rfl (by kernel_rfl) ?_))
        exact bodyPost_ret (results_c rfl _ _ _ _ _ _ _ rfl (Hr.out.setRow _) Try.underlying120 (by kernel_rfl)) rfl ⟨below_setR HB.out (by omega) _, ⟨g1, 0, none⟩, ⟨g2, 0, none⟩, k1, k2, SA, sc, rfl, ⟨ints_of_own HF.out, ints_of_own HF2.out, splits_of_own HF3.out⟩, own_cap HF.out, own_cap HF2.out, rfl, rfl⟩
end Go.Proofs.Ytiflhimmieflpaa

/- Walks: slices.Max, Min, room. -/
namespace Go.Proofs.Ytiflhimmieflpaa
open Go.RowKit

def maxTo (xs : List Int) : Nat → Int
  | 0 => xs.getD 0 0
  | k + 1 => max (maxTo xs k) (xs.getD (k + 1) 0)
theorem maxTo_succ (xs : List Int) (k : Nat) : maxTo xs (k + 1) = max (maxTo xs k) (xs.getD (k + 1) 0) := rfl
theorem max_if (a b : Int) : (if a < b then b else a) = max a b := by split <;> omega
set_option maxHeartbeats 400000 in
theorem Max_any (A : Option Addr) (n c : Nat) (xs : List Int) (w : World) (h : Ints w A n xs) (h0 : 0 < n) (hn : n ≤ maxLen) :
    Calls Try.prog 115 #[.slice A n c] w fun e w' => e = .returned (.int .i64 (maxTo xs (n - 1))) ∧ w = w' := by
  unfold maxLen at hn
  have hl := h.len
  obtain ⟨b, off, rfl, hb, hc0⟩ := h.at_ h0
  rw [Nat.add_zero] at hc0
  generalize hv : xs.getD 0 0 = v at *
  have HV : Hid (maxTo xs 0 = v) := hv
  clear hv
  go_enter Try.func115, Try.ntmps115
  go_wp2_with fail
  go_loop [3, 4] (fun m i => ∃ k : Nat, 1 ≤ k ∧ k ≤ n ∧ i = .int .i64 k ∧ m = .int .i64 (maxTo xs (k - 1))) (fun _ i => n - (intOf i).toNat)
  case atStart => exact ⟨1, by omega, by omega, rfl, by rw [Nat.sub_self, HV.out]⟩
  case round =>
    obtain ⟨k, hk1, hk, rfl, rfl⟩ := hrel
    by_cases hlt : k < n
    · obtain ⟨b', off', hA, hb', hc⟩ := h.at_ hlt
      simp only [Option.some.injEq, Addr.mk.injEq, and_true] at hA
      obtain ⟨rfl, rfl⟩ := hA
      have HS : Hid (maxTo xs (k + 1 - 1) = max (maxTo xs (k - 1)) (xs.getD k 0)) := by
        unfold Hid
        have := maxTo_succ xs (k - 1)
        rw [show k - 1 + 1 = k from by omega] at this
        rw [show k + 1 - 1 = k from by omega]
        exact this
      have Hl := Lib.hid hl
      clear hl
      generalize xs.getD k 0 = y at *
      generalize maxTo xs (k - 1) = z at *
      go_wp2_with fail
      go_round
      case rel => exact ⟨k + 1, by omega, by omega, by go_num, by rw [HS.out, ← max_if]⟩
      case measure => simp [intOf]; omega
    · obtain rfl : k = n := by omega
      go_wp2
      go_ret
      exact ⟨rfl, rfl⟩

def minTo (xs : List Int) : Nat → Int
  | 0 => xs.getD 0 0
  | k + 1 => min (minTo xs k) (xs.getD (k + 1) 0)
theorem minTo_succ (xs : List Int) (k : Nat) : minTo xs (k + 1) = min (minTo xs k) (xs.getD (k + 1) 0) := rfl
theorem min_if (a b : Int) : (if b < a then b else a) = min a b := by split <;> omega
set_option maxHeartbeats 400000 in
theorem Min_any (A : Option Addr) (n c : Nat) (xs : List Int) (w : World) (h : Ints w A n xs) (h0 : 0 < n) (hn : n ≤ maxLen) :
    Calls Try.prog 79 #[.slice A n c] w fun e w' => e = .returned (.int .i64 (minTo xs (n - 1))) ∧ w = w' := by
  unfold maxLen at hn
  have hl := h.len
  obtain ⟨b, off, rfl, hb, hc0⟩ := h.at_ h0
  rw [Nat.add_zero] at hc0
  generalize hv : xs.getD 0 0 = v at *
  have HV : Hid (minTo xs 0 = v) := hv
  clear hv
  go_enter Try.func79, Try.ntmps79
  go_wp2_with fail
  go_loop [3, 4] (fun m i => ∃ k : Nat, 1 ≤ k ∧ k ≤ n ∧ i = .int .i64 k ∧ m = .int .i64 (minTo xs (k - 1))) (fun _ i => n - (intOf i).toNat)
  case atStart => exact ⟨1, by omega, by omega, rfl, by rw [Nat.sub_self, HV.out]⟩
  case round =>
    obtain ⟨k, hk1, hk, rfl, rfl⟩ := hrel
    by_cases hlt : k < n
    · obtain ⟨b', off', hA, hb', hc⟩ := h.at_ hlt
      simp only [Option.some.injEq, Addr.mk.injEq, and_true] at hA
      obtain ⟨rfl, rfl⟩ := hA
      have HS : Hid (minTo xs (k + 1 - 1) = min (minTo xs (k - 1)) (xs.getD k 0)) := by
        unfold Hid
        have := minTo_succ xs (k - 1)
        rw [show k - 1 + 1 = k from by omega] at this
        rw [show k + 1 - 1 = k from by omega]
        exact this
      have Hl := Lib.hid hl
      clear hl
      generalize xs.getD k 0 = y at *
      generalize minTo xs (k - 1) = z at *
      go_wp2_with fail
      go_round
      case rel => exact ⟨k + 1, by omega, by omega, by go_num, by rw [HS.out, ← min_if]⟩
      case measure => simp [intOf]; omega
    · obtain rfl : k = n := by omega
      go_wp2
      go_ret
      exact ⟨rfl, rfl⟩

theorem quiet_left {P : Program} {f : FuncId} {args : Array Value} {w : World} {n : Nat} {v : Value}
    (h : Calls P f args (w.drewN n) fun e w' => e = .returned v ∧ w.drewN n = w') : Calls P f args (w.drewN n) fun e w'' => e = .returned v ∧ ∃ m, w'' = w.drewN m :=
  h.mono fun _ _ ⟨he, hw⟩ => ⟨he, n, hw.symm⟩
theorem ints_cut {w : World} {b off n x m : Nat} {xs : List Int} (h : Ints w (some ⟨b, off, none⟩) n xs) (hx : x + m ≤ n) : Ints w (some ⟨b, off + x, none⟩) m ((xs.drop x).take m) := by
  have hl := h.len
  refine ⟨by simp; omega, fun hm => ?_⟩
  obtain ⟨b', off', hA, hb, hc⟩ := h.2 (by omega)
  simp only [Option.some.injEq, Addr.mk.injEq, and_true] at hA
  obtain ⟨rfl, rfl⟩ := hA
  refine ⟨b, off + x, rfl, hb, fun j u hj => ?_⟩
  have hjm : j < m := by have := (List.getElem?_eq_some_iff.1 hj).1; simp at this; omega
  rw [Nat.add_assoc]
  refine hc (x + j) u ?_
  rw [← hj]
  simp [hjm]
def roomL (s : Sawing) (x : Nat) : Int × Int := (maxTo ((s.bottom.drop x).take s.long.toNat) (s.long.toNat - 1), minTo ((s.top.drop x).take s.long.toNat) (s.long.toNat - 1))

set_option maxRecDepth 100000 in
set_option maxHeartbeats 1000000 in
theorem room_any (s : Sawing) (b o b' o' n c c' : Nat) (K : Option Addr) (m d x : Nat) (w : World) (h : SawAt w s ⟨b, o, none⟩ ⟨b', o', none⟩ n K m) (hc : n ≤ c) (hc' : n ≤ c') (hm : c ≤ maxLen) (hl : 1 ≤ s.long) (hx : (x : Int) + s.long ≤ n) :
    Calls Try.prog 101 #[sawVal s ⟨b, o, none⟩ ⟨b', o', none⟩ n c c' K m d, .int .i64 x] w
      fun e w' => e = .returned (.tuple #[.int .i64 (roomL s x).1, .int .i64 (roomL s x).2]) ∧ Below w.heap.size w w' := by
  obtain ⟨long, wide, kerf, across, bottom, top, splits⟩ := s
  simp only at hl hx
  obtain ⟨l, rfl⟩ := Int.eq_ofNat_of_zero_le (show 0 ≤ long by omega)
  unfold sawVal roomL
  simp only [Int.toNat_natCast]
  unfold maxLen at hm
  have B1 := below_self w (.cells #[.int .i64 l, .int .i64 wide, .int .i64 kerf, .int .i64 across, .slice (some ⟨b, o, none⟩) n c, .slice (some ⟨b', o', none⟩) n c', .slice K m d] 120)
  have I1 := ints_cut (x := x) (m := l) (h.1.below B1) (by omega)
  have I2 := ints_cut (x := x) (m := l) (h.2.1.below B1) (by omega)
  have I1' := Lib.hid I1
  have I2' := Lib.hid I2
  clear I1 I2 h
  have k1 : IntKind.i64.wrap ((x : Int) + (l : Int)) = (x : Int) + (l : Int) := IntWalk.i64_in _ (by omega)
  have k2 : ((x : Int) + (l : Int)).toNat = x + l := by omega
  have k3 : ¬ c = x := by omega
  have k4 : ¬ c' = x := by omega
  have k5 : 0 ≤ (x : Int) + (l : Int) := by omega
  have k6 : (x : Int) + (l : Int) ≤ (c : Int) := by omega
  have k7 : (x : Int) + (l : Int) ≤ (c' : Int) := by omega
  go_enter Try.func101, Try.ntmps101
  go_wp2
  go_quiet (first | (go_at_call 115; exact quiet_left (Max_any _ l (c - x) _ _ I1'.out (by omega) (by unfold maxLen; omega))) | (go_at_call 79; exact quiet_left (Min_any _ l (c' - x) _ _ I2'.out (by omega) (by unfold maxLen; omega))))
  clear k1 k2 k3 k4 k5 k6 k7
  go_wp2
  go_ret2
  exact ⟨rfl, below_drewN B1 _⟩
end Go.Proofs.Ytiflhimmieflpaa

/- Walks: spoiler. -/
namespace Go.Proofs.Ytiflhimmieflpaa
open Go.RowKit

/-- Whether a crack spoils a stick. -/
def spoilB (s : Sawing) (px py : Int) (k : Split) : Bool := decide (k.cl < px + s.long) && decide (px ≤ k.ch) && decide (py < k.up) && decide (k.fr < py + s.wide)
def SmallI (n : Int) : Prop := -1000000 ≤ n ∧ n ≤ 1000000

set_option maxHeartbeats 1000000 in
theorem spoil1_any (s : Sawing) (px py : Int) (k : Split) (Bp Bw : Nat) (w : World) (hpx : SmallI px) (hpy : SmallI py) (hl : SmallI s.long) (hw : SmallI s.wide)
    (c0 : w.cell? ⟨Bp, 0, none⟩ = some (.int .i64 px)) (c1 : w.cell? ⟨Bp, 1, none⟩ = some (.int .i64 py)) (d0 : w.cell? ⟨Bw, 0, none⟩ = some (.int .i64 s.long)) (d1 : w.cell? ⟨Bw, 1, none⟩ = some (.int .i64 s.wide)) (hBp : Bp < w.heap.size) (hBw : Bw < w.heap.size) :
    Calls Try.prog 117 #[.agg #[.int .i64 k.cl, .int .i64 k.ch, .int .i64 k.fr, .int .i64 k.up], .pointer (some ⟨Bp, 0, none⟩), .pointer (some ⟨Bw, 0, none⟩)] w
      fun e w' => e = .returned (.bool (spoilB s px py k)) ∧ Below w.heap.size w w' := by
  obtain ⟨cl, ch, fr, up⟩ := k
  have HE : Hid (spoilB s px py ⟨cl, ch, fr, up⟩ = (decide (cl < px + s.long) && decide (px ≤ ch) && decide (py < up) && decide (fr < py + s.wide))) := rfl
  generalize spoilB s px py ⟨cl, ch, fr, up⟩ = r at *
  generalize s.long = l at *
  generalize s.wide = wd at *
  unfold SmallI at hpx hpy hl hw
  obtain ⟨a1, a2⟩ := hpx
  obtain ⟨a3, a4⟩ := hpy
  obtain ⟨a5, a6⟩ := hl
  obtain ⟨a7, a8⟩ := hw
  simp only
  have B1 := below_self w (.cells #[.int .i64 cl, .int .i64 ch, .int .i64 fr, .int .i64 up] 161)
  by_cases h1 : cl < px + l
  · by_cases h2 : px ≤ ch
    · by_cases h3 : py < up
      · by_cases h4 : fr < py + wd
        · go_enter Try.func117, Try.ntmps117
          go_wp2
          go_ret
          exact ⟨ret_bool (by rw [HE.out]; simp; omega), B1⟩
        · go_enter Try.func117, Try.ntmps117
          go_wp2
          go_ret
          exact ⟨ret_bool (by rw [HE.out]; simp; omega), B1⟩
      · go_enter Try.func117, Try.ntmps117
        go_wp2
        go_ret
        exact ⟨ret_bool (by rw [HE.out]; simp; omega), B1⟩
    · go_enter Try.func117, Try.ntmps117
      go_wp2
      go_ret
      exact ⟨ret_bool (by rw [HE.out]; simp; omega), B1⟩
  · go_enter Try.func117, Try.ntmps117
    go_wp2
    go_ret
    exact ⟨ret_bool (by rw [HE.out]; simp; omega), B1⟩

set_option maxHeartbeats 1000000 in
theorem indexSplit_any (s : Sawing) (px py : Int) (Bp Bw : Nat) (A : Option Addr) (n c : Nat) (xs : List Split) (w : World) (hpx : SmallI px) (hpy : SmallI py) (hl : SmallI s.long) (hw : SmallI s.wide)
    (c0 : w.cell? ⟨Bp, 0, none⟩ = some (.int .i64 px)) (c1 : w.cell? ⟨Bp, 1, none⟩ = some (.int .i64 py)) (d0 : w.cell? ⟨Bw, 0, none⟩ = some (.int .i64 s.long)) (d1 : w.cell? ⟨Bw, 1, none⟩ = some (.int .i64 s.wide)) (hBp : Bp < w.heap.size) (hBw : Bw < w.heap.size)
    (h : Splits w A n xs) (hn : n ≤ maxLen) :
    Calls Try.prog 116 #[.slice A n c, .func (.func 117) #[] #[.pointer (some ⟨Bp, 0, none⟩), .pointer (some ⟨Bw, 0, none⟩)]] w
      fun e w' => e = .returned (.int .i64 (idx (spoilB s px py) xs)) ∧ Below w.heap.size w w' := by
  unfold maxLen at hn
  have hlen := h.len
  have hcall := fun k W (hb : Below w.heap.size w W) => spoil1_any s px py k Bp Bw W hpx hpy hl hw ((hb.cell (p := ⟨Bp, 0, none⟩) hBp).trans c0) ((hb.cell (p := ⟨Bp, 1, none⟩) hBp).trans c1) ((hb.cell (p := ⟨Bw, 0, none⟩) hBw).trans d0) ((hb.cell (p := ⟨Bw, 1, none⟩) hBw).trans d1) (Nat.lt_of_lt_of_le hBp hb.size) (Nat.lt_of_lt_of_le hBw hb.size)
  generalize spoilB s px py = p at *
  have Hcall := Lib.hid hcall
  clear hcall c0 c1 d0 d1 hpx hpy hl hw hBp hBw
  go_enter Try.func116, Try.ntmps116
  go_wp2
  go_loopw [8] (fun i wr => ∃ k : Nat, k ≤ n ∧ i = .int .i64 k ∧ noneOf p (xs.take k) = true ∧ Below w.heap.size w wr) (fun i _ => n - (intOf i).toNat)
  case atStart => exact ⟨0, Nat.zero_le _, rfl, rfl, Below.refl _ _⟩
  case round =>
    obtain ⟨k, hk, rfl, hin, hbel⟩ := hrel
    by_cases hlt : k < n
    · obtain ⟨b, off, rfl, hb, hc0, hc1, hc2, hc3⟩ := (h.below hbel).at_ hlt
      have H := Lib.hid (noneOf_succ (p := p) Split.zero (xs := xs) (k := k) (by omega))
      have Hin := Lib.hid hin
      have Hit := Lib.hid (idx_hit (p := p) Split.zero (xs := xs) (k := k) (by omega) hin)
      clear hin hlen
      generalize xs.getD k Split.zero = y at *
      have C := Lib.hid (Hcall.out y wr hbel)
      cases hq : p y
      · go_wp2_with (go_at_call 117; refine C.out.mono ?_; rintro e w2 ⟨rfl, hb2⟩)
        go_roundw
        case rel => exact ⟨k + 1, by omega, by go_num, by rw [H.out, Hin.out, hq]; rfl, hbel.trans (hb2.mono hbel.size)⟩
        case measure => simp [intOf]; omega
      · go_wp2_with (go_at_call 117; refine C.out.mono ?_; rintro e w2 ⟨rfl, hb2⟩)
        go_ret
        exact ⟨ret_int (Hit.out hq).symm, hbel.trans (hb2.mono hbel.size)⟩
    · have he : idx p xs = -1 := idx_none (by rw [← hin, List.take_of_length_le (by omega)])
      clear hin
      have He := Lib.hid he
      clear he
      go_wp2
      go_ret
      exact ⟨ret_int He.out.symm, hbel⟩

set_option maxRecDepth 100000 in
set_option maxHeartbeats 1000000 in
theorem spoiler_any (s : Sawing) (b b' : Addr) (n c c' : Nat) (K : Option Addr) (m d : Nat) (px py : Int) (w : World) (h : SawAt w s b b' n K m) (hpx : SmallI px) (hpy : SmallI py) (hl : SmallI s.long) (hw : SmallI s.wide) (hm : m ≤ 4) :
    Calls Try.prog 102 #[sawVal s b b' n c c' K m d, .agg #[.int .i64 px, .int .i64 py]] w
      fun e w' => e = .returned (.int .i64 (idx (spoilB s px py) s.splits)) ∧ Below w.heap.size w w' := by
  have hmf : ∀ (fn : Fn) (first cap : Array Value) (w : World), (Instr.makeFunc fn first cap).run Try.prog w = .ok (.func fn first cap) w := fun _ _ _ _ => rfl
  unfold sawVal
  have B1 : Below w.heap.size w ((w.alloc (.cells #[.int .i64 s.long, .int .i64 s.wide, .int .i64 s.kerf, .int .i64 s.across, .slice (some b) n c, .slice (some b') n c', .slice K m d] 120)).alloc (.cells #[.int .i64 px, .int .i64 py] 39)) := below_alloc' (below_self _ _) _
  have HC := Lib.hid (indexSplit_any s px py (w.heap.size + 1) w.heap.size K m d s.splits _ hpx hpy hl hw ((Blk.new (w.alloc (.cells #[.int .i64 s.long, .int .i64 s.wide, .int .i64 s.kerf, .int .i64 s.across, .slice (some b) n c, .slice (some b') n c', .slice K m d] 120)) 39 #[.int .i64 px, .int .i64 py] (by simp)).cell 0) ((Blk.new (w.alloc (.cells #[.int .i64 s.long, .int .i64 s.wide, .int .i64 s.kerf, .int .i64 s.across, .slice (some b) n c, .slice (some b') n c', .slice K m d] 120)) 39 #[.int .i64 px, .int .i64 py] (by simp)).cell 1)
    (((Blk.new w 120 #[.int .i64 s.long, .int .i64 s.wide, .int .i64 s.kerf, .int .i64 s.across, .slice (some b) n c, .slice (some b') n c', .slice K m d] rfl).alloc _).cell 0) (((Blk.new w 120 #[.int .i64 s.long, .int .i64 s.wide, .int .i64 s.kerf, .int .i64 s.across, .slice (some b) n c, .slice (some b') n c', .slice K m d] rfl).alloc _).cell 1) (by simp) (by simp <;> omega) (h.2.2.below B1) (by unfold maxLen; omega))
  clear h
  go_enter Try.func102, Try.ntmps102
  go_wp2_with (go_at_call 116; refine HC.out.mono ?_; rintro e w2 ⟨rfl, hb2⟩)
  go_ret
  exact ⟨rfl, below_then B1 hb2⟩
end Go.Proofs.Ytiflhimmieflpaa

/- Walks: block. -/
namespace Go.Proofs.Ytiflhimmieflpaa
open Go.RowKit

structure SawBounds (s : Sawing) : Prop where
  l1 : 1 ≤ s.long
  l2 : s.long ≤ 30
  w1 : 1 ≤ s.wide
  w2 : s.wide ≤ 300
  k1 : 0 ≤ s.kerf
  k2 : s.kerf ≤ 50
  a1 : 0 ≤ s.across
  a2 : s.across ≤ 50
  bot : ∀ v ∈ s.bottom, 0 ≤ v ∧ v ≤ 300
  top : ∀ v ∈ s.top, 0 ≤ v ∧ v ≤ 300
  spl : ∀ k ∈ s.splits, 0 ≤ k.up ∧ k.up ≤ 300

theorem maxTo_in {xs : List Int} {lo hi : Int} (h : ∀ v ∈ xs, lo ≤ v ∧ v ≤ hi) (k : Nat) (hk : k < xs.length) : lo ≤ maxTo xs k ∧ maxTo xs k ≤ hi := by
  have hg : ∀ i, i < xs.length → lo ≤ xs.getD i 0 ∧ xs.getD i 0 ≤ hi := fun i hi' => by
    have : xs.getD i 0 = xs[i] := by simp [hi', List.getD]
    rw [this]; exact h _ (List.getElem_mem hi')
  induction k with
  | zero => exact hg 0 hk
  | succ k ih => have := ih (by omega); have := hg (k + 1) hk; rw [maxTo_succ]; omega
theorem minTo_in {xs : List Int} {lo hi : Int} (h : ∀ v ∈ xs, lo ≤ v ∧ v ≤ hi) (k : Nat) (hk : k < xs.length) : lo ≤ minTo xs k ∧ minTo xs k ≤ hi := by
  have hg : ∀ i, i < xs.length → lo ≤ xs.getD i 0 ∧ xs.getD i 0 ≤ hi := fun i hi' => by
    have : xs.getD i 0 = xs[i] := by simp [hi', List.getD]
    rw [this]; exact h _ (List.getElem_mem hi')
  induction k with
  | zero => exact hg 0 hk
  | succ k ih => have := ih (by omega); have := hg (k + 1) hk; rw [minTo_succ]; omega
theorem room_in {s : Sawing} (hs : SawBounds s) {x n : Nat} (hb : s.bottom.length = n) (ht : s.top.length = n) (hx : (x : Int) + s.long ≤ n) : (0 ≤ (roomL s x).1 ∧ (roomL s x).1 ≤ 300) ∧ (0 ≤ (roomL s x).2 ∧ (roomL s x).2 ≤ 300) := by
  have h1 := hs.l1
  unfold roomL
  refine ⟨maxTo_in (fun v hv => hs.bot v (List.mem_of_mem_drop (List.mem_of_mem_take hv))) _ ?_, minTo_in (fun v hv => hs.top v (List.mem_of_mem_drop (List.mem_of_mem_take hv))) _ ?_⟩
  · simp only [List.length_take, List.length_drop]; omega
  · simp only [List.length_take, List.length_drop]; omega

def blockGo (s : Sawing) (x top : Int) : Nat → Int → List Int
  | 0, _ => []
  | f + 1, y => if y + s.wide ≤ top then (if 0 ≤ idx (spoilB s x y) s.splits then blockGo s x top f (s.splits.getD (idx (spoilB s x y) s.splits).toNat Split.zero).up else y :: blockGo s x top f (y + (s.wide + s.kerf))) else []
def blockL (s : Sawing) (x : Nat) : List Int := blockGo s x (roomL s x).2 302 (roomL s x).1

theorem idx_cases {α : Type} (p : α → Bool) (xs : List α) (z : α) : idx p xs = -1 ∨ ∃ k : Nat, idx p xs = k ∧ k < xs.length ∧ p (xs.getD k z) = true := by
  unfold idx
  cases h : xs.findIdx? p with
  | none => exact .inl rfl
  | some i =>
    rw [List.findIdx?_eq_some_iff_getElem] at h
    obtain ⟨hi, hp, _⟩ := h
    exact .inr ⟨i, rfl, hi, by simpa [List.getD, hi] using hp⟩

theorem blockGo_end {s : Sawing} {x top y : Int} {f : Nat} (h : ¬ y + s.wide ≤ top) : blockGo s x top f y = [] := by
  cases f with
  | zero => rfl
  | succ f => rw [blockGo, if_neg h]
theorem blockGo_stick {s : Sawing} {x top y : Int} {f : Nat} (h : y + s.wide ≤ top) (hi : idx (spoilB s x y) s.splits = -1) : blockGo s x top (f + 1) y = y :: blockGo s x top f (y + (s.wide + s.kerf)) := by
  rw [blockGo, if_pos h, if_neg (by rw [hi]; decide)]
theorem blockGo_crack {s : Sawing} {x top y : Int} {f k : Nat} (h : y + s.wide ≤ top) (hi : idx (spoilB s x y) s.splits = k) : blockGo s x top (f + 1) y = blockGo s x top f (s.splits.getD k Split.zero).up := by
  rw [blockGo, if_pos h, if_pos (by rw [hi]; omega), hi, Int.toNat_natCast]

def BlockRes (w : World) (L : List Int) (e : Ending) (w' : World) : Prop := ∃ v, e = .returned v ∧ w'.ownsRow w.heap.size 3 1 v L.length (L.map (Value.int .i64)) ∧ Below w.heap.size w w'

set_option maxRecDepth 100000 in
set_option maxHeartbeats 4000000 in
theorem block_any (s : Sawing) (b o b' o' n c c' : Nat) (K : Option Addr) (m d x : Nat) (w : World) (h : SawAt w s ⟨b, o, none⟩ ⟨b', o', none⟩ n K m) (hc : n ≤ c) (hc' : n ≤ c') (hm : c ≤ maxLen) (hs : SawBounds s) (hx : (x : Int) + s.long ≤ n) (hn : n ≤ 30) (hm4 : m ≤ 4) :
    Calls Try.prog 71 #[sawVal s ⟨b, o, none⟩ ⟨b', o', none⟩ n c c' K m d, .int .i64 x] w (BlockRes w (blockL s x)) := by
  obtain ⟨i0, hi, hz0, hz1, hz2⟩ := info_parts Try.infoInt
  have B1 := below_self w (.cells #[.int .i64 s.long, .int .i64 s.wide, .int .i64 s.kerf, .int .i64 s.across, .slice (some ⟨b, o, none⟩) n c, .slice (some ⟨b', o', none⟩) n c', .slice K m d] 120)
  have HR := Lib.hid (room_any s b o b' o' n c c' K m d x _ (h.below B1) hc hc' hm hs.l1 hx)
  have HIN := Lib.hid (room_in hs h.1.len h.2.1.len hx)
  have HL : Hid (blockL s x = blockGo s x (roomL s x).2 302 (roomL s x).1) := rfl
  have HW := Lib.hid (fun W (hb : Below w.heap.size w W) => h.below hb)
  have hmlen := Lib.hid h.2.2.len
  clear h hc hc' hm
  unfold sawVal at HR ⊢
  go_enter Try.func71, Try.ntmps71
  go_wp2_with fail
  refine HR.out.mono ?_
  rintro e w1 ⟨rfl, hb1⟩
  have HB := Lib.hid ((Blk.new w 120 #[.int .i64 s.long, .int .i64 s.wide, .int .i64 s.kerf, .int .i64 s.across, .slice (some ⟨b, o, none⟩) n c, .slice (some ⟨b', o', none⟩) n c', .slice K m d] rfl).below hb1 (by simp))
  have HB1 := Lib.hid (below_then B1 hb1)
  have hin := HIN.out
  generalize (roomL s x).1 = y0 at *
  generalize (roomL s x).2 = top at *
  clear hb1 B1 HR HIN
  go_wp2_with fail
  go_loopw [5, 6] (fun v i wr => ∃ (acc : List Int) (y : Int) (f : Nat), i = .int .i64 y ∧ wr.ownsRow w1.heap.size 3 1 v acc.length (acc.map (Value.int .i64)) ∧ Below w1.heap.size w1 wr ∧ acc ++ blockGo s x top f y = blockL s x ∧ top - y < f ∧ 0 ≤ y ∧ y ≤ 1000 ∧ (acc.length : Int) ≤ y) (fun _ i _ => (1001 - intOf i).toNat)
  case atStart => exact ⟨[], y0, 302, rfl, World.ownsRow_nil _ _ _ _, Below.refl _ _, by rw [HL.out]; rfl, by omega, by omega, by omega, by simp; omega⟩
  case round =>
    obtain ⟨acc, y, f, rfl, hown, hbel, hgo, hf, hy0, hy1, hacc⟩ := hrel
    have Hgo := Lib.hid hgo
    have Hown := Lib.hid hown
    have Hbel := Lib.hid hbel
    have hcell := (HB.out.below hbel HB.out.lt).cell
    have t1 := hs.w1
    have t2 := hs.w2
    have t3 := hs.k1
    have t4 := hs.k2
    clear hgo hown hbel HL
    by_cases hlt : y + s.wide ≤ top
    · obtain ⟨f, rfl⟩ : ∃ f', f = f' + 1 := ⟨f - 1, by omega⟩
      have C := spoiler_any s ⟨b, o, none⟩ ⟨b', o', none⟩ n c c' K m d x y wr (HW.out wr (below_then HB1.out Hbel.out)) (by unfold SmallI; have := hs.l1; omega) (by unfold SmallI; omega) (by unfold SmallI; have := hs.l1; have := hs.l2; omega) (by unfold SmallI; omega) hm4
      unfold sawVal at C
      rcases idx_cases (spoilB s x y) s.splits Split.zero with hidx | ⟨kk, hidx, hkk, _⟩
      · rw [hidx] at C
        have HGS := Lib.hid (blockGo_stick (f := f) hlt hidx)
        have C' := Lib.hid C
        clear C hidx
        generalize s.wide = wd at *
        generalize s.long = ld at *
        go_wp2_with fail
        refine C'.out.mono ?_
        rintro e w2 ⟨rfl, hb2⟩
        have hcell2 := (HB.out.below (Hbel.out.trans (hb2.mono Hbel.out.size)) HB.out.lt).cell
        have hb3 := Lib.hid (Hbel.out.trans (hb2.mono Hbel.out.size))
        have hown2 := Lib.hid (ownsRow_below Hown.out hb2)
        have hze : w.heap.size ≤ w2.heap.size := Nat.le_trans HB1.out.size hb3.out.size
        have hzl : w.heap.size < w2.heap.size := Nat.lt_of_lt_of_le HB.out.lt hb3.out.size
        clear hb2 hcell C'
        go_wp2_with (at_builtin; refine wpList_append_own _ rfl _ _ 44 rfl w1.heap.size 3 i0 (.int .i64 0) 1 8 Try.underlying44 hi hz0 hz1 hz2 rfl (by decide) _ _ _ rfl (hown2.out.alloc _) ⟨w2.heap.size, 0, none⟩ 1 1 [.int .i64 y] rfl rfl (cell_one_new _ _ _) ?c2 ?c3 ?c4 ?c5 ?_)
        case c2 => intro u hu; simp only [List.mem_singleton] at hu; subst hu; rfl
        case c3 => unfold maxLen; omega
        case c4 => omega
        case c5 => have := hb3.out.size; simp; omega
        intro v' w4 hown4 hgrow _
        have B4 := Lib.hid ((hb3.out.alloc hb3.out.size _).grown hgrow (by have := hb3.out.size; simp; omega) (fun q hq => (hown2.out.lt q hq).1))
        have hown5 : Hid (w4.ownsRow w1.heap.size 3 1 v' (acc ++ [y]).length ((acc ++ [y]).map (Value.int .i64))) := by
          unfold Hid; rw [List.length_append, List.map_append]; exact hown4
        have hcell4 := (HB.out.below B4.out HB.out.lt).cell
        clear hown4 hgrow hcell2
        go_wp2
        go_roundw
        case rel => exact ⟨acc ++ [y], _, f, rfl, hown5.out, B4.out, by rw [List.append_assoc, List.singleton_append, ← HGS.out]; exact Hgo.out, by omega, by omega, by omega, by rw [List.length_append, List.length_singleton]; omega⟩
        case measure => simp [intOf]; omega
      · rw [hidx] at C
        have HGS := Lib.hid (blockGo_crack (f := f) hlt hidx)
        have C' := Lib.hid C
        clear C hidx
        have hkm : kk < m := by rw [← hmlen.out]; exact hkk
        obtain ⟨sb, so, rfl, hsb, q0, q1, q2, q3⟩ := (HW.out wr (below_then HB1.out Hbel.out)).2.2.at_ hkm
        have hup : 0 ≤ (s.splits.getD kk Split.zero).up ∧ (s.splits.getD kk Split.zero).up ≤ 300 := by
          have e : s.splits.getD kk Split.zero = s.splits[kk] := by simp [List.getD, hkk]
          rw [e]; exact hs.spl _ (List.getElem_mem hkk)
        have hyup : y < (s.splits.getD kk Split.zero).up := by
          have := ‹spoilB s x y (s.splits.getD kk Split.zero) = true›
          simp only [spoilB, Bool.and_eq_true, decide_eq_true_eq] at this
          exact this.1.2
        clear ‹spoilB s x y (s.splits.getD kk Split.zero) = true›
        generalize s.splits.getD kk Split.zero = z at *
        generalize s.wide = wd at *
        generalize s.long = ld at *
        clear q0 q1 q2
        go_wp2_with fail
        refine C'.out.mono ?_
        rintro e w2 ⟨rfl, hb2⟩
        have hcell2 := (HB.out.below (Hbel.out.trans (hb2.mono Hbel.out.size)) HB.out.lt).cell
        have hb3 := Lib.hid (Hbel.out.trans (hb2.mono Hbel.out.size))
        have hown2 := Lib.hid (ownsRow_below Hown.out hb2)
        have r3 : w2.cell? ⟨sb, so + kk * 4 + 3, none⟩ = some (.int .i64 z.up) := (hb2.cell (p := ⟨sb, so + kk * 4 + 3, none⟩) hsb).trans q3
        clear hb2 hcell C' q3
        go_wp2
        go_roundw
        case rel => exact ⟨acc, _, f, rfl, hown2.out, hb3.out, by rw [← HGS.out]; exact Hgo.out, by omega, by omega, by omega, by omega⟩
        case measure => simp [intOf]; omega
    · have hE : blockGo s x top f y = [] := blockGo_end hlt
      have HE : Hid (acc = blockL s x) := by unfold Hid; rw [← Hgo.out, hE, List.append_nil]
      clear hE
      generalize s.wide = wd at *
      generalize s.long = ld at *
      go_wp2
      go_ret
      exact ⟨_, rfl, by rw [← HE.out]; exact own_base Hown.out HB1.out.size, below_then HB1.out Hbel.out⟩
end Go.Proofs.Ytiflhimmieflpaa

/- Walks: blocks: a map of the call's own, from columns to slices. -/
namespace Go.Proofs.Ytiflhimmieflpaa
open Go.RowKit Go.Maps

abbrev nilS : Value := .slice none 0 0
/-- An element of the map reads as the very slice. -/
def RV (v : Value) : Option (DataW Value × List MemPlace) := some (.held v, [])
/-- What the first k columns have. -/
def LL (s : Sawing) (k x : Nat) : List Int := if x < k then blockL s x else []
structure BlkMap (w : World) (base bm : Nat) (s : Sawing) (k : Nat) (D : DataW Value) (V : Nat → Value) : Prop where
  own : w.ownsMap Try.prog 3 RV bm k D
  im : IsMap D
  at_ : ∀ x : Nat, D.atKey (.int .i64 x) (.held nilS) = .held (V x)
  row : ∀ x : Nat, w.ownsRow base 3 1 (V x) (LL s k x).length ((LL s k x).map (Value.int .i64))

theorem own_map_ne {w : World} {P : Program} {H : Type} {R : Value → Option (DataW H × List MemPlace)} {base bm k size n : Nat} {kt e : TypeId} {D : DataW H} {v : Value} {xs : List Value} (h : w.ownsRow base e size v n xs) (hm : w.ownsMap P kt R bm k D) : v.ownBlock ≠ some bm := by
  obtain ⟨es, clock, hb, _⟩ := hm
  rcases h.2 with ⟨rfl, _⟩ | ⟨g', cap, cur, rfl, _, hh, _⟩
  · simp [Value.ownBlock]
  · intro he
    have : g' = bm := by simpa [Value.ownBlock] using he
    subst this
    rw [hb] at hh
    simp at hh
theorem ownsMap_below {w w' : World} {P : Program} {H : Type} {R : Value → Option (DataW H × List MemPlace)} {bm k : Nat} {kt : TypeId} {D : DataW H} (hm : w.ownsMap P kt R bm k D) (hb : Below w.heap.size w w') : w'.ownsMap P kt R bm k D := hm.kept (grown_of_below hb none) (by simp)
theorem BlkMap.below {w w' : World} {base bm k : Nat} {s : Sawing} {D : DataW Value} {V : Nat → Value} (h : BlkMap w base bm s k D V) (hb : Below w.heap.size w w') : BlkMap w' base bm s k D V :=
  ⟨ownsMap_below h.own hb, h.im, h.at_, fun x => ownsRow_below (h.row x) hb⟩
theorem BlkMap.base {w : World} {base base' bm k : Nat} {s : Sawing} {D : DataW Value} {V : Nat → Value} (h : BlkMap w base bm s k D V) (hb : base' ≤ base) : BlkMap w base' bm s k D V :=
  ⟨h.own, h.im, h.at_, fun x => own_base (h.row x) hb⟩
theorem BlkMap.new (w : World) (base : Nat) (s : Sawing) : BlkMap (w.alloc (.map #[] 0)) base w.heap.size s 0 (.map []) (fun _ => nilS) :=
  ⟨World.ownsMap_made _ _ _ _, isMap_empty, fun _ => rfl, fun x => by simp only [LL, Nat.not_lt_zero, if_false]; exact World.ownsRow_nil _ _ _ _⟩
/-- A column without a stick. -/
theorem BlkMap.skip {w : World} {base bm k : Nat} {s : Sawing} {D : DataW Value} {V : Nat → Value} (h : BlkMap w base bm s k D V) (hb : blockL s k = []) : BlkMap w base bm s (k + 1) D V := by
  refine ⟨h.own.mono (Nat.le_succ k), h.im, h.at_, fun x => ?_⟩
  have : LL s (k + 1) x = LL s k x := by
    unfold LL
    by_cases e : x < k
    · rw [if_pos e, if_pos (by omega)]
    · by_cases e2 : x = k
      · subst e2; rw [if_pos (by omega), if_neg e, hb]
      · rw [if_neg e, if_neg (by omega)]
  rw [this]
  exact h.row x
/-- A column whose sticks were stored. -/
theorem BlkMap.stored {w w' : World} {base bm k : Nat} {s : Sawing} {D : DataW Value} {V : Nat → Value} {v : Value} (h : BlkMap w base bm s k D V) (hv : w.ownsRow base 3 1 v (blockL s k).length ((blockL s k).map (Value.int .i64)))
    (ho : w'.ownsMap Try.prog 3 RV bm (k + 1) (D.put (.int .i64 k) (.held v))) (hg : w.grownBy w' (some bm)) : BlkMap w' base bm s (k + 1) (D.put (.int .i64 k) (.held v)) (fun x => if x = k then v else V x) := by
  refine ⟨ho, h.im.put _ _, fun x => ?_, fun x => ?_⟩
  · by_cases e : x = k
    · subst e; rw [atKey_put_same (k := Lit.int .i64 (x : Int)) h.im trivial]; simp
    · rw [atKey_put_other (by intro e2; simp only [Lit.int.injEq] at e2; exact e (by omega)), h.at_, if_neg e]
  · by_cases e : x = k
    · subst e
      simp only [if_true, LL, Nat.lt_succ_self]
      exact hv.kept hg (.inr (own_map_ne hv h.own))
    · rw [if_neg e]
      have : LL s (k + 1) x = LL s k x := by
        unfold LL
        by_cases e2 : x < k
        · rw [if_pos e2, if_pos (by omega)]
        · rw [if_neg e2, if_neg (by omega)]
      rw [this]
      exact (h.row x).kept hg (.inr (own_map_ne (h.row x) h.own))
theorem wf_nat (k : Nat) (h : k ≤ 1000000) : (Lit.int .i64 (k : Int)).wf = true := by
  simp only [Lit.wf, Bool.and_eq_true, decide_eq_true_eq]
  have h1 : IntKind.i64.min = -9223372036854775808 := by decide
  have h2 : IntKind.i64.max = 9223372036854775807 := by decide
  rw [h1, h2]
  omega

def BlocksRes (w : World) (s : Sawing) (k : Nat) (e : Ending) (w' : World) : Prop :=
  ∃ bm D V, e = .returned (.map (some bm)) ∧ BlkMap w' w.heap.size bm s k D V ∧ Below w.heap.size w w'

set_option maxRecDepth 100000 in
set_option maxHeartbeats 4000000 in
theorem blocks_any (s : Sawing) (b o b' o' n c c' : Nat) (K : Option Addr) (m d : Nat) (w : World) (h : SawAt w s ⟨b, o, none⟩ ⟨b', o', none⟩ n K m) (hc : n ≤ c) (hc' : n ≤ c') (hm : c ≤ maxLen) (hs : SawBounds s) (hn : n ≤ 30) (hm4 : m ≤ 4) :
    Calls Try.prog 78 #[sawVal s ⟨b, o, none⟩ ⟨b', o', none⟩ n c c' K m d] w (BlocksRes w s (n + 1 - s.long.toNat)) := by
  have hmm := @run_makeMap Try.prog
  have HW := Lib.hid (fun W (hb : Below w.heap.size w W) => h.below hb)
  have B1 := below_self w (.cells #[.int .i64 s.long, .int .i64 s.wide, .int .i64 s.kerf, .int .i64 s.across, .slice (some ⟨b, o, none⟩) n c, .slice (some ⟨b', o', none⟩) n c', .slice K m d] 120)
  have HB := Lib.hid (Blk.new w 120 #[.int .i64 s.long, .int .i64 s.wide, .int .i64 s.kerf, .int .i64 s.across, .slice (some ⟨b, o, none⟩) n c, .slice (some ⟨b', o', none⟩) n c', .slice K m d] rfl)
  have M0 := Lib.hid (BlkMap.new (w.alloc (.cells #[.int .i64 s.long, .int .i64 s.wide, .int .i64 s.kerf, .int .i64 s.across, .slice (some ⟨b, o, none⟩) n c, .slice (some ⟨b', o', none⟩) n c', .slice K m d] 120)) w.heap.size s)
  have HBK := Lib.hid (fun (x : Nat) (W : World) (hb : Below w.heap.size w W) (hx : (x : Int) + s.long ≤ n) => block_any s b o b' o' n c c' K m d x W (h.below hb) hc hc' hm hs hx hn hm4)
  unfold sawVal at HBK ⊢
  have l1 := hs.l1
  have l2 := hs.l2
  clear h hc hc' hm
  go_enter Try.func78, Try.ntmps78
  go_wp2_with fail
  go_loopw [15] (fun i wr => ∃ (k : Nat) (D : DataW Value) (V : Nat → Value), k ≤ n + 1 - s.long.toNat ∧ i = .int .i64 k ∧ BlkMap wr w.heap.size (w.heap.size + 1) s k D V ∧ Below (w.heap.size + 1) (w.alloc (.cells #[.int .i64 s.long, .int .i64 s.wide, .int .i64 s.kerf, .int .i64 s.across, .slice (some ⟨b, o, none⟩) n c, .slice (some ⟨b', o', none⟩) n c', .slice K m d] 120)) wr) (fun i _ => n + 1 - (intOf i).toNat)
  case atStart => exact ⟨0, _, _, Nat.zero_le _, rfl, by simpa using M0.out, (Below.refl _ _).alloc (by simp) _⟩
  case round =>
    obtain ⟨k, D, V, hk, rfl, hmap, hbel⟩ := hrel
    have Hmap := Lib.hid hmap
    have Hbel := Lib.hid hbel
    have HBW := Lib.hid (B1.trans (hbel.mono (Nat.le_succ _)))
    have hB := HB.out.below hbel (Nat.lt_succ_self _)
    have hcell := hB.cell
    clear hmap hbel M0
    by_cases hlt : (k : Int) < (n : Int) - s.long + 1
    · have HC := Lib.hid (HBK.out k wr HBW.out (by omega))
      have hkn : k ≤ 30 := by omega
      clear HBK
      generalize s.long = ld at *
      go_wp2_with fail
      refine HC.out.mono ?_
      rintro e w2 ⟨v, rfl, hv, hb2⟩
      obtain ⟨A, cv, rfl⟩ := own_slice hv
      have Hv := Lib.hid (own_base hv HBW.out.size)
      have Hmap2 := Lib.hid (Hmap.out.below hb2)
      have Hbel2 := Lib.hid (Hbel.out.trans (hb2.mono (by have := Hbel.out.size; simp at this; omega)))
      clear hv hb2 HC hcell hB
      by_cases hz : 0 < (blockL s k).length
      · go_wp2_with (at_mapUpdate; refine wpList_mapUpdate_own _ rfl _ _ _ 133 rfl 3 44 (int_keyed Try.underlying3) Try.underlying133 RV (w.heap.size + 1) k D rfl Hmap2.out.own ?n1 _ _ _ rfl rfl (keyOf_int_mk Try.underlying3 (wf_nat k ?n2)) _ [] rfl ?_)
        case n1 => unfold maxLen; omega
        case n2 => omega
        intro w3 hown3 hg3
        have HN := Lib.hid (Hmap2.out.stored Hv.out hown3 hg3)
        have HB3 := Lib.hid (Hbel2.out.grown hg3 (by have := Hbel2.out.size; simp at this; omega) (fun q hq => by simp at hq; omega))
        clear hown3 hg3
        go_wp2
        go_roundw
        case rel => exact ⟨k + 1, _, _, by omega, by go_num, HN.out, HB3.out⟩
        case measure => simp [intOf]; omega
      · have HN := Lib.hid (Hmap2.out.skip (List.eq_nil_of_length_eq_zero (by omega)))
        go_wp2
        go_roundw
        case rel => exact ⟨k + 1, _, _, by omega, by go_num, HN.out, Hbel2.out⟩
        case measure => simp [intOf]; omega
    · obtain rfl : k = n + 1 - s.long.toNat := by omega
      generalize s.long = ld at *
      go_wp2
      go_ret
      exact ⟨_, _, _, rfl, Hmap.out, HBW.out⟩
end Go.Proofs.Ytiflhimmieflpaa

/- Walks: ahead. -/
namespace Go.Proofs.Ytiflhimmieflpaa
open Go.RowKit Go.Maps

/-- How many sticks the block at x has, in n columns. -/
def bn (s : Sawing) (n x : Nat) : Nat := (LL s (n + 1 - s.long.toNat) x).length
def stepN (s : Sawing) : Nat := s.long.toNat + s.across.toNat
/-- The most sticks of blocks from n - j on, from n - j + 1 on, and so on. -/
def aheadT (s : Sawing) (n : Nat) : Nat → List Int
  | 0 => []
  | j + 1 => max ((aheadT s n j).getD 0 0) ((bn s n (n - 1 - j) : Int) + (aheadT s n j).getD (stepN s - 1) 0) :: aheadT s n j
def aheadAt (s : Sawing) (n j i : Nat) : Int := if n - j ≤ i then (aheadT s n j).getD (i - (n - j)) 0 else 0
theorem aheadT_length (s : Sawing) (n j : Nat) : (aheadT s n j).length = j := by
  induction j with
  | zero => rfl
  | succ j ih => simp [aheadT, ih]
theorem aheadAt_succ (s : Sawing) (n j i : Nat) (hj : j < n) (hl : 1 ≤ stepN s) : aheadAt s n (j + 1) i = if i = n - 1 - j then max (aheadAt s n j (n - 1 - j + 1)) ((bn s n (n - 1 - j) : Int) + aheadAt s n j (n - 1 - j + stepN s)) else aheadAt s n j i := by
  unfold aheadAt
  by_cases e : i = n - 1 - j
  · subst e
    rw [if_pos (by omega), if_pos rfl, if_pos (by omega), if_pos (by omega)]
    rw [show n - 1 - j - (n - (j + 1)) = 0 from by omega, show n - 1 - j + 1 - (n - j) = 0 from by omega, show n - 1 - j + stepN s - (n - j) = stepN s - 1 from by omega]
    rfl
  · rw [if_neg e]
    by_cases e2 : n - j ≤ i
    · rw [if_pos (by omega), if_pos e2, show i - (n - (j + 1)) = (i - (n - j)) + 1 from by omega]
      rfl
    · rw [if_neg (by omega), if_neg e2]
theorem aheadT_in (s : Sawing) (n B : Nat) (hB : ∀ x, bn s n x ≤ B) (j k : Nat) : 0 ≤ (aheadT s n j).getD k 0 ∧ (aheadT s n j).getD k 0 ≤ (B * j : Nat) := by
  induction j generalizing k with
  | zero => simp [aheadT]
  | succ j ih =>
    cases k with
    | zero =>
      have h1 := ih 0
      have h2 := ih (stepN s - 1)
      have h3 := hB (n - 1 - j)
      simp only [aheadT, List.getD_cons_zero]
      rw [Nat.mul_succ]
      omega
    | succ k =>
      have h1 := ih k
      simp only [aheadT, List.getD_cons_succ]
      rw [Nat.mul_succ]
      omega
theorem aheadAt_in (s : Sawing) (n B : Nat) (hB : ∀ x, bn s n x ≤ B) (j i : Nat) : 0 ≤ aheadAt s n j i ∧ aheadAt s n j i ≤ (B * j : Nat) := by
  unfold aheadAt
  split
  · exact aheadT_in s n B hB j _
  · omega
theorem blockGo_len (s : Sawing) (x top : Int) (f : Nat) (y : Int) : (blockGo s x top f y).length ≤ f := by
  induction f generalizing y with
  | zero => simp [blockGo]
  | succ f ih =>
    rw [blockGo]
    split
    · split
      · exact Nat.le_succ_of_le (ih _)
      · simp only [List.length_cons]; exact Nat.succ_le_succ (ih _)
    · simp
theorem bn_le (s : Sawing) (n x : Nat) : bn s n x ≤ 302 := by
  unfold bn LL
  split
  · exact blockGo_len _ _ _ _ _
  · simp

theorem Try.zeroIntsRun (W : World) : (zeroValue 44).run Try.prog W = .ok (.slice none 0 0) W := by kernel_rfl
theorem look_of {w W : World} {base bm k : Nat} {s : Sawing} {D : DataW Value} {V : Nat → Value} (h : BlkMap w base bm s k D V) (hW : W.heap = w.heap) (x : Nat) (hx : x ≤ 1000) :
    (Instr.lookup 133 (.map (some bm)) (.int .i64 (x : Int)) false).run Try.prog W = .ok (V x) W := by
  have ho : W.ownsMap Try.prog 3 RV bm k D := by
    have := h.own
    unfold World.ownsMap at this ⊢
    rw [hW]
    exact this
  obtain ⟨v, ps, hrun, hv⟩ := ho.lookup (int_keyed Try.underlying3) Try.underlying133 (Try.zeroIntsRun W) (zd := .held nilS) (zp := []) rfl (keyOf_int_mk Try.underlying3 (wf_nat x (by omega)))
  rw [h.at_] at hv
  simp only [RV, Option.some.injEq, Prod.mk.injEq, DataW.held.injEq] at hv
  rw [hrun, hv.1]

theorem below_sz {w wr : World} {o : Obj} (h : Below (w.heap.size + 1) (w.alloc o) wr) : Below (w.alloc o).heap.size (w.alloc o) wr := by rw [World.size_alloc]; exact h
def AheadRes (w : World) (s : Sawing) (n : Nat) (e : Ending) (w' : World) : Prop :=
  ∃ g, e = .returned (.slice (some ⟨g, 0, none⟩) (n + stepN s) (n + stepN s)) ∧ w'.rowIs g 3 (n + stepN s) (fun i => .int .i64 (aheadAt s n n i)) ∧ Below w.heap.size w w'

set_option maxRecDepth 100000 in
set_option maxHeartbeats 4000000 in
theorem ahead_any (s : Sawing) (b o b' o' n c c' : Nat) (K : Option Addr) (m d bm base : Nat) (D : DataW Value) (V : Nat → Value) (w : World) (hs : SawBounds s) (hn : n ≤ 30) (hmap : BlkMap w base bm s (n + 1 - s.long.toNat) D V) :
    Calls Try.prog 103 #[sawVal s ⟨b, o, none⟩ ⟨b', o', none⟩ n c c' K m d, .map (some bm)] w (AheadRes w s n) := by
  have l1 := hs.l1
  have l2 := hs.l2
  have a1 := hs.a1
  have a2 := hs.a2
  have B1 := below_self w (.cells #[.int .i64 s.long, .int .i64 s.wide, .int .i64 s.kerf, .int .i64 s.across, .slice (some ⟨b, o, none⟩) n c, .slice (some ⟨b', o', none⟩) n c', .slice K m d] 120)
  have HB := Lib.hid (Blk.new w 120 #[.int .i64 s.long, .int .i64 s.wide, .int .i64 s.kerf, .int .i64 s.across, .slice (some ⟨b, o, none⟩) n c, .slice (some ⟨b', o', none⟩) n c', .slice K m d] rfl)
  have HM := Lib.hid (hmap.below B1)
  have HA := Lib.hid (fun j i => aheadAt_in s n 302 (bn_le s n) j i)
  obtain ⟨l, hl⟩ := Int.eq_ofNat_of_zero_le (show 0 ≤ s.long by omega)
  obtain ⟨a, ha⟩ := Int.eq_ofNat_of_zero_le a1
  have hst : stepN s = l + a := by unfold stepN; rw [hl, ha]; simp
  have HBN : Hid (∀ x, bn s n x = (LL s (n + 1 - l) x).length) := fun x => by unfold bn; rw [hl]; simp
  have HS := Lib.hid (fun j i (hj : j < n) => aheadAt_succ s n j i hj (by rw [hst]; omega))
  rw [hst] at HS
  rw [hl, ha] at HM
  simp only [Int.toNat_natCast] at HM
  unfold AheadRes
  rw [hst, show n + (l + a) = n + l + a from by omega]
  unfold sawVal
  rw [hl, ha] at HB ⊢
  rw [hl] at l1 l2
  rw [ha] at a2
  clear hmap hst hl ha a1 B1
  have hmk := fun W => run_make_row' (P := Try.prog) 44 3 (.int .i64 0) 8 Try.underlying44 Try.infoInt rfl .i64 .i64 (n + l + a) (by omega) (by omega) W
  have ec : ((n + l + a : Nat) : Int) = (n : Int) + (l : Int) + (a : Int) := by omega
  rw [ec] at hmk
  clear ec
  go_enter Try.func103, Try.ntmps103
  go_wp2_with fail
  clear hmk
  have R0 := (World.rowIs_made (w.alloc (.cells #[.int .i64 l, .int .i64 s.wide, .int .i64 s.kerf, .int .i64 a, .slice (some ⟨b, o, none⟩) n c, .slice (some ⟨b', o', none⟩) n c', .slice K m d] 120)) (.int .i64 0) (n + l + a) 3).congr (g := fun i => .int .i64 (aheadAt s n 0 i)) (fun i _ => by simp [aheadAt, aheadT])
  go_loopw [7] (fun i wr => ∃ (j : Nat) (x : Int), j ≤ n ∧ i = .int .i64 x ∧ x = (n : Int) - 1 - j ∧ wr.rowIs (w.heap.size + 1) 3 (n + l + a) (fun i => .int .i64 (aheadAt s n j i)) ∧ Below (w.heap.size + 1) (w.alloc (.cells #[.int .i64 l, .int .i64 s.wide, .int .i64 s.kerf, .int .i64 a, .slice (some ⟨b, o, none⟩) n c, .slice (some ⟨b', o', none⟩) n c', .slice K m d] 120)) wr) (fun i _ => (intOf i + 1).toNat)
  case atStart => exact ⟨0, _, Nat.zero_le _, rfl, by omega, by simpa using R0, (Below.refl _ _).alloc (by simp) _⟩
  case round =>
    obtain ⟨j, x, hj, rfl, hx, R, hbel⟩ := hrel
    have hcell := (HB.out.below hbel (Nat.lt_succ_self _)).cell
    have Hbel := Lib.hid hbel
    have HR := Lib.hid R
    clear hbel R R0
    by_cases hge : 0 ≤ x
    · obtain ⟨i, rfl⟩ := Int.eq_ofNat_of_zero_le hge
      have hin : i < n := by omega
      have hi' : n - 1 - j = i := by omega
      have HSj := Lib.hid (fun q => HS.out j q (by omega))
      rw [hi'] at HSj
      have Hx := Lib.hid hx
      clear hx hi'
      have q1 := HR.out.cell (i := i + 1) (by omega)
      have q2 := HR.out.cell (i := i + l + a) (by omega)
      have q3 := HR.out.cell (i := i) (by omega)
      have q4 := HR.out.frozen i
      obtain ⟨VA, vc, hV⟩ := own_slice (HM.out.row i)
      have hlk := fun (W : World) (hW : W.heap = wr.heap) => look_of (HM.out.below (below_sz Hbel.out)) hW i (by omega)
      rw [hV, ← HBN.out] at hlk
      have hA1 := HA.out j (i + 1)
      have hA2 := HA.out j (i + l + a)
      have hB1 := bn_le s n i
      have hj30 : 302 * j ≤ 9060 := by omega
      have HA1 : Hid (∃ z, z = aheadAt s n j (i + 1)) := ⟨_, rfl⟩
      obtain ⟨A1, e1⟩ := HA1.out
      obtain ⟨A2, e2⟩ : ∃ z, z = aheadAt s n j (i + l + a) := ⟨_, rfl⟩
      obtain ⟨L, e3⟩ : ∃ z, z = bn s n i := ⟨_, rfl⟩
      rw [← e1] at q1 hA1
      rw [← e2] at q2 hA2
      rw [← e3] at hlk hB1
      have E1 := Lib.hid e1
      have E2 := Lib.hid e2
      have E3 := Lib.hid e3
      clear e1 e2 e3 hV HA1
      generalize aheadAt s n j i = A0 at q3
      have t1 : 0 ≤ A1 := hA1.1
      have t2 : A1 ≤ 10000 := by omega
      have t3 : 0 ≤ A2 := hA2.1
      have t4 : A2 ≤ 10000 := by omega
      clear hA1 hA2 hj30
      have V1 : Hid ((if A1 < (L : Int) + A2 then (L : Int) + A2 else A1) = max A1 ((L : Int) + A2)) := by unfold Hid; split <;> omega
      have k1 : IntKind.i64.wrap ((i : Int) + 1) = (i : Int) + 1 := IntWalk.i64_in _ (by omega)
      have k2 : IntKind.i64.wrap ((i : Int) + (l : Int)) = (i : Int) + (l : Int) := IntWalk.i64_in _ (by omega)
      have k3 : IntKind.i64.wrap ((i : Int) + (l : Int) + (a : Int)) = (i : Int) + (l : Int) + (a : Int) := IntWalk.i64_in _ (by omega)
      have k4 : IntKind.i64.wrap ((L : Int) + A2) = (L : Int) + A2 := IntWalk.i64_in _ (by omega)
      have k5 : ((i : Int) + 1).toNat = i + 1 := by omega
      have k6 : ((i : Int) + (l : Int) + (a : Int)).toNat = i + l + a := by omega
      have k7 : 0 ≤ (i : Int) + 1 := by omega
      have k8 : 0 ≤ (i : Int) + (l : Int) + (a : Int) := by omega
      have k9 : (i : Int) + 1 < (n : Int) + (l : Int) + (a : Int) := by omega
      have k10 : (i : Int) + (l : Int) + (a : Int) < (n : Int) + (l : Int) + (a : Int) := by omega
      have k11 : (i : Int) < (n : Int) + (l : Int) + (a : Int) := by omega
      clear hin hj
      replace hlk := hlk wr.drew rfl
      go_wp2_with fail
      go_still_tail 26, (by kernel_rfl)
      clear k1 k2 k3 k4 k5 k6 k7 k8 k9 k10 hlk hcell
      change wpList _ _ _ _ _ wr.drew
      rw [V1.out]
      have HN : Hid (((wr.setCell ⟨w.heap.size + 1, i, none⟩ (.int .i64 (max A1 ((L : Int) + A2)))).drew).rowIs (w.heap.size + 1) 3 (n + l + a) (fun q => .int .i64 (aheadAt s n (j + 1) q))) := by
        refine ((HR.out.set i _).congr (fun q _ => ?_)).drew
        have := HSj.out q
        rw [← Nat.add_assoc, ← E1.out, ← E2.out, ← E3.out] at this
        rw [this]
        by_cases e : q = i
        · subst e; simp
        · rw [if_neg e, if_neg e]
      have HB2 := Lib.hid ((Hbel.out.setCell (p := ⟨w.heap.size + 1, i, none⟩) (Nat.le_refl _) (.int .i64 (max A1 ((L : Int) + A2)))).drew)
      clear V1
      generalize max A1 ((L : Int) + A2) = z at *
      clear t1 t2 t3 t4
      go_wp2
      go_roundw
      case rel => exact ⟨j + 1, _, by have := Hx.out; omega, rfl, by have := Hx.out; omega, HN.out, HB2.out⟩
      case measure => simp [intOf] <;> omega
    · obtain rfl : j = n := by omega
      go_wp2
      go_ret
      exact ⟨_, rfl, HR.out, below_then (below_self _ _) (below_sz Hbel.out)⟩
end Go.Proofs.Ytiflhimmieflpaa

/- Walks: count. -/
namespace Go.Proofs.Ytiflhimmieflpaa
open Go.RowKit Go.Maps

def countL (s : Sawing) (n : Nat) : Int := aheadAt s n n 0
/-- The seven cells of a sawing in a box. -/
def Box7 (W : World) (g : Nat) (v0 v1 v2 v3 v4 v5 v6 : Value) : Prop := Blk W g 120 #[v0, v1, v2, v3, v4, v5, v6]
theorem Box7.get {W : World} {g : Nat} {v0 v1 v2 v3 v4 v5 v6 : Value} (h : Box7 W g v0 v1 v2 v3 v4 v5 v6) : W.cell? ⟨g, 0, none⟩ = some v0 ∧ W.cell? ⟨g, 1, none⟩ = some v1 ∧ W.cell? ⟨g, 2, none⟩ = some v2 ∧ W.cell? ⟨g, 3, none⟩ = some v3 ∧ W.cell? ⟨g, 4, none⟩ = some v4 ∧ W.cell? ⟨g, 5, none⟩ = some v5 ∧ W.cell? ⟨g, 6, none⟩ = some v6 :=
  ⟨Blk.cell h 0, Blk.cell h 1, Blk.cell h 2, Blk.cell h 3, Blk.cell h 4, Blk.cell h 5, Blk.cell h 6⟩

set_option maxRecDepth 100000 in
set_option maxHeartbeats 4000000 in
theorem count_any (s : Sawing) (b o b' o' n c c' : Nat) (K : Option Addr) (m d : Nat) (w : World) (h : SawAt w s ⟨b, o, none⟩ ⟨b', o', none⟩ n K m) (hc : n ≤ c) (hc' : n ≤ c') (hm : c ≤ maxLen) (hs : SawBounds s) (hn : n ≤ 30) (hm4 : m ≤ 4) :
    Calls Try.prog 83 #[sawVal s ⟨b, o, none⟩ ⟨b', o', none⟩ n c c' K m d] w fun e w' => e = .returned (.int .i64 (countL s n)) ∧ Below w.heap.size w w' := by
  have hst : 1 ≤ stepN s := by unfold stepN; have := hs.l1; omega
  have HW := Lib.hid (fun W (hb : Below w.heap.size w W) => blocks_any s b o b' o' n c c' K m d W (h.below hb) hc hc' hm hs hn hm4)
  have HA := Lib.hid (fun W bm base D V hmap => ahead_any s b o b' o' n c c' K m d bm base D V W hs hn hmap)
  have HE : Hid (countL s n = aheadAt s n n 0) := rfl
  unfold sawVal at HW HA ⊢
  have B1 := Lib.hid (Below.drew (below_self w (.cells #[.int .i64 s.long, .int .i64 s.wide, .int .i64 s.kerf, .int .i64 s.across, .slice (some ⟨b, o, none⟩) n c, .slice (some ⟨b', o', none⟩) n c', .slice K m d] 120)))
  have X0 : Hid (Box7 (w.alloc (.cells #[.int .i64 s.long, .int .i64 s.wide, .int .i64 s.kerf, .int .i64 s.across, .slice (some ⟨b, o, none⟩) n c, .slice (some ⟨b', o', none⟩) n c', .slice K m d] 120)).drew w.heap.size (.int .i64 s.long) (.int .i64 s.wide) (.int .i64 s.kerf) (.int .i64 s.across) (.slice (some ⟨b, o, none⟩) n c) (.slice (some ⟨b', o', none⟩) n c') (.slice K m d)) := Blk.new w _ _ rfl
  have r1 : (0 : Int) < (n : Int) + (stepN s : Int) := by omega
  clear h hc hc' hm hs
  go_enter Try.func83, Try.ntmps83
  go_wp2_with fail
  go_region_with (first
      | (go_at_call 78; refine (HW.out _ B1.out).mono ?_; rintro e w1 ⟨bm, D, V, rfl, hmap, hb1⟩; have HM := Lib.hid hmap; have HB1 := Lib.hid (below_then B1.out hb1); have X1 := blk_keep hb1 X0.out; have x1 := X1.cell; clear hmap)
      | (go_at_call 103; refine (HA.out _ _ _ _ _ HM.out).mono ?_; rintro e w2 ⟨g, rfl, hrow, hb2⟩; have HB2 := Lib.hid (below_then HB1.out hb2); have r0 := hrow.cell (i := 0) (Nat.lt_of_lt_of_le hst (Nat.le_add_left _ _)); clear hrow))
  all_goals go_wp2
  all_goals go_ret
  all_goals exact ⟨ret_int HE.out.symm, HB2.out⟩
end Go.Proofs.Ytiflhimmieflpaa

/- Walks: Check, Curve, ready. -/
namespace Go.Proofs.Ytiflhimmieflpaa
open Go.RowKit

abbrev zero6 : Array Value := #[.slice none 0 0, .slice none 0 0, .int .i64 0, .slice none 0 0, .slice none 0 0, .slice none 0 0]

set_option maxRecDepth 100000 in
set_option maxHeartbeats 2000000 in
theorem check_any (A A' K : Option Addr) (n c n' c' m d : Nat) (bend : Int) (bot top : List (Int × Int)) (cr : List Crack) (w : World) (h : Pairs w A n bot) (h' : Pairs w A' n' top) (hk : Cracks w K m cr) (hn : n ≤ maxLen) (hn' : n' ≤ maxLen) (hm : m ≤ maxLen) :
    Calls Try.prog 20 #[.agg #[.slice A n c, .slice A' n' c', .int .i64 bend, .slice K m d]] w fun e w' => e = .returned (.int .i64 (curveErr n n' m bend bot top cr)) ∧ Below w.heap.size w w' := by
  have B1 := below_self w (.cells #[.slice A n c, .slice A' n' c', .int .i64 bend, .slice K m d] 25)
  have HC := Lib.hid (curve_any A A' K n c n' c' m d bend bot top cr _ (h.below B1) (h'.below B1) (hk.below B1) hn hn' hm)
  generalize hE : curveErr n n' m bend bot top cr = E at *
  have HE := Lib.hid hE
  clear hE
  go_enter Try.func20, Try.ntmps20
  go_wp2_with fail
  refine HC.out.mono ?_
  rintro e w2 ⟨hb2, ⟨herr, rfl⟩ | ⟨hok, g, cap, g', cap', rfl, P, P'⟩⟩
  · have B2 := below_then B1 hb2
    rw [HE.out]
    clear hb2 herr HC
    unfold zeroCurved
    go_wp2
    go_ret
    exact ⟨rfl, below_alloc' B2 _⟩
  · have B2 := below_then B1 hb2
    rw [HE.out] at hok
    have Hok := Lib.hid hok
    clear hb2 HC hok
    go_wp2
    go_ret
    exact ⟨ret_int Hok.out.symm, below_alloc' B2 _⟩

def CurveOut (w : World) (n n' m : Nat) (bend : Int) (bot top : List (Int × Int)) (cr : List Crack) (e : Ending) (w' : World) : Prop :=
  Below w.heap.size w w' ∧ ((curveErr n n' m bend bot top cr ≠ 0 ∧ e = .returned (.tuple #[.slice none 0 0, .slice none 0 0, .int .i64 (curveErr n n' m bend bot top cr)])) ∨
    (curveErr n n' m bend bot top cr = 0 ∧ ∃ g cap g' cap', e = .returned (.tuple #[.slice (some ⟨g, 0, none⟩) n cap, .slice (some ⟨g', 0, none⟩) n cap', .int .i64 0]) ∧ Pairs w' (some ⟨g, 0, none⟩) n (bentL bot bend) ∧ Pairs w' (some ⟨g', 0, none⟩) n (bentL top bend)))

set_option maxRecDepth 100000 in
set_option maxHeartbeats 2000000 in
theorem Curve_any (A A' K : Option Addr) (n c n' c' m d : Nat) (bend : Int) (bot top : List (Int × Int)) (cr : List Crack) (w : World) (h : Pairs w A n bot) (h' : Pairs w A' n' top) (hk : Cracks w K m cr) (hn : n ≤ maxLen) (hn' : n' ≤ maxLen) (hm : m ≤ maxLen) :
    Calls Try.prog 21 #[.agg #[.slice A n c, .slice A' n' c', .int .i64 bend, .slice K m d]] w (CurveOut w n n' m bend bot top cr) := by
  have B1 := below_self w (.cells #[.slice A n c, .slice A' n' c', .int .i64 bend, .slice K m d] 25)
  have HC := Lib.hid (curve_any A A' K n c n' c' m d bend bot top cr _ (h.below B1) (h'.below B1) (hk.below B1) hn hn' hm)
  generalize hE : curveErr n n' m bend bot top cr = E at *
  have HE := Lib.hid hE
  clear hE
  go_enter Try.func21, Try.ntmps21
  go_wp2_with fail
  refine HC.out.mono ?_
  rintro e w2 ⟨hb2, ⟨herr, rfl⟩ | ⟨hok, g, cap, g', cap', rfl, P, P', -⟩⟩
  · have B2 := below_then B1 hb2
    have Herr := Lib.hid herr
    rw [HE.out]
    clear hb2 herr HC
    unfold zeroCurved
    go_wp2
    go_quiet (fail)
    go_wp2
    go_ret3
    exact ⟨below_drewN (below_alloc' B2 _) _, .inl ⟨Herr.out, by rw [HE.out]; rfl⟩⟩
  · have B2 := below_then B1 hb2
    have Hok := Lib.hid hok
    clear hb2 HC hok
    go_wp2
    go_quiet (fail)
    go_wp2
    go_ret3
    exact ⟨below_drewN (below_alloc' B2 _) _, .inr ⟨Hok.out, g, cap, g', cap', rfl, P.below (below_drewN (below_self _ _) _), P'.below (below_drewN (below_self _ _) _)⟩⟩

def sawOk (long wide kerf across : Int) : Bool := within 1 30 [long] && within 1 300 [wide] && within 0 50 [kerf, across]
def readyErr (n n' m : Nat) (bend : Int) (bot top : List (Int × Int)) (cr : List Crack) (long wide kerf across : Int) : Int :=
  if curveErr n n' m bend bot top cr ≠ 0 then curveErr n n' m bend bot top cr else if sawOk long wide kerf across = false then 3 else 0
def ReadyRes (w : World) (A A' K : Option Addr) (n c n' c' m d : Nat) (bend : Int) (bot top : List (Int × Int)) (cr : List Crack) (long wide kerf across : Int) (e : Ending) (w' : World) : Prop :=
  Below w.heap.size w w' ∧ ((readyErr n n' m bend bot top cr long wide kerf across ≠ 0 ∧ e = .returned (.tuple #[zeroCurved, .int .i64 (readyErr n n' m bend bot top cr long wide kerf across)])) ∨
    (readyErr n n' m bend bot top cr long wide kerf across = 0 ∧ ∃ g cap g' cap', e = .returned (.tuple #[.agg #[.slice A n c, .slice A' n' c', .int .i64 bend, .slice K m d, .slice (some ⟨g, 0, none⟩) n cap, .slice (some ⟨g', 0, none⟩) n cap'], .int .i64 0]) ∧
      Pairs w' (some ⟨g, 0, none⟩) n (bentL bot bend) ∧ Pairs w' (some ⟨g', 0, none⟩) n (bentL top bend) ∧ w.heap.size ≤ g ∧ w.heap.size ≤ g'))

structure ReadyEnv (w W : World) (saw : Array Value) : Prop where
  s : Blk W (w.heap.size + 1) 37 saw
  r : Blk W (w.heap.size + 2) 106 zero6
  bel : Below w.heap.size w W
theorem ReadyEnv.below {w W W' : World} {saw : Array Value} (h : ReadyEnv w W saw) (hb : Below W.heap.size W W') : ReadyEnv w W' saw := ⟨h.s.below hb h.s.lt, h.r.below hb h.r.lt, below_then h.bel hb⟩
theorem ReadyEnv.new (w : World) (bl saw : Array Value) : ReadyEnv w (((w.alloc (.cells bl 25)).alloc (.cells saw 37)).alloc (.cells zero6 106)) saw :=
  ⟨(Blk.new _ _ _ (by simp)).alloc _, Blk.new _ _ _ (by simp), (((Below.refl _ _).alloc (Nat.le_refl _) _).alloc (by simp) _).alloc (by simp <;> omega) _⟩

set_option maxRecDepth 100000 in
set_option maxHeartbeats 4000000 in
theorem ready_any (A A' K : Option Addr) (n c n' c' m d : Nat) (bend : Int) (bot top : List (Int × Int)) (cr : List Crack) (long wide kerf across : Int) (w : World) (h : Pairs w A n bot) (h' : Pairs w A' n' top) (hk : Cracks w K m cr) (hn : n ≤ maxLen) (hn' : n' ≤ maxLen) (hm : m ≤ maxLen) :
    Calls Try.prog 64 #[.agg #[.slice A n c, .slice A' n' c', .int .i64 bend, .slice K m d], .agg #[.int .i64 long, .int .i64 wide, .int .i64 kerf, .int .i64 across]] w (ReadyRes w A A' K n c n' c' m d bend bot top cr long wide kerf across) := by
  have E0 := ReadyEnv.new w #[.slice A n c, .slice A' n' c', .int .i64 bend, .slice K m d] #[.int .i64 long, .int .i64 wide, .int .i64 kerf, .int .i64 across]
  have HC := Lib.hid (curve_any A A' K n c n' c' m d bend bot top cr _ (h.below E0.bel) (h'.below E0.bel) (hk.below E0.bel) hn hn' hm)
  clear h h' hk hn hn' hm
  go_enter Try.func64, Try.ntmps64
  go_wp2_with fail
  refine HC.out.mono ?_
  rintro e w2 ⟨hb2, ⟨herr, rfl⟩ | ⟨hok, g, cap, g', cap', rfl, P, P', hg, hg'⟩⟩
  · have E2 := Lib.hid ((E0.below hb2).below (below_self w2 (.cells zero6 106)))
    have HR := Lib.hid (show readyErr n n' m bend bot top cr long wide kerf across = curveErr n n' m bend bot top cr by unfold readyErr; rw [if_pos herr])
    have HNZ := Lib.hid herr
    have hz1 : (curveErr n n' m bend bot top cr == 0) = false := by simpa using herr
    have hz2 : (curveErr n n' m bend bot top cr != 0) = true := by simpa using herr
    clear hb2 herr HC E0
    generalize curveErr n n' m bend bot top cr = E at *
    unfold zeroCurved
    go_wp2_with (refine wpList_store_row rfl 106 _ _ rfl (w.heap.size + 2) _ rfl rfl 106 _ E2.out.r (by kernel_rfl) rfl (by kernel_rfl) ?_)
    exact bodyPost_ret (results_ct rfl _ _ _ _ _ _ _ rfl (E2.out.r.setRow _) Try.underlying106 (by kernel_rfl)) rfl ⟨below_setR E2.out.bel (by omega) _, .inl ⟨by rw [HR.out]; exact HNZ.out, by rw [HR.out]; rfl⟩⟩
  · have E2 := Lib.hid ((E0.below hb2).below (below_self w2 (.cells #[.slice A n c, .slice A' n' c', .int .i64 bend, .slice K m d, .slice (some ⟨g, 0, none⟩) n cap, .slice (some ⟨g', 0, none⟩) n cap'] 106)))
    have P2 := Lib.hid (P.below (below_self w2 (.cells #[.slice A n c, .slice A' n' c', .int .i64 bend, .slice K m d, .slice (some ⟨g, 0, none⟩) n cap, .slice (some ⟨g', 0, none⟩) n cap'] 106)))
    have P2' := Lib.hid (P'.below (below_self w2 (.cells #[.slice A n c, .slice A' n' c', .int .i64 bend, .slice K m d, .slice (some ⟨g, 0, none⟩) n cap, .slice (some ⟨g', 0, none⟩) n cap'] 106)))
    have Hg : Hid (w.heap.size ≤ g ∧ w.heap.size ≤ g') := ⟨Nat.le_trans E0.bel.size hg, Nat.le_trans E0.bel.size hg'⟩
    have s2 := (E0.below hb2).s.cell
    have hz2 : w.heap.size + 2 < w2.heap.size := (E0.below hb2).r.lt
    have hz1 : w.heap.size + 1 < w2.heap.size := by omega
    have hz0 : w.heap.size < w2.heap.size := by omega
    have hze : w.heap.size ≤ w2.heap.size := by omega
    clear hb2 HC E0 P P' hg hg'
    have Hok := Lib.hid hok
    clear hok
    cases q1 : within 1 30 [long]
    · have HR := Lib.hid (show readyErr n n' m bend bot top cr long wide kerf across = 3 by simp [readyErr, sawOk, Hok.out, q1])
      have r1 := Lib.hid (E2.out.r.alloc (.cells #[.int .i64 long] 3))
      have l1 := Lib.hid (below_alloc' E2.out.bel (.cells #[.int .i64 long] 3))
      go_wp2_with (first | (go_at_call_of 88 (Value.int IntKind.i64 1); refine (within1 _ _ _ _ _ _ (by simp)).mono ?_; rintro e w' ⟨rfl, rfl⟩) | (refine wpList_store_row rfl 106 _ _ rfl (w.heap.size + 2) _ rfl rfl 106 _ r1.out (by kernel_rfl) rfl (by kernel_rfl) ?_))
      exact bodyPost_ret (results_ct rfl _ _ _ _ _ _ _ rfl (r1.out.setRow _) Try.underlying106 (by kernel_rfl)) rfl ⟨below_setR l1.out (by omega) _, .inl ⟨by rw [HR.out]; decide, by rw [HR.out]; rfl⟩⟩
    cases q2 : within 1 300 [wide]
    · have HR := Lib.hid (show readyErr n n' m bend bot top cr long wide kerf across = 3 by simp [readyErr, sawOk, Hok.out, q1, q2])
      have r1 := Lib.hid ((E2.out.r.alloc (.cells #[.int .i64 long] 3)).alloc (.cells #[.int .i64 wide] 3))
      have l1 := Lib.hid (below_alloc' (below_alloc' E2.out.bel (.cells #[.int .i64 long] 3)) (.cells #[.int .i64 wide] 3))
      go_wp2_with (first | (go_at_call_of 88 (Value.int IntKind.i64 1); refine (within1 _ _ _ _ _ _ (by simp)).mono ?_; rintro e w' ⟨rfl, rfl⟩) | (refine wpList_store_row rfl 106 _ _ rfl (w.heap.size + 2) _ rfl rfl 106 _ r1.out (by kernel_rfl) rfl (by kernel_rfl) ?_))
      exact bodyPost_ret (results_ct rfl _ _ _ _ _ _ _ rfl (r1.out.setRow _) Try.underlying106 (by kernel_rfl)) rfl ⟨below_setR l1.out (by omega) _, .inl ⟨by rw [HR.out]; decide, by rw [HR.out]; rfl⟩⟩
    have r1 := Lib.hid (((E2.out.r.alloc (.cells #[.int .i64 long] 3)).alloc (.cells #[.int .i64 wide] 3)).alloc (.cells #[.int .i64 kerf, .int .i64 across] 3))
    have l1 := Lib.hid (below_alloc' (below_alloc' (below_alloc' E2.out.bel (.cells #[.int .i64 long] 3)) (.cells #[.int .i64 wide] 3)) (.cells #[.int .i64 kerf, .int .i64 across] 3))
    cases q3 : within 0 50 [kerf, across]
    · have HR := Lib.hid (show readyErr n n' m bend bot top cr long wide kerf across = 3 by simp [readyErr, sawOk, Hok.out, q1, q2, q3])
      go_wp2_with (first | (go_at_call_of 88 (Value.int IntKind.i64 1); refine (within1 _ _ _ _ _ _ (by simp)).mono ?_; rintro e w' ⟨rfl, rfl⟩) | (go_at_call_of 88 (Value.int IntKind.i64 0); refine (within2 _ _ _ _ _ _ _ (by simp)).mono ?_; rintro e w' ⟨rfl, rfl⟩) | (refine wpList_store_row rfl 106 _ _ rfl (w.heap.size + 2) _ rfl rfl 106 _ r1.out (by kernel_rfl) rfl (by kernel_rfl) ?_))
      exact bodyPost_ret (results_ct rfl _ _ _ _ _ _ _ rfl (r1.out.setRow _) Try.underlying106 (by kernel_rfl)) rfl ⟨below_setR l1.out (by omega) _, .inl ⟨by rw [HR.out]; decide, by rw [HR.out]; rfl⟩⟩
    · have HR := Lib.hid (show readyErr n n' m bend bot top cr long wide kerf across = 0 by simp [readyErr, sawOk, Hok.out, q1, q2, q3])
      go_wp2_with (first | (go_at_call_of 88 (Value.int IntKind.i64 1); refine (within1 _ _ _ _ _ _ (by simp)).mono ?_; rintro e w' ⟨rfl, rfl⟩) | (go_at_call_of 88 (Value.int IntKind.i64 0); refine (within2 _ _ _ _ _ _ _ (by simp)).mono ?_; rintro e w' ⟨rfl, rfl⟩) | (refine wpList_store_row rfl 106 _ _ rfl (w.heap.size + 2) _ rfl rfl 106 _ r1.out (by kernel_rfl) rfl (by kernel_rfl) ?_))
      exact bodyPost_ret (results_ct rfl _ _ _ _ _ _ _ rfl (r1.out.setRow _) Try.underlying106 (by kernel_rfl)) rfl ⟨below_setR l1.out (by omega) _, .inr ⟨HR.out, g, cap, g', cap', rfl, (((P2.out.below (below_self _ _)).below (below_self _ _)).below (below_self _ _)).setRow_far r1.out (.inr ⟨rfl, rfl⟩) _, (((P2'.out.below (below_self _ _)).below (below_self _ _)).below (below_self _ _)).setRow_far r1.out (.inr ⟨rfl, rfl⟩) _, Hg.out⟩⟩
end Go.Proofs.Ytiflhimmieflpaa
