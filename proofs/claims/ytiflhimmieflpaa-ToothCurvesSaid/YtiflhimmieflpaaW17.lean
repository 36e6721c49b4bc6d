/- Walks: count. -/
import Derived.Test.YtiflhimmieflpaaW16
namespace Go.Proofs.Ytiflhimmieflpaa
open Go.RowKit Go.Maps

def countL (s : Sawing) (n : Nat) : Int := aheadAt s n n 0
/-- The seven cells of a sawing in a box. -/
def Box7 (W : World) (g : Nat) (v0 v1 v2 v3 v4 v5 v6 : Value) : Prop := Blk W g 120 #[v0, v1, v2, v3, v4, v5, v6]
theorem Box7.get {W : World} {g : Nat} {v0 v1 v2 v3 v4 v5 v6 : Value} (h : Box7 W g v0 v1 v2 v3 v4 v5 v6) : W.cell? ⟨g, 0, none⟩ = some v0 ∧ W.cell? ⟨g, 1, none⟩ = some v1 ∧ W.cell? ⟨g, 2, none⟩ = some v2 ∧ W.cell? ⟨g, 3, none⟩ = some v3 ∧ W.cell? ⟨g, 4, none⟩ = some v4 ∧ W.cell? ⟨g, 5, none⟩ = some v5 ∧ W.cell? ⟨g, 6, none⟩ = some v6 :=
  ⟨Blk.cell h 0, Blk.cell h 1, Blk.cell h 2, Blk.cell h 3, Blk.cell h 4, Blk.cell h 5, Blk.cell h 6⟩

set_option maxRecDepth 100000 in
set_option maxHeartbeats 4000000 in
theorem count_any (s : Sawing) (b o b' o' n c c' : Nat) (K : Option Addr) (m d : Nat) (w : World) (h : SawAt w s ⟨b, o, none⟩ ⟨b', o', none⟩ n K m) (hc : n ≤ c) (hc' : n ≤ c') (hm : c ≤ maxLen) (hs : SawBounds s) (hn : n ≤ 30) (hm4 : m ≤ 4) :
    Calls Try.prog 83 #[sawVal s ⟨b, o, none⟩ ⟨b', o', none⟩ n c c' K m d] w fun e w' => e = .returned (.int .i64 (countL s n)) ∧ Below w.heap.size w w' := by
  have hst : 1 ≤ stepN s := by unfold stepN; have := hs.l1; omega
  have HW := Lib.hid (fun W (hb : Below w.heap.size w W) => blocks_any s b o b' o' n c c' K m d W (h.below hb) hc hc' hm hs hn hm4)
  have HA := Lib.hid (fun W bm base D V hmap => ahead_any s b o b' o' n c c' K m d bm base D V W hs hn hmap)
  have HE : Hid (countL s n = aheadAt s n n 0) := rfl
  unfold sawVal at HW HA ⊢
  have B1 := Lib.hid (Below.drew (below_self w (.cells #[.int .i64 s.long, .int .i64 s.wide, .int .i64 s.kerf, .int .i64 s.across, .slice (some ⟨b, o, none⟩) n c, .slice (some ⟨b', o', none⟩) n c', .slice K m d] 120)))
  have X0 : Hid (Box7 (w.alloc (.cells #[.int .i64 s.long, .int .i64 s.wide, .int .i64 s.kerf, .int .i64 s.across, .slice (some ⟨b, o, none⟩) n c, .slice (some ⟨b', o', none⟩) n c', .slice K m d] 120)).drew w.heap.size (.int .i64 s.long) (.int .i64 s.wide) (.int .i64 s.kerf) (.int .i64 s.across) (.slice (some ⟨b, o, none⟩) n c) (.slice (some ⟨b', o', none⟩) n c') (.slice K m d)) := Blk.new w _ _ rfl
  have r1 : (0 : Int) < (n : Int) + (stepN s : Int) := by omega
  clear h hc hc' hm hs
  go_enter Try.func83, Try.ntmps83
  go_wp2_with fail
  go_region_with (first
      | (go_at_call 78; refine (HW.out _ B1.out).mono ?_; rintro e w1 ⟨bm, D, V, rfl, hmap, hb1⟩; have HM := Lib.hid hmap; have HB1 := Lib.hid (below_then B1.out hb1); have X1 := blk_keep hb1 X0.out; have x1 := X1.cell; clear hmap)
      | (go_at_call 103; refine (HA.out _ _ _ _ _ HM.out).mono ?_; rintro e w2 ⟨g, rfl, hrow, hb2⟩; have HB2 := Lib.hid (below_then HB1.out hb2); have r0 := hrow.cell (i := 0) (Nat.lt_of_lt_of_le hst (Nat.le_add_left _ _)); clear hrow))
  all_goals go_wp2
  all_goals go_ret
  all_goals exact ⟨ret_int HE.out.symm, HB2.out⟩
end Go.Proofs.Ytiflhimmieflpaa
