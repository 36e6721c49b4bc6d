/- Walks: the code's sound. -/
import Derived.Test.YtiflhimmieflpaaW59
namespace Go.Proofs.Ytiflhimmieflpaa
open Go.RowKit Go.Maps

/-- Whether a stick is sound. -/
def soundS (S : Sawing) (x : Nat) (y : Int) : Bool := decide ((roomL S x).1 ≤ y) && decide (y + S.wide ≤ (roomL S x).2) && noneOf (spoilB S x y) S.splits
theorem idx_neg {α : Type} {p : α → Bool} {xs : List α} : decide (idx p xs < 0) = noneOf p xs := by
  have h := idx_any (p := p) (xs := xs)
  have h2 : noneOf p xs = !xs.any p := by unfold noneOf; rw [List.not_any_eq_all_not]
  rw [h2, ← h]
  by_cases e : 0 ≤ idx p xs
  · simp [e]
  · simp [e]; omega
set_option maxRecDepth 100000 in
set_option maxHeartbeats 2000000 in
theorem sound_any (S : Sawing) (b o b' o' n c c' : Nat) (K : Option Addr) (m d x : Nat) (y : Int) (w : World) (h : SawAt w S ⟨b, o, none⟩ ⟨b', o', none⟩ n K m) (hc : n ≤ c) (hc' : n ≤ c') (hm : c ≤ maxLen) (hs : SawBounds S) (hx : (x : Int) + S.long ≤ n) (hn : n ≤ 30) (hm4 : m ≤ 4) (y0 : 0 ≤ y) (y3 : y ≤ 300) :
    Calls Try.prog 67 #[sawVal S ⟨b, o, none⟩ ⟨b', o', none⟩ n c c' K m d, .agg #[.int .i64 x, .int .i64 y]] w fun e w' => e = .returned (.bool (soundS S x y)) ∧ Below w.heap.size w w' := by
  have HD : Hid (soundS S x y = (decide ((roomL S x).1 ≤ y) && decide (y + S.wide ≤ (roomL S x).2) && noneOf (spoilB S x y) S.splits)) := rfl
  have B0 := Lib.hid (below_alloc' (below_self w (.cells #[.int .i64 S.long, .int .i64 S.wide, .int .i64 S.kerf, .int .i64 S.across, .slice (some ⟨b, o, none⟩) n c, .slice (some ⟨b', o', none⟩) n c', .slice K m d] 120)) (.cells #[.int .i64 x, .int .i64 y] 39))
  have Z0 := Lib.hid ((Blk.new w 120 #[.int .i64 S.long, .int .i64 S.wide, .int .i64 S.kerf, .int .i64 S.across, .slice (some ⟨b, o, none⟩) n c, .slice (some ⟨b', o', none⟩) n c', .slice K m d] rfl).alloc (.cells #[.int .i64 x, .int .i64 y] 39))
  have P0 := Lib.hid (Blk.new (w.alloc (.cells #[.int .i64 S.long, .int .i64 S.wide, .int .i64 S.kerf, .int .i64 S.across, .slice (some ⟨b, o, none⟩) n c, .slice (some ⟨b', o', none⟩) n c', .slice K m d] 120)) 39 #[.int .i64 x, .int .i64 y] (g := w.heap.size + 1) (by simp))
  have HR := Lib.hid (room_any S b o b' o' n c c' K m d x _ (h.below B0.out) hc hc' hm hs.l1 hx)
  have w1 := hs.w1
  have w2 := hs.w2
  have l1 := hs.l1
  have l2 := hs.l2
  have HSP := Lib.hid (fun W (hb : Below w.heap.size w W) => spoiler_any S ⟨b, o, none⟩ ⟨b', o', none⟩ n c c' K m d x y W (h.below hb) ⟨by omega, by omega⟩ ⟨by omega, by omega⟩ ⟨by omega, by omega⟩ ⟨by omega, by omega⟩ hm4)
  have HIN := Lib.hid (idx_neg (p := spoilB S x y) (xs := S.splits))
  have kw : IntKind.i64.wrap (y + S.wide) = y + S.wide := IntWalk.i64_in _ (by omega)
  clear h hs
  unfold sawVal at *
  go_enter Try.func67, Try.ntmps67
  go_wp2_with fail
  refine HR.out.mono ?_
  rintro e w2 ⟨rfl, b2⟩
  have B2 := Lib.hid (below_then B0.out b2)
  have Z2 := Lib.hid (blk_keep b2 Z0.out)
  have P2 := Lib.hid (blk_keep b2 P0.out)
  have z2 := Z2.out.cell
  have p2 := P2.out.cell
  have HS2 := Lib.hid (HSP.out _ B2.out)
  clear b2 HR Z0 P0 B0 HSP
  generalize (roomL S x).1 = lo at *
  generalize (roomL S x).2 = hi at *
  by_cases h1 : lo ≤ y
  · by_cases h2 : y + S.wide ≤ hi
    · have HE : Hid (soundS S x y = decide (idx (spoilB S x y) S.splits < 0)) := by unfold Hid; rw [HD.out, HIN.out]; simp [h1, h2]
      clear HD HIN
      generalize idx (spoilB S x y) S.splits = q at *
      go_wp2_with fail
      refine HS2.out.mono ?_
      rintro e w3 ⟨rfl, b3⟩
      have B3 := Lib.hid (below_then B2.out b3)
      clear b3 z2 p2
      go_wp2
      go_ret
      exact ⟨ret_bool HE.out.symm, B3.out⟩
    · have HE : Hid (soundS S x y = false) := by unfold Hid; rw [HD.out]; simp [h2]
      clear HD HIN HS2
      go_wp2
      go_ret
      exact ⟨ret_bool HE.out.symm, B2.out⟩
  · have HE : Hid (soundS S x y = false) := by unfold Hid; rw [HD.out]; simp [h1]
    clear HD HIN HS2
    go_wp2
    go_ret
    exact ⟨ret_bool HE.out.symm, B2.out⟩
end Go.Proofs.Ytiflhimmieflpaa
