/- Walks: without. -/
import Derived.Test.YtiflhimmieflpaaW23
namespace Go.Proofs.Ytiflhimmieflpaa
open Go.RowKit Go.Maps

theorem Reads.setCell_far {w : World} {size n g off : Nat} {xs : List Value} (h : Reads w size (some ⟨g, off, none⟩) n xs) {p : Addr} (hp : p.block ≠ g) (u : Value) : Reads (w.setCell p u) size (some ⟨g, off, none⟩) n xs := by
  refine ⟨h.1, fun hn => ?_⟩
  obtain ⟨b, o, e, hb, hc⟩ := h.2 hn
  simp only [Option.some.injEq, Addr.mk.injEq, and_true] at e
  obtain ⟨rfl, rfl⟩ := e
  exact ⟨g, off, rfl, by simpa using hb, fun j v hv => (World.cell?_setCell_other _ _ _ _ (fun e => hp (by rw [e]))).trans (hc j v hv)⟩
theorem Reads.setRow_far {w : World} {size n g off r : Nat} {xs : List Value} (h : Reads w size (some ⟨g, off, none⟩) n xs) (hp : r ≠ g) (cs : Array Value) : Reads (w.setRow r cs) size (some ⟨g, off, none⟩) n xs := by
  refine ⟨h.1, fun hn => ?_⟩
  obtain ⟨b, o, e, hb, hc⟩ := h.2 hn
  simp only [Option.some.injEq, Addr.mk.injEq, and_true] at e
  obtain ⟨rfl, rfl⟩ := e
  refine ⟨g, off, rfl, by simpa using hb, fun j v hv => ?_⟩
  rw [World.cell?_of_block (w := w) (setRow_other w r g cs (fun e => hp e.symm))]
  exact hc j v hv

def Bl.less (B : Bl) (k g cap : Nat) : Bl := ⟨B.A, B.A', some ⟨g, 0, none⟩, B.n, B.c, B.n', B.c', B.m - 1, cap, B.bend, B.bot, B.top, B.cr.eraseIdx k⟩
def WithoutRes (w : World) (B : Bl) (g cap g' cap' k : Nat) (e : Ending) (w' : World) : Prop :=
  ∃ q dq, e = .returned ((B.less k q dq).curved g cap g' cap') ∧ Cracks w' (some ⟨q, 0, none⟩) (B.m - 1) (B.cr.eraseIdx k) ∧ Below w.heap.size w w'

set_option maxRecDepth 100000 in
set_option maxHeartbeats 2000000 in
theorem without_any (B : Bl) (g cap g' cap' k : Nat) (w : World) (hk : k < B.m) (hm : B.m ≤ 4) (h : Cracks w B.K B.m B.cr) :
    Calls Try.prog 85 #[B.curved g cap g' cap', .int .i64 k] w (WithoutRes w B g cap g' cap' k) := by
  obtain ⟨A, A', K, n, c, n', c', m, d, bend, bot, top, cr⟩ := B
  unfold WithoutRes Bl.less Bl.curved
  dsimp only at hk hm h ⊢
  obtain ⟨p, rfl⟩ : ∃ p, m = p + 1 := ⟨m - 1, by omega⟩
  rw [Nat.add_sub_cancel]
  obtain ⟨kb, ko, rfl, hkb, _⟩ := h.at_ hk
  have B0 := Lib.hid (below_alloc' (below_self w (.cells #[.slice A n c, .slice A' n' c', .int .i64 bend, .slice (some ⟨kb, ko, none⟩) (p + 1) d, .slice (some ⟨g, 0, none⟩) n cap, .slice (some ⟨g', 0, none⟩) n cap'] 106)) (.cells zero6 106))
  have C0 := Lib.hid ((Blk.new w 106 #[.slice A n c, .slice A' n' c', .int .i64 bend, .slice (some ⟨kb, ko, none⟩) (p + 1) d, .slice (some ⟨g, 0, none⟩) n cap, .slice (some ⟨g', 0, none⟩) n cap'] (g := w.heap.size) rfl).alloc (.cells zero6 106))
  have R0 := Lib.hid (Blk.new (w.alloc (.cells #[.slice A n c, .slice A' n' c', .int .i64 bend, .slice (some ⟨kb, ko, none⟩) (p + 1) d, .slice (some ⟨g, 0, none⟩) n cap, .slice (some ⟨g', 0, none⟩) n cap'] 106)) 106 zero6 (g := w.heap.size + 1) (by simp))
  have HC := Lib.hid (cloneCrack_any kb ko (p + 1) d cr _ (h.below B0.out) (by omega) (by omega))
  have k1 : IntKind.i64.wrap ((k : Int) + 1) = (k : Int) + 1 := IntWalk.i64_in _ (by omega)
  clear h hkb
  go_enter Try.func85, Try.ntmps85
  go_wp2_with fail
  refine HC.out.mono ?_
  rintro e w2 ⟨q, dq, rfl, hown, hb2⟩
  obtain ⟨_, _, _, _, _, _, hq⟩ := own_blk hown
  have HDl := Lib.hid (Delete_any _ q p dq k cr w2 hown hk (by omega))
  have B2 := Lib.hid (below_then B0.out hb2)
  have C2 := Lib.hid (blk_keep hb2 C0.out)
  have R2 := Lib.hid (blk_keep hb2 R0.out)
  have Hq : Hid (w.heap.size + 1 < q) := by
    have := R0.out.lt; unfold Hid; omega
  have HB0 : Hid (w.heap.size + 1 < _) := R0.out.lt
  clear hown hq HC C0 R0
  go_wp2_with fail
  refine HDl.out.mono ?_
  rintro e w3 ⟨rfl, hcr, hb3⟩
  have hzz := HB0.out
  have B3 := Lib.hid (B2.out.trans (hb3.mono B0.out.size))
  have C3 := Lib.hid (C2.out.below hb3 (by omega))
  have R3 := Lib.hid (R2.out.below hb3 hzz)
  have c3 := C3.out.cell
  have f3 := C3.out.frozen 3
  have HCR := Lib.hid hcr
  have C4 : Hid (Blk (w3.setCell ⟨w.heap.size, 3, none⟩ (.slice (some ⟨q, 0, none⟩) p dq)) w.heap.size 106 #[.slice A n c, .slice A' n' c', .int .i64 bend, .slice (some ⟨q, 0, none⟩) p dq, .slice (some ⟨g, 0, none⟩) n cap, .slice (some ⟨g', 0, none⟩) n cap']) := C3.out.set_ 3 _
  have R4 := Lib.hid (R3.out.far (p := ⟨w.heap.size, 3, none⟩) (by simp) (.slice (some ⟨q, 0, none⟩) p dq))
  have B4 := Lib.hid (B3.out.setCell (p := ⟨w.heap.size, 3, none⟩) (Nat.le_refl _) (.slice (some ⟨q, 0, none⟩) p dq))
  have HCR4 := Lib.hid (Reads.setCell_far HCR.out (p := ⟨w.heap.size, 3, none⟩) (by have := Hq.out; simp; omega) (.slice (some ⟨q, 0, none⟩) p dq))
  clear hb3 hcr HDl hzz HB0
  go_wp2_with (refine wpList_store_row rfl 106 _ _ rfl (w.heap.size + 1) _ rfl rfl 106 _ R4.out (by kernel_rfl) rfl (by kernel_rfl) ?_)
  exact bodyPost_ret (results_c rfl _ _ _ _ _ _ _ rfl (R4.out.setRow _) Try.underlying106 (by kernel_rfl)) rfl ⟨q, dq, rfl, Reads.setRow_far HCR4.out (by have := Hq.out; omega) _, below_setR B4.out (by omega) _⟩
end Go.Proofs.Ytiflhimmieflpaa
