/- Walks: spoiler. -/
import Derived.Test.YtiflhimmieflpaaW10
namespace Go.Proofs.Ytiflhimmieflpaa
open Go.RowKit

/-- Whether a crack spoils a stick. -/
def spoilB (s : Sawing) (px py : Int) (k : Split) : Bool := decide (k.cl < px + s.long) && decide (px ≤ k.ch) && decide (py < k.up) && decide (k.fr < py + s.wide)
def SmallI (n : Int) : Prop := -1000000 ≤ n ∧ n ≤ 1000000

set_option maxHeartbeats 1000000 in
theorem spoil1_any (s : Sawing) (px py : Int) (k : Split) (Bp Bw : Nat) (w : World) (hpx : SmallI px) (hpy : SmallI py) (hl : SmallI s.long) (hw : SmallI s.wide)
    (c0 : w.cell? ⟨Bp, 0, none⟩ = some (.int .i64 px)) (c1 : w.cell? ⟨Bp, 1, none⟩ = some (.int .i64 py)) (d0 : w.cell? ⟨Bw, 0, none⟩ = some (.int .i64 s.long)) (d1 : w.cell? ⟨Bw, 1, none⟩ = some (.int .i64 s.wide)) (hBp : Bp < w.heap.size) (hBw : Bw < w.heap.size) :
    Calls Try.prog 117 #[.agg #[.int .i64 k.cl, .int .i64 k.ch, .int .i64 k.fr, .int .i64 k.up], .pointer (some ⟨Bp, 0, none⟩), .pointer (some ⟨Bw, 0, none⟩)] w
      fun e w' => e = .returned (.bool (spoilB s px py k)) ∧ Below w.heap.size w w' := by
  obtain ⟨cl, ch, fr, up⟩ := k
  have HE : Hid (spoilB s px py ⟨cl, ch, fr, up⟩ = (decide (cl < px + s.long) && decide (px ≤ ch) && decide (py < up) && decide (fr < py + s.wide))) := rfl
  generalize spoilB s px py ⟨cl, ch, fr, up⟩ = r at *
  generalize s.long = l at *
  generalize s.wide = wd at *
  unfold SmallI at hpx hpy hl hw
  obtain ⟨a1, a2⟩ := hpx
  obtain ⟨a3, a4⟩ := hpy
  obtain ⟨a5, a6⟩ := hl
  obtain ⟨a7, a8⟩ := hw
  simp only
  have B1 := below_self w (.cells #[.int .i64 cl, .int .i64 ch, .int .i64 fr, .int .i64 up] 161)
  by_cases h1 : cl < px + l
  · by_cases h2 : px ≤ ch
    · by_cases h3 : py < up
      · by_cases h4 : fr < py + wd
        · go_enter Try.func117, Try.ntmps117
          go_wp2
          go_ret
          exact ⟨ret_bool (by rw [HE.out]; simp; omega), B1⟩
        · go_enter Try.func117, Try.ntmps117
          go_wp2
          go_ret
          exact ⟨ret_bool (by rw [HE.out]; simp; omega), B1⟩
      · go_enter Try.func117, Try.ntmps117
        go_wp2
        go_ret
        exact ⟨ret_bool (by rw [HE.out]; simp; omega), B1⟩
    · go_enter Try.func117, Try.ntmps117
      go_wp2
      go_ret
      exact ⟨ret_bool (by rw [HE.out]; simp; omega), B1⟩
  · go_enter Try.func117, Try.ntmps117
    go_wp2
    go_ret
    exact ⟨ret_bool (by rw [HE.out]; simp; omega), B1⟩

set_option maxHeartbeats 1000000 in
theorem indexSplit_any (s : Sawing) (px py : Int) (Bp Bw : Nat) (A : Option Addr) (n c : Nat) (xs : List Split) (w : World) (hpx : SmallI px) (hpy : SmallI py) (hl : SmallI s.long) (hw : SmallI s.wide)
    (c0 : w.cell? ⟨Bp, 0, none⟩ = some (.int .i64 px)) (c1 : w.cell? ⟨Bp, 1, none⟩ = some (.int .i64 py)) (d0 : w.cell? ⟨Bw, 0, none⟩ = some (.int .i64 s.long)) (d1 : w.cell? ⟨Bw, 1, none⟩ = some (.int .i64 s.wide)) (hBp : Bp < w.heap.size) (hBw : Bw < w.heap.size)
    (h : Splits w A n xs) (hn : n ≤ maxLen) :
    Calls Try.prog 116 #[.slice A n c, .func (.func 117) #[] #[.pointer (some ⟨Bp, 0, none⟩), .pointer (some ⟨Bw, 0, none⟩)]] w
      fun e w' => e = .returned (.int .i64 (idx (spoilB s px py) xs)) ∧ Below w.heap.size w w' := by
  unfold maxLen at hn
  have hlen := h.len
  have hcall := fun k W (hb : Below w.heap.size w W) => spoil1_any s px py k Bp Bw W hpx hpy hl hw ((hb.cell (p := ⟨Bp, 0, none⟩) hBp).trans c0) ((hb.cell (p := ⟨Bp, 1, none⟩) hBp).trans c1) ((hb.cell (p := ⟨Bw, 0, none⟩) hBw).trans d0) ((hb.cell (p := ⟨Bw, 1, none⟩) hBw).trans d1) (Nat.lt_of_lt_of_le hBp hb.size) (Nat.lt_of_lt_of_le hBw hb.size)
  generalize spoilB s px py = p at *
  have Hcall := Lib.hid hcall
  clear hcall c0 c1 d0 d1 hpx hpy hl hw hBp hBw
  go_enter Try.func116, Try.ntmps116
  go_wp2
  go_loopw [8] (fun i wr => ∃ k : Nat, k ≤ n ∧ i = .int .i64 k ∧ noneOf p (xs.take k) = true ∧ Below w.heap.size w wr) (fun i _ => n - (intOf i).toNat)
  case atStart => exact ⟨0, Nat.zero_le _, rfl, rfl, Below.refl _ _⟩
  case round =>
    obtain ⟨k, hk, rfl, hin, hbel⟩ := hrel
    by_cases hlt : k < n
    · obtain ⟨b, off, rfl, hb, hc0, hc1, hc2, hc3⟩ := (h.below hbel).at_ hlt
      have H := Lib.hid (noneOf_succ (p := p) Split.zero (xs := xs) (k := k) (by omega))
      have Hin := Lib.hid hin
      have Hit := Lib.hid (idx_hit (p := p) Split.zero (xs := xs) (k := k) (by omega) hin)
      clear hin hlen
      generalize xs.getD k Split.zero = y at *
      have C := Lib.hid (Hcall.out y wr hbel)
      cases hq : p y
      · go_wp2_with (go_at_call 117; refine C.out.mono ?_; rintro e w2 ⟨rfl, hb2⟩)
        go_roundw
        case rel => exact ⟨k + 1, by omega, by go_num, by rw [H.out, Hin.out, hq]; rfl, hbel.trans (hb2.mono hbel.size)⟩
        case measure => simp [intOf]; omega
      · go_wp2_with (go_at_call 117; refine C.out.mono ?_; rintro e w2 ⟨rfl, hb2⟩)
        go_ret
        exact ⟨ret_int (Hit.out hq).symm, hbel.trans (hb2.mono hbel.size)⟩
    · have he : idx p xs = -1 := idx_none (by rw [← hin, List.take_of_length_le (by omega)])
      clear hin
      have He := Lib.hid he
      clear he
      go_wp2
      go_ret
      exact ⟨ret_int He.out.symm, hbel⟩

set_option maxRecDepth 100000 in
set_option maxHeartbeats 1000000 in
theorem spoiler_any (s : Sawing) (b b' : Addr) (n c c' : Nat) (K : Option Addr) (m d : Nat) (px py : Int) (w : World) (h : SawAt w s b b' n K m) (hpx : SmallI px) (hpy : SmallI py) (hl : SmallI s.long) (hw : SmallI s.wide) (hm : m ≤ 4) :
    Calls Try.prog 102 #[sawVal s b b' n c c' K m d, .agg #[.int .i64 px, .int .i64 py]] w
      fun e w' => e = .returned (.int .i64 (idx (spoilB s px py) s.splits)) ∧ Below w.heap.size w w' := by
  have hmf : ∀ (fn : Fn) (first cap : Array Value) (w : World), (Instr.makeFunc fn first cap).run Try.prog w = .ok (.func fn first cap) w := fun _ _ _ _ => rfl
  unfold sawVal
  have B1 : Below w.heap.size w ((w.alloc (.cells #[.int .i64 s.long, .int .i64 s.wide, .int .i64 s.kerf, .int .i64 s.across, .slice (some b) n c, .slice (some b') n c', .slice K m d] 120)).alloc (.cells #[.int .i64 px, .int .i64 py] 39)) := below_alloc' (below_self _ _) _
  have HC := Lib.hid (indexSplit_any s px py (w.heap.size + 1) w.heap.size K m d s.splits _ hpx hpy hl hw ((Blk.new (w.alloc (.cells #[.int .i64 s.long, .int .i64 s.wide, .int .i64 s.kerf, .int .i64 s.across, .slice (some b) n c, .slice (some b') n c', .slice K m d] 120)) 39 #[.int .i64 px, .int .i64 py] (by simp)).cell 0) ((Blk.new (w.alloc (.cells #[.int .i64 s.long, .int .i64 s.wide, .int .i64 s.kerf, .int .i64 s.across, .slice (some b) n c, .slice (some b') n c', .slice K m d] 120)) 39 #[.int .i64 px, .int .i64 py] (by simp)).cell 1)
    (((Blk.new w 120 #[.int .i64 s.long, .int .i64 s.wide, .int .i64 s.kerf, .int .i64 s.across, .slice (some b) n c, .slice (some b') n c', .slice K m d] rfl).alloc _).cell 0) (((Blk.new w 120 #[.int .i64 s.long, .int .i64 s.wide, .int .i64 s.kerf, .int .i64 s.across, .slice (some b) n c, .slice (some b') n c', .slice K m d] rfl).alloc _).cell 1) (by simp) (by simp <;> omega) (h.2.2.below B1) (by unfold maxLen; omega))
  clear h
  go_enter Try.func102, Try.ntmps102
  go_wp2_with (go_at_call 116; refine HC.out.mono ?_; rintro e w2 ⟨rfl, hb2⟩)
  go_ret
  exact ⟨rfl, below_then B1 hb2⟩
end Go.Proofs.Ytiflhimmieflpaa
