/- Walks: block. -/
import Derived.Test.YtiflhimmieflpaaW12
import Derived.Test.YtiflhimmieflpaaW13
namespace Go.Proofs.Ytiflhimmieflpaa
open Go.RowKit

structure SawBounds (s : Sawing) : Prop where
  l1 : 1 ≤ s.long
  l2 : s.long ≤ 30
  w1 : 1 ≤ s.wide
  w2 : s.wide ≤ 300
  k1 : 0 ≤ s.kerf
  k2 : s.kerf ≤ 50
  a1 : 0 ≤ s.across
  a2 : s.across ≤ 50
  bot : ∀ v ∈ s.bottom, 0 ≤ v ∧ v ≤ 300
  top : ∀ v ∈ s.top, 0 ≤ v ∧ v ≤ 300
  spl : ∀ k ∈ s.splits, 0 ≤ k.up ∧ k.up ≤ 300

theorem maxTo_in {xs : List Int} {lo hi : Int} (h : ∀ v ∈ xs, lo ≤ v ∧ v ≤ hi) (k : Nat) (hk : k < xs.length) : lo ≤ maxTo xs k ∧ maxTo xs k ≤ hi := by
  have hg : ∀ i, i < xs.length → lo ≤ xs.getD i 0 ∧ xs.getD i 0 ≤ hi := fun i hi' => by
    have : xs.getD i 0 = xs[i] := by simp [hi', List.getD]
    rw [this]; exact h _ (List.getElem_mem hi')
  induction k with
  | zero => exact hg 0 hk
  | succ k ih => have := ih (by omega); have := hg (k + 1) hk; rw [maxTo_succ]; omega
theorem minTo_in {xs : List Int} {lo hi : Int} (h : ∀ v ∈ xs, lo ≤ v ∧ v ≤ hi) (k : Nat) (hk : k < xs.length) : lo ≤ minTo xs k ∧ minTo xs k ≤ hi := by
  have hg : ∀ i, i < xs.length → lo ≤ xs.getD i 0 ∧ xs.getD i 0 ≤ hi := fun i hi' => by
    have : xs.getD i 0 = xs[i] := by simp [hi', List.getD]
    rw [this]; exact h _ (List.getElem_mem hi')
  induction k with
  | zero => exact hg 0 hk
  | succ k ih => have := ih (by omega); have := hg (k + 1) hk; rw [minTo_succ]; omega
theorem room_in {s : Sawing} (hs : SawBounds s) {x n : Nat} (hb : s.bottom.length = n) (ht : s.top.length = n) (hx : (x : Int) + s.long ≤ n) : (0 ≤ (roomL s x).1 ∧ (roomL s x).1 ≤ 300) ∧ (0 ≤ (roomL s x).2 ∧ (roomL s x).2 ≤ 300) := by
  have h1 := hs.l1
  unfold roomL
  refine ⟨maxTo_in (fun v hv => hs.bot v (List.mem_of_mem_drop (List.mem_of_mem_take hv))) _ ?_, minTo_in (fun v hv => hs.top v (List.mem_of_mem_drop (List.mem_of_mem_take hv))) _ ?_⟩
  · simp only [List.length_take, List.length_drop]; omega
  · simp only [List.length_take, List.length_drop]; omega

def blockGo (s : Sawing) (x top : Int) : Nat → Int → List Int
  | 0, _ => []
  | f + 1, y => if y + s.wide ≤ top then (if 0 ≤ idx (spoilB s x y) s.splits then blockGo s x top f (s.splits.getD (idx (spoilB s x y) s.splits).toNat Split.zero).up else y :: blockGo s x top f (y + (s.wide + s.kerf))) else []
def blockL (s : Sawing) (x : Nat) : List Int := blockGo s x (roomL s x).2 302 (roomL s x).1

theorem idx_cases {α : Type} (p : α → Bool) (xs : List α) (z : α) : idx p xs = -1 ∨ ∃ k : Nat, idx p xs = k ∧ k < xs.length ∧ p (xs.getD k z) = true := by
  unfold idx
  cases h : xs.findIdx? p with
  | none => exact .inl rfl
  | some i =>
    rw [List.findIdx?_eq_some_iff_getElem] at h
    obtain ⟨hi, hp, _⟩ := h
    exact .inr ⟨i, rfl, hi, by simpa [List.getD, hi] using hp⟩

theorem blockGo_end {s : Sawing} {x top y : Int} {f : Nat} (h : ¬ y + s.wide ≤ top) : blockGo s x top f y = [] := by
  cases f with
  | zero => rfl
  | succ f => rw [blockGo, if_neg h]
theorem blockGo_stick {s : Sawing} {x top y : Int} {f : Nat} (h : y + s.wide ≤ top) (hi : idx (spoilB s x y) s.splits = -1) : blockGo s x top (f + 1) y = y :: blockGo s x top f (y + (s.wide + s.kerf)) := by
  rw [blockGo, if_pos h, if_neg (by rw [hi]; decide)]
theorem blockGo_crack {s : Sawing} {x top y : Int} {f k : Nat} (h : y + s.wide ≤ top) (hi : idx (spoilB s x y) s.splits = k) : blockGo s x top (f + 1) y = blockGo s x top f (s.splits.getD k Split.zero).up := by
  rw [blockGo, if_pos h, if_pos (by rw [hi]; omega), hi, Int.toNat_natCast]

def BlockRes (w : World) (L : List Int) (e : Ending) (w' : World) : Prop := ∃ v, e = .returned v ∧ w'.ownsRow w.heap.size 3 1 v L.length (L.map (Value.int .i64)) ∧ Below w.heap.size w w'

set_option maxRecDepth 100000 in
set_option maxHeartbeats 4000000 in
theorem block_any (s : Sawing) (b o b' o' n c c' : Nat) (K : Option Addr) (m d x : Nat) (w : World) (h : SawAt w s ⟨b, o, none⟩ ⟨b', o', none⟩ n K m) (hc : n ≤ c) (hc' : n ≤ c') (hm : c ≤ maxLen) (hs : SawBounds s) (hx : (x : Int) + s.long ≤ n) (hn : n ≤ 30) (hm4 : m ≤ 4) :
    Calls Try.prog 71 #[sawVal s ⟨b, o, none⟩ ⟨b', o', none⟩ n c c' K m d, .int .i64 x] w (BlockRes w (blockL s x)) := by
  obtain ⟨i0, hi, hz0, hz1, hz2⟩ := info_parts Try.infoInt
  have B1 := below_self w (.cells #[.int .i64 s.long, .int .i64 s.wide, .int .i64 s.kerf, .int .i64 s.across, .slice (some ⟨b, o, none⟩) n c, .slice (some ⟨b', o', none⟩) n c', .slice K m d] 120)
  have HR := Lib.hid (room_any s b o b' o' n c c' K m d x _ (h.below B1) hc hc' hm hs.l1 hx)
  have HIN := Lib.hid (room_in hs h.1.len h.2.1.len hx)
  have HL : Hid (blockL s x = blockGo s x (roomL s x).2 302 (roomL s x).1) := rfl
  have HW := Lib.hid (fun W (hb : Below w.heap.size w W) => h.below hb)
  have hmlen := Lib.hid h.2.2.len
  clear h hc hc' hm
  unfold sawVal at HR ⊢
  go_enter Try.func71, Try.ntmps71
  go_wp2_with fail
  refine HR.out.mono ?_
  rintro e w1 ⟨rfl, hb1⟩
  have HB := Lib.hid ((Blk.new w 120 #[.int .i64 s.long, .int .i64 s.wide, .int .i64 s.kerf, .int .i64 s.across, .slice (some ⟨b, o, none⟩) n c, .slice (some ⟨b', o', none⟩) n c', .slice K m d] rfl).below hb1 (by simp))
  have HB1 := Lib.hid (below_then B1 hb1)
  have hin := HIN.out
  generalize (roomL s x).1 = y0 at *
  generalize (roomL s x).2 = top at *
  clear hb1 B1 HR HIN
  go_wp2_with fail
  go_loopw [5, 6] (fun v i wr => ∃ (acc : List Int) (y : Int) (f : Nat), i = .int .i64 y ∧ wr.ownsRow w1.heap.size 3 1 v acc.length (acc.map (Value.int .i64)) ∧ Below w1.heap.size w1 wr ∧ acc ++ blockGo s x top f y = blockL s x ∧ top - y < f ∧ 0 ≤ y ∧ y ≤ 1000 ∧ (acc.length : Int) ≤ y) (fun _ i _ => (1001 - intOf i).toNat)
  case atStart => exact ⟨[], y0, 302, rfl, World.ownsRow_nil _ _ _ _, Below.refl _ _, by rw [HL.out]; rfl, by omega, by omega, by omega, by simp; omega⟩
  case round =>
    obtain ⟨acc, y, f, rfl, hown, hbel, hgo, hf, hy0, hy1, hacc⟩ := hrel
    have Hgo := Lib.hid hgo
    have Hown := Lib.hid hown
    have Hbel := Lib.hid hbel
    have hcell := (HB.out.below hbel HB.out.lt).cell
    have t1 := hs.w1
    have t2 := hs.w2
    have t3 := hs.k1
    have t4 := hs.k2
    clear hgo hown hbel HL
    by_cases hlt : y + s.wide ≤ top
    · obtain ⟨f, rfl⟩ : ∃ f', f = f' + 1 := ⟨f - 1, by omega⟩
      have C := spoiler_any s ⟨b, o, none⟩ ⟨b', o', none⟩ n c c' K m d x y wr (HW.out wr (below_then HB1.out Hbel.out)) (by unfold SmallI; have := hs.l1; omega) (by unfold SmallI; omega) (by unfold SmallI; have := hs.l1; have := hs.l2; omega) (by unfold SmallI; omega) hm4
      unfold sawVal at C
      rcases idx_cases (spoilB s x y) s.splits Split.zero with hidx | ⟨kk, hidx, hkk, _⟩
      · rw [hidx] at C
        have HGS := Lib.hid (blockGo_stick (f := f) hlt hidx)
        have C' := Lib.hid C
        clear C hidx
        generalize s.wide = wd at *
        generalize s.long = ld at *
        go_wp2_with fail
        refine C'.out.mono ?_
        rintro e w2 ⟨rfl, hb2⟩
        have hcell2 := (HB.out.below (Hbel.out.trans (hb2.mono Hbel.out.size)) HB.out.lt).cell
        have hb3 := Lib.hid (Hbel.out.trans (hb2.mono Hbel.out.size))
        have hown2 := Lib.hid (ownsRow_below Hown.out hb2)
        have hze : w.heap.size ≤ w2.heap.size := Nat.le_trans HB1.out.size hb3.out.size
        have hzl : w.heap.size < w2.heap.size := Nat.lt_of_lt_of_le HB.out.lt hb3.out.size
        clear hb2 hcell C'
        go_wp2_with (at_builtin; refine wpList_append_own _ rfl _ _ 44 rfl w1.heap.size 3 i0 (.int .i64 0) 1 8 Try.underlying44 hi hz0 hz1 hz2 rfl (by decide) _ _ _ rfl (hown2.out.alloc _) ⟨w2.heap.size, 0, none⟩ 1 1 [.int .i64 y] rfl rfl (cell_one_new _ _ _) ?c2 ?c3 ?c4 ?c5 ?_)
        case c2 => intro u hu; simp only [List.mem_singleton] at hu; subst hu; rfl
        case c3 => unfold maxLen; omega
        case c4 => omega
        case c5 => have := hb3.out.size; simp; omega
        intro v' w4 hown4 hgrow _
        have B4 := Lib.hid ((hb3.out.alloc hb3.out.size _).grown hgrow (by have := hb3.out.size; simp; omega) (fun q hq => (hown2.out.lt q hq).1))
        have hown5 : Hid (w4.ownsRow w1.heap.size 3 1 v' (acc ++ [y]).length ((acc ++ [y]).map (Value.int .i64))) := by
          unfold Hid; rw [List.length_append, List.map_append]; exact hown4
        have hcell4 := (HB.out.below B4.out HB.out.lt).cell
        clear hown4 hgrow hcell2
        go_wp2
        go_roundw
        case rel => exact ⟨acc ++ [y], _, f, rfl, hown5.out, B4.out, by rw [List.append_assoc, List.singleton_append, ← HGS.out]; exact Hgo.out, by omega, by omega, by omega, by rw [List.length_append, List.length_singleton]; omega⟩
        case measure => simp [intOf]; omega
      · rw [hidx] at C
        have HGS := Lib.hid (blockGo_crack (f := f) hlt hidx)
        have C' := Lib.hid C
        clear C hidx
        have hkm : kk < m := by rw [← hmlen.out]; exact hkk
        obtain ⟨sb, so, rfl, hsb, q0, q1, q2, q3⟩ := (HW.out wr (below_then HB1.out Hbel.out)).2.2.at_ hkm
        have hup : 0 ≤ (s.splits.getD kk Split.zero).up ∧ (s.splits.getD kk Split.zero).up ≤ 300 := by
          have e : s.splits.getD kk Split.zero = s.splits[kk] := by simp [List.getD, hkk]
          rw [e]; exact hs.spl _ (List.getElem_mem hkk)
        have hyup : y < (s.splits.getD kk Split.zero).up := by
          have := ‹spoilB s x y (s.splits.getD kk Split.zero) = true›
          simp only [spoilB, Bool.and_eq_true, decide_eq_true_eq] at this
          exact this.1.2
        clear ‹spoilB s x y (s.splits.getD kk Split.zero) = true›
        generalize s.splits.getD kk Split.zero = z at *
        generalize s.wide = wd at *
        generalize s.long = ld at *
        clear q0 q1 q2
        go_wp2_with fail
        refine C'.out.mono ?_
        rintro e w2 ⟨rfl, hb2⟩
        have hcell2 := (HB.out.below (Hbel.out.trans (hb2.mono Hbel.out.size)) HB.out.lt).cell
        have hb3 := Lib.hid (Hbel.out.trans (hb2.mono Hbel.out.size))
        have hown2 := Lib.hid (ownsRow_below Hown.out hb2)
        have r3 : w2.cell? ⟨sb, so + kk * 4 + 3, none⟩ = some (.int .i64 z.up) := (hb2.cell (p := ⟨sb, so + kk * 4 + 3, none⟩) hsb).trans q3
        clear hb2 hcell C' q3
        go_wp2
        go_roundw
        case rel => exact ⟨acc, _, f, rfl, hown2.out, hb3.out, by rw [← HGS.out]; exact Hgo.out, by omega, by omega, by omega, by omega⟩
        case measure => simp [intOf]; omega
    · have hE : blockGo s x top f y = [] := blockGo_end hlt
      have HE : Hid (acc = blockL s x) := by unfold Hid; rw [← Hgo.out, hE, List.append_nil]
      clear hE
      generalize s.wide = wd at *
      generalize s.long = ld at *
      go_wp2
      go_ret
      exact ⟨_, rfl, by rw [← HE.out]; exact own_base Hown.out HB1.out.size, below_then HB1.out Hbel.out⟩
end Go.Proofs.Ytiflhimmieflpaa
