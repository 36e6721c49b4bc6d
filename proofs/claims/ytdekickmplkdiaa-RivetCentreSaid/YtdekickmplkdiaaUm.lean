/- Walks: the reference's Some. -/
import Derived.Test.YtdekickmplkdiaaSr
import Derived.Test.YtdekickmplkdiaaUj
import Derived.Test.YtdekickmplkdiaaUb
namespace Go.Proofs.Ytdekickmplkdiaa
open Go.RowKit

def inTo (L : List Int) (x : Int) : Nat → Bool
  | 0 => false
  | j + 1 => inTo L x j || L.getD j 0 == x
theorem inTo_take (L : List Int) (x : Int) (j : Nat) (h : j ≤ L.length) : inTo L x j = decide (x ∈ L.take j) := by
  induction j with
  | zero => simp [inTo]
  | succ j ih =>
    have e : L.getD j 0 = L[j] := by simp only [List.getD, List.getElem?_eq_getElem (show j < L.length by omega), Option.getD_some]
    rw [inTo, ih (by omega), List.take_succ_eq_append_getElem (by omega), Bool.eq_iff_iff, e]
    simp only [Bool.or_eq_true, decide_eq_true_eq, beq_iff_eq, List.mem_append, List.mem_singleton]
    exact ⟨fun h => h.imp id Eq.symm, fun h => h.imp id Eq.symm⟩
theorem inTo_all (L : List Int) (x : Int) : inTo L x L.length = decide (x ∈ L) := by rw [inTo_take L x _ (Nat.le_refl _), List.take_length]
/-- The gaps among the first k that are not in a set. -/
def someTo (gs : List Gap) (L : List Int) : Nat → List Gap
  | 0 => []
  | k + 1 => if decide ((k : Int) ∈ L) = true then someTo gs L k else someTo gs L k ++ [gs.getD k Gap.zero]
theorem someTo_len (gs : List Gap) (L : List Int) (k : Nat) : (someTo gs L k).length ≤ k := by
  induction k with
  | zero => simp [someTo]
  | succ k ih =>
    rw [someTo]
    split
    · omega
    · rw [List.length_append, List.length_singleton]; omega
theorem someTo_mem (gs : List Gap) (L : List Int) (k : Nat) (hk : k ≤ gs.length) : ∀ g ∈ someTo gs L k, g ∈ gs := by
  induction k with
  | zero => simp [someTo]
  | succ k ih =>
    have ih := ih (by omega)
    intro g hg
    rw [someTo] at hg
    split at hg
    · exact ih g hg
    · rcases List.mem_append.1 hg with h | h
      · exact ih g h
      · rw [List.mem_singleton.1 h]
        have e : gs.getD k Gap.zero = gs[k] := by simp [List.getD, show k < gs.length by omega]
        rw [e]; exact List.getElem_mem _
def Fan.some (f : Fan) (L : List Int) : Fan := { f with gs := someTo f.gs L f.gs.length }
theorem some_B {f : Fan} (h : FanB f) (L : List Int) : FanB (f.some L) :=
  ⟨h.a1, h.ab, h.b5, h.c1, h.cd, h.d5, by have := someTo_len f.gs L f.gs.length; have := h.n; show (someTo f.gs L f.gs.length).length ≤ 41; omega, fun g hg => h.g g (someTo_mem f.gs L _ (Nat.le_refl _) g hg)⟩
theorem flatG_snoc (xs : List Gap) (y : Gap) : flatG xs ++ y.cells = flatG (xs ++ [y]) := by simp [flatG]

/-- What Some's own boxes hold. -/
structure EnvS (w W : World) (fan out : Array Value) : Prop where
  p : Blk W w.heap.size 26 fan
  r : Blk W (w.heap.size + 1) 26 #[.int .i64 0, .int .i64 0, .int .i64 0, .int .i64 0, .slice none 0 0]
  q : Blk W (w.heap.size + 2) 26 out
  bel : Below w.heap.size w W
section
variable {w W W' : World} {fan out : Array Value}
theorem EnvS.below (h : EnvS w W fan out) (hb : Below W.heap.size W W') : EnvS w W' fan out := ⟨blk_keep hb h.p, blk_keep hb h.r, blk_keep hb h.q, below_then h.bel hb⟩
theorem EnvS.alloc (h : EnvS w W fan out) (o : Obj) : EnvS w (W.alloc o) fan out := h.below (below_self W o)
theorem EnvS.drewd (h : EnvS w W fan out) : EnvS w W.drew fan out := ⟨h.p, h.r, h.q, h.bel.drew⟩
theorem EnvS.grown (h : EnvS w W fan out) {base n size : Nat} {e : TypeId} {v : Value} {xs : List Value} (ho : W.ownsRow base e size v n xs) (h1 : e ≠ 26) (hb : w.heap.size ≤ base) (hg : W.grownBy W' v.ownBlock) : EnvS w W' fan out :=
  ⟨h.p.grown hg (own_blk_ne ho h.p h1), h.r.grown hg (own_blk_ne ho h.r h1), h.q.grown hg (own_blk_ne ho h.q h1), h.bel.grown hg h.bel.size (fun k e => Nat.le_trans hb (ho.lt k e.symm.symm).1)⟩
theorem EnvS.setQ (h : EnvS w W fan out) (i : Nat) (u : Value) : EnvS w (W.setCell ⟨w.heap.size + 2, i, none⟩ u) fan (out.setIfInBounds i u) :=
  ⟨h.p.far (p := ⟨w.heap.size + 2, i, none⟩) (by simp) u, h.r.far (p := ⟨w.heap.size + 2, i, none⟩) (by simp) u, h.q.set_ i u, h.bel.setCell (p := ⟨w.heap.size + 2, i, none⟩) (by show w.heap.size ≤ w.heap.size + 2; omega) u⟩
theorem EnvS.rowQ (h : EnvS w W fan out) (cs : Array Value) : EnvS w (W.setRow (w.heap.size + 2) cs) fan cs :=
  ⟨h.p.setRow_far (by omega) _, h.r.setRow_far (by omega) _, h.q.setRow _, below_setR h.bel (by omega) _⟩
theorem EnvS.start (w : World) (fan z : Array Value) : EnvS w (((w.alloc (.cells fan 26)).alloc (.cells #[.int .i64 0, .int .i64 0, .int .i64 0, .int .i64 0, .slice none 0 0] 26)).alloc (.cells z 26)) fan z :=
  ⟨((Blk.new w _ _ rfl).alloc _).alloc _, (Blk.new _ _ _ (by simp)).alloc _, Blk.new _ _ _ (by simp), below_alloc' (below_alloc' (below_self w _) _) _⟩
end
theorem som_pt {w W : World} {b off n c k : Nat} {fa fb fc fd : Int} {gs : List Gap} {ll lh fl fh : Int} {out : Array Value} (hE : EnvS w W #[.int .i64 fa, .int .i64 fb, .int .i64 fc, .int .i64 fd, .slice (some ⟨b, off, none⟩) n c] out) (hg : Gaps w (some ⟨b, off, none⟩) n gs) (hk : k < n) (hy : gs.getD k Gap.zero = ⟨ll, lh, fl, fh⟩) :
    (W.cell? ⟨w.heap.size, 0, none⟩ = some (.int .i64 fa) ∧ W.cell? ⟨w.heap.size, 1, none⟩ = some (.int .i64 fb) ∧ W.cell? ⟨w.heap.size, 2, none⟩ = some (.int .i64 fc) ∧ W.cell? ⟨w.heap.size, 3, none⟩ = some (.int .i64 fd) ∧ W.cell? ⟨w.heap.size, 4, none⟩ = some (.slice (some ⟨b, off, none⟩) n c)) ∧
    (W.cell? ⟨b, off + k * 4, none⟩ = some (.int .i64 ll) ∧ W.cell? ⟨b, off + k * 4 + 1, none⟩ = some (.int .i64 lh) ∧ W.cell? ⟨b, off + k * 4 + 2, none⟩ = some (.int .i64 fl) ∧ W.cell? ⟨b, off + k * 4 + 3, none⟩ = some (.int .i64 fh)) := by
  obtain ⟨b', o', e, _, c0, c1, c2, c3⟩ := (hg.below hE.bel).at_ hk
  simp only [Option.some.injEq, Addr.mk.injEq, and_true] at e
  obtain ⟨rfl, rfl⟩ := e
  rw [hy] at c0 c1 c2 c3
  exact ⟨fan_get hE.p, c0, c1, c2, c3⟩
theorem own_set5 {w : World} {base : Nat} {e t : TypeId} {size n g : Nat} {v : Value} {xs : List Value} {z0 z1 z2 z3 z4 : Value} (h : w.ownsRow base e size v n xs) (hg : Blk w g t #[z0, z1, z2, z3, z4]) (hne : e ≠ t) (u0 u1 u2 u3 u4 : Value) :
    (((((w.setCell ⟨g, 0, none⟩ u0).setCell ⟨g, 1, none⟩ u1).setCell ⟨g, 2, none⟩ u2).setCell ⟨g, 3, none⟩ u3).setCell ⟨g, 4, none⟩ u4).ownsRow base e size v n xs :=
  own_setCell (own_setCell (own_setCell (own_setCell (own_setCell h hg hne u0) (hg.set_ 0 u0) hne u1) ((hg.set_ 0 u0).set_ 1 u1) hne u2) (((hg.set_ 0 u0).set_ 1 u1).set_ 2 u2) hne u3) ((((hg.set_ 0 u0).set_ 1 u1).set_ 2 u2).set_ 3 u3) hne u4
theorem gaps_own {w : World} {base : Nat} {A : Option Addr} {n c : Nat} {xs : List Gap} (h : w.ownsRow base 42 4 (.slice A n c) n (flatG xs)) : Gaps w A n xs := by
  obtain ⟨A2, c2, e, ho⟩ := ownG_of h
  simp only [Value.slice.injEq, true_and] at e
  obtain ⟨rfl, rfl⟩ := e
  exact ho.1
def SomeRes (w : World) (f : Fan) (gs : List Gap) (e : Ending) (w' : World) : Prop := ∃ A c, e = .returned (.agg (fanA f A gs.length c)) ∧ Gaps w' A gs.length gs ∧ Below w.heap.size w w'

section
attribute [local go_sem ↓] Go.wp_at_zero Go.wp_at_succ
set_option maxRecDepth 100000 in
set_option maxHeartbeats 4000000 in
theorem Some_any (f : Fan) (L : List Int) (A B : Option Addr) (n c d : Nat) (w : World) (h : Gaps w A n f.gs) (hn : n ≤ 40) (hB : Ints w B L.length L) (hL : L.length ≤ 1000) :
    Calls Try.prog 111 #[.agg (fanA f A n c), .slice B L.length d] w (SomeRes w f (someTo f.gs L n)) := by
  obtain ⟨i0, hi, hz0, hz1, hz2⟩ := info_parts Try.infoGap
  have HG := Lib.hid h
  have HB := Lib.hid hB
  have HLN := Lib.hid (someTo_len f.gs L)
  have HS0 : Hid (someTo f.gs L 0 = []) := rfl
  have HS1 := Lib.hid (fun k => show someTo f.gs L (k + 1) = if decide ((k : Int) ∈ L) = true then someTo f.gs L k else someTo f.gs L k ++ [f.gs.getD k Gap.zero] from rfl)
  have HI1 := Lib.hid (fun x j => show inTo L x (j + 1) = (inTo L x j || L.getD j 0 == x) from rfl)
  have HI0 := Lib.hid (fun x => show inTo L x 0 = false from rfl)
  have HIA := Lib.hid (inTo_all L)
  have E0 := Lib.hid (EnvS.start w (fanA f A n c) #[.int .i64 0, .int .i64 0, .int .i64 0, .int .i64 0, .slice none 0 0])
  clear h hB
  obtain ⟨fa, fb, fc, fd, gs⟩ := f
  unfold SomeRes
  simp only [fanA] at *
  generalize hsg : someTo gs L = sg at *
  clear hsg
  have hp0 : (w.heap.size : Nat) + 1 + 1 = w.heap.size + 2 := rfl
  clear hp0
  go_enter Try.func111, Try.ntmps111
  go_wp2_with (refine wpList_store_row rfl 26 _ _ rfl (w.heap.size + 2) _ rfl rfl 26 _ E0.out.q (by kernel_rfl) rfl (by kernel_rfl) ?_; have E1 := Lib.hid (E0.out.rowQ #[.int .i64 fa, .int .i64 fb, .int .i64 fc, .int .i64 fd, .slice none 0 0]))
  go_loopw [6] (fun s6 wr => ∃ (k : Nat) (A' : Option Addr) (c' : Nat), k ≤ n ∧ s6 = .int .i64 k ∧ wr.ownsRow w.heap.size 42 4 (.slice A' (sg k).length c') (sg k).length (flatG (sg k)) ∧ EnvS w wr #[.int .i64 fa, .int .i64 fb, .int .i64 fc, .int .i64 fd, .slice A n c] #[.int .i64 fa, .int .i64 fb, .int .i64 fc, .int .i64 fd, .slice A' (sg k).length c']) (fun s6 _ => n - (intOf s6).toNat)
  case atStart => exact ⟨0, none, 0, Nat.zero_le _, rfl, by rw [HS0.out]; exact World.ownsRow_nil _ _ _ _, by rw [HS0.out]; exact E1.out⟩
  case round =>
    obtain ⟨k, A', c', hk, rfl, hown, hE⟩ := hrel
    have OW := Lib.hid hown
    have EK := Lib.hid hE
    have p2 := fan_get hE.p
    clear hown hE E1
    by_cases hlt : k < n
    · go_wp2_with fail
      go_loop [7, 8] (fun s7 s8 => ∃ j : Nat, j ≤ L.length ∧ s8 = .int .i64 j ∧ s7 = .bool (inTo L k j)) (fun _ s8 => L.length - (intOf s8).toNat)
      case atStart => exact ⟨0, Nat.zero_le _, rfl, by rw [HI0.out]⟩
      case round =>
        obtain ⟨j, hj, rfl, rfl⟩ := hrel
        by_cases hjl : j < L.length
        · obtain ⟨b2, off2, hB2, _, cB⟩ := (HB.out.below EK.out.bel).at_ hjl
          subst hB2
          have hi1 := Lib.hid (HI1.out k j)
          generalize L.getD j 0 = x at *
          cases q : inTo L k j
          · cases q2 : (x == (k : Int))
            · rw [q, q2] at hi1
              clear q
              go_wp2
              go_round
              case rel => exact ⟨j + 1, by omega, by go_num, by rw [hi1.out]; rfl⟩
              case measure => simp [intOf]; omega
            · rw [q, q2] at hi1
              clear q
              go_wp2
              go_round
              case rel => exact ⟨j + 1, by omega, by go_num, by rw [hi1.out]; rfl⟩
              case measure => simp [intOf]; omega
          · rw [q] at hi1
            clear q
            go_wp2
            go_round
            case rel => exact ⟨j + 1, by omega, by go_num, by rw [hi1.out]; rfl⟩
            case measure => simp [intOf]; omega
        · obtain rfl : j = L.length := by omega
          have hia := HIA.out k
          have hs1 := Lib.hid (HS1.out k)
          rw [hia]
          cases q : decide ((k : Int) ∈ L)
          · rw [q] at hs1
            have hs2 : Hid (sg (k + 1) = sg k ++ [gs.getD k Gap.zero]) := hs1.out
            clear hia hs1 q
            obtain ⟨b, off, hA, _, _, _, _, _⟩ := (HG.out).at_ hlt
            subst hA
            generalize hy : gs.getD k Gap.zero = y at *
            obtain ⟨ll, lh, fl, fh⟩ := y
            have HY := Lib.hid hy
            have hln := HLN.out k
            clear hy p2
            have E6 := Lib.hid EK.out.drewd
            have O6 : Hid (wr.drew.ownsRow w.heap.size 42 4 (.slice A' (sg k).length c') (sg k).length (flatG (sg k))) := OW.out
            have y4 : wr.cell? ⟨w.heap.size + 2, 4, none⟩ = some (.slice A' (sg k).length c') := EK.out.q.cell 4
            have s5 := som_pt EK.out HG.out hlt HY.out
            have E6a := EK.out.alloc (.cells #[.int .i64 ll, .int .i64 lh, .int .i64 fl, .int .i64 fh] 42)
            have y4a := E6a.q.cell 4
            have s6a := som_pt E6a HG.out hlt HY.out
            clear E6a OW EK
            go_wp2_with fail
            go_region_law (first | (refine step_append_any rfl (.tmp 39) (.tmp 45) 24 rfl w.heap.size 42 i0 _ 4 32 Try.underlying24 hi hz0 hz1 hz2 rfl (by decide) (.slice A' (sg k).length c') (sg k).length (flatG (sg k)) (by rfl) (ownsRow_below O6.out (below_self _ _)) (some ⟨wr.heap.size, 0, none⟩) 1 1 (by rfl) (Gap.cells ⟨ll, lh, fl, fh⟩) (rep_new wr.drew ⟨ll, lh, fl, fh⟩ _) (cells_one _) (by unfold maxLen; omega) (by omega) (by have := E6.out.bel.size; simp at this ⊢; omega) ?_; intro v1 x1 hown hgrow; rw [flatG_snoc] at hown; obtain ⟨A3, c3, rfl⟩ := own_slice hown; have E7 := Lib.hid ((E6.out.alloc _).grown (ownsRow_below O6.out (below_self _ _)) (by decide) (Nat.le_refl _) hgrow); have O7 := Lib.hid hown; clear hown hgrow; have y7 := E7.out.q.cell 4; have f7 := E7.out.q.frozen 4))
            all_goals
              clear y7 f7 y4 s5 y4a s6a
              go_wp2
              go_roundw
              case rel =>
                have hl9 : (sg k).length + 1 = (sg (k + 1)).length := by rw [hs2.out, List.length_append, List.length_singleton]
                refine ⟨k + 1, A3, c3, by omega, by go_num, ?_, ?_⟩
                · rw [← hl9, hs2.out]; exact own_setCell O7.out E7.out.q (by decide) _
                · rw [← hl9]; exact E7.out.setQ 4 _
              case measure => simp [intOf]; omega
          · rw [q] at hs1
            have hs2 : Hid (sg (k + 1) = sg k) := hs1.out
            clear hia hs1 q
            go_wp2
            go_roundw
            case rel => exact ⟨k + 1, A', c', by omega, by go_num, by rw [hs2.out]; exact OW.out, by rw [hs2.out]; exact EK.out⟩
            case measure => simp [intOf]; omega
    · obtain rfl : k = n := by omega
      have q2 := fan_get EK.out.q
      have r2 := fan_get EK.out.r
      have r3 := EK.out.r.frozen
      have O9 := Lib.hid (own_set5 OW.out EK.out.r (by decide) (.int .i64 fa) (.int .i64 fb) (.int .i64 fc) (.int .i64 fd) (.slice A' (sg k).length c'))
      have HGG : Hid (Gaps _ A' (sg k).length (sg k)) := Lib.hid (gaps_own O9.out)
      go_wp2
      exact bodyPost_ret (results_c rfl _ _ _ (w.heap.size + 1) _ _ _ rfl (((((EK.out.r.set_ 0 _).set_ 1 _).set_ 2 _).set_ 3 _).set_ 4 _) Try.underlying26 (by kernel_rfl)) rfl ⟨A', c', rfl, HGG.out,
        ((((EK.out.bel.setCell (p := ⟨w.heap.size + 1, 0, none⟩) (by simp) _).setCell (p := ⟨w.heap.size + 1, 1, none⟩) (by simp) _).setCell (p := ⟨w.heap.size + 1, 2, none⟩) (by simp) _).setCell (p := ⟨w.heap.size + 1, 3, none⟩) (by simp) _).setCell (p := ⟨w.heap.size + 1, 4, none⟩) (by simp) _⟩
end
end Go.Proofs.Ytdekickmplkdiaa
