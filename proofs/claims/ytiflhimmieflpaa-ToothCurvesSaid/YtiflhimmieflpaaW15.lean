/- Walks: blocks: a map of the call's own, from columns to slices. -/
import Derived.Test.YtiflhimmieflpaaW14
import Derived.Maps.Own
import Derived.Maps.Views
namespace Go.Proofs.Ytiflhimmieflpaa
open Go.RowKit Go.Maps

abbrev nilS : Value := .slice none 0 0
/-- An element of the map reads as the very slice. -/
def RV (v : Value) : Option (DataW Value × List MemPlace) := some (.held v, [])
/-- What the first k columns have. -/
def LL (s : Sawing) (k x : Nat) : List Int := if x < k then blockL s x else []
structure BlkMap (w : World) (base bm : Nat) (s : Sawing) (k : Nat) (D : DataW Value) (V : Nat → Value) : Prop where
  own : w.ownsMap Try.prog 3 RV bm k D
  im : IsMap D
  at_ : ∀ x : Nat, D.atKey (.int .i64 x) (.held nilS) = .held (V x)
  row : ∀ x : Nat, w.ownsRow base 3 1 (V x) (LL s k x).length ((LL s k x).map (Value.int .i64))

theorem own_map_ne {w : World} {P : Program} {H : Type} {R : Value → Option (DataW H × List MemPlace)} {base bm k size n : Nat} {kt e : TypeId} {D : DataW H} {v : Value} {xs : List Value} (h : w.ownsRow base e size v n xs) (hm : w.ownsMap P kt R bm k D) : v.ownBlock ≠ some bm := by
  obtain ⟨es, clock, hb, _⟩ := hm
  rcases h.2 with ⟨rfl, _⟩ | ⟨g', cap, cur, rfl, _, hh, _⟩
  · simp [Value.ownBlock]
  · intro he
    have : g' = bm := by simpa [Value.ownBlock] using he
    subst this
    rw [hb] at hh
    simp at hh
theorem ownsMap_below {w w' : World} {P : Program} {H : Type} {R : Value → Option (DataW H × List MemPlace)} {bm k : Nat} {kt : TypeId} {D : DataW H} (hm : w.ownsMap P kt R bm k D) (hb : Below w.heap.size w w') : w'.ownsMap P kt R bm k D := hm.kept (grown_of_below hb none) (by simp)
theorem BlkMap.below {w w' : World} {base bm k : Nat} {s : Sawing} {D : DataW Value} {V : Nat → Value} (h : BlkMap w base bm s k D V) (hb : Below w.heap.size w w') : BlkMap w' base bm s k D V :=
  ⟨ownsMap_below h.own hb, h.im, h.at_, fun x => ownsRow_below (h.row x) hb⟩
theorem BlkMap.base {w : World} {base base' bm k : Nat} {s : Sawing} {D : DataW Value} {V : Nat → Value} (h : BlkMap w base bm s k D V) (hb : base' ≤ base) : BlkMap w base' bm s k D V :=
  ⟨h.own, h.im, h.at_, fun x => own_base (h.row x) hb⟩
theorem BlkMap.new (w : World) (base : Nat) (s : Sawing) : BlkMap (w.alloc (.map #[] 0)) base w.heap.size s 0 (.map []) (fun _ => nilS) :=
  ⟨World.ownsMap_made _ _ _ _, isMap_empty, fun _ => rfl, fun x => by simp only [LL, Nat.not_lt_zero, if_false]; exact World.ownsRow_nil _ _ _ _⟩
/-- A column without a stick. -/
theorem BlkMap.skip {w : World} {base bm k : Nat} {s : Sawing} {D : DataW Value} {V : Nat → Value} (h : BlkMap w base bm s k D V) (hb : blockL s k = []) : BlkMap w base bm s (k + 1) D V := by
  refine ⟨h.own.mono (Nat.le_succ k), h.im, h.at_, fun x => ?_⟩
  have : LL s (k + 1) x = LL s k x := by
    unfold LL
    by_cases e : x < k
    · rw [if_pos e, if_pos (by omega)]
    · by_cases e2 : x = k
      · subst e2; rw [if_pos (by omega), if_neg e, hb]
      · rw [if_neg e, if_neg (by omega)]
  rw [this]
  exact h.row x
/-- A column whose sticks were stored. -/
theorem BlkMap.stored {w w' : World} {base bm k : Nat} {s : Sawing} {D : DataW Value} {V : Nat → Value} {v : Value} (h : BlkMap w base bm s k D V) (hv : w.ownsRow base 3 1 v (blockL s k).length ((blockL s k).map (Value.int .i64)))
    (ho : w'.ownsMap Try.prog 3 RV bm (k + 1) (D.put (.int .i64 k) (.held v))) (hg : w.grownBy w' (some bm)) : BlkMap w' base bm s (k + 1) (D.put (.int .i64 k) (.held v)) (fun x => if x = k then v else V x) := by
  refine ⟨ho, h.im.put _ _, fun x => ?_, fun x => ?_⟩
  · by_cases e : x = k
    · subst e; rw [atKey_put_same (k := Lit.int .i64 (x : Int)) h.im trivial]; simp
    · rw [atKey_put_other (by intro e2; simp only [Lit.int.injEq] at e2; exact e (by omega)), h.at_, if_neg e]
  · by_cases e : x = k
    · subst e
      simp only [if_true, LL, Nat.lt_succ_self]
      exact hv.kept hg (.inr (own_map_ne hv h.own))
    · rw [if_neg e]
      have : LL s (k + 1) x = LL s k x := by
        unfold LL
        by_cases e2 : x < k
        · rw [if_pos e2, if_pos (by omega)]
        · rw [if_neg e2, if_neg (by omega)]
      rw [this]
      exact (h.row x).kept hg (.inr (own_map_ne (h.row x) h.own))
theorem wf_nat (k : Nat) (h : k ≤ 1000000) : (Lit.int .i64 (k : Int)).wf = true := by
  simp only [Lit.wf, Bool.and_eq_true, decide_eq_true_eq]
  have h1 : IntKind.i64.min = -9223372036854775808 := by decide
  have h2 : IntKind.i64.max = 9223372036854775807 := by decide
  rw [h1, h2]
  omega

def BlocksRes (w : World) (s : Sawing) (k : Nat) (e : Ending) (w' : World) : Prop :=
  ∃ bm D V, e = .returned (.map (some bm)) ∧ BlkMap w' w.heap.size bm s k D V ∧ Below w.heap.size w w'

set_option maxRecDepth 100000 in
set_option maxHeartbeats 4000000 in
theorem blocks_any (s : Sawing) (b o b' o' n c c' : Nat) (K : Option Addr) (m d : Nat) (w : World) (h : SawAt w s ⟨b, o, none⟩ ⟨b', o', none⟩ n K m) (hc : n ≤ c) (hc' : n ≤ c') (hm : c ≤ maxLen) (hs : SawBounds s) (hn : n ≤ 30) (hm4 : m ≤ 4) :
    Calls Try.prog 78 #[sawVal s ⟨b, o, none⟩ ⟨b', o', none⟩ n c c' K m d] w (BlocksRes w s (n + 1 - s.long.toNat)) := by
  have hmm := @run_makeMap Try.prog
  have HW := Lib.hid (fun W (hb : Below w.heap.size w W) => h.below hb)
  have B1 := below_self w (.cells #[.int .i64 s.long, .int .i64 s.wide, .int .i64 s.kerf, .int .i64 s.across, .slice (some ⟨b, o, none⟩) n c, .slice (some ⟨b', o', none⟩) n c', .slice K m d] 120)
  have HB := Lib.hid (Blk.new w 120 #[.int .i64 s.long, .int .i64 s.wide, .int .i64 s.kerf, .int .i64 s.across, .slice (some ⟨b, o, none⟩) n c, .slice (some ⟨b', o', none⟩) n c', .slice K m d] rfl)
  have M0 := Lib.hid (BlkMap.new (w.alloc (.cells #[.int .i64 s.long, .int .i64 s.wide, .int .i64 s.kerf, .int .i64 s.across, .slice (some ⟨b, o, none⟩) n c, .slice (some ⟨b', o', none⟩) n c', .slice K m d] 120)) w.heap.size s)
  have HBK := Lib.hid (fun (x : Nat) (W : World) (hb : Below w.heap.size w W) (hx : (x : Int) + s.long ≤ n) => block_any s b o b' o' n c c' K m d x W (h.below hb) hc hc' hm hs hx hn hm4)
  unfold sawVal at HBK ⊢
  have l1 := hs.l1
  have l2 := hs.l2
  clear h hc hc' hm
  go_enter Try.func78, Try.ntmps78
  go_wp2_with fail
  go_loopw [15] (fun i wr => ∃ (k : Nat) (D : DataW Value) (V : Nat → Value), k ≤ n + 1 - s.long.toNat ∧ i = .int .i64 k ∧ BlkMap wr w.heap.size (w.heap.size + 1) s k D V ∧ Below (w.heap.size + 1) (w.alloc (.cells #[.int .i64 s.long, .int .i64 s.wide, .int .i64 s.kerf, .int .i64 s.across, .slice (some ⟨b, o, none⟩) n c, .slice (some ⟨b', o', none⟩) n c', .slice K m d] 120)) wr) (fun i _ => n + 1 - (intOf i).toNat)
  case atStart => exact ⟨0, _, _, Nat.zero_le _, rfl, by simpa using M0.out, (Below.refl _ _).alloc (by simp) _⟩
  case round =>
    obtain ⟨k, D, V, hk, rfl, hmap, hbel⟩ := hrel
    have Hmap := Lib.hid hmap
    have Hbel := Lib.hid hbel
    have HBW := Lib.hid (B1.trans (hbel.mono (Nat.le_succ _)))
    have hB := HB.out.below hbel (Nat.lt_succ_self _)
    have hcell := hB.cell
    clear hmap hbel M0
    by_cases hlt : (k : Int) < (n : Int) - s.long + 1
    · have HC := Lib.hid (HBK.out k wr HBW.out (by omega))
      have hkn : k ≤ 30 := by omega
      clear HBK
      generalize s.long = ld at *
      go_wp2_with fail
      refine HC.out.mono ?_
      rintro e w2 ⟨v, rfl, hv, hb2⟩
      obtain ⟨A, cv, rfl⟩ := own_slice hv
      have Hv := Lib.hid (own_base hv HBW.out.size)
      have Hmap2 := Lib.hid (Hmap.out.below hb2)
      have Hbel2 := Lib.hid (Hbel.out.trans (hb2.mono (by have := Hbel.out.size; simp at this; omega)))
      clear hv hb2 HC hcell hB
      by_cases hz : 0 < (blockL s k).length
      · go_wp2_with (at_mapUpdate; refine wpList_mapUpdate_own _ rfl _ _ _ 133 rfl 3 44 (int_keyed Try.underlying3) Try.underlying133 RV (w.heap.size + 1) k D rfl Hmap2.out.own ?n1 _ _ _ rfl rfl (keyOf_int_mk Try.underlying3 (wf_nat k ?n2)) _ [] rfl ?_)
        case n1 => unfold maxLen; omega
        case n2 => omega
        intro w3 hown3 hg3
        have HN := Lib.hid (Hmap2.out.stored Hv.out hown3 hg3)
        have HB3 := Lib.hid (Hbel2.out.grown hg3 (by have := Hbel2.out.size; simp at this; omega) (fun q hq => by simp at hq; omega))
        clear hown3 hg3
        go_wp2
        go_roundw
        case rel => exact ⟨k + 1, _, _, by omega, by go_num, HN.out, HB3.out⟩
        case measure => simp [intOf]; omega
      · have HN := Lib.hid (Hmap2.out.skip (List.eq_nil_of_length_eq_zero (by omega)))
        go_wp2
        go_roundw
        case rel => exact ⟨k + 1, _, _, by omega, by go_num, HN.out, Hbel2.out⟩
        case measure => simp [intOf]; omega
    · obtain rfl : k = n + 1 - s.long.toNat := by omega
      generalize s.long = ld at *
      go_wp2
      go_ret
      exact ⟨_, _, _, rfl, Hmap.out, HBW.out⟩
end Go.Proofs.Ytiflhimmieflpaa
