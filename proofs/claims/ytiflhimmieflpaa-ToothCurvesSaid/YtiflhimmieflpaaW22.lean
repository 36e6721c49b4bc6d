/- Walks: Bound. -/
import Derived.Test.YtiflhimmieflpaaW21
import Derived.StillTailTactics
namespace Go.Proofs.Ytiflhimmieflpaa
open Go.RowKit Go.Maps

/-- The sums of the first k columns, by classes. -/
def sumsAt (s : Sawing) (n l : Nat) : Nat → Nat → Int
  | 0, _ => 0
  | k + 1, c => if c = k % l then sumsAt s n l k c + (bn s n k : Int) else sumsAt s n l k c
def sumsL (s : Sawing) (n l : Nat) : List Int := (List.range l).map (sumsAt s n l n)
theorem sumsAt_in (s : Sawing) (n l k c : Nat) : 0 ≤ sumsAt s n l k c ∧ sumsAt s n l k c ≤ (302 * k : Nat) := by
  induction k with
  | zero => simp [sumsAt]
  | succ k ih =>
    have := bn_le s n k
    rw [sumsAt]
    split <;> omega
def Sw.one (s : Sw) : Sw := ⟨1, s.wide, s.kerf, 0⟩
theorem Sw.Ok.one {s : Sw} (h : s.Ok) : s.one.Ok := ⟨by simp [Sw.one], by simp [Sw.one], h.w1, h.w2, h.k1, h.k2, by simp [Sw.one], by simp [Sw.one]⟩
def boundL (B : Bl) (s : Sw) : Int := minTo (sumsL (B.worst s.one) B.n s.long.toNat) (s.long.toNat - 1)
def classL (B : Bl) (s : Sw) : Int := idx (fun y => boundL B s == y) (sumsL (B.worst s.one) B.n s.long.toNat)
theorem ints_of_row {w : World} {g l : Nat} {t : TypeId} {f : Nat → Int} (h : w.rowIs g t l (fun i => .int .i64 (f i))) : Ints w (some ⟨g, 0, none⟩) l ((List.range l).map f) := by
  refine ⟨by simp, fun _ => ⟨g, 0, rfl, h.lt, fun j u hu => ?_⟩⟩
  rw [Nat.zero_add]
  rw [List.getElem?_map, List.getElem?_map] at hu
  by_cases hj : j < l
  · rw [List.getElem?_range hj] at hu
    simp only [Option.map_some, Option.some.injEq] at hu
    rw [← hu]
    exact h.cell hj
  · rw [List.getElem?_eq_none (by simpa using hj)] at hu
    simp at hu

def BoundRes (w : World) (B : Bl) (s : Sw) (e : Ending) (w' : World) : Prop :=
  Below w.heap.size w w' ∧ ((B.err s ≠ 0 ∧ e = .returned (.tuple #[.int .i64 0, .int .i64 0, .int .i64 (B.err s)])) ∨
    (B.err s = 0 ∧ e = .returned (.tuple #[.int .i64 (boundL B s), .int .i64 (classL B s), .int .i64 0])))

set_option maxRecDepth 100000 in
set_option maxHeartbeats 4000000 in
theorem Bound_any (B : Bl) (s : Sw) (w : World) (h : B.At w) : Calls Try.prog 40 #[B.val, s.val] w (BoundRes w B s) := by
  have E0 : Hid (Below w.heap.size w ((w.alloc (.cells #[.slice B.A B.n B.c, .slice B.A' B.n' B.c', .int .i64 B.bend, .slice B.K B.m B.d] 25)).alloc (.cells #[.int .i64 s.long, .int .i64 s.wide, .int .i64 s.kerf, .int .i64 s.across] 37))) := below_alloc' (below_self _ _) _
  have S0 := Lib.hid (Blk.new (w.alloc (.cells #[.slice B.A B.n B.c, .slice B.A' B.n' B.c', .int .i64 B.bend, .slice B.K B.m B.d] 25)) 37 #[.int .i64 s.long, .int .i64 s.wide, .int .i64 s.kerf, .int .i64 s.across] (g := w.heap.size + 1) (by simp))
  have HC := Lib.hid (ready_top B s _ (h.below E0.out))
  have HK := Lib.hid h
  have HBD : Hid (boundL B s = minTo (sumsL (B.worst s.one) B.n s.long.toNat) (s.long.toNat - 1)) := rfl
  have HCL : Hid (classL B s = idx (fun y => boundL B s == y) (sumsL (B.worst s.one) B.n s.long.toNat)) := rfl
  clear h
  unfold Bl.val Sw.val at *
  go_enter Try.func40, Try.ntmps40
  go_wp2_with fail
  refine HC.out.mono ?_
  rintro e w2 ⟨hb2, ⟨herr, rfl⟩ | ⟨hok, g, cap, g', cap', rfl, P, P', -⟩⟩
  · have B2 := Lib.hid (below_then E0.out hb2)
    have Herr := Lib.hid herr
    have hz : (B.err s == 0) = false := by simpa using herr
    have hz2 : (B.err s != 0) = true := by simpa using herr
    clear hb2 herr HC HBD HCL
    unfold zeroCurved
    go_wp2
    go_ret3
    exact ⟨below_alloc' B2.out _, .inl ⟨Herr.out, rfl⟩⟩
  · have B2 := Lib.hid (below_then E0.out hb2)
    have S2 := Lib.hid (blk_keep hb2 S0.out)
    have Hok := Lib.hid (err_ok hok)
    have hP := Lib.hid P
    have hP' := Lib.hid P'
    have s2 := S2.out.cell
    have hz := S2.out.lt
    have HWT := Lib.hid (fun W (hb : Below w2.heap.size w2 W) => worst_top B s.one g cap g' cap' W Hok.out.2.1 (hP.out.below hb) (hP'.out.below hb) (HK.out.below (below_then B2.out hb)).hk)
    have HLT := Lib.hid (fun b o b' o' c c' K d W hs hc hc' hm => blocks_any (B.worst s.one) b o b' o' B.n c c' K B.m d W hs hc hc' hm (worst_bounds Hok.out.2.1 Hok.out.2.2.one) Hok.out.2.1.n2 Hok.out.2.1.m4)
    have Hok0 := Lib.hid hok
    have C2 := Lib.hid (Blk.new w2 106 #[.slice B.A B.n B.c, .slice B.A' B.n' B.c', .int .i64 B.bend, .slice B.K B.m B.d, .slice (some ⟨g, 0, none⟩) B.n cap, .slice (some ⟨g', 0, none⟩) B.n cap'] (g := w2.heap.size) rfl)
    have S2' := Lib.hid (S2.out.alloc (.cells #[.slice B.A B.n B.c, .slice B.A' B.n' B.c', .int .i64 B.bend, .slice B.K B.m B.d, .slice (some ⟨g, 0, none⟩) B.n cap, .slice (some ⟨g', 0, none⟩) B.n cap'] 106))
    clear hb2 hok P P' HC
    unfold Bl.curved Sw.val Sw.one at HWT
    unfold Sw.one at HLT
    unfold Bl.curved
    go_wp2_with fail
    refine (HWT.out _ (below_self _ _)).mono ?_
    rintro e w3 ⟨hb3, b, o, b', o', c, c', K, d, rfl, hs, hc, hc', hm⟩
    have B3 := Lib.hid (below_then (below_alloc' B2.out _) hb3)
    have HL3 := Lib.hid (HLT.out b o b' o' c c' K d _ hs hc hc' hm)
    have C3 := Lib.hid (blk_keep hb3 C2.out)
    have S3 := Lib.hid (blk_keep hb3 S2'.out)
    clear hb3 hs hc hc' hm HWT HLT s2 hz C2 S2 S2'
    go_wp2_with fail
    refine HL3.out.mono ?_
    rintro e w4 ⟨bm, D, V, rfl, hmap, hb4⟩
    have B4 := Lib.hid (below_then B3.out hb4)
    have C4 := Lib.hid (blk_keep hb4 C3.out)
    have S4 := Lib.hid (blk_keep hb4 S3.out)
    have HM := Lib.hid hmap
    have s4 := S4.out.cell
    have z4 := S4.out.lt
    have c4 := C4.out.cell
    have y4 := C4.out.lt
    clear hb4 hmap C3 S3 HL3
    obtain ⟨l, hl⟩ := Int.eq_ofNat_of_zero_le (show 0 ≤ s.long by have := Hok.out.2.2.l1; omega)
    have hl1 := Hok.out.2.2.l1
    have hl2 := Hok.out.2.2.l2
    have hn1 := Hok.out.2.1.n1
    have hn2 := Hok.out.2.1.n2
    rw [hl] at s4 S4 HBD HCL hl1 hl2
    simp only [hl]
    clear hl
    have hmk := fun W => run_make_row' (P := Try.prog) 44 3 (.int .i64 0) 8 Try.underlying44 Try.infoInt rfl .i64 .i64 l (by omega) (by omega) W
    go_wp2_with fail
    clear hmk
    have R0 := (World.rowIs_made w4 (.int .i64 0) l 3).congr (g := fun i => .int .i64 (sumsAt (B.worst s.one) B.n l 0 i)) (fun i _ => by simp [sumsAt])
    have HSA := Lib.hid (sumsAt_in (B.worst s.one) B.n l)
    have HSU : Hid (∀ k c, sumsAt (B.worst s.one) B.n l (k + 1) c = if c = k % l then sumsAt (B.worst s.one) B.n l k c + (bn (B.worst s.one) B.n k : Int) else sumsAt (B.worst s.one) B.n l k c) := fun k c => rfl
    have HBN : Hid (∀ k, (LL (B.worst s.one) (B.n + 1 - (B.worst s.one).long.toNat) k).length = bn (B.worst s.one) B.n k) := fun k => rfl
    have HBL := Lib.hid (bn_le (B.worst s.one) B.n)
    replace HM : Hid (BlkMap w4 _ bm (B.worst s.one) (B.n + 1 - (B.worst s.one).long.toNat) D V) := HM
    generalize B.worst s.one = s1 at *
    go_loopw [34] (fun i wr => ∃ k : Nat, k ≤ B.n ∧ i = .int .i64 k ∧ wr.rowIs w4.heap.size 3 l (fun i => .int .i64 (sumsAt s1 B.n l k i)) ∧ Below w4.heap.size w4 wr) (fun i _ => B.n - (intOf i).toNat)
    case atStart => exact ⟨0, Nat.zero_le _, rfl, by simpa using R0, (Below.refl _ _).alloc (Nat.le_refl _) _⟩
    case round =>
      obtain ⟨k, hk, rfl, R, hbel⟩ := hrel
      have HR := Lib.hid R
      have Hbel := Lib.hid hbel
      have s5 := (blk_keep hbel S4.out).cell
      clear R hbel R0 s4 c4 z4 y4
      by_cases hlt : k < B.n
      · have hml : k % l < l := Nat.mod_lt _ (by omega)
        have hse := HSA.out k (k % l)
        have hsu := Lib.hid (HSU.out k)
        have q1 := HR.out.cell (i := k % l) hml
        have q2 := HR.out.frozen (k % l)
        obtain ⟨VA, vc, hV⟩ := own_slice (HM.out.row k)
        have hlk := fun (W : World) (hW : W.heap = wr.heap) => look_of (HM.out.below Hbel.out) hW k (by omega)
        rw [hV, HBN.out] at hlk
        have hbl := HBL.out k
        clear hV
        generalize bn s1 B.n k = L at *
        have k1 : (k : Int).tmod (l : Int) = ((k % l : Nat) : Int) := by rw [Int.tmod_eq_emod_of_nonneg (by omega)]; rfl
        have k2 : ((l : Int) == 0) = false := by simp; omega
        have k5 : ¬ l = 0 := by omega
        have k6 : (k : Int) % (l : Int) = ((k % l : Nat) : Int) := rfl
        have k7 : ¬ (l : Int) = 0 := by omega
        have k3 : IntKind.i64.wrap (((k % l : Nat) : Int)) = ((k % l : Nat) : Int) := IntWalk.i64_in _ (by omega)
        generalize hs0 : sumsAt s1 B.n l k (k % l) = z0 at q1 hse
        have Hs0 := Lib.hid hs0
        clear hs0
        have k4 : IntKind.i64.wrap (z0 + (L : Int)) = z0 + (L : Int) := IntWalk.i64_in _ (by omega)
        generalize k % l = r at *
        replace hlk := hlk wr.drew rfl
        go_wp2_with fail
        go_still_tail 13, (by kernel_rfl)
        clear k1 k2 k3 k4 k5 k6 k7 hlk s5
        change wpList _ _ _ _ _ wr.drew
        have HN : Hid (((wr.setCell ⟨w4.heap.size, r, none⟩ (.int .i64 (z0 + (L : Int)))).drew).rowIs w4.heap.size 3 l (fun q => .int .i64 (sumsAt s1 B.n l (k + 1) q))) := by
          refine ((HR.out.set r _).congr (fun q _ => ?_)).drew
          rw [hsu.out q]
          by_cases e : q = r
          · subst e; rw [if_pos rfl, if_pos rfl, Hs0.out]
          · rw [if_neg e, if_neg e]
        have HB2 := Lib.hid ((Hbel.out.setCell (p := ⟨w4.heap.size, r, none⟩) (Nat.le_refl _) (.int .i64 (z0 + (L : Int)))).drew)
        generalize z0 + (L : Int) = z at *
        go_wp2
        go_roundw
        case rel => exact ⟨k + 1, by omega, by go_num, HN.out, HB2.out⟩
        case measure => simp [intOf] <;> omega
      · obtain rfl : k = B.n := by omega
        have HI : Hid (Ints wr (some ⟨w4.heap.size, 0, none⟩) l (sumsL s1 B.n l)) := ints_of_row HR.out
        have HMn := Lib.hid (Min_any (some ⟨w4.heap.size, 0, none⟩) l l (sumsL s1 B.n l) wr HI.out (by omega) (by unfold maxLen; omega))
        have HIx := Lib.hid (fun x => Index_any (some ⟨w4.heap.size, 0, none⟩) l l x (sumsL s1 B.n l) wr HI.out (by unfold maxLen; omega))
        have BE := Lib.hid (B4.out.trans (Hbel.out.mono B4.out.size))
        rw [Int.toNat_natCast] at HBD HCL
        rw [← HBD.out] at HMn
        replace HIx := Lib.hid (HIx.out (boundL B s))
        rw [← HCL.out] at HIx
        clear hl1 hl2 HBD HCL
        go_wp2_with fail
        refine HMn.out.mono ?_
        rintro e w5 ⟨rfl, rfl⟩
        go_wp2_with fail
        refine HIx.out.mono ?_
        rintro e w6 ⟨rfl, rfl⟩
        go_wp2
        go_ret3
        exact ⟨BE.out, .inr ⟨Hok0.out, rfl⟩⟩
end Go.Proofs.Ytiflhimmieflpaa
