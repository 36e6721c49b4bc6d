/- Walks: possibly: whether a stick is sound in some truth. -/
import Derived.Test.YtiflhimmieflpaaW96
import Derived.Test.YtiflhimmieflpaaW60
import Derived.Test.YtiflhimmieflpaaRnd
import Derived.Test.YtiflhimmieflpaaHeld
namespace Go.Proofs.Ytiflhimmieflpaa
open Go.RowKit Go.Maps Go.Shelf
attribute [local go_sem] Oper.semAt_some

def possB (B : Bl) (s : Sw) (x : Nat) (y : Int) : Bool := (colsFrom B.cr []).any fun xs => soundS (B.bestX s xs) x y
theorem results_c1 {fn : Func} {p : Tmp} {ty : TypeId} (h : fn.results = #[.cell p ty]) (tmps : Array Value) (P : Program) (w : World) (g : Nat) (v : Value)
    (hp : tmps.getD p undef = .pointer (some ⟨g, 0, none⟩)) (hg : (loadVar ty ⟨g, 0, none⟩).run P w = .ok v w) : (results fn tmps).run P w = .ok v w := by
  have hp' : tmps[p]?.getD undef = .pointer (some ⟨g, 0, none⟩) := by simpa using hp
  simp [results, h, hp', asAddr, hg]
def S3 (B : Bl) (s : Sw) (g cap g' cap' w0 : Nat) (x y : Int) (W : World) : Prop := W.cell? ⟨w0, 0, none⟩ = some (.slice B.A B.n B.c) ∧ W.cell? ⟨w0, 1, none⟩ = some (.slice B.A' B.n' B.c') ∧ W.cell? ⟨w0, 2, none⟩ = some (.int .i64 B.bend) ∧ W.cell? ⟨w0, 3, none⟩ = some (.slice B.K B.m B.d) ∧ W.cell? ⟨w0, 4, none⟩ = some (.slice (some ⟨g, 0, none⟩) B.n cap) ∧ W.cell? ⟨w0, 5, none⟩ = some (.slice (some ⟨g', 0, none⟩) B.n cap') ∧ W.cell? ⟨w0 + 1, 0, none⟩ = some (.int .i64 s.long) ∧ W.cell? ⟨w0 + 1, 1, none⟩ = some (.int .i64 s.wide) ∧ W.cell? ⟨w0 + 1, 2, none⟩ = some (.int .i64 s.kerf) ∧ W.cell? ⟨w0 + 1, 3, none⟩ = some (.int .i64 s.across) ∧ W.cell? ⟨w0 + 1 + 1, 0, none⟩ = some (.int .i64 x) ∧ W.cell? ⟨w0 + 1 + 1, 1, none⟩ = some (.int .i64 y)
/-- Between two rounds. -/
structure QI (B : Bl) (s : Sw) (p x : Nat) (y : Int) (W0 : World) (pre : List (List Int)) (W : World) : Prop where
  sv : Save p W0 W
  cR : Boxed W p 4 (.bool false)
  no : ∀ xs ∈ pre, soundS (B.bestX s xs) x y = false
/-- Behind a round that has found a truth. -/
structure QX (B : Bl) (s : Sw) (p x : Nat) (y : Int) (W0 : World) (W : World) : Prop where
  sv : Save p W0 W
  cR : Boxed W p 4 (.bool true)
  yes : possB B s x y = true
theorem QI.grown {B : Bl} {s : Sw} {p x : Nat} {y : Int} {W0 W W' : World} {row : Option Nat} {pre : List (List Int)} (hp : p < W0.heap.size) (h : QI B s p x y W0 pre W) (hg : W.grownBy W' row) (hr : ∀ r, row = some r → W0.heap.size ≤ r) : QI B s p x y W0 pre W' :=
  ⟨h.sv.grown hg (fun r e => .inr (.inr (hr r e))), h.cR.kept hg (fun e => by have := hr _ e.symm; omega), h.no⟩
theorem QX.grown {B : Bl} {s : Sw} {p x : Nat} {y : Int} {W0 W W' : World} {row : Option Nat} (hp : p < W0.heap.size) (h : QX B s p x y W0 W) (hg : W.grownBy W' row) (hr : ∀ r, row = some r → W0.heap.size ≤ r) : QX B s p x y W0 W' :=
  ⟨h.sv.grown hg (fun r e => .inr (.inr (hr r e))), h.cR.kept hg (fun e => by have := hr _ e.symm; omega), h.yes⟩

set_option maxRecDepth 100000 in
set_option maxHeartbeats 4000000 in
theorem possibly_any (B : Bl) (s : Sw) (g cap g' cap' x : Nat) (y : Int) (w : World) (hOK : B.Ok) (hs : s.Ok) (hCR : ∀ k ∈ B.cr, crackOk B.n k = true) (hP : Pairs w (some ⟨g, 0, none⟩) B.n (bentL B.bot B.bend)) (hP' : Pairs w (some ⟨g', 0, none⟩) B.n (bentL B.top B.bend)) (hk : Cracks w B.K B.m B.cr)
    (hx : (x : Int) + s.long ≤ B.n) (y0 : 0 ≤ y) (y3 : y ≤ 300) (hg1 : g < w.heap.size) (hg2 : g' < w.heap.size) :
    Calls Try.prog 68 #[B.curved g cap g' cap', s.val, .agg #[.int .i64 x, .int .i64 y]] w fun e w' => e = .returned (.bool (possB B s x y)) ∧ Below w.heap.size w w' := by
  have E0 : Hid (Below w.heap.size w (((((w.alloc (.cells #[.slice B.A B.n B.c, .slice B.A' B.n' B.c', .int .i64 B.bend, .slice B.K B.m B.d, .slice (some ⟨g, 0, none⟩) B.n cap, .slice (some ⟨g', 0, none⟩) B.n cap'] 106)).alloc (.cells #[.int .i64 s.long, .int .i64 s.wide, .int .i64 s.kerf, .int .i64 s.across] 37)).alloc (.cells #[.int .i64 x, .int .i64 y] 39)).alloc (.cells #[.bool false] 4)).alloc (.cells #[.slice B.K B.m B.d] 23))) := below_alloc' (below_alloc' (below_alloc' (below_alloc' (below_self _ _) _) _) _) _
  have hkb : ∀ b o, B.K = some ⟨b, o, none⟩ → 0 < B.m → b < w.heap.size := fun b o e hm => by
    obtain ⟨b', o', e', hb', _⟩ := hk.2 hm
    rw [e] at e'; cases e'; exact hb'
  have hcb : ∀ k, k < B.m → 0 ≤ (B.cr.getD k Crack.zero).cl ∧ (B.cr.getD k Crack.zero).cl ≤ 1000 ∧ 0 ≤ (B.cr.getD k Crack.zero).ch ∧ (B.cr.getD k Crack.zero).ch ≤ 1000 := fun k hkm => by
    have hl : k < B.cr.length := by rw [hk.len]; exact hkm
    have h := crackOk_in (hCR _ (List.getElem_mem hl))
    have e : B.cr.getD k Crack.zero = B.cr[k] := by simp [List.getD, hl]
    rw [e]
    have := hOK.n2
    omega
  have hz0 : ((((((w.alloc (.cells #[.slice B.A B.n B.c, .slice B.A' B.n' B.c', .int .i64 B.bend, .slice B.K B.m B.d, .slice (some ⟨g, 0, none⟩) B.n cap, .slice (some ⟨g', 0, none⟩) B.n cap'] 106)).alloc (.cells #[.int .i64 s.long, .int .i64 s.wide, .int .i64 s.kerf, .int .i64 s.across] 37)).alloc (.cells #[.int .i64 x, .int .i64 y] 39)).alloc (.cells #[.bool false] 4)).alloc (.cells #[.slice B.K B.m B.d] 23))).heap.size = w.heap.size + 5 := by simp
  have hPE : PE B s (w.heap.size + 1) w.heap.size g cap g' cap' (((((w.alloc (.cells #[.slice B.A B.n B.c, .slice B.A' B.n' B.c', .int .i64 B.bend, .slice B.K B.m B.d, .slice (some ⟨g, 0, none⟩) B.n cap, .slice (some ⟨g', 0, none⟩) B.n cap'] 106)).alloc (.cells #[.int .i64 s.long, .int .i64 s.wide, .int .i64 s.kerf, .int .i64 s.across] 37)).alloc (.cells #[.int .i64 x, .int .i64 y] 39)).alloc (.cells #[.bool false] 4)).alloc (.cells #[.slice B.K B.m B.d] 23)) :=
    ⟨((((Blk.new w _ _ rfl).alloc _).alloc _).alloc _).alloc _, (((Blk.new (w.alloc _) _ _ (by simp)).alloc _).alloc _).alloc _, hP.below E0.out, hP'.below E0.out, hk.below E0.out⟩
  have hPL : Blk (((((w.alloc (.cells #[.slice B.A B.n B.c, .slice B.A' B.n' B.c', .int .i64 B.bend, .slice B.K B.m B.d, .slice (some ⟨g, 0, none⟩) B.n cap, .slice (some ⟨g', 0, none⟩) B.n cap'] 106)).alloc (.cells #[.int .i64 s.long, .int .i64 s.wide, .int .i64 s.kerf, .int .i64 s.across] 37)).alloc (.cells #[.int .i64 x, .int .i64 y] 39)).alloc (.cells #[.bool false] 4)).alloc (.cells #[.slice B.K B.m B.d] 23)) (w.heap.size + 1 + 1) 39 #[.int .i64 x, .int .i64 y] := ((Blk.new ((w.alloc (.cells #[.slice B.A B.n B.c, .slice B.A' B.n' B.c', .int .i64 B.bend, .slice B.K B.m B.d, .slice (some ⟨g, 0, none⟩) B.n cap, .slice (some ⟨g', 0, none⟩) B.n cap'] 106)).alloc (.cells #[.int .i64 s.long, .int .i64 s.wide, .int .i64 s.kerf, .int .i64 s.across] 37)) 39 #[.int .i64 x, .int .i64 y] (g := w.heap.size + 1 + 1) (by simp)).alloc _).alloc _
  have hRB : Boxed (((((w.alloc (.cells #[.slice B.A B.n B.c, .slice B.A' B.n' B.c', .int .i64 B.bend, .slice B.K B.m B.d, .slice (some ⟨g, 0, none⟩) B.n cap, .slice (some ⟨g', 0, none⟩) B.n cap'] 106)).alloc (.cells #[.int .i64 s.long, .int .i64 s.wide, .int .i64 s.kerf, .int .i64 s.across] 37)).alloc (.cells #[.int .i64 x, .int .i64 y] 39)).alloc (.cells #[.bool false] 4)).alloc (.cells #[.slice B.K B.m B.d] 23)) (w.heap.size + 1 + 1 + 1) 4 (.bool false) := (Blk.new (((w.alloc (.cells #[.slice B.A B.n B.c, .slice B.A' B.n' B.c', .int .i64 B.bend, .slice B.K B.m B.d, .slice (some ⟨g, 0, none⟩) B.n cap, .slice (some ⟨g', 0, none⟩) B.n cap'] 106)).alloc (.cells #[.int .i64 s.long, .int .i64 s.wide, .int .i64 s.kerf, .int .i64 s.across] 37)).alloc (.cells #[.int .i64 x, .int .i64 y] 39)) 4 #[.bool false] (g := w.heap.size + 1 + 1 + 1) (by simp)).alloc _
  have hc1 : ((((((w.alloc (.cells #[.slice B.A B.n B.c, .slice B.A' B.n' B.c', .int .i64 B.bend, .slice B.K B.m B.d, .slice (some ⟨g, 0, none⟩) B.n cap, .slice (some ⟨g', 0, none⟩) B.n cap'] 106)).alloc (.cells #[.int .i64 s.long, .int .i64 s.wide, .int .i64 s.kerf, .int .i64 s.across] 37)).alloc (.cells #[.int .i64 x, .int .i64 y] 39)).alloc (.cells #[.bool false] 4)).alloc (.cells #[.slice B.K B.m B.d] 23))).cell? ⟨w.heap.size + 1 + 1 + 1 + 1, 0, none⟩ = some (.slice B.K B.m B.d) := by
    have h := Boxed.new ((((w.alloc (.cells #[.slice B.A B.n B.c, .slice B.A' B.n' B.c', .int .i64 B.bend, .slice B.K B.m B.d, .slice (some ⟨g, 0, none⟩) B.n cap, .slice (some ⟨g', 0, none⟩) B.n cap'] 106)).alloc (.cells #[.int .i64 s.long, .int .i64 s.wide, .int .i64 s.kerf, .int .i64 s.across] 37)).alloc (.cells #[.int .i64 x, .int .i64 y] 39)).alloc (.cells #[.bool false] 4)) 23 (.slice B.K B.m B.d)
    simp only [World.size_alloc] at h
    exact h.cell
  have hAP : Apart B (w.heap.size + 1 + 1 + 1) (w.heap.size + 1) w.heap.size g g' := ⟨by omega, by omega, by omega, by omega, fun b o e hm => by have := hkb b o e hm; omega⟩
  unfold Bl.curved Sw.val
  refine (callsIn_wide (n := 9)).1 ?_
  refine callsIn_of_wp_marks Try.func68 rfl trivial ?_ rfl
  simp only [Try.ntmps68, List.size_toArray, List.length_cons, List.length_nil, Nat.reduceAdd, Nat.reduceSub, Array.replicate_succ, Array.replicate_zero, List.push_toArray, List.append_toArray, List.nil_append, List.cons_append]
  refine wpIn_wide.2 ?_
  have HOK := Lib.hid hOK
  have HS := Lib.hid hs
  have HPE0 := Lib.hid hPE
  have HPL0 := Lib.hid hPL
  have HRB0 := Lib.hid hRB
  have HC10 := Lib.hid hc1
  have HZ00 := Lib.hid hz0
  have HAP := Lib.hid hAP
  have HKB := Lib.hid hkb
  have HCB := Lib.hid hcb
  have HCR := Lib.hid hCR
  have HYY := Lib.hid (And.intro y0 y3)
  have HXX := Lib.hid hx
  clear hOK hs hPE hPL hRB hc1 hz0 hAP hkb hcb hCR y0 y3 hx hP hP' hk
  go_wp2_with (go_at_call 81; refine (callsIn_wide.1 (crackColumns_in Fence.wide 1 trivial rfl _ _ _ _)).mono ?_; rintro e w' ⟨rfl, rfl⟩)
  generalize hW0 : (((((w.alloc (.cells #[.slice B.A B.n B.c, .slice B.A' B.n' B.c', .int .i64 B.bend, .slice B.K B.m B.d, .slice (some ⟨g, 0, none⟩) B.n cap, .slice (some ⟨g', 0, none⟩) B.n cap'] 106)).alloc (.cells #[.int .i64 s.long, .int .i64 s.wide, .int .i64 s.kerf, .int .i64 s.across] 37)).alloc (.cells #[.int .i64 x, .int .i64 y] 39)).alloc (.cells #[.bool false] 4)).alloc (.cells #[.slice B.K B.m B.d] 23)) = W0 at *
  clear hW0
  have HTO := Lib.hid (cracks_told Fence.wide rfl 8 trivial trivial rfl w.heap.size (w.heap.size + 1 + 1 + 1 + 1) B.m B.d B.K B.cr W0 (by have := HOK.out.m4; omega) HCB.out (by have := HZ00.out; omega) HC10.out HPE0.out.ck (fun b o e hm => by have := HKB.out b o e hm; have := HZ00.out; omega))
  have HBB := Lib.hid (fun xs => best_bounds HOK.out HS.out HCR.out xs)
  have q1 : w.heap.size + 1 + 1 + 1 < W0.heap.size := by have := HZ00.out; omega
  have HQ : Hid (QI B s (w.heap.size + 1 + 1 + 1) x y W0 [] W0) := ⟨Save.refl _ _, HRB0.out, by simp⟩
  refine (wpIn_wide (n := 9)).1 ?_
  refine wpIn_range_told (F := Fence.wide) (n := 9) rfl (by omega) (gf := 105) (lb := #[.pointer (some ⟨w.heap.size + 1 + 1 + 1 + 1, 0, none⟩)]) rfl trivial (enters_of Try.func105 (by kernel_rfl) rfl)
    HTO.out (fun x W r r' _ ht => ht.put r') KI.trans (fun W r r' _ => KI.put r' (by have := HZ00.out; omega) (by have := HZ00.out; omega)) (fun _ => rfl)
    (QI B s (w.heap.size + 1 + 1 + 1) x y W0) (fun c _ W => c = .ret ∧ QX B s (w.heap.size + 1 + 1 + 1) x y W0 W) (fun pre W W' row h hg hr => h.grown q1 hg (fun r e => (hr r e).1)) (fun c pre W W' row h hg hr => ⟨h.1, h.2.grown q1 hg (fun r e => (hr r e).1)⟩)
    (fun pre W W' row h hg hr => h.grown q1 hg (fun r e => by have := hr r e; omega)) HQ.out (fun _ => ?act) ?assign ?body ?done ?stop
  case assign =>
    intro l x W K hK
    gi_wp2
    exact hK
  case body =>
    rintro l pre xs W hz hI ht
    have HE := Lib.hid (HPE0.out.save hI.sv HAP.out)
    have HI := Lib.hid hI
    have HPL : Hid (Blk W (w.heap.size + 1 + 1) 39 #[.int .i64 x, .int .i64 y]) := (hI.sv.block _ HPL0.out.lt (by omega) (by omega)).trans HPL0.out
    obtain ⟨hxl, hrow, hz6, hmem⟩ := ht
    have HX : Hid (Ints W (some ⟨W0.heap.size + 2 + 1, 0, none⟩) B.m xs) := by have h := ints_of_row hrow; rw [range_getD_self xs B.m hxl] at h; exact h
    have HM := Lib.hid hmem
    clear hI hxl hrow hz6 hmem
    gi_wp2_with fail
    have DW : Hid (Below W.heap.size W W.drew) := (Below.refl _ _).drew
    have HSS : Hid (∀ V, Below W.heap.size W V → S3 B s g cap g' cap' w.heap.size x y V) := fun V hV => by
      have e := HE.out.below hV
      have pl := blk_keep hV HPL.out
      exact ⟨e.bc.cell 0, e.bc.cell 1, e.bc.cell 2, e.bc.cell 3, e.bc.cell 4, e.bc.cell 5, e.bs.cell 0, e.bs.cell 1, e.bs.cell 2, e.bs.cell 3, pl.cell 0, pl.cell 1⟩
    have HBT : Hid (∀ V, Below W.heap.size W V → Calls Try.prog 82 #[B.curved g cap g' cap', s.val, .slice (some ⟨W0.heap.size + 2 + 1, 0, none⟩) B.m B.m] V (WorstTop V B.n B.m (B.bestX s xs))) := fun V hV =>
      best_top B s g cap g' cap' B.m (some ⟨W0.heap.size + 2 + 1, 0, none⟩) xs V HOK.out (HE.out.below hV).pa (HE.out.below hV).pb (HE.out.below hV).ck (HX.out.below hV)
    unfold Bl.curved Sw.val at HBT
    refine round_region_held (S := S3 B s g cap g' cap' w.heap.size x y) (by kernel_rfl) (by rintro ⟨a, w, h⟩; exact h) (by kernel_rfl) (HSS.out _ DW.out) (fun _ => ?_)
    generalize W.drew = wd at *
    refine heldTake (i := 0) 13 (v := ?v1) rfl (by kernel_rfl) (by kernel_rfl) (by kernel_rfl) (by kernel_rfl) (fun _ _ _ h => h) (Or.inl ⟨by rfl, ?y1⟩) (by assumption) ?r1
    case y1 => (intro w hSw; obtain ⟨g0, g1, g2, g3, g4, g5, g6, g7, g8, g9, g10, g11⟩ := hSw; go_simp; try with_reducible rfl)
    refine heldTake (i := 1) 14 (v := ?v2) rfl (by kernel_rfl) (by kernel_rfl) (by kernel_rfl) (by kernel_rfl) (fun _ _ _ h => h) (Or.inl ⟨by rfl, ?y2⟩) (by assumption) ?r2
    case y2 => (intro w hSw; obtain ⟨g0, g1, g2, g3, g4, g5, g6, g7, g8, g9, g10, g11⟩ := hSw; go_simp; try with_reducible rfl)
    refine heldTake (i := 2) 15 (v := ?v3) rfl (by kernel_rfl) (by kernel_rfl) (by kernel_rfl) (by kernel_rfl) (fun _ _ _ h => h) (Or.inl ⟨by rfl, ?y3⟩) (by assumption) ?r3
    case y3 => (intro w hSw; obtain ⟨g0, g1, g2, g3, g4, g5, g6, g7, g8, g9, g10, g11⟩ := hSw; go_simp; try with_reducible rfl)
    refine heldTake (i := 4) 17 (v := ?v4) rfl (by kernel_rfl) (by kernel_rfl) (by kernel_rfl) (by kernel_rfl) (fun _ _ _ h => h) (Or.inl ⟨by rfl, ?y4⟩) (by assumption) ?r4
    case y4 => (intro w hSw; obtain ⟨g0, g1, g2, g3, g4, g5, g6, g7, g8, g9, g10, g11⟩ := hSw; go_simp; try with_reducible rfl)
    simp only [Act.put, List.setIfInBounds_toArray, List.set_cons_zero, List.set_cons_succ]
    refine wpAnyH_ready (rs := [3]) (by kernel_rfl) (by simp) ?_
    refine AllReadyH.cons rfl (fun K1 hK1 => ?_) AllReadyH.nil
    go_simp
    refine (HBT.out _ DW.out).mono ?_
    rintro e W1 ⟨hb1, b, o, b', o', c, c', K, d, rfl, hs, hc, hc', hm⟩
    have D1 := Lib.hid (below_then DW.out hb1)
    have HSO := Lib.hid (sound_any (B.bestX s xs) b o b' o' B.n c c' K B.m d x y W1 hs hc hc' hm (HBB.out xs) HXX.out HOK.out.n2 HOK.out.m4 HYY.out.1 HYY.out.2)
    refine hK1.out _ _ (HSS.out _ D1.out) (fun _ => ?_)
    clear hb1 hs hc hc' hm
    refine wpAnyH_ready (rs := [5]) (by kernel_rfl) (by simp) ?_
    refine AllReadyH.cons rfl (fun K2 hK2 => ?_) AllReadyH.nil
    go_simp
    refine HSO.out.mono ?_
    rintro e W2 ⟨rfl, hb2⟩
    have D2 := Lib.hid (below_then D1.out hb2)
    refine hK2.out _ _ (HSS.out _ D2.out) (fun _ => ?_)
    refine wpAnyH_done (by kernel_rfl) ?_ _
    have HR2 : Hid (Boxed W2 (w.heap.size + 1 + 1 + 1) 4 (.bool false)) := blk_keep D2.out HI.out.cR
    have c2 := HR2.out.cell
    have f2 := HR2.out.frozen
    have HV : Hid (∃ v, v = soundS (B.bestX s xs) x y) := ⟨_, rfl⟩
    obtain ⟨v, hv⟩ := HV.out
    have HVV := Lib.hid hv
    rw [← hv]
    clear hv hb2 HSO
    cases v
    · gi_wp2_with fail
      exact ⟨KeepsFrom.of_below D2.out, KI.of_below D2.out, HI.out.sv.below D2.out, HR2.out, fun q hq => by
        rcases List.mem_append.1 hq with h | h
        · exact HI.out.no q h
        · rw [List.mem_singleton.1 h]; exact HVV.out.symm⟩
    · gi_wp2_with fail
      exact ⟨(KeepsFrom.of_below D2.out).trans ((KeepsOthers.setCell _ _ _).from _), rfl, (HI.out.sv.below D2.out).grown (grownBy_set _ _ _) (fun r e => by cases e; exact .inl rfl), HR2.out.set _, List.any_eq_true.2 ⟨xs, HM.out, HVV.out.symm⟩⟩
  case done =>
    rintro D ys W hD rfl hI hK
    have HI := Lib.hid hI
    have HK := Lib.hid hK
    have cA := hI.cR.cell
    have fA := hI.cR.frozen
    have HNO : Hid (possB B s x y = false) := by unfold Hid possB; rw [List.any_eq_false]; exact fun q hq => by rw [hI.no q hq]; simp
    clear hI hK
    go_wp2_with fail
    have hp : w.heap.size + 1 + 1 + 1 ≠ D := by omega
    have hb1 : Below w.heap.size w W := ⟨HI.out.sv.os.trans E0.out.os, HI.out.sv.tape.trans E0.out.tape, HI.out.sv.output.trans E0.out.output, Nat.le_trans E0.out.size HI.out.sv.size, fun k hk => (HI.out.sv.block k (by omega) (by omega) (by omega)).trans (E0.out.block k hk)⟩
    have hA : Boxed _ (w.heap.size + 1 + 1 + 1) 4 _ := HI.out.cR.set (.bool false)
    have hKf := (Below.heap_setCell W ⟨w.heap.size + 1 + 1 + 1, 0, none⟩ (.bool false) D (Ne.symm hp)).trans HK.out
    have hb2 := hb1.setCell (p := ⟨w.heap.size + 1 + 1 + 1, 0, none⟩) (by show w.heap.size ≤ w.heap.size + 1 + 1 + 1; omega) (.bool false)
    refine ⟨by simp, .inl ⟨D, _, rfl, run_takeDeferred hKf, ?_⟩⟩
    exact ⟨_, results_c1 rfl _ _ _ (w.heap.size + 1 + 1 + 1) _ rfl (run_loadVar_cell Try.underlying4 rfl (hA.kept (grownBy_putObj' _ D (.deferred none)) (fun e => hp (Option.some.inj e))).cell), by rw [HNO.out], hb2.trans (belowK_b (w := w) (Nat.le_refl _) _ D _ (.deferred none) (by omega) hKf rfl rfl)⟩
  case stop =>
    rintro D c pre W hD _ ⟨rfl, hX⟩ hK
    have HI := Lib.hid hX
    have HK := Lib.hid hK
    clear hX hK
    refine wpIn_wide.2 ?_
    go_wp2_with fail
    have hp : w.heap.size + 1 + 1 + 1 ≠ D := by omega
    have hb1 : Below w.heap.size w W := ⟨HI.out.sv.os.trans E0.out.os, HI.out.sv.tape.trans E0.out.tape, HI.out.sv.output.trans E0.out.output, Nat.le_trans E0.out.size HI.out.sv.size, fun k hk => (HI.out.sv.block k (by omega) (by omega) (by omega)).trans (E0.out.block k hk)⟩
    have hA : Boxed _ (w.heap.size + 1 + 1 + 1) 4 _ := HI.out.cR
    have hKf := HK.out
    have hb2 := hb1
    refine ⟨by simp, .inl ⟨D, _, rfl, run_takeDeferred hKf, ?_⟩⟩
    exact ⟨_, results_c1 rfl _ _ _ (w.heap.size + 1 + 1 + 1) _ rfl (run_loadVar_cell Try.underlying4 rfl (hA.kept (grownBy_putObj' _ D (.deferred none)) (fun e => hp (Option.some.inj e))).cell), by rw [HI.out.yes], hb2.trans (belowK_b (w := w) (Nat.le_refl _) _ D _ (.deferred none) (by omega) hKf rfl rfl)⟩
end Go.Proofs.Ytiflhimmieflpaa
