/- Walks: the reference's Most. -/
import Derived.Test.YtiflhimmieflpaaW53
namespace Go.Proofs.Ytiflhimmieflpaa
open Go.RowKit Go.Maps

theorem Try.infoPlaces : (Try.prog.info? 54).map (fun i => (i.zero, i.size, i.bytes)) = some (some (.slice none 0 0), 1, 24) := by kernel_rfl
/-- The boxes of a view and a saw, and the table. -/
structure VM (w : World) (V : Vw) (x0 x1 x2 x3 : Int) (N : Nat) (bv : Nat → Value) (W : World) : Prop where
  fv : Blk W w.heap.size 46 #[.slice V.A V.n V.c, .slice V.A' V.n V.c', .slice V.K V.m V.d]
  fs : Blk W (w.heap.size + 1) 37 #[.int .i64 x0, .int .i64 x1, .int .i64 x2, .int .i64 x3]
  ft : W.rowIs (w.heap.size + 1 + 1) 54 N bv
  bel : Below w.heap.size w W
theorem VM.below {w W W' : World} {V : Vw} {x0 x1 x2 x3 : Int} {N : Nat} {bv : Nat → Value} (h : VM w V x0 x1 x2 x3 N bv W) (hb : Below W.heap.size W W') : VM w V x0 x1 x2 x3 N bv W' := ⟨blk_keep hb h.fv, blk_keep hb h.fs, rowIs_below h.ft hb, below_then h.bel hb⟩
theorem VM.set {w W : World} {V : Vw} {x0 x1 x2 x3 : Int} {N : Nat} {bv : Nat → Value} (h : VM w V x0 x1 x2 x3 N bv W) (i : Nat) (v : Value) : VM w V x0 x1 x2 x3 N (fun j => if j = i then v else bv j) (W.setCell ⟨w.heap.size + 1 + 1, i, none⟩ v) :=
  ⟨h.fv.far (p := ⟨w.heap.size + 1 + 1, i, none⟩) (by simp; omega) _, h.fs.far (p := ⟨w.heap.size + 1 + 1, i, none⟩) (by simp) _, h.ft.set i v, h.bel.setCell (p := ⟨w.heap.size + 1 + 1, i, none⟩) (by simp; omega) _⟩
theorem VM.get {w W : World} {V : Vw} {x0 x1 x2 x3 : Int} {N : Nat} {bv : Nat → Value} (h : VM w V x0 x1 x2 x3 N bv W) : (W.cell? ⟨w.heap.size, 0, none⟩ = some (.slice V.A V.n V.c) ∧ W.cell? ⟨w.heap.size, 1, none⟩ = some (.slice V.A' V.n V.c') ∧ W.cell? ⟨w.heap.size, 2, none⟩ = some (.slice V.K V.m V.d)) ∧
    W.cell? ⟨w.heap.size + 1, 0, none⟩ = some (.int .i64 x0) ∧ W.cell? ⟨w.heap.size + 1, 1, none⟩ = some (.int .i64 x1) ∧ W.cell? ⟨w.heap.size + 1, 2, none⟩ = some (.int .i64 x2) ∧ W.cell? ⟨w.heap.size + 1, 3, none⟩ = some (.int .i64 x3) :=
  ⟨⟨h.fv.cell 0, h.fv.cell 1, h.fv.cell 2⟩, h.fs.cell 0, h.fs.cell 1, h.fs.cell 2, h.fs.cell 3⟩

set_option maxRecDepth 100000 in
set_option maxHeartbeats 4000000 in
theorem RefMost_any (V : Vw) (s : Sw) (l a : Nat) (w : World) (h : V.At w) (hs : s.Ok) (hl : s.long = l) (ha : s.across = a) (hn : V.n ≤ 30) (hlen : ∀ x : Nat, x + l ≤ V.n → (refBlockL V s x).length ≤ 301) (hmx : ∀ x, (mostM (refBlockL V s) V.n l (l + a) x).length ≤ 10000) :
    Calls Try.prog 37 #[V.val, s.val] w fun e w' => ∃ v, e = .returned v ∧ BV w.heap.size w' v (mostM (refBlockL V s) V.n l (l + a) 0) ∧ Below w.heap.size w w' := by
  obtain ⟨i0, hi, hz0, hz1, hz2⟩ := info_parts Try.infoPlace
  obtain ⟨sl, wd, kf, sa⟩ := s
  dsimp only at hl ha
  subst hl ha
  have l1 := hs.l1
  have l2 := hs.l2
  have a1 := hs.a1
  have a2 := hs.a2
  dsimp only at l1 l2 a1 a2
  have HBL := Lib.hid (fun (X : Nat) (hX : X + l ≤ V.n) W (hb : Below w.heap.size w W) => RefBlock_any V ⟨l, wd, kf, a⟩ X W (h.below hb) hs (by show (X : Int) + (l : Int) ≤ V.n; omega))
  have HE := Lib.hid (fun x (hx : V.n < x + l) => mostM_end (bl := refBlockL V ⟨l, wd, kf, a⟩) (n := V.n) (l := l) (st := l + a) (x := x) hx)
  have HST := Lib.hid (fun x (hx : x + l ≤ V.n) => mostM_step (bl := refBlockL V ⟨l, wd, kf, a⟩) (n := V.n) (l := l) (st := l + a) (x := x) (by omega) (by omega) hx)
  have HLN := Lib.hid hlen
  have HMX := Lib.hid hmx
  clear hlen hmx
  generalize mostM (refBlockL V ⟨l, wd, kf, a⟩) V.n l (l + a) = M at *
  generalize refBlockL V ⟨l, wd, kf, a⟩ = bl at *
  obtain ⟨N, hN⟩ : ∃ N, N = V.n + l + a + 1 := ⟨_, rfl⟩
  have hmk := fun X => run_make_row' (P := Try.prog) 129 54 (.slice none 0 0) 24 Try.underlying129 Try.infoPlaces rfl .i64 .i64 N (by omega) (by omega) X
  have kn1 : IntKind.i64.wrap ((V.n : Int) + (l : Int)) = (V.n : Int) + (l : Int) := IntWalk.i64_in _ (by omega)
  have kn2 : IntKind.i64.wrap ((V.n : Int) + (l : Int) + (a : Int)) = (V.n : Int) + (l : Int) + (a : Int) := IntWalk.i64_in _ (by omega)
  have kn3 : IntKind.i64.wrap ((V.n : Int) + (l : Int) + (a : Int) + 1) = (N : Int) := by rw [IntWalk.i64_in _ (by omega)]; omega
  have kn4 : IntKind.i64.wrap ((V.n : Int) - (l : Int)) = (V.n : Int) - (l : Int) := IntWalk.i64_in _ (by omega)
  have hvm : VM w V l wd kf a N (fun _ => .slice none 0 0) (((w.alloc (.cells #[.slice V.A V.n V.c, .slice V.A' V.n V.c', .slice V.K V.m V.d] 46)).alloc (.cells #[.int .i64 l, .int .i64 wd, .int .i64 kf, .int .i64 a] 37)).alloc (.cells (madeCells #[.slice none 0 0] N) 54)) := by
    have hr := World.rowIs_made ((w.alloc (.cells #[.slice V.A V.n V.c, .slice V.A' V.n V.c', .slice V.K V.m V.d] 46)).alloc (.cells #[.int .i64 l, .int .i64 wd, .int .i64 kf, .int .i64 a] 37)) (.slice none 0 0) N 54
    rw [show ((w.alloc (.cells #[.slice V.A V.n V.c, .slice V.A' V.n V.c', .slice V.K V.m V.d] 46)).alloc (.cells #[.int .i64 l, .int .i64 wd, .int .i64 kf, .int .i64 a] 37)).heap.size = w.heap.size + 1 + 1 by simp] at hr
    exact ⟨((Blk.new w _ _ rfl).alloc _).alloc _, (Blk.new (w.alloc _) _ _ (by simp)).alloc _, hr, below_alloc' (below_alloc' (below_self _ _) _) _⟩
  have HVM := Lib.hid hvm
  unfold Vw.val Sw.val at *
  have HNN := Lib.hid hN
  clear h hs hvm hN
  go_enter Try.func37, Try.ntmps37
  go_wp2_with fail
  have HI0 : Hid (∀ i : Nat, (V.n : Int) - (l : Int) < i → i < N → BV (w.heap.size + 1 + 1 + 1) (((w.alloc (.cells #[.slice V.A V.n V.c, .slice V.A' V.n V.c', .slice V.K V.m V.d] 46)).alloc (.cells #[.int .i64 l, .int .i64 wd, .int .i64 kf, .int .i64 a] 37)).alloc (.cells (madeCells #[.slice none 0 0] N) 54)) (.slice none 0 0) (M i)) := fun i hi1 _ => by
    rw [HE.out i (by omega)]; exact BV.none_ _ _
  generalize ((w.alloc (.cells #[.slice V.A V.n V.c, .slice V.A' V.n V.c', .slice V.K V.m V.d] 46)).alloc (.cells #[.int .i64 l, .int .i64 wd, .int .i64 kf, .int .i64 a] 37)).alloc (.cells (madeCells #[.slice none 0 0] N) 54) = W0 at *
  clear hmk kn1 kn2 kn3
  go_loopw [7] (fun xv wr => ∃ (X : Int) (bv : Nat → Value), xv = .int .i64 X ∧ -40 ≤ X ∧ X ≤ V.n - l ∧ VM w V l wd kf a N bv wr ∧ (∀ i : Nat, X < i → i < N → BV (w.heap.size + 1 + 1 + 1) wr (bv i) (M i))) (fun xv _ => (intOf xv + 1).toNat)
  case atStart => exact ⟨_, _, rfl, by omega, by omega, HVM.out, HI0.out⟩
  case round =>
    obtain ⟨X, bv, rfl, hX1, hX2, hvm, hbv⟩ := hrel
    have HB := Lib.hid hvm
    have HV := Lib.hid hbv
    clear hvm hbv HI0 HVM kn4
    have hNa : V.n + l + a + 1 ≤ N := Nat.le_of_eq HNN.out.symm
    have hNb : N ≤ V.n + l + a + 1 := Nat.le_of_eq HNN.out
    by_cases hge : 0 ≤ X
    · obtain ⟨x, rfl⟩ := Int.eq_ofNat_of_zero_le hge
      have hxl : x + l ≤ V.n := by omega
      have g0 := ((HB.out.below (below_self wr (.cells #[] 39)))).get
      have HC := Lib.hid (HBL.out x hxl _ (HB.out.below (below_self wr (.cells #[] 39))).bel)
      go_wp2_with fail
      refine HC.out.mono ?_
      rintro e w2 ⟨hv, rfl, hho, b2⟩
      obtain ⟨HA, hc, rfl⟩ := own_slice hho
      have D2 : Hid (Below wr.heap.size wr w2) := below_then (below_self wr _) b2
      have O0 : Hid (w2.ownsRow wr.heap.size 39 2 (.slice (some ⟨wr.heap.size, 0, none⟩) 0 0) 0 (flat2 [])) := ownsRow_below (World.ownsRow_lit wr #[] 0 (Nat.le_refl _) (by decide) rfl) b2
      have OH : Hid (w2.ownsRow wr.heap.size 3 1 (.slice HA (bl x).length hc) (bl x).length ((bl x).map (Value.int .i64))) := own_base hho (by simp)
      have LX := HLN.out x hxl
      clear b2 hho HC g0
      go_wp2_with fail
      obtain ⟨wo, rfl⟩ : ∃ wo : World, wo = wr := ⟨_, rfl⟩
      go_loopw [8, 10] (fun v kv wr => ∃ (k : Nat), k ≤ (bl x).length ∧ kv = .int .i64 k ∧ wr.ownsRow wo.heap.size 39 2 v k (flat2 (((bl x).take k).map fun y => ((x : Int), y))) ∧ wr.ownsRow wo.heap.size 3 1 (.slice HA (bl x).length hc) (bl x).length ((bl x).map (Value.int .i64)) ∧ Below wo.heap.size wo wr) (fun _ kv _ => (bl x).length - (intOf kv).toNat)
      case atStart => exact ⟨0, Nat.zero_le _, rfl, O0.out, OH.out, D2.out⟩
      case round =>
        obtain ⟨k, hk, rfl, ho, hoh, hbel⟩ := hrel
        have HO := Lib.hid ho
        have HH := Lib.hid hoh
        have HD := Lib.hid hbel
        clear ho hbel O0 OH D2
        by_cases hkl : k < (bl x).length
        · obtain ⟨b, off, hA, hb, q0⟩ := Ints.at_ (reads_of_own hoh).r hkl
          subst hA
          have HS : Hid (flat2 (((bl x).take (k + 1)).map fun y => ((x : Int), y)) = flat2 (((bl x).take k).map fun y => ((x : Int), y)) ++ [.int .i64 x, .int .i64 ((bl x).getD k 0)]) := by
            unfold Hid
            rw [take_map_succ (fun y => ((x : Int), y)) (bl x) k 0 hkl, flat2_append]
            rfl
          generalize (bl x).getD k 0 = y at *
          generalize bl x = ys at *
          have Hnew := Lib.hid (cell_two_at wr (.int .i64 x) (.int .i64 y) 39)
          have hsz := HD.out.size
          clear hoh
          go_wp2_with (at_builtin; refine wpList_append_own _ rfl _ _ 54 rfl wo.heap.size 39 i0 (.agg #[.int .i64 0, .int .i64 0]) 2 16 Try.underlying54 hi hz0 hz1 hz2 rfl (by decide) _ _ _ rfl (HO.out.alloc _) ⟨wr.heap.size, 0, none⟩ 1 1 [.int .i64 x, .int .i64 y] rfl rfl Hnew.out ?c2 ?c3 ?c4 ?c5 ?_)
          case c2 => intro u hu; simp only [List.mem_cons, List.not_mem_nil, or_false] at hu; rcases hu with rfl | rfl <;> rfl
          case c3 => unfold maxLen; omega
          case c4 => omega
          case c5 => simp; omega
          intro v' w4 hown4 hgrow _
          have B4 := Lib.hid ((HD.out.alloc hsz _).grown hgrow (by simp; omega) (fun q hq => (HO.out.lt q hq).1))
          have H4 := Lib.hid ((HH.out.alloc (.cells #[.int .i64 x, .int .i64 y] 39)).kept hgrow (own_apart HH.out HO.out (by decide)))
          have O4 : Hid (w4.ownsRow wo.heap.size 39 2 v' (k + 1) (flat2 ((ys.take (k + 1)).map fun y => ((x : Int), y)))) := by
            unfold Hid; rw [HS.out]; simpa only [List.map_take] using hown4
          clear hown4 hgrow
          go_wp2
          go_roundw
          case rel => exact ⟨k + 1, by omega, by go_num, O4.out, H4.out, B4.out⟩
          case measure => simp [intOf]; omega
        · obtain rfl : k = (bl x).length := by omega
          have ho2 := HO.out
          rw [List.take_of_length_le (Nat.le_refl _)] at ho2
          have HO2 := Lib.hid ho2
          have g2 := (HB.out.below HD.out).get
          obtain ⟨A1, c1, e1, n1⟩ := (HV.out (x + l + a) (by omega) (by omega)).below HD.out
          have t1 : wr.cell? ⟨w.heap.size + 1 + 1, x + l + a, none⟩ = some (.slice A1 (M (x + l + a)).length c1) := by
            have := (HB.out.below HD.out).ft.cell (i := x + l + a) (by omega)
            rw [e1] at this; exact this
          have HN1 := Lib.hid n1.r
          have x1 : IntKind.i64.wrap ((x : Int) + (l : Int)) = (x : Int) + (l : Int) := IntWalk.i64_in _ (by omega)
          have x2 : IntKind.i64.wrap ((x : Int) + (l : Int) + (a : Int)) = (x : Int) + (l : Int) + (a : Int) := IntWalk.i64_in _ (by omega)
          have x3 : (x : Int) + (l : Int) + (a : Int) < (N : Int) := by omega
          have x4 : ((x : Int) + (l : Int) + (a : Int)).toNat = x + l + a := by omega
          have x5 : 0 ≤ (x : Int) + (l : Int) + (a : Int) := by omega
          have mx1 := HMX.out (x + l + a)
          have HMS := Lib.hid (HST.out x hxl)
          rw [show x + (l + a) = x + l + a from by omega] at HMS
          clear ho2 e1 n1 hoh
          go_wp2_with (at_builtin; refine wpList_append_any rfl _ _ 54 rfl wo.heap.size 39 i0 (.agg #[.int .i64 0, .int .i64 0]) 2 16 Try.underlying54 hi hz0 hz1 hz2 rfl (by decide) _ _ _ rfl HO2.out A1 _ c1 (flat2 (M (x + l + a))) rfl HN1.out ?d2 ?d3 ?d4 ?d5 ?_)
          case d2 => intro u hu; simp only [flat2, List.mem_flatMap, List.mem_cons, List.not_mem_nil, or_false] at hu; obtain ⟨_, _, rfl | rfl⟩ := hu <;> rfl
          case d3 => unfold maxLen; omega
          case d4 => omega
          case d5 => exact HD.out.size
          intro v' w4 hown4 hgrow
          have D4 := Lib.hid (HD.out.grown hgrow HD.out.size (fun q hq => (HO2.out.lt q hq).1))
          obtain ⟨A4, c4, rfl⟩ := own_slice hown4
          rw [← flat2_append] at hown4
          have HN4 := Lib.hid (reads_of_own hown4)
          have hr4 : ((bl x).map (fun y => ((x : Int), y)) ++ M (x + l + a)).length = (bl x).length + (M (x + l + a)).length := by rw [List.length_append, List.length_map]
          rw [hr4] at HMS
          have HR4 := Lib.hid hr4
          generalize (bl x).map (fun y => ((x : Int), y)) ++ M (x + l + a) = here at *
          generalize (bl x).length + (M (x + l + a)).length = r at *
          clear hown4 hgrow HN1 mx1 t1 x1 x2 x3 x4 x5 hr4 g2 HO HO2 HH HD
          obtain ⟨A2, c2, e2, n2⟩ := HV.out (x + 1) (by omega) (by omega)
          have g4 := (HB.out.below D4.out).get
          have t2 : w4.cell? ⟨w.heap.size + 1 + 1, x + 1, none⟩ = some (.slice A2 (M (x + 1)).length c2) := by
            have := (HB.out.below D4.out).ft.cell (i := x + 1) (by omega)
            rw [e2] at this; exact this
          have f2 := (HB.out.below D4.out).ft.frozen x
          obtain ⟨z0, t0⟩ : ∃ z, w4.cell? ⟨w.heap.size + 1 + 1, x, none⟩ = some z := ⟨_, (HB.out.below D4.out).ft.cell (i := x) (by omega)⟩
          have VS := Lib.hid ((HB.out.below D4.out).set x (.slice A2 (M (x + 1)).length c2))
          have B2 : Hid (BV (w.heap.size + 1 + 1 + 1) w4 (.slice A2 (M (x + 1)).length c2) (M (x + 1))) := (show BV (w.heap.size + 1 + 1 + 1) wo (.slice A2 (M (x + 1)).length c2) (M (x + 1)) from ⟨A2, c2, rfl, n2⟩).below D4.out
          have t3 : (w4.setCell ⟨w.heap.size + 1 + 1, x, none⟩ (.slice A2 (M (x + 1)).length c2)).cell? ⟨w.heap.size + 1 + 1, x, none⟩ = some (.slice A2 (M (x + 1)).length c2) := by
            have := VS.out.ft.cell (i := x) (by omega)
            rwa [if_pos rfl] at this
          have f3 := VS.out.ft.frozen x
          have x6 : (x : Int) < (N : Int) := by omega
          have x7 : (x : Int) + 1 < (N : Int) := by omega
          have x8 : IntKind.i64.wrap ((x : Int) + 1) = (x : Int) + 1 := IntWalk.i64_in _ (by omega)
          have x9 : ((x : Int) + 1).toNat = x + 1 := by omega
          have xa : IntKind.i64.wrap ((x : Int) - 1) = (x : Int) - 1 := IntWalk.i64_in _ (by omega)
          clear e2 n2
          have HT : Hid (∀ i : Nat, (x : Int) < i → i < N → BV (w.heap.size + 1 + 1 + 1) w4 (bv i) (M i)) := fun i h1 h2 => (HV.out i h1 h2).below D4.out
          have hgl : w.heap.size + 1 + 1 + 1 ≤ wo.heap.size := HB.out.ft.lt
          have HGL := Lib.hid hgl
          clear HV hgl
          have HTK : Hid (M x = here → ∃ bv' : Nat → Value, VM w V l wd kf a N bv' ((w4.setCell ⟨w.heap.size + 1 + 1, x, none⟩ (.slice A2 (M (x + 1)).length c2)).setCell ⟨w.heap.size + 1 + 1, x, none⟩ (.slice A4 r c4)) ∧
              ∀ i : Nat, (x : Int) - 1 < i → i < N → BV (w.heap.size + 1 + 1 + 1) ((w4.setCell ⟨w.heap.size + 1 + 1, x, none⟩ (.slice A2 (M (x + 1)).length c2)).setCell ⟨w.heap.size + 1 + 1, x, none⟩ (.slice A4 r c4)) (bv' i) (M i)) := fun e => by
            refine ⟨_, VS.out.set x (.slice A4 r c4), fun i h1 h2 => ?_⟩
            by_cases hix : i = x
            · subst hix
              rw [if_pos rfl, e]
              exact ((show BV (w.heap.size + 1 + 1 + 1) w4 (.slice A4 r c4) here from ⟨A4, c4, by rw [HR4.out], by rw [HR4.out]; exact HN4.out.ge HGL.out⟩).setCell (p := ⟨w.heap.size + 1 + 1, i, none⟩) (by simp) _).setCell (p := ⟨w.heap.size + 1 + 1, i, none⟩) (by simp) _
            · rw [if_neg hix, if_neg hix]
              exact ((HT.out i (by omega) h2).setCell (p := ⟨w.heap.size + 1 + 1, x, none⟩) (by simp) _).setCell (p := ⟨w.heap.size + 1 + 1, x, none⟩) (by simp) _
          have HPS : Hid (M x = M (x + 1) → ∃ bv' : Nat → Value, VM w V l wd kf a N bv' (w4.setCell ⟨w.heap.size + 1 + 1, x, none⟩ (.slice A2 (M (x + 1)).length c2)) ∧
              ∀ i : Nat, (x : Int) - 1 < i → i < N → BV (w.heap.size + 1 + 1 + 1) (w4.setCell ⟨w.heap.size + 1 + 1, x, none⟩ (.slice A2 (M (x + 1)).length c2)) (bv' i) (M i)) := fun e => by
            refine ⟨_, VS.out, fun i h1 h2 => ?_⟩
            by_cases hix : i = x
            · subst hix
              rw [if_pos rfl, e]
              exact B2.out.setCell (p := ⟨w.heap.size + 1 + 1, i, none⟩) (by simp) _
            · rw [if_neg hix]
              exact (HT.out i (by omega) h2).setCell (p := ⟨w.heap.size + 1 + 1, x, none⟩) (by simp) _
          by_cases hgt : (M (x + 1)).length < r
          · have hMx : Hid (M x = here) := by unfold Hid; rw [HMS.out, if_pos (.inl hgt)]
            have hnew := HTK.out hMx.out
            have HNW := Lib.hid hnew
            clear hnew HTK HPS
            generalize (M (x + 1)).length = m1 at *
            have hgt2 : (m1 : Int) < (r : Int) := by omega
            go_wp2
            go_roundw
            case rel =>
              obtain ⟨bv', q1, q2⟩ := HNW.out
              exact ⟨_, bv', rfl, by omega, by omega, q1, q2⟩
            case measure => simp [intOf]
          · by_cases heq : r = (M (x + 1)).length
            · by_cases hpos : 0 < (bl x).length
              · have hMx : Hid (M x = here) := by unfold Hid; rw [HMS.out, if_pos (.inr ⟨heq, hpos⟩)]
                have hnew := HTK.out hMx.out
                have HNW := Lib.hid hnew
                clear hnew HTK HPS
                generalize (M (x + 1)).length = m1 at *
                generalize (bl x).length = bxl at *
                have hgt2 : ¬ (m1 : Int) < (r : Int) := by omega
                have hd : ((r : Int) == (m1 : Int)) = true := by simp; omega
                have hp2 : (0 : Int) < (bxl : Int) := by omega
                clear heq
                go_wp2
                go_roundw
                case rel =>
                  obtain ⟨bv', q1, q2⟩ := HNW.out
                  exact ⟨_, bv', rfl, by omega, by omega, q1, q2⟩
                case measure => simp [intOf]
              · have hMx : Hid (M x = M (x + 1)) := by unfold Hid; rw [HMS.out, if_neg (fun h => h.elim hgt (fun h => hpos h.2))]
                have hnew := HPS.out hMx.out
                have HNW := Lib.hid hnew
                clear hnew HTK HPS
                generalize (M (x + 1)).length = m1 at *
                generalize (bl x).length = bxl at *
                have hgt2 : ¬ (m1 : Int) < (r : Int) := by omega
                have hd : ((r : Int) == (m1 : Int)) = true := by simp; omega
                have hp2 : ¬ (0 : Int) < (bxl : Int) := by omega
                clear heq
                go_wp2
                go_roundw
                case rel =>
                  obtain ⟨bv', q1, q2⟩ := HNW.out
                  exact ⟨_, bv', rfl, by omega, by omega, q1, q2⟩
                case measure => simp [intOf]
            · have hMx : Hid (M x = M (x + 1)) := by unfold Hid; rw [HMS.out, if_neg (fun h => h.elim hgt (fun h => heq h.1))]
              have hnew := HPS.out hMx.out
              have HNW := Lib.hid hnew
              clear hnew HTK HPS
              generalize (M (x + 1)).length = m1 at *
              generalize (bl x).length = bxl at *
              have hgt2 : ¬ (m1 : Int) < (r : Int) := by omega
              have hd : ((r : Int) == (m1 : Int)) = false := by simp; omega
              go_wp2
              go_roundw
              case rel =>
                obtain ⟨bv', q1, q2⟩ := HNW.out
                exact ⟨_, bv', rfl, by omega, by omega, q1, q2⟩
              case measure => simp [intOf]
    · obtain ⟨A, c, e, n⟩ := HV.out 0 (by omega) (by omega)
      have t0 : wr.cell? ⟨w.heap.size + 1 + 1, 0, none⟩ = some (.slice A (M 0).length c) := by
        have := HB.out.ft.cell (i := 0) (by omega)
        rw [e] at this; exact this
      have hN0 : (0 : Int) < (N : Int) := by omega
      have HNL := Lib.hid n
      clear e n
      go_wp2
      go_ret
      exact ⟨_, rfl, ⟨A, c, rfl, HNL.out.ge (by omega)⟩, HB.out.bel⟩
end Go.Proofs.Ytiflhimmieflpaa
