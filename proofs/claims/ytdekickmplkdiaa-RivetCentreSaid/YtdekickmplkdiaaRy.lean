/- Walks: fewestWrong. -/
import Derived.Test.YtdekickmplkdiaaKf
import Derived.Test.YtdekickmplkdiaaKe
import Derived.Deep.CutRange
import Derived.Deep.AppendLies
namespace Go.Proofs.Ytdekickmplkdiaa
open Go.RowKit

/-- What fewestWrong's own boxes hold. -/
structure FW (w W : World) (ge gl cl n : Nat) (fan : Array Value) (d : Int) (L : List Int) : Prop where
  f : Blk W w.heap.size 26 fan
  d : Blk W (w.heap.size + 1) 3 #[.int .i64 d]
  x : Blk W ge 117 #[.func (.func 99) #[] #[], .func (.func 100) #[] #[], .func (.func 101) #[] #[]]
  l : Ints W (some ⟨gl, 0, none⟩) n L
  bel : Below w.heap.size w W
theorem FW.below {w W W' : World} {ge gl cl n : Nat} {fan : Array Value} {d : Int} {L : List Int} (h : FW w W ge gl cl n fan d L) (hb : Below W.heap.size W W') : FW w W' ge gl cl n fan d L := ⟨blk_keep hb h.f, blk_keep hb h.d, blk_keep hb h.x, h.l.below hb, below_then h.bel hb⟩
theorem FW.alloc {w W : World} {ge gl cl n : Nat} {fan : Array Value} {d : Int} {L : List Int} (h : FW w W ge gl cl n fan d L) (o : Obj) : FW w (W.alloc o) ge gl cl n fan d L := h.below (below_self W o)
theorem FW.drewd {w W : World} {ge gl cl n : Nat} {fan : Array Value} {d : Int} {L : List Int} (h : FW w W ge gl cl n fan d L) : FW w W.drew ge gl cl n fan d L := ⟨h.f, h.d, h.x, h.l, h.bel.drew⟩
theorem FW.allocd {w W : World} {ge gl cl n : Nat} {fan : Array Value} {d : Int} {L : List Int} (h : FW w W.drew ge gl cl n fan d L) (o : Obj) : FW w (W.alloc o).drew ge gl cl n fan d L := FW.alloc (W := W.drew) h o
theorem ints_far {w : World} {g n : Nat} {L : List Int} (h : Ints w (some ⟨g, 0, none⟩) n L) {p : Addr} (hp : g ≠ p.block) (u : Value) : Ints (w.setCell p u) (some ⟨g, 0, none⟩) n L :=
  ⟨h.1, fun h0 => by
    obtain ⟨b, off, e, hb, hc⟩ := h.2 h0
    simp only [Option.some.injEq, Addr.mk.injEq, and_true] at e
    obtain ⟨rfl, rfl⟩ := e
    refine ⟨_, _, rfl, by simpa using hb, fun j v hj => ?_⟩
    rw [World.cell?_setCell_other _ _ _ _ (by rintro rfl; exact hp rfl)]
    exact hc j v hj⟩
theorem FW.set {w W : World} {ge gl cl n : Nat} {fan : Array Value} {d : Int} {L : List Int} (h : FW w W ge gl cl n fan d L) {g : Nat} (hg : w.heap.size + 1 < g ∧ ge ≠ g ∧ gl ≠ g) {u : Value} : FW w (W.setCell ⟨g, 0, none⟩ u) ge gl cl n fan d L :=
  ⟨h.f.far (p := ⟨g, 0, none⟩) (by show w.heap.size ≠ g; omega) _, h.d.far (p := ⟨g, 0, none⟩) (by show w.heap.size + 1 ≠ g; omega) _, h.x.far (p := ⟨g, 0, none⟩) hg.2.1 _, ints_far h.l (p := ⟨g, 0, none⟩) hg.2.2 _, h.bel.setCell (p := ⟨g, 0, none⟩) (by show w.heap.size ≤ g; omega) _⟩
theorem FW.get {w W : World} {ge gl cl n : Nat} {fa fb fc fd sl : Value} {d : Int} {L : List Int} (h : FW w W ge gl cl n #[fa, fb, fc, fd, sl] d L) :
    W.cell? ⟨w.heap.size, 0, none⟩ = some fa ∧ W.cell? ⟨w.heap.size, 1, none⟩ = some fb ∧ W.cell? ⟨w.heap.size, 2, none⟩ = some fc ∧ W.cell? ⟨w.heap.size, 3, none⟩ = some fd ∧ W.cell? ⟨w.heap.size, 4, none⟩ = some sl ∧
    W.cell? ⟨ge, 0, none⟩ = some (.func (.func 99) #[] #[]) ∧ W.cell? ⟨ge, 1, none⟩ = some (.func (.func 100) #[] #[]) ∧ W.cell? ⟨ge, 2, none⟩ = some (.func (.func 101) #[] #[]) := ⟨h.f.cell 0, h.f.cell 1, h.f.cell 2, h.f.cell 3, h.f.cell 4, h.x.cell 0, h.x.cell 1, h.x.cell 2⟩
/-- With the two sums. -/
structure FS (w W : World) (ge gl cl n ga gp : Nat) (fan : Array Value) (d : Int) (L : List Int) (all parts : Int) : Prop where
  fw : FW w W ge gl cl n fan d L
  a : Blk W ga 3 #[.int .i64 all]
  p : Blk W gp 3 #[.int .i64 parts]
theorem FS.below {w W W' : World} {ge gl cl n ga gp : Nat} {fan : Array Value} {d : Int} {L : List Int} {all parts : Int} (h : FS w W ge gl cl n ga gp fan d L all parts) (hb : Below W.heap.size W W') : FS w W' ge gl cl n ga gp fan d L all parts := ⟨h.fw.below hb, blk_keep hb h.a, blk_keep hb h.p⟩
theorem ints_lt {w : World} {g n : Nat} {L : List Int} (h : Ints w (some ⟨g, 0, none⟩) n L) (h0 : 0 < n) : g < w.heap.size := by
  obtain ⟨b, off, e, hb, _⟩ := h.2 h0
  simp only [Option.some.injEq, Addr.mk.injEq, and_true] at e
  rw [e.1]; exact hb
theorem ints_grown {w w' : World} {g n : Nat} {L : List Int} {row : Option Nat} (h : Ints w (some ⟨g, 0, none⟩) n L) (hg : w.grownBy w' row) (hr : row ≠ some g) : Ints w' (some ⟨g, 0, none⟩) n L :=
  ⟨h.1, fun h0 => by
    obtain ⟨b, off, e, hb, hc⟩ := h.2 h0
    simp only [Option.some.injEq, Addr.mk.injEq, and_true] at e
    obtain ⟨rfl, rfl⟩ := e
    refine ⟨_, _, rfl, Nat.lt_of_lt_of_le hb hg.size, fun j v hj => ?_⟩
    rw [hg.cell_far _ hb (fun e => hr e.symm)]
    exact hc j v hj⟩
theorem FS.grown {w W W' : World} {ge gl cl n ga gp base k : Nat} {fan : Array Value} {d : Int} {L : List Int} {all parts : Int} {v : Value} {xs : List Value} (h : FS w W ge gl cl n ga gp fan d L all parts) (ho : W.ownsRow base 3 1 v k xs) (hg : W.grownBy W' v.ownBlock)
    (hlt : ga < base ∧ gp < base ∧ gl < base ∧ ge < base ∧ w.heap.size + 1 < base) : FS w W' ge gl cl n ga gp fan d L all parts := by
  have hne : ∀ g, g < base → v.ownBlock ≠ some g := fun g hg e => by have := (ho.lt g e).1; omega
  exact ⟨⟨h.fw.f.grown hg (hne _ (by omega)), h.fw.d.grown hg (hne _ (by omega)), h.fw.x.grown hg (hne _ hlt.2.2.2.1), ints_grown h.fw.l hg (hne _ hlt.2.2.1), h.fw.bel.grown hg h.fw.bel.size (fun q e => by have := (ho.lt q e.symm.symm).1; omega)⟩, h.a.grown hg (hne _ hlt.1), h.p.grown hg (hne _ hlt.2.1)⟩
theorem FS.store {w W : World} {ge gl cl n ga gp : Nat} {fan : Array Value} {d : Int} {L : List Int} {y z : Value} (h : FW w W ge gl cl n fan d L) (ha : Blk W ga 3 #[y]) (hp : Blk W gp 3 #[z]) (hne : ga ≠ gp) (h1 : w.heap.size + 1 < ga) (h2 : w.heap.size + 1 < gp) (h3 : ge ≠ ga) (h4 : ge ≠ gp) (h5 : gl ≠ ga) (h6 : gl ≠ gp) (all parts : Int) :
    FS w ((W.setCell ⟨ga, 0, none⟩ (.int .i64 all)).setCell ⟨gp, 0, none⟩ (.int .i64 parts)) ge gl cl n ga gp fan d L all parts :=
  ⟨⟨(h.f.far (p := ⟨ga, 0, none⟩) (by show w.heap.size ≠ ga; omega) _).far (p := ⟨gp, 0, none⟩) (by show w.heap.size ≠ gp; omega) _,
    (h.d.far (p := ⟨ga, 0, none⟩) (by show w.heap.size + 1 ≠ ga; omega) _).far (p := ⟨gp, 0, none⟩) (by show w.heap.size + 1 ≠ gp; omega) _,
    (h.x.far (p := ⟨ga, 0, none⟩) h3 _).far (p := ⟨gp, 0, none⟩) h4 _,
    ints_far (ints_far h.l (p := ⟨ga, 0, none⟩) h5 _) (p := ⟨gp, 0, none⟩) h6 _,
    (h.bel.setCell (p := ⟨ga, 0, none⟩) (by show w.heap.size ≤ ga; omega) _).setCell (p := ⟨gp, 0, none⟩) (by show w.heap.size ≤ gp; omega) _⟩,
   (ha.set_ 0 _).far (p := ⟨gp, 0, none⟩) hne _, (hp.far (p := ⟨ga, 0, none⟩) (fun e => hne e.symm) _).set_ 0 _⟩

set_option maxRecDepth 100000 in
set_option maxHeartbeats 4000000 in
theorem fewest_any (f : Fan) (d : Int) (A : Option Addr) (n c : Nat) (w : World) (hf : FanB f) (h : Gaps w A n f.gs) (h0 : 0 < n) (hd : 0 ≤ d) (_hd2 : d ≤ 360) :
    Calls Try.prog 77 #[.agg (fanA f A n c), .int .i64 d] w (ListRes w (fewestL f d)) := by
  have hl := h.len
  have hn := hf.n
  rw [hl] at hn
  have HL1 := Lib.hid leastEnd_any
  have HA := Lib.hid (fun W (hb : Below w.heap.size w W) => angles_any false f A n c W hf (h.below hb))
  have HP := Lib.hid (fun W => parts_any false f A n c W hf)
  have hLl : (anglesF false f).length = n := by simp [anglesF, hl]
  have HS := Lib.hid (fun B e W (hi : Ints W B n (anglesF false f)) => sum_any B n e (anglesF false f) W hi (by omega) (fun v hv => by have := angles_bd hf false v hv; omega))
  have HOB := Lib.hid (open_bd hf false)
  have HPB := Lib.hid (parts_bd hf false)
  have HMG := Lib.hid (fun m => show manyP f d m = decide (degF ((anglesF false f).sum - (greatL (anglesF false f) m).sum) (partsL false f) ≤ d) from rfl)
  have HM1 := Lib.hid (show manyL f d = manyGo (manyP f d) n 1 from by unfold manyL; rw [hl])
  have HW0 := Lib.hid (show wrongGo f d 0 = ([], 0) from rfl)
  have HWS := Lib.hid (fun k => show wrongGo f d (k + 1) = if manyL f d - (wrongGo f d k).1.length = 0 then wrongGo f d k else if decide (degF ((anglesF false f).sum - ((wrongGo f d k).2 + (anglesF false f).getD k 0 + (greatL ((anglesF false f).drop (k + 1)) (manyL f d - (wrongGo f d k).1.length - 1)).sum)) (partsL false f) ≤ d) = true then ((wrongGo f d k).1 ++ [(k : Int)], (wrongGo f d k).2 + (anglesF false f).getD k 0) else wrongGo f d k from rfl)
  have HWB := Lib.hid (fun k (hk : k ≤ n) => wrong_sum hf d k (by omega))
  have HWT := Lib.hid (fun k (h : manyL f d - (wrongGo f d k).1.length = 0) j (hj : k ≤ j) => wrong_stay h j hj)
  have HPA := Lib.hid (fun m (hm : n ≤ m) => manyP_all (f := f) hd m (by omega))
  have HFL := Lib.hid (show fewestL f d = (wrongGo f d n).1 from by unfold fewestL; rw [hl])
  have HAB := Lib.hid (angles_bd hf false)
  have hopen : openN false f = (anglesF false f).sum := rfl
  rw [hopen] at HOB
  clear hopen
  clear h
  unfold ListRes at HA
  rw [hLl] at HA
  generalize fewestL f d = FL at *
  generalize wrongGo f d = wg at *
  generalize manyL f d = many at *
  generalize manyP f d = P at *
  obtain ⟨fa, fb, fc, fd, gs⟩ := f
  simp only [endA, fanA] at *
  have F0 := Lib.hid ((Blk.new w 26 #[.int .i64 fa, .int .i64 fb, .int .i64 fc, .int .i64 fd, .slice A n c] rfl).alloc (.cells #[.int .i64 d] 3))
  have D0 := Lib.hid (Blk.new (w.alloc (.cells #[.int .i64 fa, .int .i64 fb, .int .i64 fc, .int .i64 fd, .slice A n c] 26)) 3 #[.int .i64 d] (g := w.heap.size + 1) (by simp))
  have B0 := Lib.hid (below_alloc' (below_self w (.cells #[.int .i64 fa, .int .i64 fb, .int .i64 fc, .int .i64 fd, .slice A n c] 26)) (.cells #[.int .i64 d] 3))
  go_enter Try.func77, Try.ntmps77
  go_wp2_with fail
  refine (HL1.out _).mono ?_
  rintro e W1 ⟨rfl, hb1⟩
  have F1 := Lib.hid (blk_keep hb1 F0.out)
  have D1 := Lib.hid (blk_keep hb1 D0.out)
  have B1 := Lib.hid (below_then B0.out hb1)
  have bs := below_self W1 (.cells #[Value.nilFunc, Value.nilFunc, Value.nilFunc] 117)
  have X1 := Lib.hid (Blk.new W1 117 #[Value.nilFunc, Value.nilFunc, Value.nilFunc] rfl)
  have F2 := Lib.hid (blk_keep bs F1.out)
  have D2 := Lib.hid (blk_keep bs D1.out)
  have B2 := Lib.hid (below_then B1.out bs)
  clear hb1 bs
  go_wp2_with (refine wpList_store_row rfl 117 _ _ rfl W1.heap.size _ rfl rfl 117 _ X1.out (by kernel_rfl) rfl (by kernel_rfl) ?_; have X2 := Lib.hid (X1.out.setRow #[.func (.func 99) #[] #[], .func (.func 100) #[] #[], .func (.func 101) #[] #[]]); have F3 := Lib.hid (F2.out.setRow_far (g' := W1.heap.size) (Nat.ne_of_lt F1.out.lt) #[.func (.func 99) #[] #[], .func (.func 100) #[] #[], .func (.func 101) #[] #[]]); have D3 := Lib.hid (D2.out.setRow_far (g' := W1.heap.size) (Nat.ne_of_lt D1.out.lt) #[.func (.func 99) #[] #[], .func (.func 100) #[] #[], .func (.func 101) #[] #[]]); have B3 := Lib.hid (below_setR B2.out (g := W1.heap.size) B1.out.size #[.func (.func 99) #[] #[], .func (.func 100) #[] #[], .func (.func 101) #[] #[]]); have hge := Lib.hid (show w.heap.size + 1 < W1.heap.size from D1.out.lt); generalize (W1.alloc (.cells #[Value.nilFunc, Value.nilFunc, Value.nilFunc] 117)).setRow W1.heap.size #[.func (.func 99) #[] #[], .func (.func 100) #[] #[], .func (.func 101) #[] #[]] = W2 at *; generalize W1.heap.size = ge at *; have x2 := end_get X2.out; have f2 := fan_get F3.out)
  refine (HA.out _ B3.out).mono ?_
  rintro e W3 ⟨v3, rfl, ho, hb3⟩
  obtain ⟨gl, cl, rfl⟩ := own_form ho h0
  have hcl := own_cap ho
  have hgl := Lib.hid (ho.lt gl rfl)
  have hgx := Lib.hid (show ge < gl from Nat.lt_of_lt_of_le X2.out.lt (ho.lt gl rfl).1)
  have W30 := Lib.hid (show FW w W3 ge gl cl n #[.int .i64 fa, .int .i64 fb, .int .i64 fc, .int .i64 fd, .slice A n c] d (anglesF false ⟨fa, fb, fc, fd, gs⟩) from ⟨blk_keep hb3 F3.out, blk_keep hb3 D3.out, blk_keep hb3 X2.out, ints_of_own ho, below_then B3.out hb3⟩)
  have hcl2 := hcl.2
  have hcl1 := hcl.1
  unfold maxLen at hcl2
  clear ho hb3 x2 f2 X2 F3 D3 B3 X1 F2 D2 B2 F1 D1 B1 F0 D0 B0 hcl
  have HB := Lib.hid (fun g (hg : W3.heap.size ≤ g) => show w.heap.size + 1 < g ∧ ge ≠ g ∧ gl ≠ g from by have h1 := hge.out; have h2 := hgl.out.2; have h3 := hgx.out; omega)
  have W30d := Lib.hid W30.out.drewd
  have HSd := Lib.hid (HS.out (some ⟨gl, 0, none⟩) cl)
  generalize anglesF false ⟨fa, fb, fc, fd, gs⟩ = L at *
  generalize partsL false ⟨fa, fb, fc, fd, gs⟩ = parts at *
  go_wp2_with fail
  go_cut [7, 8] from 7 to 24 (fun s7 s8 W => ∃ ga gp : Nat, s7 = .pointer (some ⟨ga, 0, none⟩) ∧ s8 = .pointer (some ⟨gp, 0, none⟩) ∧ FS w W ge gl cl n ga gp #[.int .i64 fa, .int .i64 fb, .int .i64 fc, .int .i64 fd, .slice A n c] d L L.sum parts)
  case first =>
    go_region_held3 (fun W => W.cell? ⟨w.heap.size, 0, none⟩ = some (.int .i64 fa) ∧ W.cell? ⟨w.heap.size, 1, none⟩ = some (.int .i64 fb) ∧ W.cell? ⟨w.heap.size, 2, none⟩ = some (.int .i64 fc) ∧ W.cell? ⟨w.heap.size, 3, none⟩ = some (.int .i64 fd) ∧ W.cell? ⟨w.heap.size, 4, none⟩ = some (.slice A n c) ∧ W.cell? ⟨ge, 0, none⟩ = some (.func (.func 99) #[] #[]) ∧ W.cell? ⟨ge, 1, none⟩ = some (.func (.func 100) #[] #[]) ∧ W.cell? ⟨ge, 2, none⟩ = some (.func (.func 101) #[] #[]))
      (first | with_reducible exact W30d.out.get | with_reducible exact (W30d.out.allocd _).get | with_reducible exact ((W30d.out.allocd _).allocd _).get | with_reducible exact FW.get E5.out | with_reducible exact FW.get (E5.out.alloc _) | with_reducible exact FW.get ((E5.out.alloc _).alloc _) | exact FW.get (FW.set E5.out (HB.out _ (by first | exact Nat.le_refl _ | exact Nat.le_succ _ | exact Hz5.out | exact Nat.le_succ_of_le Hz5.out))) | exact FW.get ((FW.set E5.out (HB.out _ (by first | exact Nat.le_refl _ | exact Nat.le_succ _ | exact Hz5.out | exact Nat.le_succ_of_le Hz5.out))).alloc _) | exact FW.get (FW.set (FW.set E5.out (HB.out _ (by first | exact Nat.le_refl _ | exact Nat.le_succ _ | exact Hz5.out | exact Nat.le_succ_of_le Hz5.out))) (HB.out _ (by first | exact Nat.le_refl _ | exact Nat.le_succ _ | exact Hz5.out | exact Nat.le_succ_of_le Hz5.out))))
      (first | (go_at_call 103; refine (HSd.out _ ?_).mono ?_; (first | with_reducible exact W30d.out.l | with_reducible exact (W30d.out.allocd _).l | with_reducible exact ((W30d.out.allocd _).allocd _).l); rintro e W4 ⟨rfl, hw4⟩; rw [hw4]; clear hw4) | (go_at_call 105; refine (HP.out _).mono ?_; rintro e W5 ⟨rfl, hb5⟩; (first | (have R1 : Hid (Blk W5 W3.heap.size 3 #[.int .i64 0]) := Lib.hid (blk_keep hb5 ((Blk.new W3.drew _ _ rfl).alloc _)); have R2 : Hid (Blk W5 (W3.heap.size + 1) 3 #[.int .i64 0]) := Lib.hid (blk_keep hb5 (Blk.new (W3.drew.alloc _) _ _ (by simp))); have y1 := R1.out.cell 0; have y2 := R2.out.cell 0; have z1 := R1.out.frozen 0; have z2 := R2.out.frozen 0; have n1 := R1.out.lt; have n2 := R2.out.lt) | (have R1 : Hid (Blk W5 W3.heap.size 3 #[.int .i64 0]) := Lib.hid (blk_keep hb5 (Blk.new W3.drew _ _ rfl)); have y1 := R1.out.cell 0; have z1 := R1.out.frozen 0; have n1 := R1.out.lt) | skip); have E5 : Hid (FW w W5 ge gl cl n #[.int .i64 fa, .int .i64 fb, .int .i64 fc, .int .i64 fd, .slice A n c] d L) := (by first | with_reducible exact Lib.hid (W30d.out.below hb5) | with_reducible exact Lib.hid ((W30d.out.allocd _).below hb5) | with_reducible exact Lib.hid (((W30d.out.allocd _).allocd _).below hb5)); have Hz5 : Hid (W3.heap.size ≤ W5.heap.size) := (by have := hb5.size; simp at this; unfold Hid; omega); clear hb5))
    all_goals
      go_wp2_with fail
      go_meet
      exact ⟨_, _, rfl, rfl, ⟨(by first | exact E5.out | exact (E5.out.alloc _) | exact ((E5.out.alloc _).alloc _) | exact (FW.set E5.out (HB.out _ (by first | exact Nat.le_refl _ | exact Nat.le_succ _ | exact Hz5.out | exact Nat.le_succ_of_le Hz5.out))) | exact ((FW.set E5.out (HB.out _ (by first | exact Nat.le_refl _ | exact Nat.le_succ _ | exact Hz5.out | exact Nat.le_succ_of_le Hz5.out))).alloc _) | exact (FW.set (FW.set E5.out (HB.out _ (by first | exact Nat.le_refl _ | exact Nat.le_succ _ | exact Hz5.out | exact Nat.le_succ_of_le Hz5.out))) (HB.out _ (by first | exact Nat.le_refl _ | exact Nat.le_succ _ | exact Hz5.out | exact Nat.le_succ_of_le Hz5.out)))), (by first | exact (R1.out.set_ 0 _).far (p := ⟨_, 0, none⟩) (by simp) _ | exact (R1.out.far (p := ⟨_, 0, none⟩) (by simp) _).set_ 0 _ | exact (R2.out.set_ 0 _).far (p := ⟨_, 0, none⟩) (by simp) _ | exact (R2.out.far (p := ⟨_, 0, none⟩) (by simp) _).set_ 0 _ | exact (R1.out.set_ 0 _).alloc _ | exact Blk.new _ _ _ (by simp) | exact (Blk.new _ _ _ (by simp)).alloc _), (by first | exact (R1.out.set_ 0 _).far (p := ⟨_, 0, none⟩) (by simp) _ | exact (R1.out.far (p := ⟨_, 0, none⟩) (by simp) _).set_ 0 _ | exact (R2.out.set_ 0 _).far (p := ⟨_, 0, none⟩) (by simp) _ | exact (R2.out.far (p := ⟨_, 0, none⟩) (by simp) _).set_ 0 _ | exact (R1.out.set_ 0 _).alloc _ | exact Blk.new _ _ _ (by simp) | exact (Blk.new _ _ _ (by simp)).alloc _)⟩⟩
  case rest =>
    obtain ⟨ga, gp, rfl, rfl, hM⟩ := hcut
    have M0 := Lib.hid hM
    clear hM
    have HLen := Lib.hid hLl
    have HGL := Lib.hid (fun m W A c (hi : Ints W A n L) (hm : m ≤ 1000) => greatest_any L A n c m W hi (by omega) hm)
    have HSU := Lib.hid (fun (xs : List Int) (B : Option Addr) e W (hx : ∀ v ∈ xs, v ∈ L) (hl : xs.length ≤ n) (hi : Ints W B xs.length xs) => sum_any B xs.length e xs W hi (by omega) (fun v hv => by have := HAB.out v (hx v hv); omega))
    have HEN := Lib.hid (fun x W (hx : 0 ≤ x) (hx2 : x ≤ L.sum) (hm : FS w W ge gl cl n ga gp #[.int .i64 fa, .int .i64 fb, .int .i64 fc, .int .i64 fd, .slice A n c] d L L.sum parts) => enough_any x L.sum parts d ga gp (w.heap.size + 1) W hm.a hm.p hm.fw.d hx hx2 (by have := HOB.out.2; omega) HPB.out.1 HPB.out.2)
    clear hLl
    have hmf : ∀ (fn : Fn) (first cap : Array Value) (w : World), (Instr.makeFunc fn first cap).run Try.prog w = .ok (.func fn first cap) w := fun _ _ _ _ => rfl
    go_wp2_with fail
    go_loopw [10] (fun i wr => ∃ m k : Nat, i = .int .i64 m ∧ 1 ≤ m ∧ m + k = n + 1 ∧ manyGo P k m = many ∧ FS w wr ge gl cl n ga gp #[.int .i64 fa, .int .i64 fb, .int .i64 fc, .int .i64 fd, .slice A n c] d L L.sum parts) (fun i _ => n + 1 - (intOf i).toNat)
    case atStart => exact ⟨1, n, rfl, by omega, by omega, HM1.out.symm, M0.out⟩
    case round =>
      obtain ⟨m, k, rfl, hm1, hmk, hgo, hM⟩ := hrel
      have Hgo := Lib.hid hgo
      have M1 := Lib.hid hM
      clear hgo hM M0
      have hgs := great_sum L m (fun v hv => (HAB.out v hv).1)
      have C1 := Lib.hid (HGL.out m _ (some ⟨gl, 0, none⟩) cl M1.out.fw.l (by omega))
      have HQ := Lib.hid (HMG.out m)
      have HSm := Lib.hid (fun B e W hi => HSU.out (greatL L m) B e W (fun v hv => great_mem hv) (by have := great_length L m; have := HLen.out; omega) hi)
      have HEm := Lib.hid (fun W hm => HEN.out _ W hgs.1 hgs.2 hm)
      unfold GreatRes at C1
      clear hgs
      generalize hG : greatL L m = G at *
      have HGe := Lib.hid hG
      clear hG
      generalize G.sum = gsum at *
      cases hq : P m
      · rw [hq] at HQ
        have hbool : decide (degF (L.sum - gsum) parts ≤ d) = false := HQ.out.symm
        have hmn : m < n := by
          rcases Nat.lt_or_ge m n with h | h
          · exact h
          · have := HPA.out m h; rw [hq] at this; cases this
        obtain ⟨k, rfl⟩ : ∃ k', k = k' + 1 := ⟨k - 1, by omega⟩
        have Hgo2 : Hid (manyGo P k (m + 1) = many) := by
          have := Hgo.out
          rw [manyGo, hq] at this
          exact this
        rw [hbool] at HEm
        have Hq := Lib.hid hq
        clear hq hbool
        go_wp2_with fail
        refine C1.out.mono ?_
        rintro e W5 ⟨B5, c5, rfl, hi5, hb5⟩
        have I5 := Lib.hid hi5
        have M5 := Lib.hid (M1.out.below hb5)
        clear hi5 hb5
        go_wp2_with fail
        refine (HSm.out _ _ _ I5.out).mono ?_
        rintro e W6 ⟨rfl, hw6⟩
        rw [hw6]
        clear hw6
        go_wp2_with fail
        refine (HEm.out _ M5.out).mono ?_
        rintro e W7 ⟨rfl, hb7⟩
        have M7 := Lib.hid (M5.out.below hb7)
        clear hb7
        go_wp2
        go_roundw
        case rel => exact ⟨m + 1, k, by go_num, by omega, by omega, Hgo2.out, M7.out⟩
        case measure => simp [intOf]; omega
      · rw [hq] at HQ
        have hbool : decide (degF (L.sum - gsum) parts ≤ d) = true := HQ.out.symm
        have Hm : Hid (m = many) := by
          have := Hgo.out
          cases k with
          | zero => exact this
          | succ k => rw [manyGo, if_pos hq] at this; exact this
        rw [hbool] at HEm
        have Hq := Lib.hid hq
        clear hq hbool
        go_wp2_with fail
        refine C1.out.mono ?_
        rintro e W5 ⟨B5, c5, rfl, hi5, hb5⟩
        have I5 := Lib.hid hi5
        have M5 := Lib.hid (M1.out.below hb5)
        clear hi5 hb5
        go_wp2_with fail
        refine (HSm.out _ _ _ I5.out).mono ?_
        rintro e W6 ⟨rfl, hw6⟩
        rw [hw6]
        clear hw6
        go_wp2_with fail
        refine (HEm.out _ M5.out).mono ?_
        rintro e W7 ⟨rfl, hb7⟩
        have M7 := Lib.hid (M5.out.below hb7)
        clear hb7
        obtain rfl : m = many := Hm.out
        clear Hm C1 HSm HEm HQ HGe Hgo M1 M5 I5 HM1 HMG HPA
        go_wp2_with fail
        have hlt7 : ga < W7.heap.size ∧ gp < W7.heap.size ∧ gl < W7.heap.size ∧ ge < W7.heap.size ∧ w.heap.size + 1 < W7.heap.size := ⟨M7.out.a.lt, M7.out.p.lt, ints_lt M7.out.fw.l h0, M7.out.fw.x.lt, M7.out.fw.d.lt⟩
        have Hlt := Lib.hid hlt7
        clear hlt7
        obtain ⟨i0, hi0, hz0, hz1, hz2⟩ := info_parts Try.infoInt
        go_loopw [11, 12, 13, 14, 15, 37] (fun s t _ _ _ i wr => ∃ (k : Nat) (v : Value), k ≤ n ∧ i = .int .i64 k ∧ s = v ∧ t = .int .i64 (wg k).2 ∧ wr.ownsRow W7.heap.size 3 1 v (wg k).1.length ((wg k).1.map (Value.int .i64)) ∧ W7.heap.size ≤ wr.heap.size ∧ FS w wr ge gl cl n ga gp #[.int .i64 fa, .int .i64 fb, .int .i64 fc, .int .i64 fd, .slice A n c] d L L.sum parts) (fun _ _ _ _ _ i _ => n - (intOf i).toNat)
        case atStart => exact ⟨0, _, Nat.zero_le _, rfl, rfl, by rw [HW0.out], by rw [HW0.out]; exact World.ownsRow_nil _ _ _ _, Nat.le_refl _, M7.out⟩
        case round =>
          obtain ⟨kk, v, hk, rfl, rfl, rfl, hown, hsz, hM⟩ := hrel
          have O8 := Lib.hid hown
          have Z8 := Lib.hid hsz
          have M8 := Lib.hid hM
          clear hown hsz hM M7
          have hwb := HWB.out kk hk
          by_cases hlt : kk < n
          · have hgl1 := M8.out.fw.l.at_ hlt
            obtain ⟨b', o', eb, hbb, hcell⟩ := hgl1
            simp only [Option.some.injEq, Addr.mk.injEq, and_true] at eb
            obtain ⟨rfl, rfl⟩ := eb
            rw [Nat.zero_add] at hcell
            have hst := HWS.out kk
            have hy := HAB.out (L.getD kk 0) (by
              have e : L.getD kk 0 = L[kk]'(by have := HLen.out; omega) := by simp [List.getD, show kk < L.length from by have := HLen.out; omega]
              rw [e]; exact List.getElem_mem _)
            have hsp := sum_split L kk (by have := HLen.out; omega)
            have hob := HOB.out.2
            obtain ⟨A8, c8, hv8⟩ := own_slice O8.out
            have Hst := Lib.hid hst
            have Hwb := Lib.hid hwb
            have Hsp := Lib.hid hsp
            clear hst hsp
            have HWTk := Lib.hid (HWT.out kk)
            generalize hwg : wg kk = s8 at *
            have Hwg := Lib.hid hwg
            clear hwg
            obtain ⟨l8, x8⟩ := s8
            simp only at O8 hwb hv8 Hst Hwb
            by_cases hleft : m - l8.length = 0
            · have hlm : m = l8.length := by have := hwb.2.2.2; omega
              have HE : Hid (FL = l8) := by unfold Hid; rw [HFL.out, HWTk.out hleft n hk]
              clear hleft
              subst hlm
              subst hv8
              go_wp2
              go_ret
              exact ⟨_, rfl, by rw [HE.out]; exact own_base O8.out (by have := Hlt.out; omega), M8.out.fw.bel⟩
            · subst hv8
              have hlen8 : l8.length < m := by omega
              obtain ⟨D, hD⟩ : ∃ D, D = L.drop (kk + 1) := ⟨_, rfl⟩
              have HD := Lib.hid hD.symm
              have HDl := Lib.hid (show D.length = n - (kk + 1) from by rw [hD, List.length_drop]; have := HLen.out; omega)
              have HDm := Lib.hid (show ∀ v ∈ D, v ∈ L from fun v hv => by rw [hD] at hv; exact List.mem_of_mem_drop hv)
              have HDs := Lib.hid (show (L.drop (kk + 1)).sum = D.sum from by rw [hD])
              have hst := Hst.out
              rw [← hD] at hst
              have Hst := Lib.hid hst
              clear hst hD
              have hcast : ((m - l8.length - 1 : Nat) : Int) = (m : Int) - (l8.length : Int) - 1 := by omega
              have hm41 : m ≤ 42 := by omega
              have hl8k := hwb.2.2.1
              have hne0 : ¬ (m : Int) - (l8.length : Int) = 0 := by omega
              have hne1 : ((m : Int) - (l8.length : Int) == 0) = false := by simpa using hne0
              have hkI : ((kk : Int) + 1) ≤ (n : Int) := by omega
              have hkI2 : ((kk : Int) + 1) ≤ (cl : Int) := by omega
              have hx8 := hwb.1
              by_cases hkc : kk + 1 = cl
              · have hI : Hid (Ints wr (some ⟨gl, 0, none⟩) 0 D) := by
                  unfold Hid; rw [List.eq_nil_of_length_eq_zero (show D.length = 0 by rw [HDl.out]; omega)]; exact ints_none _ _
                have HC := Lib.hid (greatest_any D (some ⟨gl, 0, none⟩) 0 0 (m - l8.length - 1) wr hI.out (by omega) (by omega))
                rw [hcast] at HC
                unfold GreatRes at HC
                have hgs := great_sum D (m - l8.length - 1) (fun v hv => (HAB.out v (HDm.out v hv)).1)
                have hsp := Hsp.out
                rw [HDs.out] at hsp
                have HS1 := Lib.hid (fun B e W hi => HSU.out (greatL D (m - l8.length - 1)) B e W (fun v hv => HDm.out v (great_mem hv)) (by have := great_length D (m - l8.length - 1); have := HDl.out; omega) hi)
                have hst := Hst.out
                generalize hG : greatL D (m - l8.length - 1) = G at *
                have HGe := Lib.hid hG
                clear hG
                generalize G.sum = gsum at *
                generalize L.getD kk 0 = y at *
                have hxb : x8 ≤ 615000000 ∧ gsum ≤ 615000000 := by have := HOB.out; have hw := Hwb.out; have hnn := sum_nonneg (a := D) (fun v hv => (HAB.out v (HDm.out v hv)).1); omega
                have hx8b := hxb.1
                have hall : 0 ≤ x8 + y + gsum ∧ x8 + y + gsum ≤ L.sum := by have hw := Hwb.out; omega
                have HS2 : Hid (∀ W : World, Calls Try.prog 103 #[.slice (some ⟨W.heap.size, 0, none⟩) 3 3] (W.alloc (.cells #[.int .i64 x8, .int .i64 y, .int .i64 gsum] 3)) fun e w' => e = .returned (.int .i64 (x8 + y + gsum)) ∧ w' = W.alloc (.cells #[.int .i64 x8, .int .i64 y, .int .i64 gsum] 3)) := fun W => by
                  have h := sum_any (some ⟨W.heap.size, 0, none⟩) 3 3 [x8, y, gsum] (W.alloc (.cells #[.int .i64 x8, .int .i64 y, .int .i64 gsum] 3)) (ints_new3 W x8 y gsum 3 rfl) (by omega) (by intro v hv; simp only [List.mem_cons, List.not_mem_nil, or_false] at hv; have := hwb.1; rcases hv with rfl | rfl | rfl <;> omega)
                  have e : [x8, y, gsum].sum = x8 + y + gsum := by simp only [List.sum_cons, List.sum_nil]; omega
                  rw [e] at h; exact h
                have HE2 := Lib.hid (fun W hm => HEN.out (x8 + y + gsum) W hall.1 hall.2 hm)
                have Hst := Lib.hid hst
                clear hst hsp hxb hall hgs hcast
                cases hen : decide (degF (L.sum - (x8 + y + gsum)) parts ≤ d)
                · rw [hen] at HE2
                  have Hen := Lib.hid hen
                  clear hen
                  go_wp2_with fail
                  refine HC.out.mono ?_
                  rintro e W11 ⟨B11, c11, rfl, hi11, hb11⟩
                  have I11 := Lib.hid hi11
                  have M11 := Lib.hid (M8.out.below hb11)
                  have Bl11 := Lib.hid hb11
                  clear hi11 hb11
                  go_wp2_with fail
                  refine (HS1.out _ _ _ I11.out).mono ?_
                  rintro e W12 ⟨rfl, hw12⟩
                  rw [hw12]
                  clear hw12
                  go_wp2_with fail
                  refine (HS2.out _).mono ?_
                  rintro e W12 ⟨rfl, hw12⟩
                  rw [hw12]
                  clear hw12
                  go_wp2_with fail
                  refine (HE2.out _ (M11.out.below (below_self _ _))).mono ?_
                  rintro e W13 ⟨rfl, hb13⟩
                  have M13 := Lib.hid ((M11.out.below (below_self _ _)).below hb13)
                  have B13 := Lib.hid (below_then (below_then Bl11.out (below_self _ _)) hb13)
                  have hen := Hen.out
                  clear hb13
                  have Hst2 : Hid (wg (kk + 1) = (l8, x8)) := by unfold Hid; rw [Hst.out, if_neg hleft, if_neg (by rw [hen]; simp)]
                  have O9 : Hid (W13.ownsRow W7.heap.size 3 1 (.slice A8 l8.length c8) (wg (kk + 1)).1.length ((wg (kk + 1)).1.map (Value.int .i64))) := by unfold Hid; rw [Hst2.out]; exact ownsRow_below O8.out B13.out
                  have Z14 : Hid (W7.heap.size ≤ W13.heap.size) := by unfold Hid; have h1 := Z8.out; have h2 := B13.out.size; omega
                  have hs14 : Hid (.int .i64 x8 = Value.int .i64 (wg (kk + 1)).2) := by unfold Hid; rw [Hst2.out]
                  clear hen
                  go_wp2
                  go_roundw
                  case rel => exact ⟨kk + 1, _, by omega, by go_num, rfl, hs14.out, O9.out, Z14.out, M13.out⟩
                  case measure => simp [intOf]; omega
                · rw [hen] at HE2
                  have Hen := Lib.hid hen
                  clear hen
                  go_wp2_with fail
                  refine HC.out.mono ?_
                  rintro e W11 ⟨B11, c11, rfl, hi11, hb11⟩
                  have I11 := Lib.hid hi11
                  have M11 := Lib.hid (M8.out.below hb11)
                  have Bl11 := Lib.hid hb11
                  clear hi11 hb11
                  go_wp2_with fail
                  refine (HS1.out _ _ _ I11.out).mono ?_
                  rintro e W12 ⟨rfl, hw12⟩
                  rw [hw12]
                  clear hw12
                  go_wp2_with fail
                  refine (HS2.out _).mono ?_
                  rintro e W12 ⟨rfl, hw12⟩
                  rw [hw12]
                  clear hw12
                  go_wp2_with fail
                  refine (HE2.out _ (M11.out.below (below_self _ _))).mono ?_
                  rintro e W13 ⟨rfl, hb13⟩
                  have M13 := Lib.hid ((M11.out.below (below_self _ _)).below hb13)
                  have B13 := Lib.hid (below_then (below_then Bl11.out (below_self _ _)) hb13)
                  have hen := Hen.out
                  clear hb13
                  have hi8 : Hid (((l8 ++ [(kk : Int)]).map (Value.int .i64)) = l8.map (Value.int .i64) ++ [.int .i64 (kk : Int)]) := by simp [Hid]
                  have Hst2 : Hid (wg (kk + 1) = (l8 ++ [(kk : Int)], x8 + y)) := by unfold Hid; rw [Hst.out, if_neg hleft, if_pos hen]
                  have O9 := Lib.hid (ownsRow_below O8.out B13.out)
                  have hkn2 := Lib.hid (show l8.length ≤ kk from Hwb.out.2.2.1)
                  clear hen
                  go_wp2_with (at_builtin; refine wpList_append_any rfl _ _ 54 rfl W7.heap.size 3 i0 (.int .i64 0) 1 8 Try.underlying54 hi0 hz0 hz1 hz2 rfl (by decide) _ l8.length _ rfl (O9.out.alloc _) (some ⟨W13.heap.size, 0, none⟩) 1 1 [.int .i64 (kk : Int)] rfl (ints_new1 W13 (kk : Int) _ rfl) ?cf1 ?cf2 ?cf3 ?cf4 ?_)
                  case cf1 => intro u hu; rw [List.mem_singleton.1 hu]; rfl
                  case cf2 => have := hkn2.out; unfold maxLen; omega
                  case cf3 => have := hkn2.out; omega
                  case cf4 => have h1 := Z8.out; have h2 := B13.out.size; simp; omega
                  intro v' W14 hown14 hgrow
                  have O14 : Hid (W14.ownsRow W7.heap.size 3 1 v' (wg (kk + 1)).1.length ((wg (kk + 1)).1.map (Value.int .i64))) := by unfold Hid; rw [Hst2.out]; simp only [List.length_append, List.length_cons, List.length_nil, Nat.zero_add]; rw [hi8.out]; exact hown14
                  have M14 := Lib.hid ((M13.out.below (below_self W13 (.cells #[.int .i64 (kk : Int)] 3))).grown (O9.out.alloc _) hgrow Hlt.out)
                  have Z14 : Hid (W7.heap.size ≤ W14.heap.size) := by unfold Hid; have h1 := Z8.out; have h2 := B13.out.size; have h3 := hgrow.size; simp at h3; omega
                  clear hown14 hgrow
                  have hs14 : Hid (.int .i64 (x8 + y) = Value.int .i64 (wg (kk + 1)).2) := by unfold Hid; rw [Hst2.out]
                  go_wp2
                  go_roundw
                  case rel => exact ⟨kk + 1, _, by omega, by go_num, rfl, hs14.out, O14.out, Z14.out, M14.out⟩
                  case measure => simp [intOf]; omega
              · have hI : Hid (Ints wr (some ⟨gl, kk + 1, none⟩) (n - (kk + 1)) D) := by
                  have := ints_drop M8.out.fw.l (k := kk + 1) (by omega)
                  rw [HD.out] at this
                  rw [Nat.zero_add] at this
                  exact this
                have HC := Lib.hid (greatest_any D (some ⟨gl, kk + 1, none⟩) (n - (kk + 1)) (cl - (kk + 1)) (m - l8.length - 1) wr hI.out (by omega) (by omega))
                rw [hcast] at HC
                unfold GreatRes at HC
                have hgs := great_sum D (m - l8.length - 1) (fun v hv => (HAB.out v (HDm.out v hv)).1)
                have hsp := Hsp.out
                rw [HDs.out] at hsp
                have HS1 := Lib.hid (fun B e W hi => HSU.out (greatL D (m - l8.length - 1)) B e W (fun v hv => HDm.out v (great_mem hv)) (by have := great_length D (m - l8.length - 1); have := HDl.out; omega) hi)
                have hst := Hst.out
                generalize hG : greatL D (m - l8.length - 1) = G at *
                have HGe := Lib.hid hG
                clear hG
                generalize G.sum = gsum at *
                generalize L.getD kk 0 = y at *
                have hxb : x8 ≤ 615000000 ∧ gsum ≤ 615000000 := by have := HOB.out; have hw := Hwb.out; have hnn := sum_nonneg (a := D) (fun v hv => (HAB.out v (HDm.out v hv)).1); omega
                have hx8b := hxb.1
                have hall : 0 ≤ x8 + y + gsum ∧ x8 + y + gsum ≤ L.sum := by have hw := Hwb.out; omega
                have HS2 : Hid (∀ W : World, Calls Try.prog 103 #[.slice (some ⟨W.heap.size, 0, none⟩) 3 3] (W.alloc (.cells #[.int .i64 x8, .int .i64 y, .int .i64 gsum] 3)) fun e w' => e = .returned (.int .i64 (x8 + y + gsum)) ∧ w' = W.alloc (.cells #[.int .i64 x8, .int .i64 y, .int .i64 gsum] 3)) := fun W => by
                  have h := sum_any (some ⟨W.heap.size, 0, none⟩) 3 3 [x8, y, gsum] (W.alloc (.cells #[.int .i64 x8, .int .i64 y, .int .i64 gsum] 3)) (ints_new3 W x8 y gsum 3 rfl) (by omega) (by intro v hv; simp only [List.mem_cons, List.not_mem_nil, or_false] at hv; have := hwb.1; rcases hv with rfl | rfl | rfl <;> omega)
                  have e : [x8, y, gsum].sum = x8 + y + gsum := by simp only [List.sum_cons, List.sum_nil]; omega
                  rw [e] at h; exact h
                have HE2 := Lib.hid (fun W hm => HEN.out (x8 + y + gsum) W hall.1 hall.2 hm)
                have Hst := Lib.hid hst
                clear hst hsp hxb hall hgs hcast
                cases hen : decide (degF (L.sum - (x8 + y + gsum)) parts ≤ d)
                · rw [hen] at HE2
                  have Hen := Lib.hid hen
                  clear hen
                  go_wp2_with fail
                  refine HC.out.mono ?_
                  rintro e W11 ⟨B11, c11, rfl, hi11, hb11⟩
                  have I11 := Lib.hid hi11
                  have M11 := Lib.hid (M8.out.below hb11)
                  have Bl11 := Lib.hid hb11
                  clear hi11 hb11
                  go_wp2_with fail
                  refine (HS1.out _ _ _ I11.out).mono ?_
                  rintro e W12 ⟨rfl, hw12⟩
                  rw [hw12]
                  clear hw12
                  go_wp2_with fail
                  refine (HS2.out _).mono ?_
                  rintro e W12 ⟨rfl, hw12⟩
                  rw [hw12]
                  clear hw12
                  go_wp2_with fail
                  refine (HE2.out _ (M11.out.below (below_self _ _))).mono ?_
                  rintro e W13 ⟨rfl, hb13⟩
                  have M13 := Lib.hid ((M11.out.below (below_self _ _)).below hb13)
                  have B13 := Lib.hid (below_then (below_then Bl11.out (below_self _ _)) hb13)
                  have hen := Hen.out
                  clear hb13
                  have Hst2 : Hid (wg (kk + 1) = (l8, x8)) := by unfold Hid; rw [Hst.out, if_neg hleft, if_neg (by rw [hen]; simp)]
                  have O9 : Hid (W13.ownsRow W7.heap.size 3 1 (.slice A8 l8.length c8) (wg (kk + 1)).1.length ((wg (kk + 1)).1.map (Value.int .i64))) := by unfold Hid; rw [Hst2.out]; exact ownsRow_below O8.out B13.out
                  have Z14 : Hid (W7.heap.size ≤ W13.heap.size) := by unfold Hid; have h1 := Z8.out; have h2 := B13.out.size; omega
                  have hs14 : Hid (.int .i64 x8 = Value.int .i64 (wg (kk + 1)).2) := by unfold Hid; rw [Hst2.out]
                  clear hen
                  go_wp2
                  go_roundw
                  case rel => exact ⟨kk + 1, _, by omega, by go_num, rfl, hs14.out, O9.out, Z14.out, M13.out⟩
                  case measure => simp [intOf]; omega
                · rw [hen] at HE2
                  have Hen := Lib.hid hen
                  clear hen
                  go_wp2_with fail
                  refine HC.out.mono ?_
                  rintro e W11 ⟨B11, c11, rfl, hi11, hb11⟩
                  have I11 := Lib.hid hi11
                  have M11 := Lib.hid (M8.out.below hb11)
                  have Bl11 := Lib.hid hb11
                  clear hi11 hb11
                  go_wp2_with fail
                  refine (HS1.out _ _ _ I11.out).mono ?_
                  rintro e W12 ⟨rfl, hw12⟩
                  rw [hw12]
                  clear hw12
                  go_wp2_with fail
                  refine (HS2.out _).mono ?_
                  rintro e W12 ⟨rfl, hw12⟩
                  rw [hw12]
                  clear hw12
                  go_wp2_with fail
                  refine (HE2.out _ (M11.out.below (below_self _ _))).mono ?_
                  rintro e W13 ⟨rfl, hb13⟩
                  have M13 := Lib.hid ((M11.out.below (below_self _ _)).below hb13)
                  have B13 := Lib.hid (below_then (below_then Bl11.out (below_self _ _)) hb13)
                  have hen := Hen.out
                  clear hb13
                  have hi8 : Hid (((l8 ++ [(kk : Int)]).map (Value.int .i64)) = l8.map (Value.int .i64) ++ [.int .i64 (kk : Int)]) := by simp [Hid]
                  have Hst2 : Hid (wg (kk + 1) = (l8 ++ [(kk : Int)], x8 + y)) := by unfold Hid; rw [Hst.out, if_neg hleft, if_pos hen]
                  have O9 := Lib.hid (ownsRow_below O8.out B13.out)
                  have hkn2 := Lib.hid (show l8.length ≤ kk from Hwb.out.2.2.1)
                  clear hen
                  go_wp2_with (at_builtin; refine wpList_append_any rfl _ _ 54 rfl W7.heap.size 3 i0 (.int .i64 0) 1 8 Try.underlying54 hi0 hz0 hz1 hz2 rfl (by decide) _ l8.length _ rfl (O9.out.alloc _) (some ⟨W13.heap.size, 0, none⟩) 1 1 [.int .i64 (kk : Int)] rfl (ints_new1 W13 (kk : Int) _ rfl) ?cg1 ?cg2 ?cg3 ?cg4 ?_)
                  case cg1 => intro u hu; rw [List.mem_singleton.1 hu]; rfl
                  case cg2 => have := hkn2.out; unfold maxLen; omega
                  case cg3 => have := hkn2.out; omega
                  case cg4 => have h1 := Z8.out; have h2 := B13.out.size; simp; omega
                  intro v' W14 hown14 hgrow
                  have O14 : Hid (W14.ownsRow W7.heap.size 3 1 v' (wg (kk + 1)).1.length ((wg (kk + 1)).1.map (Value.int .i64))) := by unfold Hid; rw [Hst2.out]; simp only [List.length_append, List.length_cons, List.length_nil, Nat.zero_add]; rw [hi8.out]; exact hown14
                  have M14 := Lib.hid ((M13.out.below (below_self W13 (.cells #[.int .i64 (kk : Int)] 3))).grown (O9.out.alloc _) hgrow Hlt.out)
                  have Z14 : Hid (W7.heap.size ≤ W14.heap.size) := by unfold Hid; have h1 := Z8.out; have h2 := B13.out.size; have h3 := hgrow.size; simp at h3; omega
                  clear hown14 hgrow
                  have hs14 : Hid (.int .i64 (x8 + y) = Value.int .i64 (wg (kk + 1)).2) := by unfold Hid; rw [Hst2.out]
                  go_wp2
                  go_roundw
                  case rel => exact ⟨kk + 1, _, by omega, by go_num, rfl, hs14.out, O14.out, Z14.out, M14.out⟩
                  case measure => simp [intOf]; omega
          · obtain rfl : kk = n := by omega
            have HE : Hid (FL = (wg kk).1) := HFL.out
            obtain ⟨A8, c8, rfl⟩ := own_slice O8.out
            go_wp2
            go_ret
            exact ⟨_, rfl, by rw [HE.out]; exact own_base O8.out (by have := Hlt.out; omega), M8.out.fw.bel⟩
end Go.Proofs.Ytdekickmplkdiaa
