/- Walks: the reference's Bound. -/
import Derived.Test.YtiflhimmieflpaaW49
namespace Go.Proofs.Ytiflhimmieflpaa
open Go.RowKit Go.Maps

/-- The saw of sticks of one column. -/
def Sw.thin (s : Sw) : Sw := ⟨1, s.wide, s.kerf, s.across⟩
theorem Sw.Ok.thin {s : Sw} (h : s.Ok) : s.thin.Ok := ⟨by simp [Sw.thin], by simp [Sw.thin], h.w1, h.w2, h.k1, h.k2, h.a1, h.a2⟩
structure VB (w : World) (V : Vw) (s : Sw) (x : Int) (W : World) : Prop where
  fv : Blk W w.heap.size 46 #[.slice V.A V.n V.c, .slice V.A' V.n V.c', .slice V.K V.m V.d]
  fs : Blk W (w.heap.size + 1) 37 #[.int .i64 s.long, .int .i64 s.wide, .int .i64 s.kerf, .int .i64 s.across]
  ft : Blk W (w.heap.size + 1 + 1) 37 #[.int .i64 x, .int .i64 s.wide, .int .i64 s.kerf, .int .i64 s.across]
  bel : Below w.heap.size w W
theorem VB.new (w : World) (V : Vw) (s : Sw) : VB w V s s.long ((((w.alloc (.cells #[.slice V.A V.n V.c, .slice V.A' V.n V.c', .slice V.K V.m V.d] 46)).alloc (.cells #[.int .i64 s.long, .int .i64 s.wide, .int .i64 s.kerf, .int .i64 s.across] 37)).alloc (.cells #[.int .i64 s.long, .int .i64 s.wide, .int .i64 s.kerf, .int .i64 s.across] 37)).drew) :=
  ⟨((Blk.new w _ _ rfl).alloc _).alloc _, (Blk.new (w.alloc _) _ _ (by simp)).alloc _, Blk.new ((w.alloc _).alloc _) _ _ (by simp), (below_alloc' (below_alloc' (below_self _ _) _) _).drew⟩
theorem VB.set {w W : World} {V : Vw} {s : Sw} {x : Int} (h : VB w V s x W) (y : Int) : VB w V s y (W.setCell ⟨w.heap.size + 1 + 1, 0, none⟩ (.int .i64 y)) :=
  ⟨h.fv.far (p := ⟨w.heap.size + 1 + 1, 0, none⟩) (by simp; omega) _, h.fs.far (p := ⟨w.heap.size + 1 + 1, 0, none⟩) (by simp) _, h.ft.set_ 0 _, h.bel.setCell (p := ⟨w.heap.size + 1 + 1, 0, none⟩) (by simp; omega) _⟩
theorem VB.below {w W W' : World} {V : Vw} {s : Sw} {x : Int} (h : VB w V s x W) (hb : Below W.heap.size W W') : VB w V s x W' := ⟨blk_keep hb h.fv, blk_keep hb h.fs, blk_keep hb h.ft, below_then h.bel hb⟩
theorem VB.get {w W : World} {V : Vw} {s : Sw} {x : Int} (h : VB w V s x W) : (W.cell? ⟨w.heap.size, 0, none⟩ = some (.slice V.A V.n V.c) ∧ W.cell? ⟨w.heap.size, 1, none⟩ = some (.slice V.A' V.n V.c') ∧ W.cell? ⟨w.heap.size, 2, none⟩ = some (.slice V.K V.m V.d)) ∧
    W.cell? ⟨w.heap.size + 1, 0, none⟩ = some (.int .i64 s.long) ∧ W.cell? ⟨w.heap.size + 1 + 1, 0, none⟩ = some (.int .i64 x) ∧ W.cell? ⟨w.heap.size + 1 + 1, 1, none⟩ = some (.int .i64 s.wide) ∧ W.cell? ⟨w.heap.size + 1 + 1, 2, none⟩ = some (.int .i64 s.kerf) ∧ W.cell? ⟨w.heap.size + 1 + 1, 3, none⟩ = some (.int .i64 s.across) :=
  ⟨⟨h.fv.cell 0, h.fv.cell 1, h.fv.cell 2⟩, h.fs.cell 0, h.ft.cell 0, h.ft.cell 1, h.ft.cell 2, h.ft.cell 3⟩

set_option maxRecDepth 100000 in
set_option maxHeartbeats 4000000 in
theorem RefBound_any (V : Vw) (s : Sw) (S : Sawing) (l : Nat) (w : World) (h : V.At w) (hs : s.Ok) (hl : s.long = l) (hB : ∀ X : Nat, X < V.n → (refBlockL V s.thin X).length = bn S V.n X) (hn : V.n ≤ 30) :
    Calls Try.prog 41 #[V.val, s.val] w fun e w' => ∃ m c, e = .returned (.tuple #[.int .i64 m, .int .i64 c]) ∧ BInv (fun r => sumsAt S V.n l V.n r) l m c ∧ Below w.heap.size w w' := by
  have l1 := hs.l1
  have l2 := hs.l2
  rw [hl] at l1 l2
  have HV := Lib.hid h
  have HBL := Lib.hid (fun (X : Nat) (hX : X < V.n) W (hb : Below w.heap.size w W) => RefBlock_any V s.thin X W (h.below hb) hs.thin (by show (X : Int) + 1 ≤ V.n; omega))
  have HBN := Lib.hid hB
  have hvb := VB.new w V s
  rw [hl] at hvb
  have HVB := Lib.hid hvb
  have hfz := hvb.ft.frozen 0
  have hget : ∀ {W x}, VB w V s x W → W.cell? ⟨w.heap.size + 1, 0, none⟩ = some (.int .i64 l) := fun h => by have := h.get.2.1; rwa [hl] at this
  have HLC := Lib.hid (fun W x (h : VB w V s x W) => hget h)
  unfold Vw.val Sw.val at *
  rw [hl]
  clear h hs hB hvb hget
  go_enter Try.func41, Try.ntmps41
  go_wp2_with fail
  go_region
  have g0 := HVB.out.get.2.2.1
  generalize ((((w.alloc (.cells #[.slice V.A V.n V.c, .slice V.A' V.n V.c', .slice V.K V.m V.d] 46)).alloc (.cells #[.int .i64 l, .int .i64 s.wide, .int .i64 s.kerf, .int .i64 s.across] 37)).alloc (.cells #[.int .i64 l, .int .i64 s.wide, .int .i64 s.kerf, .int .i64 s.across] 37)).drew) = W0 at *
  go_wp2_with fail
  have H1 := Lib.hid (HVB.out.set 1)
  clear HVB hfz g0
  generalize W0.setCell ⟨w.heap.size + 1 + 1, 0, none⟩ (.int .i64 1) = W1 at *
  go_loopw [6, 7, 9] (fun mv cv rv wr => ∃ (r : Nat) (m c : Int), r ≤ l ∧ rv = .int .i64 r ∧ mv = .int .i64 m ∧ cv = .int .i64 c ∧ BInv (fun r => sumsAt S V.n l V.n r) r m c ∧ VB w V s 1 wr) (fun _ _ rv _ => l - (intOf rv).toNat)
  case atStart => exact ⟨0, 0, -1, Nat.zero_le _, rfl, rfl, rfl, .inl ⟨rfl, rfl, rfl⟩, H1.out⟩
  case round =>
    obtain ⟨r, m, c, hr, rfl, rfl, rfl, hinv, hvb⟩ := hrel
    have HI := Lib.hid hinv
    have HB := Lib.hid hvb
    have g1 := HLC.out _ _ hvb
    clear hinv hvb H1
    by_cases hlt : r < l
    · have S0 := Lib.hid (sumTo_first S V.n l r hlt)
      have HLT := Lib.hid hlt
      go_wp2_with fail
      obtain ⟨wo, rfl⟩ : ∃ wo : World, wo = wr := ⟨_, rfl⟩
      go_loopw [10, 11] (fun tv xv wr => ∃ (x : Nat), x ≤ 90 ∧ x % l = r ∧ tv = .int .i64 (sumTo S V.n l x r) ∧ xv = .int .i64 x ∧ VB w V s 1 wr) (fun _ xv _ => V.n - (intOf xv).toNat)
      case atStart => exact ⟨r, by omega, Nat.mod_eq_of_lt HLT.out, by rw [S0.out], rfl, HB.out⟩
      case round =>
        obtain ⟨x, hx9, hxm, rfl, rfl, hvb⟩ := hrel
        have HB2 := Lib.hid hvb
        have HXM := Lib.hid hxm
        have g2 := hvb.get
        have g3 := HLC.out _ _ hvb
        clear hvb hxm g1 HB
        by_cases hxn : x < V.n
        · have HNX := Lib.hid (sumTo_next S V.n l x r HXM.out (by omega) hxn)
          have HC := Lib.hid (HBL.out x hxn _ HB2.out.bel)
          have HN2 := Lib.hid (HBN.out x hxn)
          have hs1 := sumsAt_in S V.n l (min x V.n) r
          have hs2 := bn_le S V.n x
          have hsv : 0 ≤ sumTo S V.n l x r ∧ sumTo S V.n l x r ≤ 9060 := ⟨hs1.1, by unfold sumTo; omega⟩
          generalize sumTo S V.n l x r = sv at *
          generalize hbn : bn S V.n x = bx at *
          have k2 : IntKind.i64.wrap (sv + (bx : Int)) = sv + (bx : Int) := IntWalk.i64_in _ (by omega)
          have k3 : IntKind.i64.wrap ((x : Int) + (l : Int)) = (x : Int) + (l : Int) := IntWalk.i64_in _ (by omega)
          have hxn2 : (x : Int) < (V.n : Int) := by omega
          clear hs1 hbn
          go_wp2_with fail
          refine HC.out.mono ?_
          rintro e W2 ⟨v, rfl, hown, b2⟩
          rw [HN2.out] at hown
          obtain ⟨A, cc, rfl⟩ := own_slice hown
          have HB3 := Lib.hid (HB2.out.below b2)
          have g4 := HLC.out _ _ HB3.out
          clear hown b2 HC g2 g3
          go_wp2
          go_roundw
          case rel => exact ⟨x + l, by omega, by rw [Nat.add_mod_right]; exact HXM.out, by rw [HNX.out], by go_num, HB3.out⟩
          case measure => simp [intOf]; omega
        · have HE := Lib.hid (sumTo_end S V.n l x r (by omega))
          have hxn2 : ¬ (x : Int) < (V.n : Int) := by omega
          rw [HE.out]
          have hS : Hid (BInv (fun r => sumsAt S V.n l V.n r) r m c) := HI.out
          by_cases hc0 : c < 0
          · have HN3 := Lib.hid (HI.out.take (.inl hc0))
            generalize sumsAt S V.n l V.n r = sv at *
            go_wp2
            go_roundw
            case rel => exact ⟨r + 1, _, _, by omega, by go_num, rfl, rfl, HN3.out, HB2.out⟩
            case measure => simp [intOf]; omega
          · by_cases hm0 : sumsAt S V.n l V.n r < m
            · have HN3 := Lib.hid (HI.out.take (.inr hm0))
              generalize sumsAt S V.n l V.n r = sv at *
              go_wp2
              go_roundw
              case rel => exact ⟨r + 1, _, _, by omega, by go_num, rfl, rfl, HN3.out, HB2.out⟩
              case measure => simp [intOf]; omega
            · have HN3 := Lib.hid (HI.out.pass hc0 hm0)
              generalize sumsAt S V.n l V.n r = sv at *
              go_wp2
              go_roundw
              case rel => exact ⟨r + 1, _, _, by omega, by go_num, rfl, rfl, HN3.out, HB2.out⟩
              case measure => simp [intOf]; omega
    · obtain rfl : r = l := by omega
      go_wp2
      go_ret2
      exact ⟨m, c, rfl, HI.out, HB.out.bel⟩
end Go.Proofs.Ytiflhimmieflpaa
