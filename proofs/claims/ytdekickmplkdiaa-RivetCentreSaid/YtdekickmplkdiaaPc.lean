/- Walks: the law of the centre: to its first loop. -/
import Derived.Test.YtdekickmplkdiaaPb
import Derived.Test.YtdekickmplkdiaaKb
import Derived.Deep.CutRange
import Derived.Deep.CutBlock
namespace Go.Proofs.Ytdekickmplkdiaa
open Go.RowKit

structure Lc (p : Prop) : Prop where
  out : p
theorem five_get {W : World} {g : Nat} {t : TypeId} {x0 x1 x2 x3 x4 : Value} (h : Blk W g t #[x0, x1, x2, x3, x4]) : W.cell? ⟨g, 0, none⟩ = some x0 ∧ W.cell? ⟨g, 1, none⟩ = some x1 ∧ W.cell? ⟨g, 2, none⟩ = some x2 ∧ W.cell? ⟨g, 3, none⟩ = some x3 ∧ W.cell? ⟨g, 4, none⟩ = some x4 := ⟨h.cell 0, h.cell 1, h.cell 2, h.cell 3, h.cell 4⟩
theorem five_a {W : World} {g : Nat} {t : TypeId} {x0 x1 x2 x3 x4 : Value} (h : Blk W g t #[x0, x1, x2, x3, x4]) : W.cell? ⟨g, 0, none⟩ = some x0 ∧ W.cell? ⟨g, 1, none⟩ = some x1 := ⟨h.cell 0, h.cell 1⟩
theorem five_b {W : World} {g : Nat} {t : TypeId} {x0 x1 x2 x3 x4 : Value} (h : Blk W g t #[x0, x1, x2, x3, x4]) : W.cell? ⟨g, 2, none⟩ = some x2 ∧ W.cell? ⟨g, 3, none⟩ = some x3 ∧ W.cell? ⟨g, 4, none⟩ = some x4 := ⟨h.cell 2, h.cell 3, h.cell 4⟩
/-- Five cells of a box. -/
def S5 (g : Nat) (x0 x1 x2 x3 x4 : Value) (W : World) : Prop := W.cell? ⟨g, 0, none⟩ = some x0 ∧ W.cell? ⟨g, 1, none⟩ = some x1 ∧ W.cell? ⟨g, 2, none⟩ = some x2 ∧ W.cell? ⟨g, 3, none⟩ = some x3 ∧ W.cell? ⟨g, 4, none⟩ = some x4
/-- A round's boxes, ahead of its stick's. -/
structure CS (w W : World) (v : Array Value) (g5 : Option Nat) : Prop where
  p : Blk W w.heap.size 104 v
  bel : Below w.heap.size w W
  h5 : ∀ g, g5 = some g → Blk W g 106 #[.int .i64 0, .int .i64 0, .int .i64 0, .int .i64 0, .int .i64 0] ∧ w.heap.size < g
theorem CS.below {w W W' : World} {v : Array Value} {g5 : Option Nat} (h : CS w W v g5) (hb : Below W.heap.size W W') : CS w W' v g5 := ⟨blk_keep hb h.p, below_then h.bel hb, fun g e => ⟨blk_keep hb (h.h5 g e).1, (h.h5 g e).2⟩⟩
theorem CS.new5 {w W : World} {v : Array Value} (h : CS w W v none) : CS w (W.alloc (.cells #[.int .i64 0, .int .i64 0, .int .i64 0, .int .i64 0, .int .i64 0] 106)) v (some W.heap.size) :=
  have k := h.below (below_self W (.cells #[.int .i64 0, .int .i64 0, .int .i64 0, .int .i64 0, .int .i64 0] 106))
  ⟨k.p, k.bel, fun g e => (by cases e; exact ⟨Blk.new W _ _ rfl, h.p.lt⟩)⟩
theorem CS.start (w : World) (v : Array Value) : CS w (w.alloc (.cells v 104)).drew v none := ⟨Blk.new w _ _ rfl, (below_self w _).drew, fun g e => (by cases e)⟩
/-- And with it. -/
structure DS (w W : World) (g : Nat) (s : Array Value) : Prop where
  q : Blk W g 106 s
  bel : Below w.heap.size w W
  lt : w.heap.size < g
theorem DS.below {w W W' : World} {g : Nat} {s : Array Value} (h : DS w W g s) (hb : Below W.heap.size W W') : DS w W' g s := ⟨blk_keep hb h.q, below_then h.bel hb, h.lt⟩
theorem CS.put {w W : World} {v : Array Value} {g : Nat} (h : CS w W v (some g)) (cs : Array Value) : DS w (W.setRow g cs) g cs :=
  have h5 := h.h5 g rfl
  ⟨h5.1.setRow cs, below_setR h.bel (by omega) cs, h5.2⟩
theorem ones5i (a b c d e : Int) : (#[Value.int .i64 a, Value.int .i64 b, Value.int .i64 c, Value.int .i64 d, Value.int .i64 e]).all (·.oneCell') = true := all_oneCell_toArray (cs := [.int .i64 a, .int .i64 b, .int .i64 c, .int .i64 d, .int .i64 e]) (fun v hv => by simp only [List.mem_cons, List.not_mem_nil, or_false] at hv; rcases hv with rfl | rfl | rfl | rfl | rfl <;> rfl)
theorem flatT_snoc (l : List Stk) (s : Stk) : flatT l ++ s.cells = flatT (l ++ [s]) := by simp [flatT]
theorem cellsT_one (y : Stk) : ∀ u ∈ y.cells, u.oneCell' = true := by
  intro u hu
  simp only [Stk.cells, List.mem_cons, List.not_mem_nil, or_false] at hu
  rcases hu with rfl | rfl | rfl | rfl | rfl <;> rfl
theorem stk_new (W : World) (y : Stk) (t : TypeId) : Reads (W.alloc (.cells #[.int .i64 y.wl, .int .i64 y.wh, .int .i64 y.tl, .int .i64 y.th, .int .i64 y.pl] t)) 5 (some ⟨W.heap.size, 0, none⟩) 1 y.cells := reads_of_blk (Blk.new W _ _ rfl) rfl rfl
theorem stks_own {w : World} {base n c : Nat} {A : Option Addr} {xs : List Stk} {t : TypeId} (h : w.ownsRow base t 5 (.slice A n c) n (flatT xs)) : Stks w A n xs := by
  refine ⟨h.1, fun hn => ?_⟩
  obtain ⟨g, cap, e⟩ := own_form h hn
  simp only [Value.slice.injEq, true_and] at e
  obtain ⟨rfl, rfl⟩ := e
  refine ⟨g, 0, rfl, (h.lt g rfl).2, fun j u hj => ?_⟩
  have hjl : j < n * 5 := by have := (List.getElem?_eq_some_iff.1 hj).1; have := h.1; omega
  rw [Nat.zero_add, h.cellAt j hjl, hj]
theorem bal_small {l : List Stk} (h : StkB l) (h0 : 0 < l.length) (u : Bool) : (0 ≤ (balL u l).1 ∧ (balL u l).1 ≤ 600000000) ∧ 1 ≤ (balL u l).2 ∧ (balL u l).2 ≤ 120000 := by
  obtain ⟨-, ⟨T, -, e⟩, hD⟩ := bal_ext u h h0
  have := ratT_bd h T
  rw [e] at this
  omega
theorem low_small {l : List Stk} (h : StkB l) (h0 : 0 < l.length) (u : Bool) : ∃ x y, lowR (balL u l) = (x, y) ∧ 0 ≤ x ∧ x ≤ 600000000 ∧ 1 ≤ y ∧ y ≤ 120000 := by
  have q := bal_small h h0 u
  obtain ⟨g, L⟩ := low_b q.1.1 q.2.1
  generalize lowR (balL u l) = z at *
  obtain ⟨x, y⟩ := z
  have h1 := L.xM
  have h2 := L.yM
  have h3 := L.x0
  have h4 := L.y1
  simp only at h1 h2 h3 h4
  exact ⟨x, y, rfl, h3, by omega, h4, by omega⟩
/-- All that the law asks, when there are sticks. -/
theorem centre_facts {ys xs : List Int} {n : Nat} (h : ∀ v ∈ ys, Byte v) (hx : ∀ v ∈ xs, Byte v) (hn : n ≤ 11) (h0 : 0 < n) : ∃ x0 y0 x1 y1, lowR (balL false (stTo ys n)) = (x0, y0) ∧ lowR (balL true (stTo ys n)) = (x1, y1) ∧
    (0 ≤ x0 ∧ x0 ≤ 600000000 ∧ 1 ≤ y0 ∧ y0 ≤ 120000) ∧ (0 ≤ x1 ∧ x1 ≤ 600000000 ∧ 1 ≤ y1 ∧ y1 ≤ 120000) ∧
    (x0 * denC (trW ys xs) n ≤ trN ys xs n * y0 ∧ trN ys xs n * y1 ≤ x1 * denC (trW ys xs) n) ∧
    (∀ P : Nat → Bool, (∀ i < n, P i = decide ((stF ys i).pl * y0 ≤ x0)) → numC (wP P (stTo ys n)) (stTo ys n) n * y0 = x0 * denC (wP P (stTo ys n)) n) ∧
    (∀ P : Nat → Bool, (∀ i < n, P i = !(decide ((stF ys i).pl * y1 ≤ x1))) → numC (wP P (stTo ys n)) (stTo ys n) n * y1 = x1 * denC (wP P (stTo ys n)) n) ∧
    (∀ far, Byte far → ∃ x2 y2 x3 y3, lowR (balL false (stTo ys n ++ [stMore far (plM ys n)])) = (x2, y2) ∧ lowR (balL true (stTo ys n ++ [stMore far (plM ys n)])) = (x3, y3) ∧
      (0 ≤ x2 ∧ x2 ≤ 600000000 ∧ 1 ≤ y2 ∧ y2 ≤ 120000) ∧ (0 ≤ x3 ∧ x3 ≤ 600000000 ∧ 1 ≤ y3 ∧ y3 ≤ 120000) ∧ x0 * y2 ≤ x2 * y0 ∧ x1 * y3 ≤ x3 * y1) := by
  have hb := stTo_B h hn
  have hl := stTo_len ys n
  have h0' : 0 < (stTo ys n).length := by rw [hl]; exact h0
  obtain ⟨x0, y0, e0, b0⟩ := low_small hb h0' false
  obtain ⟨x1, y1, e1, b1⟩ := low_small hb h0' true
  obtain ⟨g0, g1, -, -, hc, p0, p1⟩ := centre_both hb h0'
  have hin := hc _ (tr_in (xs := xs) h hx n)
  simp only [e0, e1, hl] at hin p0 p1
  rw [trN_num ys xs (Nat.le_refl n)] at hin
  refine ⟨x0, y0, x1, y1, e0, e1, b0, b1, hin, fun P hP => p0 P fun i hi => by rw [stTo_at ys hi]; exact hP i hi, fun P hP => p1 P fun i hi => by rw [stTo_at ys hi]; exact hP i hi, fun far hf => ?_⟩
  have hb' := more_B h hn hf
  obtain ⟨x2, y2, e2, b2⟩ := low_small hb' (by simp) false
  obtain ⟨x3, y3, e3, b3⟩ := low_small hb' (by simp) true
  have m0 := centre_more hb hb' h0' (more_far ys n hf) false
  have m1 := centre_more hb hb' h0' (more_far ys n hf) true
  rw [e0, e2] at m0
  rw [e1, e3] at m1
  exact ⟨x2, y2, x3, y3, e2, e3, b2, b3, m0, m1⟩
set_option maxRecDepth 100000 in
set_option maxHeartbeats 8000000 in
noncomputable def centre_1 (ys : List Int) (S : Option Addr) (n c : Nat) (xs : List Int) (B : Option Addr) (m dc : Nat) (far : Int) (w : World) (h0 : Hid (Fives w S n ys)) (hB0 : Hid (Bytes w B m xs)) (hn0 : Hid (n ≤ maxLen)) (hm0 : Hid (m ≤ maxLen)) (hf0 : Hid (Byte far)) : PSigma fun G : Prop => Lc G → Calls Try.prog 16 #[.slice S n c, .slice B m dc, .int .u8 far] w fun e w' => e = .returned (.bool true) ∧ Below w.heap.size w w' := by
  apply PSigma.mk
  case snd =>
    intro kG
    have h := h0.out
    have hB := hB0.out
    have hm := hm0.out
    have hn := hn0.out
    have hf := hf0.out
    obtain ⟨i0, hi, hz0, hz1, hz2⟩ := info_parts Try.infoStk
    have HSP := Lib.hid (fun a b W => lawSpan_any a b W)
    have HK := Lib.hid (fun W => known_any W)
    unfold KnownRes at HK
    obtain ⟨nn, hnn⟩ : ∃ z, min n 11 = z := ⟨_, rfl⟩
    have hnn1 : nn ≤ 11 := by omega
    have hnn2 : nn ≤ n := by omega
    have HNN := Lib.hid hnn
    have HCL := Lib.hid (fun k (hk : k < n) => h.cell hk)
    have HBY := Lib.hid (fun k j => fy_bd h.b k j)
    have HBO := Lib.hid (fun i (hi : i ≤ 1000) W (hb : Below w.heap.size w W) => byteOf_any xs i B m dc W (hB.below hb) hm (by omega))
    have HXB := Lib.hid (fun i => byteAt_bd hB.b i)
    have HSF := Lib.hid (fun k => show stF ys k = ⟨1 + fy ys k 0, 1 + fy ys k 0 + fy ys k 1 % 40, 1 + fy ys k 2 % 80, 1 + fy ys k 2 % 80 + fy ys k 3 % 20, 7 * fy ys k 4⟩ from rfl)
    have HST := Lib.hid (fun k => show stTo ys (k + 1) = stTo ys k ++ [stF ys k] from rfl)
    have HS0 : Hid (stTo ys 0 = []) := rfl
    have HDB := Lib.hid (fun k (hk : k ≤ 11) => And.intro (den_bd h.b hB.b k) (plM_bd h.b k))
    have HTW := Lib.hid (fun k => show trW ys xs k = insL (stF ys k).wl (stF ys k).wh (byteAt xs (2 * k)) from rfl)
    have HTT := Lib.hid (fun k => show trT ys xs k = insL (stF ys k).tl (stF ys k).th (byteAt xs (2 * k + 1)) from rfl)
    have HDW := Lib.hid (fun k => show denC (trW ys xs) (k + 1) = denC (trW ys xs) k + trW ys xs k from rfl)
    have HDT := Lib.hid (fun k => show denC (trT ys xs) (k + 1) = denC (trT ys xs) k + trT ys xs k from rfl)
    have HDN := Lib.hid (fun k => show trN ys xs (k + 1) = trN ys xs k + trW ys xs k * (stF ys k).pl from rfl)
    have HDP := Lib.hid (fun k => show plM ys (k + 1) = max (plM ys k) (stF ys k).pl from rfl)
    have Hw0 : Hid (denC (trW ys xs) 0 = 0) := rfl
    have Ht0 : Hid (denC (trT ys xs) 0 = 0) := rfl
    have Hn0 : Hid (trN ys xs 0 = 0) := rfl
    have Hp0 : Hid (plM ys 0 = 0) := rfl
    have HLN := Lib.hid (stTo_len ys)
    have HAT := Lib.hid (fun k (hk : k < nn) => stTo_at ys hk)
    have HSB := Lib.hid (stTo_B h.b hnn1)
    have HSI := Lib.hid (sums_in h.b hB.b nn)
    have HMB := Lib.hid (more_B h.b hnn1 hf)
    have HFB := Lib.hid (fun k => stF_bd h.b k)
    have HCF := Lib.hid (fun h0 => centre_facts h.b hB.b hnn1 h0)
    clear h hB hm hf
    generalize denC (trW ys xs) = dW at *
    generalize denC (trT ys xs) = dT at *
    generalize trN ys xs = dN at *
    generalize plM ys = dP at *
    generalize trW ys xs = tW at *
    generalize trT ys xs = tT at *
    generalize stTo ys = sTo at *
    generalize stF ys = sF at *
    generalize fy ys = fv at *
    have O0 := Lib.hid (World.ownsRow_lit (base := w.heap.size) (e := 106) (size := 5) w #[] 0 (Nat.le_refl _) (by decide) rfl)
    have B0 := Lib.hid (below_self w (.cells #[] 106))
    go_enter Try.func16, Try.ntmps16
    go_wp2_with fail
    generalize w.alloc (.cells #[] 106) = wz at *
    go_loopw [7, 8, 9, 10, 11, 12] (fun s7 s8 s9 s10 s11 s12 wr => ∃ (k : Nat) (A' : Option Addr) (c' : Nat), k ≤ nn ∧ s7 = .slice A' k c' ∧ s8 = .int .i64 (dW k) ∧ s9 = .int .i64 (dT k) ∧ s10 = .int .i64 (dN k) ∧ s11 = .int .i64 (dP k) ∧ s12 = .int .i64 k ∧ wr.ownsRow w.heap.size 106 5 (.slice A' k c') k (flatT (sTo k)) ∧ Below w.heap.size w wr) (fun _ _ _ _ _ s12 _ => nn - (intOf s12).toNat)
    case atStart => exact ⟨0, _, _, Nat.zero_le _, rfl, by rw [Hw0.out], by rw [Ht0.out], by rw [Hn0.out], by rw [Hp0.out], rfl, by rw [HS0.out]; exact O0.out, B0.out⟩
    case round =>
      obtain ⟨k, A', c', hk, rfl, rfl, rfl, rfl, rfl, rfl, hown, hBk⟩ := hrel
      have OW := Lib.hid hown
      have BK := Lib.hid hBk
      clear hown hBk O0 B0
      have HNK := Lib.hid hn
      go_upto_region 3 with fail
      go_cut [43] from 36 to 43 (fun s W => s = .bool (decide (k < nn)) ∧ wr = W)
      case first =>
        by_cases g1 : k < n
        · by_cases g2 : (k : Int) < 11
          · have g3 : k < nn := by omega
            have g4 : decide (k < nn) = true := decide_eq_true g3
            go_wp2_with fail
            go_meet
            exact ⟨by rw [g4], rfl⟩
          · have g3 : ¬ k < nn := by omega
            have g4 : decide (k < nn) = false := decide_eq_false g3
            go_wp2_with fail
            go_meet
            exact ⟨by rw [g4], rfl⟩
        · have g3 : ¬ k < nn := by omega
          have g4 : decide (k < nn) = false := decide_eq_false g3
          go_wp2_with fail
          go_meet
          exact ⟨by rw [g4], rfl⟩
      case rest =>
      obtain ⟨rfl, rfl⟩ := hcut
      by_cases hlt : k < nn
      · rw [decide_eq_true hlt]
        have hkn : k < n := by omega
        have hk11 : (k : Int) < 11 := by omega
        obtain ⟨b, off, hA, hbl, hcell⟩ := HCL.out k hkn
        subst hA
        have y0 := (BK.out.cell (lt_of_cell (hcell 0 (by omega)))).trans (hcell 0 (by omega))
        have y1 := (BK.out.cell (lt_of_cell (hcell 1 (by omega)))).trans (hcell 1 (by omega))
        have y2 := (BK.out.cell (lt_of_cell (hcell 2 (by omega)))).trans (hcell 2 (by omega))
        have y3 := (BK.out.cell (lt_of_cell (hcell 3 (by omega)))).trans (hcell 3 (by omega))
        have y4 := (BK.out.cell (lt_of_cell (hcell 4 (by omega)))).trans (hcell 4 (by omega))
        simp only [Nat.add_zero] at y0
        have z0 := HBY.out k 0
        have z1 := HBY.out k 1
        have z2 := HBY.out k 2
        have z3 := HBY.out k 3
        have z4 := HBY.out k 4
        have hsf := Lib.hid (HSF.out k)
        clear hcell hbl
        generalize fv k 0 = v0 at *
        generalize fv k 1 = v1 at *
        generalize fv k 2 = v2 at *
        generalize fv k 3 = v3 at *
        generalize fv k 4 = v4 at *
        have C0 := Lib.hid (CS.start wr #[.int .u8 v0, .int .u8 v1, .int .u8 v2, .int .u8 v3, .int .u8 v4])
        have t1 : v1.tmod 40 = v1 % 40 := Int.tmod_eq_emod_of_nonneg (by omega)
        have t2 : v2.tmod 80 = v2 % 80 := Int.tmod_eq_emod_of_nonneg (by omega)
        have t3 : v3.tmod 20 = v3 % 20 := Int.tmod_eq_emod_of_nonneg (by omega)
        have a0 : IntKind.i64.wrap v0 = v0 := IntWalk.i64_in _ (by omega)
        have a1 : IntKind.i64.wrap v1 = v1 := IntWalk.i64_in _ (by omega)
        have a2 : IntKind.i64.wrap v2 = v2 := IntWalk.i64_in _ (by omega)
        have a3 : IntKind.i64.wrap v3 = v3 := IntWalk.i64_in _ (by omega)
        have a4 : IntKind.i64.wrap v4 = v4 := IntWalk.i64_in _ (by omega)
        have a5 : IntKind.i64.wrap (v1 % 40) = v1 % 40 := IntWalk.i64_in _ (by omega)
        have a6 : IntKind.i64.wrap (v2 % 80) = v2 % 80 := IntWalk.i64_in _ (by omega)
        have a7 : IntKind.i64.wrap (v3 % 20) = v3 % 20 := IntWalk.i64_in _ (by omega)
        have a8 : IntKind.i64.wrap (1 + v0) = 1 + v0 := IntWalk.i64_in _ (by omega)
        have a9 : IntKind.i64.wrap (1 + v0 + v1 % 40) = 1 + v0 + v1 % 40 := IntWalk.i64_in _ (by omega)
        have a10 : IntKind.i64.wrap (1 + v2 % 80) = 1 + v2 % 80 := IntWalk.i64_in _ (by omega)
        have a11 : IntKind.i64.wrap (1 + v2 % 80 + v3 % 20) = 1 + v2 % 80 + v3 % 20 := IntWalk.i64_in _ (by omega)
        have a12 : IntKind.i64.wrap (7 * v4) = 7 * v4 := IntWalk.i64_in _ (by omega)
        go_upto_region 6 with fail
        go_cut [14] from 50 to 84 (fun s14 W => ∃ g : Nat, s14 = .pointer (some ⟨g, 0, none⟩) ∧ DS wr W g #[.int .i64 (1 + v0), .int .i64 (1 + v0 + v1 % 40), .int .i64 (1 + v2 % 80), .int .i64 (1 + v2 % 80 + v3 % 20), .int .i64 (7 * v4)])
        case first =>
          have S0 : S5 wr.heap.size (.int .u8 v0) (.int .u8 v1) (.int .u8 v2) (.int .u8 v3) (.int .u8 v4) _ := five_get C0.out.p
          refine wp_region_untl (S := S5 wr.heap.size (.int .u8 v0) (.int .u8 v1) (.int .u8 v2) (.int .u8 v3) (.int .u8 v4)) [] (by kernel_rfl) S0 (fun _ => ?_)
          clear y0 y1 y2 y3 y4
          generalize (wr.alloc (.cells #[.int .u8 v0, .int .u8 v1, .int .u8 v2, .int .u8 v3, .int .u8 v4] 104)).drew = wd at *
          refine untlTake (i := 0) 50 (v := ?v1) rfl (by kernel_rfl) (by kernel_rfl) (by kernel_rfl) (by kernel_rfl) (by kernel_rfl) (by kernel_rfl) (fun _ _ _ h => h) (Or.inl ⟨by kernel_rfl, ?y1⟩) (by assumption) ?r1
          case y1 => (intro w hSw; obtain ⟨g0, g1, g2, g3, g4⟩ := hSw; go_simp; try with_reducible rfl)
          refine untlTake (i := 1) 51 (v := ?v2) rfl (by kernel_rfl) (by kernel_rfl) (by kernel_rfl) (by kernel_rfl) (by kernel_rfl) (by kernel_rfl) (fun _ _ _ h => h) (Or.inl ⟨by kernel_rfl, ?y2⟩) (by assumption) ?r2
          case y2 => (intro w hSw; obtain ⟨g0, g1, g2, g3, g4⟩ := hSw; go_simp; try with_reducible rfl)
          refine untlTake (i := 2) 52 (v := ?v3) rfl (by kernel_rfl) (by kernel_rfl) (by kernel_rfl) (by kernel_rfl) (by kernel_rfl) (by kernel_rfl) (fun _ _ _ h => h) (Or.inl ⟨by kernel_rfl, ?y3⟩) (by assumption) ?r3
          case y3 => (intro w hSw; obtain ⟨g0, g1, g2, g3, g4⟩ := hSw; go_simp; try with_reducible rfl)
          refine untlTake (i := 3) 53 (v := ?v4) rfl (by kernel_rfl) (by kernel_rfl) (by kernel_rfl) (by kernel_rfl) (by kernel_rfl) (by kernel_rfl) (fun _ _ _ h => h) (Or.inl ⟨by kernel_rfl, ?y4⟩) (by assumption) ?r4
          case y4 => (intro w hSw; obtain ⟨g0, g1, g2, g3, g4⟩ := hSw; go_simp; try with_reducible rfl)
          simp only [Act.put, List.setIfInBounds_toArray, List.set_cons_zero, List.set_cons_succ]
          refine untlTake (i := 4) 54 (v := ?v5) rfl (by kernel_rfl) (by kernel_rfl) (by kernel_rfl) (by kernel_rfl) (by kernel_rfl) (by kernel_rfl) (fun _ _ _ h => h) (Or.inl ⟨by kernel_rfl, ?y5⟩) (by assumption) ?r5
          case y5 => (intro w hSw; obtain ⟨g0, g1, g2, g3, g4⟩ := hSw; go_simp; try with_reducible rfl)
          refine untlTake (i := 5) 55 (v := ?v6) rfl (by kernel_rfl) (by kernel_rfl) (by kernel_rfl) (by kernel_rfl) (by kernel_rfl) (by kernel_rfl) (fun _ _ _ h => h) (Or.inl ⟨by kernel_rfl, ?y6⟩) (by assumption) ?r6
          case y6 => (intro w hSw; obtain ⟨g0, g1, g2, g3, g4⟩ := hSw; go_simp; try with_reducible rfl)
          refine untlTake (i := 6) 56 (v := ?v7) rfl (by kernel_rfl) (by kernel_rfl) (by kernel_rfl) (by kernel_rfl) (by kernel_rfl) (by kernel_rfl) (fun _ _ _ h => h) (Or.inl ⟨by kernel_rfl, ?y7⟩) (by assumption) ?r7
          case y7 => (intro w hSw; obtain ⟨g0, g1, g2, g3, g4⟩ := hSw; go_simp; try with_reducible rfl)
          refine untlTake (i := 7) 57 (v := ?v8) rfl (by kernel_rfl) (by kernel_rfl) (by kernel_rfl) (by kernel_rfl) (by kernel_rfl) (by kernel_rfl) (fun _ _ _ h => h) (Or.inl ⟨by kernel_rfl, ?y8⟩) (by assumption) ?r8
          case y8 => (intro w hSw; obtain ⟨g0, g1, g2, g3, g4⟩ := hSw; go_simp; try with_reducible rfl)
          simp only [Act.put, List.setIfInBounds_toArray, List.set_cons_zero, List.set_cons_succ]
          refine untlTake (i := 8) 58 (v := ?v9) rfl (by kernel_rfl) (by kernel_rfl) (by kernel_rfl) (by kernel_rfl) (by kernel_rfl) (by kernel_rfl) (fun _ _ _ h => h) (Or.inl ⟨by kernel_rfl, ?y9⟩) (by assumption) ?r9
          case y9 => (intro w hSw; obtain ⟨g0, g1, g2, g3, g4⟩ := hSw; go_simp; try with_reducible rfl)
          refine untlTake (i := 9) 59 (v := ?v10) rfl (by kernel_rfl) (by kernel_rfl) (by kernel_rfl) (by kernel_rfl) (by kernel_rfl) (by kernel_rfl) (fun _ _ _ h => h) (Or.inl ⟨by kernel_rfl, ?y10⟩) (by assumption) ?r10
          case y10 => (intro w hSw; obtain ⟨g0, g1, g2, g3, g4⟩ := hSw; go_simp; try with_reducible rfl)
          refine untlTake (i := 10) 60 (v := ?v11) rfl (by kernel_rfl) (by kernel_rfl) (by kernel_rfl) (by kernel_rfl) (by kernel_rfl) (by kernel_rfl) (fun _ _ _ h => h) (Or.inl ⟨by kernel_rfl, ?y11⟩) (by assumption) ?r11
          case y11 => (intro w hSw; obtain ⟨g0, g1, g2, g3, g4⟩ := hSw; go_simp; try with_reducible rfl)
          refine untlTake (i := 11) 61 (v := ?v12) rfl (by kernel_rfl) (by kernel_rfl) (by kernel_rfl) (by kernel_rfl) (by kernel_rfl) (by kernel_rfl) (fun _ _ _ h => h) (Or.inl ⟨by kernel_rfl, ?y12⟩) (by assumption) ?r12
          case y12 => (intro w hSw; obtain ⟨g0, g1, g2, g3, g4⟩ := hSw; go_simp; try with_reducible rfl)
          simp only [Act.put, List.setIfInBounds_toArray, List.set_cons_zero, List.set_cons_succ]
          refine untlTake (i := 12) 62 (v := ?v13) rfl (by kernel_rfl) (by kernel_rfl) (by kernel_rfl) (by kernel_rfl) (by kernel_rfl) (by kernel_rfl) (fun _ _ _ h => h) (Or.inl ⟨by kernel_rfl, ?y13⟩) (by assumption) ?r13
          case y13 => (intro w hSw; obtain ⟨g0, g1, g2, g3, g4⟩ := hSw; go_simp; try with_reducible rfl)
          refine untlTake (i := 14) 64 (v := ?v14) rfl (by kernel_rfl) (by kernel_rfl) (by kernel_rfl) (by kernel_rfl) (by kernel_rfl) (by kernel_rfl) (fun _ _ _ h => h) (Or.inl ⟨by kernel_rfl, ?y14⟩) (by assumption) ?r14
          case y14 => (intro w hSw; obtain ⟨g0, g1, g2, g3, g4⟩ := hSw; go_simp; try with_reducible rfl)
          refine untlTake (i := 15) 65 (v := ?v15) rfl (by kernel_rfl) (by kernel_rfl) (by kernel_rfl) (by kernel_rfl) (by kernel_rfl) (by kernel_rfl) (fun _ _ _ h => h) (Or.inl ⟨by kernel_rfl, ?y15⟩) (by assumption) ?r15
          case y15 => (intro w hSw; obtain ⟨g0, g1, g2, g3, g4⟩ := hSw; go_simp; try with_reducible rfl)
          refine untlTake (i := 16) 66 (v := ?v16) rfl (by kernel_rfl) (by kernel_rfl) (by kernel_rfl) (by kernel_rfl) (by kernel_rfl) (by kernel_rfl) (fun _ _ _ h => h) (Or.inl ⟨by kernel_rfl, ?y16⟩) (by assumption) ?r16
          case y16 => (intro w hSw; obtain ⟨g0, g1, g2, g3, g4⟩ := hSw; go_simp; try with_reducible rfl)
          simp only [Act.put, List.setIfInBounds_toArray, List.set_cons_zero, List.set_cons_succ]
          refine untlTake (i := 17) 67 (v := ?v17) rfl (by kernel_rfl) (by kernel_rfl) (by kernel_rfl) (by kernel_rfl) (by kernel_rfl) (by kernel_rfl) (fun _ _ _ h => h) (Or.inl ⟨by kernel_rfl, ?y17⟩) (by assumption) ?r17
          case y17 => (intro w hSw; obtain ⟨g0, g1, g2, g3, g4⟩ := hSw; go_simp; try with_reducible rfl)
          refine untlTake (i := 18) 68 (v := ?v18) rfl (by kernel_rfl) (by kernel_rfl) (by kernel_rfl) (by kernel_rfl) (by kernel_rfl) (by kernel_rfl) (fun _ _ _ h => h) (Or.inl ⟨by kernel_rfl, ?y18⟩) (by assumption) ?r18
          case y18 => (intro w hSw; obtain ⟨g0, g1, g2, g3, g4⟩ := hSw; go_simp; try with_reducible rfl)
          refine untlTake (i := 19) 69 (v := ?v19) rfl (by kernel_rfl) (by kernel_rfl) (by kernel_rfl) (by kernel_rfl) (by kernel_rfl) (by kernel_rfl) (fun _ _ _ h => h) (Or.inl ⟨by kernel_rfl, ?y19⟩) (by assumption) ?r19
          case y19 => (intro w hSw; obtain ⟨g0, g1, g2, g3, g4⟩ := hSw; go_simp; try with_reducible rfl)
          refine untlTake (i := 20) 70 (v := ?v20) rfl (by kernel_rfl) (by kernel_rfl) (by kernel_rfl) (by kernel_rfl) (by kernel_rfl) (by kernel_rfl) (fun _ _ _ h => h) (Or.inl ⟨by kernel_rfl, ?y20⟩) (by assumption) ?r20
          case y20 => (intro w hSw; obtain ⟨g0, g1, g2, g3, g4⟩ := hSw; go_simp; try with_reducible rfl)
          simp only [Act.put, List.setIfInBounds_toArray, List.set_cons_zero, List.set_cons_succ]
          refine untlTake (i := 21) 71 (v := ?v21) rfl (by kernel_rfl) (by kernel_rfl) (by kernel_rfl) (by kernel_rfl) (by kernel_rfl) (by kernel_rfl) (fun _ _ _ h => h) (Or.inl ⟨by kernel_rfl, ?y21⟩) (by assumption) ?r21
          case y21 => (intro w hSw; obtain ⟨g0, g1, g2, g3, g4⟩ := hSw; go_simp; try with_reducible rfl)
          refine untlTake (i := 22) 72 (v := ?v22) rfl (by kernel_rfl) (by kernel_rfl) (by kernel_rfl) (by kernel_rfl) (by kernel_rfl) (by kernel_rfl) (fun _ _ _ h => h) (Or.inl ⟨by kernel_rfl, ?y22⟩) (by assumption) ?r22
          case y22 => (intro w hSw; obtain ⟨g0, g1, g2, g3, g4⟩ := hSw; go_simp; try with_reducible rfl)
          refine untlTake (i := 23) 73 (v := ?v23) rfl (by kernel_rfl) (by kernel_rfl) (by kernel_rfl) (by kernel_rfl) (by kernel_rfl) (by kernel_rfl) (fun _ _ _ h => h) (Or.inl ⟨by kernel_rfl, ?y23⟩) (by assumption) ?r23
          case y23 => (intro w hSw; obtain ⟨g0, g1, g2, g3, g4⟩ := hSw; go_simp; try with_reducible rfl)
          refine untlTake (i := 24) 74 (v := ?v24) rfl (by kernel_rfl) (by kernel_rfl) (by kernel_rfl) (by kernel_rfl) (by kernel_rfl) (by kernel_rfl) (fun _ _ _ h => h) (Or.inl ⟨by kernel_rfl, ?y24⟩) (by assumption) ?r24
          case y24 => (intro w hSw; obtain ⟨g0, g1, g2, g3, g4⟩ := hSw; go_simp; try with_reducible rfl)
          simp only [Act.put, List.setIfInBounds_toArray, List.set_cons_zero, List.set_cons_succ]
          refine untlTake (i := 25) 75 (v := ?v25) rfl (by kernel_rfl) (by kernel_rfl) (by kernel_rfl) (by kernel_rfl) (by kernel_rfl) (by kernel_rfl) (fun _ _ _ h => h) (Or.inl ⟨by kernel_rfl, ?y25⟩) (by assumption) ?r25
          case y25 => (intro w hSw; obtain ⟨g0, g1, g2, g3, g4⟩ := hSw; go_simp; try with_reducible rfl)
          refine untlTake (i := 26) 76 (v := ?v26) rfl (by kernel_rfl) (by kernel_rfl) (by kernel_rfl) (by kernel_rfl) (by kernel_rfl) (by kernel_rfl) (fun _ _ _ h => h) (Or.inl ⟨by kernel_rfl, ?y26⟩) (by assumption) ?r26
          case y26 => (intro w hSw; obtain ⟨g0, g1, g2, g3, g4⟩ := hSw; go_simp; try with_reducible rfl)
          refine untlTake (i := 27) 77 (v := ?v27) rfl (by kernel_rfl) (by kernel_rfl) (by kernel_rfl) (by kernel_rfl) (by kernel_rfl) (by kernel_rfl) (fun _ _ _ h => h) (Or.inl ⟨by kernel_rfl, ?y27⟩) (by assumption) ?r27
          case y27 => (intro w hSw; obtain ⟨g0, g1, g2, g3, g4⟩ := hSw; go_simp; try with_reducible rfl)
          refine untlTake (i := 28) 78 (v := ?v28) rfl (by kernel_rfl) (by kernel_rfl) (by kernel_rfl) (by kernel_rfl) (by kernel_rfl) (by kernel_rfl) (fun _ _ _ h => h) (Or.inl ⟨by kernel_rfl, ?y28⟩) (by assumption) ?r28
          case y28 => (intro w hSw; obtain ⟨g0, g1, g2, g3, g4⟩ := hSw; go_simp; try with_reducible rfl)
          simp only [Act.put, List.setIfInBounds_toArray, List.set_cons_zero, List.set_cons_succ]
          refine untlTake (i := 30) 80 (v := ?v29) rfl (by kernel_rfl) (by kernel_rfl) (by kernel_rfl) (by kernel_rfl) (by kernel_rfl) (by kernel_rfl) (fun _ _ _ h => h) (Or.inl ⟨by kernel_rfl, ?y29⟩) (by assumption) ?r29
          case y29 => (intro w hSw; obtain ⟨g0, g1, g2, g3, g4⟩ := hSw; go_simp; try with_reducible rfl)
          refine untlTake (i := 31) 81 (v := ?v30) rfl (by kernel_rfl) (by kernel_rfl) (by kernel_rfl) (by kernel_rfl) (by kernel_rfl) (by kernel_rfl) (fun _ _ _ h => h) (Or.inl ⟨by kernel_rfl, ?y30⟩) (by assumption) ?r30
          case y30 => (intro w hSw; obtain ⟨g0, g1, g2, g3, g4⟩ := hSw; go_simp; try with_reducible rfl)
          refine untlTake (i := 32) 82 (v := ?v31) rfl (by kernel_rfl) (by kernel_rfl) (by kernel_rfl) (by kernel_rfl) (by kernel_rfl) (by kernel_rfl) (fun _ _ _ h => h) (Or.inl ⟨by kernel_rfl, ?y31⟩) (by assumption) ?r31
          case y31 => (intro w hSw; obtain ⟨g0, g1, g2, g3, g4⟩ := hSw; go_simp; try with_reducible rfl)
          refine untlTake (i := 33) 83 (v := ?v32) rfl (by kernel_rfl) (by kernel_rfl) (by kernel_rfl) (by kernel_rfl) (by kernel_rfl) (by kernel_rfl) (fun _ _ _ h => h) (Or.inl ⟨by kernel_rfl, ?y32⟩) (by assumption) ?r32
          case y32 => (intro w hSw; obtain ⟨g0, g1, g2, g3, g4⟩ := hSw; go_simp; try with_reducible rfl)
          simp only [Act.put, List.setIfInBounds_toArray, List.set_cons_zero, List.set_cons_succ]
          refine untlReady (rs := [13, 35]) (by kernel_rfl) (by simp) ?_
          refine UReady.cons rfl (fun K33 hK33 => ?_) ?_
          · skip
            go_simp
            refine (HSP.out _ _ _).mono ?_
            rintro e V35 ⟨rfl, b0⟩
            have C34 := Lib.hid (C0.out.below b0)
            clear b0
            have s36 : S5 wr.heap.size (.int .u8 v0) (.int .u8 v1) (.int .u8 v2) (.int .u8 v3) (.int .u8 v4) V35 := five_get C34.out.p
            refine hK33.out _ _ (.inr s36) ?_
            refine untlReady (rs := [29, 35]) (by kernel_rfl) (by simp) ?_
            refine UReady.cons rfl (fun K37 hK37 => ?_) ?_
            · skip
              go_simp
              refine (HSP.out _ _ _).mono ?_
              rintro e V39 ⟨rfl, b0⟩
              have C38 := Lib.hid (C34.out.below b0)
              clear b0
              have s40 : S5 wr.heap.size (.int .u8 v0) (.int .u8 v1) (.int .u8 v2) (.int .u8 v3) (.int .u8 v4) V39 := five_get C38.out.p
              refine hK37.out _ _ (.inr s40) ?_
              refine untlTake (i := 34) 84 (v := ?v41) rfl (by kernel_rfl) (by kernel_rfl) (by kernel_rfl) (by kernel_rfl) (by kernel_rfl) (by kernel_rfl) (fun _ _ _ h => h) (Or.inl ⟨by kernel_rfl, ?y41⟩) (by assumption) ?r41
              case y41 => (intro w hSw; obtain ⟨g0, g1, g2, g3, g4⟩ := hSw; go_simp; try with_reducible rfl)
              refine untlReady (rs := [35]) (by kernel_rfl) (by simp) ?_
              refine UReady.cons rfl (fun K42 hK42 => ?_) UReady.nil
              go_simp
              have C43 := Lib.hid C38.out.new5
              refine hK42.out _ _ (.inr (five_get C43.out.p)) ?_
              obtain ⟨V44, hW⟩ : ∃ V, V = V39.alloc (.cells #[.int .i64 0, .int .i64 0, .int .i64 0, .int .i64 0, .int .i64 0] 106) := ⟨_, rfl⟩
              rw [← hW] at C43 ⊢
              clear hW
              have s45 : S5 wr.heap.size (.int .u8 v0) (.int .u8 v1) (.int .u8 v2) (.int .u8 v3) (.int .u8 v4) V44 := five_get C43.out.p
              refine untlStep (i := 36) (by kernel_rfl) rfl (fun K46 hK46 => ?_)
              rw [if_pos (by rfl)]
              refine wp_store_rowN rfl _ _ _ rfl _ _ rfl rfl _ _ (C43.out.h5 _ rfl).1 (by kernel_rfl) rfl (ones5i _ _ _ _ _) ?_
              have E47 := Lib.hid (C43.out.put #[.int .i64 (1 + v0), .int .i64 (1 + v0 + v1 % 40), .int .i64 (1 + v2 % 80), .int .i64 (1 + v2 % 80 + v3 % 20), .int .i64 (7 * v4)])
              have sE47 : S5 wr.heap.size (.int .u8 v0) (.int .u8 v1) (.int .u8 v2) (.int .u8 v3) (.int .u8 v4) _ := five_get (C43.out.p.setRow_far (Nat.ne_of_lt (C43.out.h5 _ rfl).2) #[.int .i64 (1 + v0), .int .i64 (1 + v0 + v1 % 40), .int .i64 (1 + v2 % 80), .int .i64 (1 + v2 % 80 + v3 % 20), .int .i64 (7 * v4)])
              refine hK46.out _ _ (.inr sE47) ?_
              refine untlDone (by kernel_rfl) ?_ _
              go_wp2_with fail
              go_meet
              exact ⟨_, rfl, E47.out⟩
            refine UReady.cons rfl (fun K48 hK48 => ?_) UReady.nil
            go_simp
            have C49 := Lib.hid C34.out.new5
            refine hK48.out _ _ (.inr (five_get C49.out.p)) ?_
            obtain ⟨V50, hW⟩ : ∃ V, V = V35.alloc (.cells #[.int .i64 0, .int .i64 0, .int .i64 0, .int .i64 0, .int .i64 0] 106) := ⟨_, rfl⟩
            rw [← hW] at C49 ⊢
            clear hW
            have s51 : S5 wr.heap.size (.int .u8 v0) (.int .u8 v1) (.int .u8 v2) (.int .u8 v3) (.int .u8 v4) V50 := five_get C49.out.p
            refine untlReady (rs := [29]) (by kernel_rfl) (by simp) ?_
            refine UReady.cons rfl (fun K52 hK52 => ?_) UReady.nil
            go_simp
            refine (HSP.out _ _ _).mono ?_
            rintro e V54 ⟨rfl, b0⟩
            have C53 := Lib.hid (C49.out.below b0)
            clear b0
            have s55 : S5 wr.heap.size (.int .u8 v0) (.int .u8 v1) (.int .u8 v2) (.int .u8 v3) (.int .u8 v4) V54 := five_get C53.out.p
            refine hK52.out _ _ (.inr s55) ?_
            refine untlTake (i := 34) 84 (v := ?v56) rfl (by kernel_rfl) (by kernel_rfl) (by kernel_rfl) (by kernel_rfl) (by kernel_rfl) (by kernel_rfl) (fun _ _ _ h => h) (Or.inl ⟨by kernel_rfl, ?y56⟩) (by assumption) ?r56
            case y56 => (intro w hSw; obtain ⟨g0, g1, g2, g3, g4⟩ := hSw; go_simp; try with_reducible rfl)
            refine untlStep (i := 36) (by kernel_rfl) rfl (fun K57 hK57 => ?_)
            rw [if_pos (by rfl)]
            refine wp_store_rowN rfl _ _ _ rfl _ _ rfl rfl _ _ (C53.out.h5 _ rfl).1 (by kernel_rfl) rfl (ones5i _ _ _ _ _) ?_
            have E58 := Lib.hid (C53.out.put #[.int .i64 (1 + v0), .int .i64 (1 + v0 + v1 % 40), .int .i64 (1 + v2 % 80), .int .i64 (1 + v2 % 80 + v3 % 20), .int .i64 (7 * v4)])
            have sE58 : S5 wr.heap.size (.int .u8 v0) (.int .u8 v1) (.int .u8 v2) (.int .u8 v3) (.int .u8 v4) _ := five_get (C53.out.p.setRow_far (Nat.ne_of_lt (C53.out.h5 _ rfl).2) #[.int .i64 (1 + v0), .int .i64 (1 + v0 + v1 % 40), .int .i64 (1 + v2 % 80), .int .i64 (1 + v2 % 80 + v3 % 20), .int .i64 (7 * v4)])
            refine hK57.out _ _ (.inr sE58) ?_
            refine untlDone (by kernel_rfl) ?_ _
            go_wp2_with fail
            go_meet
            exact ⟨_, rfl, E58.out⟩
          refine UReady.cons rfl (fun K59 hK59 => ?_) UReady.nil
          go_simp
          have C60 := Lib.hid C0.out.new5
          refine hK59.out _ _ (.inr (five_get C60.out.p)) ?_
          obtain ⟨V61, hW⟩ : ∃ V, V = wd.alloc (.cells #[.int .i64 0, .int .i64 0, .int .i64 0, .int .i64 0, .int .i64 0] 106) := ⟨_, rfl⟩
          rw [← hW] at C60 ⊢
          clear hW
          have s62 : S5 wr.heap.size (.int .u8 v0) (.int .u8 v1) (.int .u8 v2) (.int .u8 v3) (.int .u8 v4) V61 := five_get C60.out.p
          refine untlReady (rs := [13]) (by kernel_rfl) (by simp) ?_
          refine UReady.cons rfl (fun K63 hK63 => ?_) UReady.nil
          go_simp
          refine (HSP.out _ _ _).mono ?_
          rintro e V65 ⟨rfl, b0⟩
          have C64 := Lib.hid (C60.out.below b0)
          clear b0
          have s66 : S5 wr.heap.size (.int .u8 v0) (.int .u8 v1) (.int .u8 v2) (.int .u8 v3) (.int .u8 v4) V65 := five_get C64.out.p
          refine hK63.out _ _ (.inr s66) ?_
          refine untlReady (rs := [29]) (by kernel_rfl) (by simp) ?_
          refine UReady.cons rfl (fun K67 hK67 => ?_) UReady.nil
          go_simp
          refine (HSP.out _ _ _).mono ?_
          rintro e V69 ⟨rfl, b0⟩
          have C68 := Lib.hid (C64.out.below b0)
          clear b0
          have s70 : S5 wr.heap.size (.int .u8 v0) (.int .u8 v1) (.int .u8 v2) (.int .u8 v3) (.int .u8 v4) V69 := five_get C68.out.p
          refine hK67.out _ _ (.inr s70) ?_
          refine untlTake (i := 34) 84 (v := ?v71) rfl (by kernel_rfl) (by kernel_rfl) (by kernel_rfl) (by kernel_rfl) (by kernel_rfl) (by kernel_rfl) (fun _ _ _ h => h) (Or.inl ⟨by kernel_rfl, ?y71⟩) (by assumption) ?r71
          case y71 => (intro w hSw; obtain ⟨g0, g1, g2, g3, g4⟩ := hSw; go_simp; try with_reducible rfl)
          refine untlStep (i := 36) (by kernel_rfl) rfl (fun K72 hK72 => ?_)
          rw [if_pos (by rfl)]
          refine wp_store_rowN rfl _ _ _ rfl _ _ rfl rfl _ _ (C68.out.h5 _ rfl).1 (by kernel_rfl) rfl (ones5i _ _ _ _ _) ?_
          have E73 := Lib.hid (C68.out.put #[.int .i64 (1 + v0), .int .i64 (1 + v0 + v1 % 40), .int .i64 (1 + v2 % 80), .int .i64 (1 + v2 % 80 + v3 % 20), .int .i64 (7 * v4)])
          have sE73 : S5 wr.heap.size (.int .u8 v0) (.int .u8 v1) (.int .u8 v2) (.int .u8 v3) (.int .u8 v4) _ := five_get (C68.out.p.setRow_far (Nat.ne_of_lt (C68.out.h5 _ rfl).2) #[.int .i64 (1 + v0), .int .i64 (1 + v0 + v1 % 40), .int .i64 (1 + v2 % 80), .int .i64 (1 + v2 % 80 + v3 % 20), .int .i64 (7 * v4)])
          refine hK72.out _ _ (.inr sE73) ?_
          refine untlDone (by kernel_rfl) ?_ _
          go_wp2_with fail
          go_meet
          exact ⟨_, rfl, E73.out⟩
        case rest =>
          obtain ⟨g, rfl, hD⟩ := hcut
          rename_i wc
          have D1 := Lib.hid hD
          clear hD C0 y0 y1 y2 y3 y4 t1 t2 t3 a0 a1 a2 a3 a4 a5 a6 a7 a8 a9 a10 a11 a12
          have G0 := Lib.hid (fun (g' : Nat) (hg : (Value.slice A' k c').ownBlock = some g') => OW.out.lt g' hg)
          obtain ⟨wl, hwl⟩ : ∃ z, 1 + v0 = z := ⟨_, rfl⟩
          obtain ⟨wh, hwh⟩ : ∃ z, 1 + v0 + v1 % 40 = z := ⟨_, rfl⟩
          obtain ⟨tl, htl⟩ : ∃ z, 1 + v2 % 80 = z := ⟨_, rfl⟩
          obtain ⟨th, hth⟩ : ∃ z, 1 + v2 % 80 + v3 % 20 = z := ⟨_, rfl⟩
          obtain ⟨pl, hpl⟩ : ∃ z, 7 * v4 = z := ⟨_, rfl⟩
          have hsk : Hid (sF k = ⟨wl, wh, tl, th, pl⟩) := by unfold Hid; rw [hsf.out, hwh, hwl, hth, htl, hpl]
          rw [hwh, hwl, hth, htl, hpl] at D1
          have q1 : 1 ≤ wl ∧ wl ≤ wh ∧ wh ≤ 295 := by omega
          have q2 : 1 ≤ tl ∧ tl ≤ th ∧ th ≤ 99 := by omega
          have q3 : 0 ≤ pl ∧ pl ≤ 1785 := by omega
          clear hwl hwh htl hth hpl hsf z0 z1 z2 z3 z4
          obtain ⟨p1, hp1⟩ : ∃ z, byteAt xs (2 * k) = z := ⟨_, rfl⟩
          obtain ⟨p2, hp2⟩ : ∃ z, byteAt xs (2 * k + 1) = z := ⟨_, rfl⟩
          obtain ⟨tw, htw⟩ : ∃ z, tW k = z := ⟨_, rfl⟩
          obtain ⟨t2, ht2⟩ : ∃ z, tT k = z := ⟨_, rfl⟩
          have hpb1 := HXB.out (2 * k)
          have hpb2 := HXB.out (2 * k + 1)
          rw [hp1] at hpb1
          rw [hp2] at hpb2
          have ew : insL wl wh p1 = tw := by rw [← htw, HTW.out k, hsk.out, hp1]
          have et : insL tl th p2 = t2 := by rw [← ht2, HTT.out k, hsk.out, hp2]
          have qw := insL_bd q1.2.1 hpb1
          have qt := insL_bd q2.2.1 hpb2
          rw [ew] at qw
          rw [et] at qt
          have HI1 := Lib.hid (fun W => inside_any wl wh p1 W (by omega) q1.2.1 (by omega) hpb1)
          have HI2 := Lib.hid (fun W => inside_any tl th p2 W (by omega) q2.2.1 (by omega) hpb2)
          rw [ew] at HI1
          rw [et] at HI2
          have HO1 : Hid (∀ W, Below w.heap.size w W → Calls Try.prog 56 #[.slice B m dc, .int .i64 (2 * (k : Int))] W fun e w' => e = .returned (.int .i64 p1) ∧ W = w') := fun W hb => by
            have q := HBO.out (2 * k) (by omega) W hb
            rw [show ((2 * k : Nat) : Int) = 2 * (k : Int) from by omega, hp1] at q
            exact q
          have HO2 : Hid (∀ W, Below w.heap.size w W → Calls Try.prog 56 #[.slice B m dc, .int .i64 (2 * (k : Int) + 1)] W fun e w' => e = .returned (.int .i64 p2) ∧ W = w') := fun W hb => by
            have q := HBO.out (2 * k + 1) (by omega) W hb
            rw [show ((2 * k + 1 : Nat) : Int) = 2 * (k : Int) + 1 from by omega, hp2] at q
            exact q
          have EW : Hid (dW (k + 1) = dW k + tw) := by unfold Hid; rw [HDW.out k, htw]
          have ET : Hid (dT (k + 1) = dT k + t2) := by unfold Hid; rw [HDT.out k, ht2]
          have EN : Hid (dN (k + 1) = dN k + tw * pl) := by unfold Hid; rw [HDN.out k, htw, hsk.out]
          have EM : Hid (dP (k + 1) = max (dP k) pl) := by unfold Hid; rw [HDP.out k, hsk.out]
          have hdb := HDB.out k (by omega)
          have hml := mul_bd (x := tw) (X := 295) (y := pl) (Y := 1785) (by omega) (by omega) (by omega) (by omega)
          have u0 : IntKind.i64.wrap (2 * (k : Int)) = 2 * (k : Int) := IntWalk.i64_in _ (by omega)
          have u1 : IntKind.i64.wrap (2 * (k : Int) + 1) = 2 * (k : Int) + 1 := IntWalk.i64_in _ (by omega)
          have u2 : IntKind.i64.wrap (dW k + tw) = dW k + tw := IntWalk.i64_in _ (by omega)
          have u3 : IntKind.i64.wrap (dT k + t2) = dT k + t2 := IntWalk.i64_in _ (by omega)
          have u4 : IntKind.i64.wrap (tw * pl) = tw * pl := IntWalk.i64_in _ (by omega)
          have u5 : IntKind.i64.wrap (dN k + tw * pl) = dN k + tw * pl := IntWalk.i64_in _ (by omega)
          have ES : Hid (flatT (sTo (k + 1)) = flatT (sTo k) ++ Stk.cells ⟨wl, wh, tl, th, pl⟩) := by unfold Hid; rw [HST.out k, hsk.out, ← flatT_snoc]
          have LG := Lib.hid D1.out.lt
          have x14 := five_get D1.out.q
          have Q1 := Lib.hid D1.out.q
          have O1 := Lib.hid (ownsRow_below OW.out D1.out.bel)
          have B1 := Lib.hid (below_then BK.out D1.out.bel)
          have hk11' : k < 11 := by omega
          clear htw ht2 ew et hp1 hp2 hpb1 hpb2 hsk D1 OW BK hdb hml qw qt q1 q2 q3
          go_wp2_with (at_builtin; refine wpList_append_any rfl _ _ 64 rfl w.heap.size 106 i0 _ 5 40 Try.underlying64 hi hz0 hz1 hz2 rfl (by decide) _ k _ rfl (ownsRow_below O1.out (below_self _ _)) (some ⟨wc.heap.size, 0, none⟩) 1 1 (Stk.cells ⟨wl, wh, tl, th, pl⟩) rfl (stk_new wc ⟨wl, wh, tl, th, pl⟩ _) (cellsT_one _) ?c1 ?c2 ?c3 ?_)
          case c1 => unfold maxLen; omega
          case c2 => omega
          case c3 => have := B1.out.size; simp; omega
          intro v' W5 hown5 hgrow
          have O5 : Hid (W5.ownsRow w.heap.size 106 5 v' (k + 1) (flatT (sTo (k + 1)))) := by unfold Hid; rw [ES.out]; exact hown5
          obtain ⟨A3, c3, rfl⟩ := own_slice O5.out
          have Q5 := Lib.hid ((Q1.out.alloc _).grown hgrow (fun e => by have := (G0.out g e).2; have := LG.out; omega))
          have B5 := Lib.hid ((below_alloc' B1.out _).grown hgrow (by have := B1.out.size; simp; omega) (fun g' e => (G0.out g' e.symm.symm).1))
          clear hown5 hgrow x14 O1 Q1 B1 G0 LG ES
          have KS := Lib.hid (fun W (hb : Below W5.heap.size W5 W) => five_a (blk_keep hb Q5.out))
          go_upto_region 8 with fail
          go_region_held3 (fun W => W.cell? ⟨g, 0, none⟩ = some (.int .i64 wl) ∧ W.cell? ⟨g, 1, none⟩ = some (.int .i64 wh))
            (first | with_reducible exact KS.out _ H2.out | with_reducible exact KS.out _ (Below.refl _ _).drew | with_reducible exact KS.out _ (Below.refl _ _))
            (first | (go_at_call 56; refine (HO1.out _ B5.out.drew).mono ?_; rintro e w6 ⟨rfl, rfl⟩) | (go_at_call 57; refine (HI1.out _).mono ?_; rintro e w7 ⟨rfl, b7⟩; have H2 := Lib.hid (below_then (Below.refl W5.heap.size W5).drew b7); clear b7))
          all_goals
            have Q7 := Lib.hid (blk_keep H2.out Q5.out)
            have O7 := Lib.hid (ownsRow_below O5.out H2.out)
            have B7 := Lib.hid (below_then B5.out H2.out)
            clear KS H2 Q5 O5 B5 HO1 HI1
            have KS := Lib.hid (fun W (hb : Below w7.heap.size w7 W) => five_b (blk_keep hb Q7.out))
            go_upto_region 9 with fail
            go_region_held3 (fun W => W.cell? ⟨g, 2, none⟩ = some (.int .i64 tl) ∧ W.cell? ⟨g, 3, none⟩ = some (.int .i64 th) ∧ W.cell? ⟨g, 4, none⟩ = some (.int .i64 pl))
              (first | with_reducible exact KS.out _ H4.out | with_reducible exact KS.out _ (Below.refl _ _).drew | with_reducible exact KS.out _ (Below.refl _ _))
              (first | (go_at_call 56; refine (HO2.out _ B7.out.drew).mono ?_; rintro e w8 ⟨rfl, rfl⟩) | (go_at_call 57; refine (HI2.out _).mono ?_; rintro e w9 ⟨rfl, b9⟩; have H4 := Lib.hid (below_then (Below.refl w7.heap.size w7).drew b9); clear b9))
            all_goals
              go_wp2_with fail
              go_roundw
              case rel => exact ⟨k + 1, A3, c3, by omega, rfl, by rw [EW.out], by rw [ET.out], by rw [EN.out], by rw [EM.out], by go_num, ownsRow_below O7.out H4.out, below_then B7.out H4.out⟩
              case measure => simp [intOf]; omega
      · rw [decide_eq_false hlt]
        obtain rfl : k = nn := by omega
        have I1 := Lib.hid (stks_own OW.out)
        have BV := Lib.hid BK.out
        have HN1 := Lib.hid hnn1
        have hdn := (HDB.out k (by omega)).1
        have HDK := Lib.hid (HDB.out k (by omega))
        clear OW BK hdn HDB HDW HDT HDN HDP HTW HTT HST HSF HBY HCL HBO HXB HS0 Hw0 Ht0 Hn0 Hp0
        go_upto_region 10 with fail
        rename_i zx0 zx1 zx2 zx3 zx4 zx5 zx6 zx7 zx8 zx9 zx10 zx11 zx12 zx13
        revert hn i0 hi hz0 hz1 hz2 HSP HK dW dT dN dP tW tT sTo HLN sF HFB fv zx0 zx1 wz wr u13 u14 u15 zx2 zx3 zx4 zx5 zx6 zx7 zx8 u43 u44 u45 u46 u47 u48 u49 u50 u51 u52 u53 u54 u55 u56 u57 u58 u59 u60 u61 u62 u63 u64 u65 u66 u67 u68 u69 u70 u71 u72 u73 u74 u75 u76 u77 u78 u79 u80 u81 u82 u83 u84 u85 u86 u87 u88 u89 u90 u91 u92 u93 u94 u95 u96 u97 u98 u99 u100 u101 u102 u103 u104 u105 u106 u107 u108 u109 u110 u111 u112 u113 u114 u115 u116 u117 u118 k A' c' HNK zx9 u36 u37 u38 u39 u40 u41 u42 hnn hnn1 hnn2 HNN HSB HSI HMB HAT HCF hk zx10 zx11 hlt I1 BV HN1 HDK zx12 zx13
        exact kG.out
end Go.Proofs.Ytdekickmplkdiaa
