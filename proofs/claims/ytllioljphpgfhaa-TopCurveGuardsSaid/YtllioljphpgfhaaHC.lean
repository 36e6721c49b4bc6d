/- Walks: the law TopCurveGuards, to its loop's end. -/
import Derived.Test.YtllioljphpgfhaaHB
import Derived.Deep.CutRange
import Derived.Deep.CutBlock
namespace Go.Proofs.Ytllioljphpgfhaa
open Go Go.RowKit

theorem span2_getA {W : World} {s : Nat} {ty : TypeId} {x y : Value} (h : Blk W s ty #[x, y]) : W.cell? ⟨s, 0, none⟩ = some x ∧ W.cell? ⟨s, 1, none⟩ = some y := ⟨h.cell 0, h.cell 1⟩
theorem bld_get {W : World} {s : Nat} {ty : TypeId} {x y z t : Value} (h : Blk W s ty #[x, y, z, t]) : W.cell? ⟨s, 0, none⟩ = some x ∧ W.cell? ⟨s, 1, none⟩ = some y ∧ W.cell? ⟨s, 2, none⟩ = some z ∧ W.cell? ⟨s, 3, none⟩ = some t := ⟨h.cell 0, h.cell 1, h.cell 2, h.cell 3⟩
theorem bytes_at {w W : World} {A : Option Addr} {n k : Nat} {xs : List Int} (h : Bytes w A n xs) (hb : Below w.heap.size w W) (hk : k < n) : ∃ b off, A = some ⟨b, off, none⟩ ∧ W.cell? ⟨b, off + k, none⟩ = some (.int .u8 (xs.getD k 0)) ∧ k < xs.length := by
  have hl : xs.length = n := by have := h.1.1; simpa using this
  obtain ⟨b, off, u, e, hlt, hu, hc⟩ := h.1.at1 hk
  have e2 : u = .int .u8 (xs.getD k 0) := by
    have : xs.getD k 0 = xs[k]'(by omega) := by simp [List.getD, show k < xs.length by omega]
    rw [this]
    rw [List.getElem?_map, List.getElem?_eq_getElem (show k < xs.length by omega)] at hu
    simpa using hu.symm
  rw [e2] at hc
  exact ⟨b, off, e, (hb.cell (p := ⟨b, off + k, none⟩) hlt).trans hc, by omega⟩
set_option maxRecDepth 100000 in
set_option maxHeartbeats 8000000 in
theorem TopCurveGuards_any (E : Option Addr) (m c : Nat) (xs : List Int) (z0 z1 : Int) (w : World) (hE : Bytes w E m xs) (hm : m ≤ maxLen) (hz0 : Byte z0) (hz1 : Byte z1) :
    Calls Try.prog 4 #[.slice E m c, .agg #[.int .u8 z0, .int .u8 z1]] w fun e w' => e = .returned (.bool true) ∧ Below w.heap.size w w' := by
  obtain ⟨i0, hi, qz0, qz1, qz2⟩ := info_parts Try.infoSpan
  obtain ⟨i1, ki, kz0, kz1, kz2⟩ := info_parts Try.infoInt
  have HK := Lib.hid (fun W => known06_any W)
  have HSP := Lib.hid (fun x y W => oakSpan_any x y W)
  have HOG := Lib.hid (fun A n c az W (h : Ints W A n az) (hn : n ≤ 1000) => oakGuard_any 50 A n c az W h hn)
  unfold GuardRes at HOG
  have hxb : ∀ x ∈ xs, Byte x := hE.2
  have hxl : xs.length = m := by have := hE.1.1; simpa using this
  have HEB := Lib.hid (fun W k (hb : Below w.heap.size w W) (hk : k < m) => bytes_at hE hb hk)
  unfold Byte at hz0 hz1
  have t0 : 0 ≤ z0.tmod 8 ∧ z0.tmod 8 ≤ 7 := by rw [Int.tmod_eq_emod_of_nonneg hz0.1]; omega
  have t1 : 0 ≤ z1.tmod 20 ∧ z1.tmod 20 ≤ 19 := by rw [Int.tmod_eq_emod_of_nonneg hz1.1]; omega
  have e0 : IntKind.i64.wrap z0 = z0 := IntWalk.i64_in _ (by omega)
  have e1 : IntKind.i64.wrap z1 = z1 := IntWalk.i64_in _ (by omega)
  generalize hoff : z0.tmod 8 = off at *
  generalize hcu : z1.tmod 20 = cu at *
  have e2 : IntKind.i64.wrap off = off := IntWalk.i64_in _ (by omega)
  have e3 : IntKind.i64.wrap cu = cu := IntWalk.i64_in _ (by omega)
  have HAT := Lib.hid (fun k => atC_bd (off := off) hxb k)
  have HTE := Lib.hid (fun n (h1 : 1 ≤ n) (h4 : n ≤ 4) => tooth_err t0.1 t0.2 hxb h1 h4)
  have HAL := Lib.hid (fun n (h1 : 1 ≤ n) (h4 : n ≤ 4) A B c d => alike_same (cu := cu) t0.1 t0.2 hxb t1 h1 h4 A B c d)
  obtain ⟨Q, hQ⟩ : ∃ z, decide (2 * off ≤ cu) = z := ⟨_, rfl⟩
  have HCV : Hid (∀ n, 1 ≤ n → n ≤ 4 → ∀ (A B K : Option Addr) (c d f : Nat) (W : World), Pairs W A n (bsC off xs n) → Pairs W B n (tsC n) → Calls Try.prog 8 #[.agg #[.slice A n c, .slice B n d, .int .i64 300, .slice K 0 f]] W fun e w' => ∃ g c' B' d', e = .returned (.tuple #[.slice (some ⟨g, 0, none⟩) n c', .slice B' n d', .int .i64 0]) ∧ Pairs w' (some ⟨g, 0, none⟩) n (bsC off xs n) ∧ Below W.heap.size W w') := fun n h1 h4 A B K c d f W hA hB => by
    obtain ⟨x1, x2⟩ := tooth_err t0.1 t0.2 hxb h1 h4
    refine (Tooth.Curve_any A B K n c n d 0 f 300 (bsC off xs n) (tsC n) [] W (toTooth hA) (toTooth hB) ⟨rfl, fun h => absurd h (by omega)⟩ (by unfold maxLen; omega) (by unfold maxLen; omega) (by decide)).mono fun e w' h => ?_
    obtain ⟨hb, h⟩ := h
    rw [x1, x2] at h
    rcases h with ⟨h, _⟩ | ⟨_, g, cap, g', cap', e1, p1, _⟩
    · exact absurd rfl h
    · exact ⟨g, cap, _, cap', e1, ofTooth p1, hb⟩
  have HALN : Hid (∀ n, 1 ≤ n → n ≤ 4 → ∀ (A B : Option Addr) (c d : Nat) (W : World), Ints W A n (asC off xs n) → Ints W B n (asC off xs n) → Calls Try.prog 10 #[.agg #[.int .i64 50, .slice A n c], .agg #[.int .i64 50, .slice B n d], .agg #[.int .i64 0, .int .i64 off, .int .i64 0, .int .i64 cu]] W fun e w' => e = .returned (.tuple #[.bool Q, .bool true, .int .i64 0]) ∧ Below W.heap.size W w') := fun n h1 h4 A B c d W hA hB => by
    obtain ⟨x1, x2, x3⟩ := alike_same (cu := cu) t0.1 t0.2 hxb t1 h1 h4 A B c d
    have q := Alike_any ⟨50, A, n, c, asC off xs n⟩ ⟨50, B, n, d, asC off xs n⟩ ⟨0, off, 0, cu⟩ W ⟨hA, by unfold maxLen; simp only; omega⟩ ⟨hB, by unfold maxLen; simp only; omega⟩
    unfold AlikeRes at q
    rw [x1, x2, x3, hQ] at q
    exact q
  have HQ := Lib.hid hQ
  clear hQ
  have HT0 := Lib.hid t0
  have HT1 := Lib.hid t1
  have HBS := Lib.hid (fun k => bsC_succ off xs k)
  have HTS := Lib.hid tsC_succ
  have HAS := Lib.hid (fun k => asC_succ off xs k)
  have HB0 : Hid (bsC off xs 0 = [] ∧ tsC 0 = [] ∧ asC off xs 0 = []) := ⟨rfl, rfl, rfl⟩
  have HBL := Lib.hid (fun k => bsC_len off xs k)
  have HMX := Lib.hid hm
  have HLX := Lib.hid hxl
  obtain ⟨N, hN⟩ : ∃ N : Nat, N = max 1 (min 4 m) := ⟨_, rfl⟩
  have HN := Lib.hid hN
  have HAV : Hid (∀ k, atC off xs k = off + (if k < m then (xs.getD k 0).tmod 100 else 0)) := fun k => by unfold atC; rw [hxl]
  have HBY : Hid (∀ k, k < m → 0 ≤ xs.getD k 0 ∧ xs.getD k 0 ≤ 255) := fun k hk => by
    have : xs.getD k 0 = xs[k]'(by omega) := by simp [List.getD, show k < xs.length by omega]
    rw [this]
    exact hxb _ (List.getElem_mem _)
  clear hE hm hz0 hz1 t0 t1 hxb hxl hN
  generalize hat : atC off xs = at_ at *
  clear hat
  generalize hbs : bsC off xs = bs at *
  generalize hts : tsC = ts at *
  generalize has : asC off xs = az at *
  clear hbs hts has
  go_enter Try.func4, Try.ntmps4
  go_wp2_with fail
  have PV := Lib.hid (Blk.new w 26 #[.int .u8 z0, .int .u8 z1] (g := w.heap.size) rfl)
  have BV := Lib.hid (below_self w (.cells #[.int .u8 z0, .int .u8 z1] 26))
  generalize w.alloc (.cells #[.int .u8 z0, .int .u8 z1] 26) = v at *
  generalize hgv : w.heap.size = gv at *
  have HGV := Lib.hid hgv
  clear hgv
  refine wp_region_untl (S := (fun W => W.cell? ⟨gv, 0, none⟩ = some (.int .u8 z0))) [7] (by kernel_rfl) (PV.out.drewd.cell 0) (fun s0 => ?_)
  refine untlTake (i := 0) 18 (v := ?v1) rfl (by kernel_rfl) (by kernel_rfl) (by kernel_rfl) (by kernel_rfl) (by kernel_rfl) (by kernel_rfl) (fun _ _ _ h => h) (Or.inl ⟨by kernel_rfl, ?y1⟩) (by assumption) ?r1
  case y1 => (intro w hSw; obtain g0 := hSw; go_simp; try with_reducible rfl)
  refine untlTake (i := 1) 19 (v := ?v2) rfl (by kernel_rfl) (by kernel_rfl) (by kernel_rfl) (by kernel_rfl) (by kernel_rfl) (by kernel_rfl) (fun _ _ _ h => h) (Or.inl ⟨by kernel_rfl, ?y2⟩) (by assumption) ?r2
  case y2 => (intro w hSw; obtain g0 := hSw; go_simp; try with_reducible rfl)
  refine untlTake (i := 2) 20 (v := ?v3) rfl (by kernel_rfl) (by kernel_rfl) (by kernel_rfl) (by kernel_rfl) (by kernel_rfl) (by kernel_rfl) (fun _ _ _ h => h) (Or.inl ⟨by kernel_rfl, ?y3⟩) (by assumption) ?r3
  case y3 => (intro w hSw; obtain g0 := hSw; go_simp; try with_reducible rfl)
  simp only [Act.put, List.setIfInBounds_toArray, List.set_cons_zero, List.set_cons_succ]
  refine untlTake (i := 3) 21 (v := ?v4) rfl (by kernel_rfl) (by kernel_rfl) (by kernel_rfl) (by kernel_rfl) (by kernel_rfl) (by kernel_rfl) (fun _ _ _ h => h) (Or.inl ⟨by kernel_rfl, ?y4⟩) (by assumption) ?r4
  case y4 => (intro w hSw; obtain g0 := hSw; go_simp; try with_reducible rfl)
  refine untlTake (i := 4) 22 (v := ?v5) rfl (by kernel_rfl) (by kernel_rfl) (by kernel_rfl) (by kernel_rfl) (by kernel_rfl) (by kernel_rfl) (fun _ _ _ h => h) (Or.inl ⟨by kernel_rfl, ?y5⟩) (by assumption) ?r5
  case y5 => (intro w hSw; obtain g0 := hSw; go_simp; try with_reducible rfl)
  simp only [Act.put, List.setIfInBounds_toArray, List.set_cons_zero, List.set_cons_succ]
  refine untlStep (i := 5) (by kernel_rfl) rfl (fun K5 hK5 => ?_)
  go_simp
  have PV1 := Lib.hid (PV.out.alloc (.cells #[.slice none 0 0, .slice none 0 0, .int .i64 0, .slice none 0 0] 30)).drewd
  have PB1 := Lib.hid (Blk.new v 30 #[.slice none 0 0, .slice none 0 0, .int .i64 0, .slice none 0 0] (g := v.heap.size) rfl).drewd
  have B1 := Lib.hid (below_alloc' (Below.refl v.heap.size v) (.cells #[.slice none 0 0, .slice none 0 0, .int .i64 0, .slice none 0 0] 30)).drew
  refine hK5.out _ _ (.inr (PV1.out.cell 0)) ?_
  refine untlStep (i := 6) (by kernel_rfl) rfl (fun K6 hK6 => ?_)
  rw [if_pos (by rfl)]
  refine wp_store_rowN rfl _ _ _ rfl v.heap.size #[.slice none 0 0, .slice none 0 0, .int .i64 300, .slice none 0 0] rfl rfl 30 #[.slice none 0 0, .slice none 0 0, .int .i64 0, .slice none 0 0] PB1.out (by kernel_rfl) rfl (by kernel_rfl) ?_
  have PV2 := Lib.hid (PV1.out.setRow_far (show gv ≠ v.heap.size from Nat.ne_of_lt PV.out.lt) #[.slice none 0 0, .slice none 0 0, .int .i64 300, .slice none 0 0])
  have PB2 := Lib.hid (PB1.out.setRow #[.slice none 0 0, .slice none 0 0, .int .i64 300, .slice none 0 0])
  have B2 := Lib.hid (below_setR B1.out (g := v.heap.size) (Nat.le_refl _) #[.slice none 0 0, .slice none 0 0, .int .i64 300, .slice none 0 0])
  refine hK6.out _ _ (.inr (PV2.out.cell 0)) ?_
  generalize ((v.alloc (.cells #[.slice none 0 0, .slice none 0 0, .int .i64 0, .slice none 0 0] 30)).drew.setRow v.heap.size #[.slice none 0 0, .slice none 0 0, .int .i64 300, .slice none 0 0]) = v2 at *
  refine untlStep (i := 7) (by kernel_rfl) rfl (fun K7 hK7 => ?_)
  go_simp
  refine hK7.out _ _ (.inl (by decide)) ?_
  refine untlDone (by kernel_rfl) ?_ _
  clear s0 PV1 PB1 B1 hK5 hK6 hK7 K5 K6 K7
  go_wp2_with fail
  refine (HOG.out none 0 0 [] v2 ⟨by simp, fun h => absurd h (by omega)⟩ (by decide)).mono ?_
  rintro e w3 ⟨AX, cX, rfl, o3, b3⟩
  have B3 := Lib.hid (below_then B2.out b3)
  have C2 : Hid (CG v (w3.alloc (.cells #[.int .i64 50, .slice AX 0 cX] 33)) v.heap.size w3.heap.size #[.slice none 0 0, .slice none 0 0, .int .i64 300, .slice none 0 0] #[.int .i64 50, .slice AX 0 cX] (.slice none 0 0) 0 [] (.slice none 0 0) 0 [] (.slice AX 0 cX) 0 []) :=
    ⟨below_alloc' B3.out _, Nat.le_refl _, B3.out.size, (blk_keep b3 PB2.out).alloc _, Blk.new w3 _ _ rfl, World.ownsRow_nil _ _ _ _, World.ownsRow_nil _ _ _ _, ownsRow_below (own_baseA o3 B2.out.size) (below_self _ _), .inl rfl⟩
  clear b3 o3 PV2 PB2 B2
  go_upto_region 3 with fail
  generalize w3.alloc (.cells #[.int .i64 50, .slice AX 0 cX] 33) = w4 at *
  have gne : Hid (v.heap.size ≠ w3.heap.size) := C2.out.ne
  clear B3
  generalize hgx : w3.heap.size = gx at *
  generalize hg : v.heap.size = g at *
  have HG := Lib.hid hg
  clear hgx hg
  go_wp2_with fail
  go_loopw [8] (fun i wr => ∃ (k : Nat) (AB : Option Addr) (cB : Nat) (AT : Option Addr) (cT : Nat) (AX : Option Addr) (cX : Nat), k ≤ N ∧ i = .int .i64 k ∧ CG v wr g gx #[.slice AB k cB, .slice AT k cT, .int .i64 300, .slice none 0 0] #[.int .i64 50, .slice AX k cX] (.slice AB k cB) k (flat2 (bs k)) (.slice AT k cT) k (flat2 (ts k)) (.slice AX k cX) k ((az k).map (.int .i64))) (fun i _ => N - (intOf i).toNat)
  case atStart => exact ⟨0, none, 0, none, 0, AX, cX, Nat.zero_le _, rfl, by rw [HB0.out.1, HB0.out.2.1, HB0.out.2.2]; exact C2.out⟩
  case round =>
    obtain ⟨k, AB, cB, AT, cT, AX, cX, hk, rfl, hC⟩ := hrel
    have CK := Lib.hid hC
    clear hC C2
    by_cases hlt : k < N
    · have h4 : (k : Int) < 4 := by have := HN.out; omega
      go_upto_region 4 with fail
      go_cut [35] from 24 to 35 (fun s W => s = .bool true ∧ wr = W)
      case first =>
        by_cases hk0 : k = 0
        · subst hk0
          go_wp2_with fail
          go_meet
          exact ⟨rfl, rfl⟩
        · have hq1 : ((k : Int) == 0) = false := by simp; omega
          have hq2 : ((k : Int) = 0) = False := by simp; omega
          have hq3 : (k = 0) = False := by simp; omega
          have hq4 : (k : Int) < m := by have := HN.out; omega
          go_wp2_with fail
          go_meet
          exact ⟨rfl, rfl⟩
      case rest =>
        obtain ⟨rfl, rfl⟩ := hcut
        go_upto_if 42 with (fail)
        go_cut [9] from 42 to 50 (fun s W => s = .int .i64 (at_ k) ∧ wr = W)
        case first =>
          have hv := HAV.out k
          have hb := HAT.out k
          have ht0 := HT0.out
          by_cases hkm : k < m
          · have hkI : (k : Int) < m := by omega
            rw [if_pos hkm] at hv
            have hBw : Below gv w wr := BV.out.trans (CK.out.bel.mono (by have := BV.out.size; rw [HGV.out] at this; exact this))
            obtain ⟨be, oe, rfl, hce, _⟩ := HEB.out wr k hBw hkm
            clear hBw
            have hb1 := HBY.out k hkm
            generalize xs.getD k 0 = x at *
            have x1 : IntKind.i64.wrap x = x := IntWalk.i64_in _ (by omega)
            have x5 : x.tmod 100 = x % 100 := Int.tmod_eq_emod_of_nonneg hb1.1
            rw [x5] at hv
            have x2 : IntKind.i64.wrap (x % 100) = x % 100 := IntWalk.i64_in _ (by omega)
            have x3 : IntKind.i64.wrap (off + x % 100) = off + x % 100 := IntWalk.i64_in _ (by omega)
            have HV := Lib.hid hv
            clear hb hv
            go_wp2_with fail
            go_meet
            exact ⟨by rw [HV.out], rfl⟩
          · have hkI : ¬ (k : Int) < m := by omega
            rw [if_neg hkm, Int.add_zero] at hv
            have HV := Lib.hid hv
            clear hv hb
            go_wp2_with fail
            go_meet
            exact ⟨by rw [HV.out], rfl⟩
        case rest =>
          obtain ⟨rfl, rfl⟩ := hcut
          have hab := HAT.out k
          have ho := HT0.out
          generalize hpp : at_ k = p at *
          have HPP := Lib.hid hpp
          have y1 : IntKind.i64.wrap (p - off) = p - off := IntWalk.i64_in _ (by omega)
          have y2 : IntKind.i64.wrap (p + off) = p + off := IntWalk.i64_in _ (by omega)
          clear hab ho hpp
          have HS9 := Lib.hid (fun (W : World) (n1 : Nat) (u1 : Value) (l1 : List Value) (n2 : Nat) (u2 : Value) (l2 : List Value) (hc : CG v W g gx #[.slice AB k cB, .slice AT k cT, .int .i64 300, .slice none 0 0] #[.int .i64 50, .slice AX k cX] u1 n1 l1 u2 n2 l2 (.slice AX k cX) k ((az k).map (.int .i64))) => show W.cell? ⟨g, 0, none⟩ = some (.slice AB k cB) ∧ W.cell? ⟨g, 1, none⟩ = some (.slice AT k cT) from ⟨hc.bx.cell 0, hc.bx.cell 1⟩)
          go_wp2_with fail
          refine wp_region_untl (S := (fun W => W.cell? ⟨g, 0, none⟩ = some (.slice AB k cB) ∧ W.cell? ⟨g, 1, none⟩ = some (.slice AT k cT))) [17, 18, 19] (by kernel_rfl) (HS9.out _ _ _ _ _ _ _ (CK.out.below (Below.refl _ _).drew)) (fun s5 => ?_)
          have C5 := Lib.hid (CK.out.below (Below.refl _ _).drew)
          clear CK
          generalize wr.drew = v5 at *
          refine untlTake (i := 0) 51 (v := ?v6) rfl (by kernel_rfl) (by kernel_rfl) (by kernel_rfl) (by kernel_rfl) (by kernel_rfl) (by kernel_rfl) (fun _ _ _ h => h) (Or.inl ⟨by kernel_rfl, ?y6⟩) (by assumption) ?r6
          case y6 => (intro w hSw; obtain ⟨g0, g1⟩ := hSw; go_simp; try with_reducible rfl)
          refine untlTake (i := 1) 52 (v := ?v7) rfl (by kernel_rfl) (by kernel_rfl) (by kernel_rfl) (by kernel_rfl) (by kernel_rfl) (by kernel_rfl) (fun _ _ _ h => h) (Or.inl ⟨by kernel_rfl, ?y7⟩) (by assumption) ?r7
          case y7 => (intro w hSw; obtain ⟨g0, g1⟩ := hSw; go_simp; try with_reducible rfl)
          refine untlTake (i := 2) 53 (v := ?v8) rfl (by kernel_rfl) (by kernel_rfl) (by kernel_rfl) (by kernel_rfl) (by kernel_rfl) (by kernel_rfl) (fun _ _ _ h => h) (Or.inl ⟨by kernel_rfl, ?y8⟩) (by assumption) ?r8
          case y8 => (intro w hSw; obtain ⟨g0, g1⟩ := hSw; go_simp; try with_reducible rfl)
          simp only [Act.put, List.setIfInBounds_toArray, List.set_cons_zero, List.set_cons_succ]
          refine untlTake (i := 3) 54 (v := ?v9) rfl (by kernel_rfl) (by kernel_rfl) (by kernel_rfl) (by kernel_rfl) (by kernel_rfl) (by kernel_rfl) (fun _ _ _ h => h) (Or.inl ⟨by kernel_rfl, ?y9⟩) (by assumption) ?r9
          case y9 => (intro w hSw; obtain ⟨g0, g1⟩ := hSw; go_simp; try with_reducible rfl)
          refine untlTake (i := 4) 55 (v := ?v10) rfl (by kernel_rfl) (by kernel_rfl) (by kernel_rfl) (by kernel_rfl) (by kernel_rfl) (by kernel_rfl) (fun _ _ _ h => h) (Or.inl ⟨by kernel_rfl, ?y10⟩) (by assumption) ?r10
          case y10 => (intro w hSw; obtain ⟨g0, g1⟩ := hSw; go_simp; try with_reducible rfl)
          simp only [Act.put, List.setIfInBounds_toArray, List.set_cons_zero, List.set_cons_succ]
          refine untlTake (i := 5) 56 (v := ?v11) rfl (by kernel_rfl) (by kernel_rfl) (by kernel_rfl) (by kernel_rfl) (by kernel_rfl) (by kernel_rfl) (fun _ _ _ h => h) (Or.inl ⟨by kernel_rfl, ?y11⟩) (by assumption) ?r11
          case y11 => (intro w hSw; obtain ⟨g0, g1⟩ := hSw; go_simp; try with_reducible rfl)
          refine untlTake (i := 6) 57 (v := ?v12) rfl (by kernel_rfl) (by kernel_rfl) (by kernel_rfl) (by kernel_rfl) (by kernel_rfl) (by kernel_rfl) (fun _ _ _ h => h) (Or.inl ⟨by kernel_rfl, ?y12⟩) (by assumption) ?r12
          case y12 => (intro w hSw; obtain ⟨g0, g1⟩ := hSw; go_simp; try with_reducible rfl)
          refine untlTake (i := 7) 58 (v := ?v13) rfl (by kernel_rfl) (by kernel_rfl) (by kernel_rfl) (by kernel_rfl) (by kernel_rfl) (by kernel_rfl) (fun _ _ _ h => h) (Or.inl ⟨by kernel_rfl, ?y13⟩) (by assumption) ?r13
          case y13 => (intro w hSw; obtain ⟨g0, g1⟩ := hSw; go_simp; try with_reducible rfl)
          simp only [Act.put, List.setIfInBounds_toArray, List.set_cons_zero, List.set_cons_succ]
          refine untlTake (i := 11) 62 (v := ?v14) rfl (by kernel_rfl) (by kernel_rfl) (by kernel_rfl) (by kernel_rfl) (by kernel_rfl) (by kernel_rfl) (fun _ _ _ h => h) (Or.inl ⟨by kernel_rfl, ?y14⟩) (by assumption) ?r14
          case y14 => (intro w hSw; obtain ⟨g0, g1⟩ := hSw; go_simp; try with_reducible rfl)
          refine untlTake (i := 12) 63 (v := ?v15) rfl (by kernel_rfl) (by kernel_rfl) (by kernel_rfl) (by kernel_rfl) (by kernel_rfl) (by kernel_rfl) (fun _ _ _ h => h) (Or.inl ⟨by kernel_rfl, ?y15⟩) (by assumption) ?r15
          case y15 => (intro w hSw; obtain ⟨g0, g1⟩ := hSw; go_simp; try with_reducible rfl)
          simp only [Act.put, List.setIfInBounds_toArray, List.set_cons_zero, List.set_cons_succ]
          refine untlStep (i := 8) (by kernel_rfl) rfl (fun K8 hK8 => ?_)
          rw [if_pos (by rfl)]
          go_simp
          refine (HSP.out _ _ _).mono ?_
          rintro e v8 ⟨rfl, b8⟩
          have C8 := Lib.hid (C5.out.below b8)
          have s8 := HS9.out _ _ _ _ _ _ _ C8.out
          clear b8 C5 s5
          refine hK8.out _ _ (.inr s8) ?_
          refine untlStep (i := 9) (by kernel_rfl) rfl (fun K9 hK9 => ?_)
          go_simp
          have C9 := Lib.hid (C8.out.below (below_self v8 (.cells #[.int .i64 (p - off), .int .i64 (p + off)] 36)))
          have s9 := HS9.out _ _ _ _ _ _ _ C9.out
          clear C8 s8
          refine hK9.out _ _ (.inr s9) ?_
          refine untlStep (i := 10) (by kernel_rfl) rfl (fun K10 hK10 => ?_)
          refine step_append_at rfl (.tmp 52) (.tmp 60) 27 rfl v.heap.size 36 i0 _ 2 16 Try.underlying27 hi qz0 qz1 qz2 rfl (by decide) (.slice AB k cB) k (flat2 (bs k)) (by rfl) C9.out.o1 ⟨v8.heap.size, 0, none⟩ 1 1 (by rfl) [.int .i64 (p - off), .int .i64 (p + off)] rfl (span_news v8 _ _ rfl) (by simp [Value.oneCell']) (by have := HN.out; unfold maxLen; omega) (by have := HN.out; omega) C9.out.bel.size ?_
          intro u10 v10 hown hgrow hat
          obtain ⟨A2, c2, rfl⟩ := own_slice hown
          have C10 := Lib.hid (C9.out.app1 hown hgrow hat)
          have s10 := HS9.out _ _ _ _ _ _ _ C10.out
          clear hown hgrow hat C9 s9
          refine hK10.out _ _ (.inr s10) ?_
          refine untlTake (i := 16) 67 (v := ?v16) rfl (by kernel_rfl) (by kernel_rfl) (by kernel_rfl) (by kernel_rfl) (by kernel_rfl) (by kernel_rfl) (fun _ _ _ h => h) (Or.inl ⟨by kernel_rfl, ?y16⟩) (by assumption) ?r16
          case y16 => (intro w hSw; obtain ⟨g0, g1⟩ := hSw; go_simp; try with_reducible rfl)
          refine untlStep (i := 13) (by kernel_rfl) rfl (fun K13 hK13 => ?_)
          rw [if_pos (by rfl)]
          go_simp
          refine (HSP.out _ _ _).mono ?_
          rintro e v13 ⟨rfl, b13⟩
          have C13 := Lib.hid (C10.out.below b13)
          have s13 := HS9.out _ _ _ _ _ _ _ C13.out
          clear b13 C10 s10
          refine hK13.out _ _ (.inr s13) ?_
          refine untlStep (i := 14) (by kernel_rfl) rfl (fun K14 hK14 => ?_)
          go_simp
          have C14 := Lib.hid (C13.out.below (below_self v13 (.cells #[.int .i64 (200), .int .i64 (200)] 36)))
          have s14 := HS9.out _ _ _ _ _ _ _ C14.out
          clear C13 s13
          refine hK14.out _ _ (.inr s14) ?_
          refine untlStep (i := 15) (by kernel_rfl) rfl (fun K15 hK15 => ?_)
          refine step_append_at rfl (.tmp 63) (.tmp 65) 27 rfl v.heap.size 36 i0 _ 2 16 Try.underlying27 hi qz0 qz1 qz2 rfl (by decide) (.slice AT k cT) k (flat2 (ts k)) (by rfl) C14.out.o2 ⟨v13.heap.size, 0, none⟩ 1 1 (by rfl) [.int .i64 (200), .int .i64 (200)] rfl (span_news v13 _ _ rfl) (by simp [Value.oneCell']) (by have := HN.out; unfold maxLen; omega) (by have := HN.out; omega) C14.out.bel.size ?_
          intro u15 v15 hown hgrow hat
          obtain ⟨A3, c3, rfl⟩ := own_slice hown
          have C15 := Lib.hid (C14.out.app2 hown hgrow hat)
          have s15 := HS9.out _ _ _ _ _ _ _ C15.out
          clear hown hgrow hat C14 s14
          refine hK15.out _ _ (.inr s15) ?_
          refine untlStep (i := 17) (by kernel_rfl) rfl (fun K17 hK17 => ?_)
          rw [if_pos (by rfl)]
          have f15 := C15.out.bx.frozen 0
          have y15 := C15.out.bx.cell 0
          go_simp
          have C17 := Lib.hid (C15.out.setB 0 (.slice A2 (k + 1) c2))
          clear f15 y15 C15 s15
          refine hK17.out _ _ (.inl (by decide)) ?_
          refine untlStep (i := 18) (by kernel_rfl) rfl (fun K18 hK18 => ?_)
          go_simp
          refine hK18.out _ _ (.inl (by decide)) ?_
          refine untlStep (i := 19) (by kernel_rfl) rfl (fun K19 hK19 => ?_)
          rw [if_pos (by rfl)]
          have f17 := C17.out.bx.frozen 1
          have y17 := C17.out.bx.cell 1
          go_simp
          have C19' : Hid (CG v ((v15.setCell ⟨g, 0, none⟩ (.slice A2 (k + 1) c2)).setCell ⟨g, 1, none⟩ (.slice A3 (k + 1) c3)) g gx #[.slice A2 (k + 1) c2, .slice A3 (k + 1) c3, .int .i64 300, .slice none 0 0] #[.int .i64 50, .slice AX k cX] (.slice A2 (k + 1) c2) (k + 1) (flat2 (bs k) ++ [.int .i64 (p - off), .int .i64 (p + off)]) (.slice A3 (k + 1) c3) (k + 1) (flat2 (ts k) ++ [.int .i64 200, .int .i64 200]) (.slice AX k cX) k ((az k).map (.int .i64))) := C17.out.setB 1 (.slice A3 (k + 1) c3)
          clear f17 y17 C17
          refine hK19.out _ _ (.inl (by decide)) ?_
          refine untlDone (by kernel_rfl) ?_ _
          generalize (v15.setCell ⟨g, 0, none⟩ (.slice A2 (k + 1) c2)).setCell ⟨g, 1, none⟩ (.slice A3 (k + 1) c3) = w19 at *
          clear hK8 hK9 hK10 hK13 hK14 hK15 hK17 hK18 hK19 K8 K9 K10 K13 K14 K15 K17 K18 K19
          have C19 : Hid (CG v w19 g gx #[.slice A2 (k + 1) c2, .slice A3 (k + 1) c3, .int .i64 300, .slice none 0 0] #[.int .i64 50, .slice AX k cX] (.slice A2 (k + 1) c2) (k + 1) (flat2 (bs (k + 1))) (.slice A3 (k + 1) c3) (k + 1) (flat2 (ts (k + 1))) (.slice AX k cX) k ((az k).map (.int .i64))) := by
            rw [HBS.out, HTS.out, HPP.out, ← flat2_snoc, ← flat2_snoc]
            exact C19'.out
          clear C19' HS9
          have xc := C19.out.xx.cell 1
          go_wp2_with (at_builtin; refine wpList_append_any rfl _ _ 31 rfl v.heap.size 3 i1 (.int .i64 0) 1 8 Try.underlying31 ki kz0 kz1 kz2 rfl (by decide) (.slice AX k cX) k ((az k).map (.int .i64)) rfl (C19.out.below (below_self _ (.cells #[.int .i64 p] 3))).o3 (some ⟨w19.heap.size, 0, none⟩) 1 1 [.int .i64 p] rfl (ints_new1 w19 p 3 rfl) (by simp [Value.oneCell']) (by have := HN.out; unfold maxLen; omega) (by have := HN.out; omega) (C19.out.below (below_self _ (.cells #[.int .i64 p] 3))).bel.size ?_)
          intro u20 w20 hown hgrow
          obtain ⟨A4, c4, rfl⟩ := own_slice hown
          have C20 := Lib.hid ((C19.out.below (below_self _ (.cells #[.int .i64 p] 3))).app3 hown hgrow)
          clear hown hgrow xc C19
          have xf := C20.out.xx.frozen 1
          have xc := C20.out.xx.cell 1
          have C21 : Hid (CG v (w20.setCell ⟨gx, 1, none⟩ (.slice A4 (k + 1) c4)) g gx #[.slice A2 (k + 1) c2, .slice A3 (k + 1) c3, .int .i64 300, .slice none 0 0] #[.int .i64 50, .slice A4 (k + 1) c4] (.slice A2 (k + 1) c2) (k + 1) (flat2 (bs (k + 1))) (.slice A3 (k + 1) c3) (k + 1) (flat2 (ts (k + 1))) (.slice A4 (k + 1) c4) (k + 1) ((az (k + 1)).map (.int .i64))) := by
            rw [HAS.out, HPP.out, List.map_append]
            exact C20.out.setX 1 (.slice A4 (k + 1) c4)
          clear C20
          go_wp2_with fail
          go_roundw
          case rel => exact ⟨k + 1, A2, c2, A3, c3, A4, c4, by omega, by go_num, C21.out⟩
          case measure => simp [intOf]; omega
    · obtain rfl : N = k := by omega
      have BK := Lib.hid CK.out.bel
      go_upto_region 4 with fail
      go_cut [35] from 24 to 35 (fun s W => s = .bool false ∧ wr = W)
      case first =>
        by_cases h4 : (N : Int) < 4
        · have hq1 : ((N : Int) == 0) = false := by have := HN.out; simp; omega
          have hq2 : ((N : Int) = 0) = False := by have := HN.out; simp; omega
          have hq3 : (N = 0) = False := by have := HN.out; simp; omega
          have hq4 : ¬ (N : Int) < m := by have := HN.out; omega
          go_wp2_with fail
          go_meet
          exact ⟨rfl, rfl⟩
        · go_wp2_with fail
          go_meet
          exact ⟨rfl, rfl⟩
      case rest =>
        obtain ⟨rfl, rfl⟩ := hcut
        have pv := span2_getA (blk_keep BK.out PV.out)
        clear HSP HBS HTS HAS HB0 HAV HBY HEB HAT
        have n14 : Hid (1 ≤ N ∧ N ≤ 4) := by have := HN.out; unfold Hid; omega
        go_upto_region 12 with fail
        clear pv hk hlt
        have G1 := Lib.hid (Blk.new wr 39 #[.int .i64 0, .int .i64 off, .int .i64 0, .int .i64 cu] (g := wr.heap.size) rfl)
        have C1 := Lib.hid (CK.out.below (below_self wr (.cells #[.int .i64 0, .int .i64 off, .int .i64 0, .int .i64 cu] 39)))
        generalize wr.alloc (.cells #[.int .i64 0, .int .i64 off, .int .i64 0, .int .i64 cu] 39) = wa at *
        generalize wr.heap.size = gg at *
        clear CK BK
        have b4 := bld_get C1.out.bx
        have HOB := Lib.hid (oakBlade_any N cB cT AB AT 300 (bs N) (ts N) wa (own_pairsA C1.out.o1) (own_pairsA C1.out.o2) (by have := n14.out; omega))
        unfold BladeRes at HOB
        go_wp2_with fail
        refine HOB.out.mono ?_
        rintro e wb ⟨A5, c5, B5, d5, K5, f5, rfl, p5, q5, bb⟩
        have C2 := Lib.hid (C1.out.below bb)
        have G2 := Lib.hid (blk_keep bb G1.out)
        have HCU := Lib.hid (HCV.out N n14.out.1 n14.out.2 A5 B5 K5 c5 d5 f5 wb p5 q5)
        clear b4 HOB p5 q5 bb C1 G1
        go_wp2_with fail
        refine HCU.out.mono ?_
        rintro e wd ⟨g5, c6, B6, d6, rfl, p6, bd⟩
        have C3 := Lib.hid (C2.out.below bd)
        have G3 := Lib.hid (blk_keep bd G2.out)
        have P6 := Lib.hid p6
        clear HCU p6 bd C2 G2 HCV HTE
        go_upto_region 13 with fail
        have IX := Lib.hid (ints_own C3.out.o3)
        have HS13 := Lib.hid (fun W (hb : Below wd.heap.size wd W) => show (W.cell? ⟨gx, 0, none⟩ = some (.int .i64 50) ∧ W.cell? ⟨gx, 1, none⟩ = some (.slice AX N cX)) ∧ W.cell? ⟨gg, 0, none⟩ = some (.int .i64 0) ∧ W.cell? ⟨gg, 1, none⟩ = some (.int .i64 off) ∧ W.cell? ⟨gg, 2, none⟩ = some (.int .i64 0) ∧ W.cell? ⟨gg, 3, none⟩ = some (.int .i64 cu) from ⟨gd_get (blk_keep hb C3.out.xx), gg_get (blk_keep hb G3.out)⟩)
        have HA2 := Lib.hid (fun A B c d W => HALN.out N n14.out.1 n14.out.2 A B c d W)
        clear HALN HAL
        go_region_held3 (fun W => (W.cell? ⟨gx, 0, none⟩ = some (.int .i64 50) ∧ W.cell? ⟨gx, 1, none⟩ = some (.slice AX N cX)) ∧ W.cell? ⟨gg, 0, none⟩ = some (.int .i64 0) ∧ W.cell? ⟨gg, 1, none⟩ = some (.int .i64 off) ∧ W.cell? ⟨gg, 2, none⟩ = some (.int .i64 0) ∧ W.cell? ⟨gg, 3, none⟩ = some (.int .i64 cu))
          (first | with_reducible exact HS13.out _ H2.out | with_reducible exact HS13.out _ H1.out | with_reducible exact HS13.out _ (Below.refl _ _).drew | with_reducible exact HS13.out _ (Below.refl _ _))
          (first | (go_at_call 6; refine (HOG.out AX N cX (az N) wd.drew IX.out (by have := n14.out; omega)).mono ?_; rintro e we ⟨A7, c7, rfl, o7, b7⟩; have H1 := Lib.hid (below_then (Below.refl wd.heap.size wd).drew b7); have I7 := Lib.hid (ints_own o7); clear b7 o7) | (go_at_call 10; refine (HA2.out A7 AX c7 cX we I7.out (IX.out.below H1.out)).mono ?_; rintro e wf ⟨rfl, b8⟩; have H2 := Lib.hid (below_then H1.out b8); clear b8))
        all_goals
          have C4 := Lib.hid (C3.out.below H2.out)
          have G4 := Lib.hid (blk_keep H2.out G3.out)
          have P7 := Lib.hid (P6.out.below H2.out)
          clear C3 G3 P6 HS13 HA2 H1 H2 I7 IX HOG
          have b4 := bld_get C4.out.bx
          have g4 := gg_get G4.out
          have k6 : IntKind.i64.wrap (2 * off) = 2 * off := IntWalk.i64_in _ (by have := HT0.out; omega)
          go_upto_region 14 with fail
          go_cut [14, 124] from 98 to 124 (fun s14 s W => s14 = .bool Q ∧ s = .bool false ∧ wf = W)
          case first =>
            have hdd := HQ.out
            cases Q
            case true =>
              have hdd : 2 * off ≤ cu := of_decide_eq_true hdd
              go_wp2_with fail
              go_meet
              exact ⟨rfl, rfl, rfl⟩
            case false =>
              have hdd : ¬ 2 * off ≤ cu := of_decide_eq_false hdd
              go_wp2_with fail
              go_meet
              exact ⟨rfl, rfl, rfl⟩
          case rest =>
            obtain ⟨rfl, rfl, rfl⟩ := hcut
            have hn4 := n14.out
            clear b4 g4 k6 G4 e0 e1 e2 e3 hoff hcu
            have B4 := Lib.hid C4.out.bel
            have PA := Lib.hid (own_pairsA C4.out.o1)
            have X4 := Lib.hid C4.out.bx
            clear C4
            go_wp2_with fail
            go_loopw [17] (fun i wr => ∃ k : Nat, k ≤ N ∧ i = .int .i64 k ∧ Below wf.heap.size wf wr) (fun i _ => N - (intOf i).toNat)
            case atStart => exact ⟨0, Nat.zero_le _, rfl, Below.refl _ _⟩
            case round =>
              obtain ⟨k, hk, rfl, hbel⟩ := hrel
              have BK := Lib.hid hbel
              by_cases hlt : k < N
              · have hkI : (k : Int) < N := by omega
                obtain ⟨ba, oa, eA, -, ca0, ca1⟩ := (PA.out.below hbel).at_ hlt
                obtain ⟨bc, oc, eC, -, cc0, cc1⟩ := (P7.out.below hbel).at_ hlt
                simp only [Option.some.injEq, Addr.mk.injEq, and_true] at eC
                obtain ⟨rfl, rfl⟩ := eC
                subst eA
                rw [Nat.zero_add] at cc0 cc1
                generalize (bs N).getD k (0, 0) = q at *
                obtain ⟨qa, qb⟩ := q
                simp only at ca0 ca1 cc0 cc1
                have x4 := bld_get (blk_keep hbel X4.out)
                clear hbel
                go_wp2_with fail
                go_quiet (first | fail)
                go_wp2_with fail
                go_roundw
                case rel => exact ⟨k + 1, by omega, by go_num, below_drewN BK.out _⟩
                case measure => simp [intOf]; omega
              · obtain rfl : N = k := by omega
                clear hbel
                go_wp2_with (go_at_call 11; refine (HK.out _).mono ?_; rintro e W21 ⟨rfl, b21⟩)
                go_ret
                refine ⟨rfl, ?_⟩
                have h1 : Below w.heap.size w v := HGV.out ▸ BV.out
                exact h1.trans ((below_then (below_then B4.out BK.out) b21).mono h1.size)

end Go.Proofs.Ytllioljphpgfhaa
