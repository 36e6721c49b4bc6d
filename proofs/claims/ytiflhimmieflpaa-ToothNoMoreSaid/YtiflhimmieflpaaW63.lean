/- Walks: the reference's Fault. -/
import Derived.Test.YtiflhimmieflpaaW62
namespace Go.Proofs.Ytiflhimmieflpaa
open Go.RowKit Go.Maps

/-- The boxes of a function of a view and a saw. -/
structure RFV (w : World) (V : Vw) (s : Sw) (W : World) : Prop where
  v : Blk W w.heap.size 46 #[.slice V.A V.n V.c, .slice V.A' V.n V.c', .slice V.K V.m V.d]
  s : Blk W (w.heap.size + 1) 37 #[.int .i64 s.long, .int .i64 s.wide, .int .i64 s.kerf, .int .i64 s.across]
  bel : Below w.heap.size w W
theorem RFV.new (w : World) (V : Vw) (s : Sw) : RFV w V s ((w.alloc (.cells #[.slice V.A V.n V.c, .slice V.A' V.n V.c', .slice V.K V.m V.d] 46)).alloc (.cells #[.int .i64 s.long, .int .i64 s.wide, .int .i64 s.kerf, .int .i64 s.across] 37)) :=
  ⟨(Blk.new w _ _ rfl).alloc _, Blk.new _ _ _ (by simp), below_alloc' (below_self _ _) _⟩
theorem RFV.below {w W W' : World} {V : Vw} {s : Sw} (h : RFV w V s W) (hb : Below W.heap.size W W') : RFV w V s W' := ⟨blk_keep hb h.v, blk_keep hb h.s, below_then h.bel hb⟩
theorem RFV.drewd {w W : World} {V : Vw} {s : Sw} (h : RFV w V s W) : RFV w V s W.drew := ⟨h.v, h.s, h.bel.drew⟩
theorem RFV.get {w W : World} {V : Vw} {s : Sw} (h : RFV w V s W) : (W.cell? ⟨w.heap.size, 0, none⟩ = some (.slice V.A V.n V.c) ∧ W.cell? ⟨w.heap.size, 1, none⟩ = some (.slice V.A' V.n V.c') ∧ W.cell? ⟨w.heap.size, 2, none⟩ = some (.slice V.K V.m V.d)) ∧
    W.cell? ⟨w.heap.size + 1, 0, none⟩ = some (.int .i64 s.long) ∧ W.cell? ⟨w.heap.size + 1, 1, none⟩ = some (.int .i64 s.wide) ∧ W.cell? ⟨w.heap.size + 1, 2, none⟩ = some (.int .i64 s.kerf) ∧ W.cell? ⟨w.heap.size + 1, 3, none⟩ = some (.int .i64 s.across) :=
  ⟨⟨h.v.cell 0, h.v.cell 1, h.v.cell 2⟩, h.s.cell 0, h.s.cell 1, h.s.cell 2, h.s.cell 3⟩
theorem cell_keep {W W' : World} (hb : Below W.heap.size W W') {a : Addr} {v : Value} (hc : W.cell? a = some v) : W'.cell? a = some v := (hb.cell (World.block_lt_of_cell? W a hc)).trans hc

/-- Whether the stick k of a layout is wrong, by a view. -/
def wrongV (V : Vw) (s : Sw) (ps : List (Int × Int)) (k : Nat) : Bool :=
  !soundV V s (ps.getD k (0, 0)).1.toNat (ps.getD k (0, 0)).2 || (ps.take k).any (fun q : Int × Int => !apartB s (ps.getD k (0, 0)).1 (ps.getD k (0, 0)).2 q.1 q.2)
theorem any_take_succ {f : Int × Int → Bool} {xs : List (Int × Int)} {j : Nat} (hj : j < xs.length) : (xs.take (j + 1)).any f = ((xs.take j).any f || f (xs.getD j (0, 0))) := by
  rw [List.take_add_one, List.any_append, List.getElem?_eq_getElem hj]
  simp [List.getD, hj]
theorem any_take_yes {f : Int × Int → Bool} {xs : List (Int × Int)} {j k : Nat} (hj : j < xs.length) (hk : j < k) (h : f (xs.getD j (0, 0)) = true) : (xs.take k).any f = true := by
  rw [List.any_eq_true]
  refine ⟨xs.getD j (0, 0), ?_, h⟩
  have e : xs.getD j (0, 0) = xs[j] := by simp [List.getD, hj]
  rw [e]
  exact List.mem_take_iff_getElem.2 ⟨j, by omega, rfl⟩
theorem pairs_cell {w : World} {b off n k : Nat} {xs : List (Int × Int)} (h : Pairs w (some ⟨b, off, none⟩) n xs) (hk : k < n) : w.cell? ⟨b, off + k * 2, none⟩ = some (.int .i64 (xs.getD k (0, 0)).1) ∧ w.cell? ⟨b, off + k * 2 + 1, none⟩ = some (.int .i64 (xs.getD k (0, 0)).2) := by
  obtain ⟨b', o', hA, _, q0, q1⟩ := Pairs.at_ h hk
  simp only [Option.some.injEq, Addr.mk.injEq, and_true] at hA
  obtain ⟨rfl, rfl⟩ := hA
  exact ⟨q0, q1⟩
def RefFaultRes (w : World) (V : Vw) (s : Sw) (n : Nat) (ps : List (Int × Int)) (e : Ending) (w' : World) : Prop :=
  Below w.heap.size w w' ∧ ((∃ k : Nat, k < n ∧ wrongV V s ps k = true ∧ (∀ j, j < k → wrongV V s ps j = false) ∧ e = .returned (.int .i64 k)) ∨ ((∀ j, j < n → wrongV V s ps j = false) ∧ e = .returned (.int .i64 (-1))))

set_option maxRecDepth 100000 in
set_option maxHeartbeats 4000000 in
theorem RefFault_any (V : Vw) (s : Sw) (A : Option Addr) (n cp : Nat) (ps : List (Int × Int)) (w : World) (h : V.At w) (hs : s.Ok) (hp : Pairs w A n ps) (hn : n ≤ maxLen) (hin : ∀ p ∈ ps, 0 ≤ p.1 ∧ p.1 + s.long ≤ V.n ∧ 0 ≤ p.2 ∧ p.2 ≤ 300) :
    Calls Try.prog 39 #[V.val, s.val, .slice A n cp] w (RefFaultRes w V s n ps) := by
  unfold maxLen at hn
  have HIN := Lib.hid hin
  have HPS := Lib.hid (fun W (hb : Below w.heap.size w W) => hp.below hb)
  have hl := hp.len
  have n1 := h.n1
  have l1 := hs.l1
  have l2 := hs.l2
  have HSO := Lib.hid (fun (x : Nat) (y : Int) W (hb : Below w.heap.size w W) (hx : (x : Int) + s.long ≤ V.n) (y0 : 0 ≤ y) (y3 : y ≤ 300) => Sound_any V s x y W (h.below hb) hs hx y0 y3)
  have HAP := Lib.hid (fun (px py qx qy : Int) W (h1 : SmallI px) (h2 : SmallI py) (h3 : SmallI qx) (h4 : SmallI qy) => RefApart_any s px py qx qy W hs h1 h2 h3 h4)
  have R0 := Lib.hid (RFV.new w V s)
  clear h hp hs hin
  unfold Vw.val Sw.val at *
  go_enter Try.func39, Try.ntmps39
  go_wp2_with fail
  go_loopw [7] (fun iv wr => ∃ k : Nat, k ≤ n ∧ iv = .int .i64 k ∧ (∀ j, j < k → wrongV V s ps j = false) ∧ RFV w V s wr) (fun iv _ => n - (intOf iv).toNat)
  case atStart => exact ⟨0, Nat.zero_le _, rfl, fun j hj => absurd hj (by omega), R0.out⟩
  case round =>
    obtain ⟨k, hk, rfl, hno, hrv⟩ := hrel
    have HNO := Lib.hid hno
    have HR := Lib.hid hrv
    clear hno hrv R0
    by_cases hkn : k < n
    · have hmem : ps.getD k (0, 0) ∈ ps := by
        have e : ps.getD k (0, 0) = ps[k]'(by omega) := by simp [List.getD, hl, hkn]
        rw [e]; exact List.getElem_mem _
      have hin := HIN.out _ hmem
      obtain ⟨b, off, hA, hb, q0, q1⟩ := Pairs.at_ (HPS.out wr.drew HR.out.drewd.bel) hkn
      subst hA
      have HWR : Hid (wrongV V s ps k = (!soundV V s (ps.getD k (0, 0)).1.toNat (ps.getD k (0, 0)).2 || (ps.take k).any (fun q : Int × Int => !apartB s (ps.getD k (0, 0)).1 (ps.getD k (0, 0)).2 q.1 q.2))) := rfl
      have HNX : Hid (wrongV V s ps k = false → ∀ j, j < k + 1 → wrongV V s ps j = false) := fun he j hj => by
        by_cases e : j = k
        · rw [e]; exact he
        · exact HNO.out j (by omega)
      have HQK := Lib.hid (fun W (hb : Below w.heap.size w W) => pairs_cell (HPS.out W hb) hkn)
      clear hmem
      generalize (ps.getD k (0, 0)).1 = px at *
      generalize (ps.getD k (0, 0)).2 = py at *
      obtain ⟨p1, p2, p3, p4⟩ := hin
      obtain ⟨X, rfl⟩ := Int.eq_ofNat_of_zero_le p1
      rw [Int.toNat_natCast] at HWR
      have HS5 := Lib.hid (fun W hb => HSO.out X py W hb (by omega) p3 p4)
      have HA5 := Lib.hid (fun qx qy W h3 h4 => HAP.out (X : Int) py qx qy W ⟨by omega, by omega⟩ ⟨by omega, by omega⟩ h3 h4)
      have R5 := Lib.hid HR.out.drewd
      have K5 : Hid (((wr.drew.cell? ⟨w.heap.size, 0, none⟩ = some (.slice V.A V.n V.c) ∧ wr.drew.cell? ⟨w.heap.size, 1, none⟩ = some (.slice V.A' V.n V.c') ∧ wr.drew.cell? ⟨w.heap.size, 2, none⟩ = some (.slice V.K V.m V.d)) ∧
        wr.drew.cell? ⟨w.heap.size + 1, 0, none⟩ = some (.int .i64 s.long) ∧ wr.drew.cell? ⟨w.heap.size + 1, 1, none⟩ = some (.int .i64 s.wide) ∧ wr.drew.cell? ⟨w.heap.size + 1, 2, none⟩ = some (.int .i64 s.kerf) ∧ wr.drew.cell? ⟨w.heap.size + 1, 3, none⟩ = some (.int .i64 s.across)) ∧ wr.drew.cell? ⟨b, off + k * 2, none⟩ = some (.int .i64 X) ∧ wr.drew.cell? ⟨b, off + k * 2 + 1, none⟩ = some (.int .i64 py)) := ⟨R5.out.get, q0, q1⟩
      clear q0 q1
      have hx2 : (k : Int) < (n : Int) := by omega
      cases hsd : soundV V s X py
      · have HX : Hid (wrongV V s ps k = true) := by unfold Hid; rw [HWR.out, hsd]; rfl
        rw [hsd] at HS5
        clear HWR hsd HNX HA5 HAP HSO HQK HPS HIN
        go_upto_region 4 with (fail)
        go_region_held3 (fun W => ((W.cell? ⟨w.heap.size, 0, none⟩ = some (.slice V.A V.n V.c) ∧ W.cell? ⟨w.heap.size, 1, none⟩ = some (.slice V.A' V.n V.c') ∧ W.cell? ⟨w.heap.size, 2, none⟩ = some (.slice V.K V.m V.d)) ∧
          W.cell? ⟨w.heap.size + 1, 0, none⟩ = some (.int .i64 s.long) ∧ W.cell? ⟨w.heap.size + 1, 1, none⟩ = some (.int .i64 s.wide) ∧ W.cell? ⟨w.heap.size + 1, 2, none⟩ = some (.int .i64 s.kerf) ∧ W.cell? ⟨w.heap.size + 1, 3, none⟩ = some (.int .i64 s.across)) ∧ W.cell? ⟨b, off + k * 2, none⟩ = some (.int .i64 X) ∧ W.cell? ⟨b, off + k * 2 + 1, none⟩ = some (.int .i64 py))
          (first | with_reducible exact K5.out | with_reducible exact K6.out)
          (first | (go_at_call 28; refine (HS5.out _ R5.out.bel).mono ?_; rintro e W6 ⟨rfl, b6⟩; have R6 := Lib.hid (R5.out.below b6); have K6 := Lib.hid (And.intro R6.out.get (And.intro (cell_keep b6 K5.out.2.1) (cell_keep b6 K5.out.2.2))); clear b6))
        clear K5 K6 R5 HS5
        go_wp2
        go_ret
        exact ⟨R6.out.bel, .inl ⟨k, hkn, HX.out, HNO.out, rfl⟩⟩
      · rw [hsd] at HS5 HWR
        have HW2 : Hid (wrongV V s ps k = (ps.take k).any (fun q : Int × Int => !apartB s (X : Int) py q.1 q.2)) := by unfold Hid; rw [HWR.out]; rfl
        clear HWR hsd HAP HSO
        go_upto_region 4 with (fail)
        go_region_held3 (fun W => ((W.cell? ⟨w.heap.size, 0, none⟩ = some (.slice V.A V.n V.c) ∧ W.cell? ⟨w.heap.size, 1, none⟩ = some (.slice V.A' V.n V.c') ∧ W.cell? ⟨w.heap.size, 2, none⟩ = some (.slice V.K V.m V.d)) ∧
          W.cell? ⟨w.heap.size + 1, 0, none⟩ = some (.int .i64 s.long) ∧ W.cell? ⟨w.heap.size + 1, 1, none⟩ = some (.int .i64 s.wide) ∧ W.cell? ⟨w.heap.size + 1, 2, none⟩ = some (.int .i64 s.kerf) ∧ W.cell? ⟨w.heap.size + 1, 3, none⟩ = some (.int .i64 s.across)) ∧ W.cell? ⟨b, off + k * 2, none⟩ = some (.int .i64 X) ∧ W.cell? ⟨b, off + k * 2 + 1, none⟩ = some (.int .i64 py))
          (first | with_reducible exact K5.out | with_reducible exact K6.out)
          (first | (go_at_call 28; refine (HS5.out _ R5.out.bel).mono ?_; rintro e W6 ⟨rfl, b6⟩; have R6 := Lib.hid (R5.out.below b6); have K6 := Lib.hid (And.intro R6.out.get (And.intro (cell_keep b6 K5.out.2.1) (cell_keep b6 K5.out.2.2))); clear b6))
        clear K5 K6 R5 HS5
        go_wp2_with fail
        go_loopw [8] (fun jv wr => ∃ j : Nat, j ≤ k ∧ jv = .int .i64 j ∧ (ps.take j).any (fun q : Int × Int => !apartB s (X : Int) py q.1 q.2) = false ∧ RFV w V s wr) (fun jv _ => k - (intOf jv).toNat)
        case atStart => exact ⟨0, Nat.zero_le _, rfl, rfl, R6.out⟩
        case round =>
          obtain ⟨j, hj, rfl, hto, hrv⟩ := hrel
          have HTO := Lib.hid hto
          have HR2 := Lib.hid hrv
          clear hto hrv R6 HR
          by_cases hjk : j < k
          · have hjn : j < n := by omega
            have hmem : ps.getD j (0, 0) ∈ ps := by
              have e : ps.getD j (0, 0) = ps[j]'(by omega) := by simp [List.getD, hl, hjn]
              rw [e]; exact List.getElem_mem _
            have hin := HIN.out _ hmem
            obtain ⟨q0, q1⟩ := pairs_cell (HPS.out wr.drew HR2.out.drewd.bel) hjn
            obtain ⟨k0, k1⟩ := HQK.out wr.drew HR2.out.drewd.bel
            have HSU := Lib.hid (any_take_succ (f := fun q : Int × Int => !apartB s (X : Int) py q.1 q.2) (xs := ps) (j := j) (by omega))
            have HYE := Lib.hid (fun h => any_take_yes (f := fun q : Int × Int => !apartB s (X : Int) py q.1 q.2) (xs := ps) (j := j) (k := k) (by omega) hjk h)
            have RA := Lib.hid HR2.out.drewd
            clear hmem
            generalize (ps.getD j (0, 0)).1 = qx at *
            generalize (ps.getD j (0, 0)).2 = qy at *
            have HAJ := Lib.hid (fun W => HA5.out qx qy W ⟨by omega, by omega⟩ ⟨by omega, by omega⟩)
            have KA := Lib.hid (And.intro RA.out.get.2 (And.intro (And.intro k0 k1) (And.intro q0 q1)))
            have hj2 : (j : Int) < (n : Int) := by omega
            clear q0 q1 k0 k1 hin HPS HIN HQK HA5
            cases hap : apartB s (X : Int) py qx qy
            · have HX : Hid (wrongV V s ps k = true) := by unfold Hid; rw [HW2.out]; exact HYE.out (by rw [hap]; rfl)
              rw [hap] at HAJ
              clear hap HSU HYE HW2 HNX
              go_upto_region 9 with (fail)
              go_region_held3 (fun W => (W.cell? ⟨w.heap.size + 1, 0, none⟩ = some (.int .i64 s.long) ∧ W.cell? ⟨w.heap.size + 1, 1, none⟩ = some (.int .i64 s.wide) ∧ W.cell? ⟨w.heap.size + 1, 2, none⟩ = some (.int .i64 s.kerf) ∧ W.cell? ⟨w.heap.size + 1, 3, none⟩ = some (.int .i64 s.across)) ∧ (W.cell? ⟨b, off + k * 2, none⟩ = some (.int .i64 X) ∧ W.cell? ⟨b, off + k * 2 + 1, none⟩ = some (.int .i64 py)) ∧ W.cell? ⟨b, off + j * 2, none⟩ = some (.int .i64 qx) ∧ W.cell? ⟨b, off + j * 2 + 1, none⟩ = some (.int .i64 qy))
                (first | with_reducible exact KA.out | with_reducible exact KB.out)
                (first | (go_at_call 77; refine (HAJ.out _).mono ?_; rintro e WB ⟨rfl, bB⟩; have RB := Lib.hid (RA.out.below bB); have KB := Lib.hid (And.intro RB.out.get.2 (And.intro (And.intro (cell_keep bB KA.out.2.1.1) (cell_keep bB KA.out.2.1.2)) (And.intro (cell_keep bB KA.out.2.2.1) (cell_keep bB KA.out.2.2.2)))); clear bB))
              clear KA KB RA HAJ
              go_wp2
              go_ret
              exact ⟨RB.out.bel, .inl ⟨k, hkn, HX.out, HNO.out, rfl⟩⟩
            · have HX : Hid ((ps.take (j + 1)).any (fun q : Int × Int => !apartB s (X : Int) py q.1 q.2) = false) := by unfold Hid; rw [HSU.out, HTO.out, hap]; rfl
              rw [hap] at HAJ
              clear hap HSU HYE HW2 HNX
              go_upto_region 9 with (fail)
              go_region_held3 (fun W => (W.cell? ⟨w.heap.size + 1, 0, none⟩ = some (.int .i64 s.long) ∧ W.cell? ⟨w.heap.size + 1, 1, none⟩ = some (.int .i64 s.wide) ∧ W.cell? ⟨w.heap.size + 1, 2, none⟩ = some (.int .i64 s.kerf) ∧ W.cell? ⟨w.heap.size + 1, 3, none⟩ = some (.int .i64 s.across)) ∧ (W.cell? ⟨b, off + k * 2, none⟩ = some (.int .i64 X) ∧ W.cell? ⟨b, off + k * 2 + 1, none⟩ = some (.int .i64 py)) ∧ W.cell? ⟨b, off + j * 2, none⟩ = some (.int .i64 qx) ∧ W.cell? ⟨b, off + j * 2 + 1, none⟩ = some (.int .i64 qy))
                (first | with_reducible exact KA.out | with_reducible exact KB.out)
                (first | (go_at_call 77; refine (HAJ.out _).mono ?_; rintro e WB ⟨rfl, bB⟩; have RB := Lib.hid (RA.out.below bB); have KB := Lib.hid (And.intro RB.out.get.2 (And.intro (And.intro (cell_keep bB KA.out.2.1.1) (cell_keep bB KA.out.2.1.2)) (And.intro (cell_keep bB KA.out.2.2.1) (cell_keep bB KA.out.2.2.2)))); clear bB))
              clear KA KB RA HAJ
              go_wp2
              go_roundw
              case rel => exact ⟨j + 1, by omega, by go_num, HX.out, RB.out⟩
              case measure => simp [intOf]; omega
          · obtain rfl : j = k := by omega
            have HX := Lib.hid (HNX.out (by rw [HW2.out]; exact HTO.out))
            clear HW2 HTO HNX HNO HPS HIN HQK HA5
            go_wp2
            go_roundw
            case rel => exact ⟨j + 1, by omega, by go_num, HX.out, HR2.out⟩
            case measure => simp [intOf]; omega
    · obtain rfl : k = n := by omega
      clear HPS HIN HAP HSO
      go_wp2
      go_ret
      exact ⟨HR.out.bel, .inr ⟨HNO.out, rfl⟩⟩
end Go.Proofs.Ytiflhimmieflpaa
