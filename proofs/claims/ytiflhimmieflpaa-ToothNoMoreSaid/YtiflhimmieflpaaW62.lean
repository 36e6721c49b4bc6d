/- Walks: the code's Fault. -/
import Derived.Test.YtiflhimmieflpaaW61
namespace Go.Proofs.Ytiflhimmieflpaa
open Go.RowKit Go.Maps

theorem holds_all {n : Nat} {long : Int} {ps : List (Int × Int)} (h : holdsB n long ps = true) : ∀ p ∈ ps, 0 ≤ p.1 ∧ p.1 + long ≤ n ∧ 0 ≤ p.2 ∧ p.2 ≤ 300 := by
  intro p hp
  unfold holdsB noneOf at h
  have := (List.all_eq_true.1 h) p hp
  simp only [Bool.not_not, placeOk, within, List.all_cons, List.all_nil, Bool.and_true, Bool.and_eq_true, decide_eq_true_eq] at this
  omega
theorem pairs_take {w : World} {A : Option Addr} {n k : Nat} {xs : List (Int × Int)} (h : Pairs w A n xs) (hk : k ≤ n) : Pairs w A k (xs.take k) := by
  have hl := h.len
  refine ⟨by rw [flat2_length, List.length_take]; omega, fun h0 => ?_⟩
  obtain ⟨b, off, e, hb, hc⟩ := h.2 (by omega)
  refine ⟨b, off, e, hb, fun j u hu => hc j u ?_⟩
  have e2 : flat2 xs = flat2 (xs.take k) ++ flat2 (xs.drop k) := by rw [← flat2_append, List.take_append_drop]
  rw [e2, List.getElem?_append_left (List.getElem?_eq_some_iff.1 hu).1]
  exact hu
/-- Whether the stick k of a layout is wrong: not sound, or not apart from one before it. -/
def wrongS (S : Sawing) (ps : List (Int × Int)) (k : Nat) : Bool :=
  !soundS S (ps.getD k (0, 0)).1.toNat (ps.getD k (0, 0)).2 || (ps.take k).any (fun q : Int × Int => !apartB ⟨S.long, S.wide, S.kerf, S.across⟩ (ps.getD k (0, 0)).1 (ps.getD k (0, 0)).2 q.1 q.2)
def FaultRes (w : World) (B : Bl) (s : Sw) (n : Nat) (ps : List (Int × Int)) (e : Ending) (w' : World) : Prop :=
  Below w.heap.size w w' ∧ ((B.err s ≠ 0 ∧ e = .returned (.tuple #[.int .i64 0, .int .i64 (B.err s)])) ∨ (B.err s = 0 ∧ 400 < n ∧ e = .returned (.tuple #[.int .i64 0, .int .i64 5])) ∨
    (B.err s = 0 ∧ n ≤ 400 ∧ holdsB B.n s.long ps = false ∧ e = .returned (.tuple #[.int .i64 0, .int .i64 2])) ∨
    (B.err s = 0 ∧ n ≤ 400 ∧ holdsB B.n s.long ps = true ∧ ((∃ k : Nat, k < n ∧ wrongS (B.worst s) ps k = true ∧ (∀ j, j < k → wrongS (B.worst s) ps j = false) ∧ e = .returned (.tuple #[.int .i64 k, .int .i64 0])) ∨
      ((∀ j, j < n → wrongS (B.worst s) ps j = false) ∧ e = .returned (.tuple #[.int .i64 0, .int .i64 7])))))

set_option maxRecDepth 100000 in
set_option maxHeartbeats 4000000 in
theorem Fault_any (B : Bl) (s : Sw) (A : Option Addr) (n cp : Nat) (ps : List (Int × Int)) (w : World) (h : B.At w) (hp : Pairs w A n ps) (hn : n ≤ maxLen) (hcp : n ≤ cp) : Calls Try.prog 38 #[B.val, s.val, .slice A n cp] w (FaultRes w B s n ps) := by
  have hmf : ∀ (fn : Fn) (first cap : Array Value) (w : World), (Instr.makeFunc fn first cap).run Try.prog w = .ok (.func fn first cap) w := fun _ _ _ _ => rfl
  have E0 : Hid (Below w.heap.size w ((w.alloc (.cells #[.slice B.A B.n B.c, .slice B.A' B.n' B.c', .int .i64 B.bend, .slice B.K B.m B.d] 25)).alloc (.cells #[.int .i64 s.long, .int .i64 s.wide, .int .i64 s.kerf, .int .i64 s.across] 37))) := below_alloc' (below_self _ _) _
  have S0 := Lib.hid (Blk.new (w.alloc (.cells #[.slice B.A B.n B.c, .slice B.A' B.n' B.c', .int .i64 B.bend, .slice B.K B.m B.d] 25)) 37 #[.int .i64 s.long, .int .i64 s.wide, .int .i64 s.kerf, .int .i64 s.across] (g := w.heap.size + 1) (by simp))
  have HC := Lib.hid (ready_top B s _ (h.below E0.out))
  have HK := Lib.hid h
  have HPS := Lib.hid (fun W (hb : Below w.heap.size w W) => hp.below hb)
  unfold maxLen at hn
  clear h hp
  unfold Bl.val Sw.val at *
  go_enter Try.func38, Try.ntmps38
  go_wp2_with fail
  refine HC.out.mono ?_
  rintro e w2 ⟨hb2, ⟨herr, rfl⟩ | ⟨hok, g, cap, g', cap', rfl, P, P', -⟩⟩
  · have B2 := Lib.hid (below_then E0.out hb2)
    have Herr := Lib.hid herr
    have hz : (B.err s == 0) = false := by simpa using herr
    have hz2 : (B.err s != 0) = true := by simpa using herr
    clear hb2 herr HC
    unfold zeroCurved
    go_wp2
    go_ret2
    exact ⟨below_alloc' B2.out _, .inl ⟨Herr.out, rfl⟩⟩
  · have B2 := Lib.hid (below_then E0.out hb2)
    have S2 := Lib.hid (blk_keep hb2 S0.out)
    have Hok := Lib.hid (err_ok hok)
    have hP := Lib.hid P
    have hP' := Lib.hid P'
    have s2 := S2.out.cell
    have hz := S2.out.lt
    have HHO := Lib.hid (fun W (hb : Below w.heap.size w W) => holds_any B s g cap g' cap' A n cp ps W Hok.out.2.1 Hok.out.2.2 (HPS.out W hb) (by unfold maxLen; omega))
    have HWT := Lib.hid (fun W (hb : Below w2.heap.size w2 W) => worst_top B s g cap g' cap' W Hok.out.2.1 (hP.out.below hb) (hP'.out.below hb) (HK.out.below (below_then B2.out hb)).hk)
    have Hok0 := Lib.hid hok
    clear hb2 hok P P' HC
    unfold Bl.curved Sw.val at HWT HHO
    unfold Bl.curved
    by_cases h4 : 400 < n
    · have h42 : (400 : Int) < (n : Int) := by omega
      clear HHO HWT
      go_wp2
      go_ret2
      exact ⟨below_alloc' B2.out _, .inr (.inl ⟨Hok0.out, h4, rfl⟩)⟩
    · have h42 : ¬ (400 : Int) < (n : Int) := by omega
      have Q2 := Lib.hid (Blk.new w2 106 #[.slice B.A B.n B.c, .slice B.A' B.n' B.c', .int .i64 B.bend, .slice B.K B.m B.d, .slice (some ⟨g, 0, none⟩) B.n cap, .slice (some ⟨g', 0, none⟩) B.n cap'] rfl)
      have S2a := Lib.hid (S2.out.alloc (.cells #[.slice B.A B.n B.c, .slice B.A' B.n' B.c', .int .i64 B.bend, .slice B.K B.m B.d, .slice (some ⟨g, 0, none⟩) B.n cap, .slice (some ⟨g', 0, none⟩) B.n cap'] 106))
      have B2a := Lib.hid (below_alloc' B2.out (.cells #[.slice B.A B.n B.c, .slice B.A' B.n' B.c', .int .i64 B.bend, .slice B.K B.m B.d, .slice (some ⟨g, 0, none⟩) B.n cap, .slice (some ⟨g', 0, none⟩) B.n cap'] 106))
      have HH2 := Lib.hid (HHO.out _ B2a.out)
      go_wp2_with fail
      refine HH2.out.mono ?_
      rintro e w3 ⟨rfl, b3⟩
      have E3 : Hid (Below w2.heap.size w2 w3) := below_then (below_self w2 _) b3
      have B3 := Lib.hid (below_then B2a.out b3)
      have S3 := Lib.hid (blk_keep b3 S2a.out)
      have Q3 := Lib.hid (blk_keep b3 Q2.out)
      have s3 := S3.out.cell
      have q3 := Q3.out.cell
      clear b3 HH2 Q2 S2a B2a s2 hz HHO
      cases hh : holdsB B.n s.long ps
      · have HHH := Lib.hid hh
        go_wp2
        go_ret2
        exact ⟨B3.out, .inr (.inr (.inl ⟨Hok0.out, by omega, HHH.out, rfl⟩))⟩
      · have HHH := Lib.hid hh
        have HAL := Lib.hid (holds_all hh)
        have HW3 := Lib.hid (HWT.out _ E3.out)
        clear hh HWT
        go_wp2_with fail
        refine HW3.out.mono ?_
        rintro e w4 ⟨b4, bb, o, bb', o', c, c', K, d, rfl, hs, hc, hc', hm⟩
        have HWB := Lib.hid (worst_bounds Hok.out.2.1 Hok.out.2.2)
        have HLG : Hid ((B.worst s).long = s.long) := rfl
        have n2 := Hok.out.2.1.n2
        have m4 := Hok.out.2.1.m4
        generalize hSE : B.worst s = S at *
        have HSE := Lib.hid hSE
        clear hSE
        have B4 := Lib.hid (below_then B3.out b4)
        unfold sawVal
        have Z5 := Lib.hid (Blk.new w4 120 #[.int .i64 S.long, .int .i64 S.wide, .int .i64 S.kerf, .int .i64 S.across, .slice (some ⟨bb, o, none⟩) B.n c, .slice (some ⟨bb', o', none⟩) B.n c', .slice K B.m d] rfl)
        have HS5 := Lib.hid (hs.below (below_self w4 (.cells #[.int .i64 S.long, .int .i64 S.wide, .int .i64 S.kerf, .int .i64 S.across, .slice (some ⟨bb, o, none⟩) B.n c, .slice (some ⟨bb', o', none⟩) B.n c', .slice K B.m d] 120)))
        have B5 := Lib.hid (below_alloc' B4.out (.cells #[.int .i64 S.long, .int .i64 S.wide, .int .i64 S.kerf, .int .i64 S.across, .slice (some ⟨bb, o, none⟩) B.n c, .slice (some ⟨bb', o', none⟩) B.n c', .slice K B.m d] 120))
        have HSO := Lib.hid (fun (x : Nat) (y : Int) W (hx : (x : Int) + S.long ≤ B.n) (y0 : 0 ≤ y) (y3 : y ≤ 300) (hW : SawAt W S ⟨bb, o, none⟩ ⟨bb', o', none⟩ B.n K B.m) => sound_any S bb o bb' o' B.n c c' K B.m d x y W hW hc hc' hm HWB.out hx n2 m4 y0 y3)
        have HTO := Lib.hid (fun (px py : Int) (Bp k : Nat) W (hk : k ≤ n) (h1 : SmallI px) (h2 : SmallI py) (hw) (hp) (hq : Pairs W A k (ps.take k)) => containsTouch_any S ⟨bb, o, none⟩ ⟨bb', o', none⟩ B.n c c' K B.m d px py w4.heap.size Bp A k cp (ps.take k) W HWB.out h1 h2 (fun q hq => by
          have hq2 := HAL.out q (List.mem_of_mem_take hq)
          have := HWB.out.l1
          have := HLG.out
          exact ⟨⟨by omega, by omega⟩, ⟨by omega, by omega⟩⟩) hw hp hq (by unfold maxLen; omega))
        clear b4 HW3 s3 q3 hs S3 Q3 hc hc' hm
        unfold sawVal at HSO
        go_wp2_with fail
        generalize (w4.alloc (.cells #[.int .i64 S.long, .int .i64 S.wide, .int .i64 S.kerf, .int .i64 S.across, .slice (some ⟨bb, o, none⟩) B.n c, .slice (some ⟨bb', o', none⟩) B.n c', .slice K B.m d] 120)) = w5 at *
        go_loopw [35] (fun iv wr => ∃ k : Nat, k ≤ n ∧ iv = .int .i64 k ∧ (∀ j, j < k → wrongS S ps j = false) ∧ Below w5.heap.size w5 wr) (fun iv _ => n - (intOf iv).toNat)
        case atStart => exact ⟨0, Nat.zero_le _, rfl, fun j hj => absurd hj (by omega), Below.refl _ _⟩
        case round =>
          obtain ⟨k, hk, rfl, hno, hbel⟩ := hrel
          have HNO := Lib.hid hno
          have HD := Lib.hid hbel
          have BW := Lib.hid (below_then B5.out hbel)
          clear hno hbel
          by_cases hkn : k < n
          · obtain ⟨b, off, hA, hb, q0, q1⟩ := Pairs.at_ (HPS.out wr BW.out) hkn
            subst hA
            have hmem : ps.getD k (0, 0) ∈ ps := by
              have hl := (HPS.out wr BW.out).len
              have e : ps.getD k (0, 0) = ps[k]'(by omega) := by simp [List.getD, hl, hkn]
              rw [e]; exact List.getElem_mem _
            have hin := HAL.out _ hmem
            have HWR : Hid (wrongS S ps k = (!soundS S (ps.getD k (0, 0)).1.toNat (ps.getD k (0, 0)).2 || (ps.take k).any (fun q : Int × Int => !apartB ⟨S.long, S.wide, S.kerf, S.across⟩ (ps.getD k (0, 0)).1 (ps.getD k (0, 0)).2 q.1 q.2))) := rfl
            clear hmem
            generalize (ps.getD k (0, 0)).1 = px at *
            generalize (ps.getD k (0, 0)).2 = py at *
            obtain ⟨p1, p2, p3, p4⟩ := hin
            obtain ⟨X, rfl⟩ := Int.eq_ofNat_of_zero_le p1
            rw [Int.toNat_natCast] at HWR
            have hlg := HLG.out
            have hl1 := HWB.out.l1
            have hk2 : (k : Int) < (n : Int) := by omega
            have hk3 : (k : Int) ≤ (cp : Int) := by omega
            have ZP := Lib.hid ((blk_keep HD.out Z5.out).alloc (.cells #[.int .i64 X, .int .i64 py] 39))
            have PP := Lib.hid (Blk.new wr 39 #[.int .i64 X, .int .i64 py] rfl)
            have BP := Lib.hid (below_alloc' HD.out (.cells #[.int .i64 X, .int .i64 py] 39))
            have HS6 := Lib.hid (HSO.out X py _ (by omega) p3 p4 (HS5.out.below BP.out))
            have HT6 := Lib.hid (fun W hw hp hq => HTO.out X py wr.heap.size k W (by omega) ⟨by omega, by omega⟩ ⟨by omega, by omega⟩ hw hp hq)
            have zp := ZP.out.cell
            have pp := PP.out.cell
            clear hlg hl1 HSO HTO p1 p2 p3 p4
            go_wp2_with fail
            refine HS6.out.mono ?_
            rintro e w6 ⟨rfl, b6⟩
            have Z6 := Lib.hid (blk_keep b6 ZP.out)
            have P6 := Lib.hid (blk_keep b6 PP.out)
            have D6 := Lib.hid (below_then BP.out b6)
            have BW6 := Lib.hid (below_then B5.out D6.out)
            have HQ6 := Lib.hid (pairs_take (HPS.out w6 BW6.out) hk)
            clear b6 zp pp HS6 ZP PP BP
            cases hsd : soundS S X py
            · have HX : Hid (wrongS S ps k = true) := by unfold Hid; rw [HWR.out, hsd]; rfl
              clear HWR hsd HT6
              go_wp2
              go_ret2
              exact ⟨BW6.out, .inr (.inr (.inr ⟨Hok0.out, by omega, HHH.out, .inl ⟨k, hkn, by rw [HSE.out]; exact HX.out, by rw [HSE.out]; exact HNO.out, rfl⟩⟩))⟩
            · rw [hsd] at HWR
              clear hsd
              have HT7 := Lib.hid (HT6.out w6 Z6.out P6.out HQ6.out)
              clear HT6
              generalize ((ps.take k).any (fun q : Int × Int => !apartB ⟨S.long, S.wide, S.kerf, S.across⟩ (X : Int) py q.1 q.2)) = tt at *
              cases tt
              · have HX : Hid (wrongS S ps k = false) := by unfold Hid; rw [HWR.out]; rfl
                clear HWR
                go_wp2_with fail
                refine HT7.out.mono ?_
                rintro e w7 ⟨rfl, b7⟩
                have D7 := Lib.hid (below_then D6.out b7)
                clear b7 HT7
                go_wp2
                go_roundw
                case rel => exact ⟨k + 1, by omega, by go_num, fun j hj => by
                  by_cases e : j = k
                  · rw [e]; exact HX.out
                  · exact HNO.out j (by omega), D7.out⟩
                case measure => simp [intOf]; omega
              · have HX : Hid (wrongS S ps k = true) := by unfold Hid; rw [HWR.out]; rfl
                clear HWR
                go_wp2_with fail
                refine HT7.out.mono ?_
                rintro e w7 ⟨rfl, b7⟩
                have D7 := Lib.hid (below_then BW6.out b7)
                clear b7 HT7
                go_wp2
                go_ret2
                exact ⟨D7.out, .inr (.inr (.inr ⟨Hok0.out, by omega, HHH.out, .inl ⟨k, hkn, by rw [HSE.out]; exact HX.out, by rw [HSE.out]; exact HNO.out, rfl⟩⟩))⟩
          · obtain rfl : k = n := by omega
            go_wp2
            go_ret2
            exact ⟨BW.out, .inr (.inr (.inr ⟨Hok0.out, by omega, HHH.out, .inr ⟨by rw [HSE.out]; exact HNO.out, rfl⟩⟩))⟩
end Go.Proofs.Ytiflhimmieflpaa
