/- Walks: the reference's Possibly and Possible. -/
import Derived.Test.YtiflhimmieflpaaW101
import Derived.Test.YtiflhimmieflpaaW102
import Derived.Test.YtiflhimmieflpaaW97
import Derived.Test.YtiflhimmieflpaaW55
namespace Go.Proofs.Ytiflhimmieflpaa
open Go.RowKit Go.Maps

theorem intRow_nil (W : World) {A : Option Addr} {c : Nat} : IntRow W (.slice A 0 c) [] := ⟨A, c, rfl, Reads.none_, fun h => absurd h (by simp)⟩
set_option maxRecDepth 100000 in
set_option maxHeartbeats 2000000 in
theorem RefColumns_all (B : Bl) (hm : B.m ≤ 4) (hn30 : B.n ≤ 30) (hcr : ∀ k ∈ B.cr, crackOk B.n k = true) (v : Value) (w : World) (hck : Cracks w B.K B.m B.cr) (hrow : IntRow w v []) :
    Calls Try.prog 69 #[B.val, v] w fun e w' => ∃ u, e = .returned u ∧ Lists w.heap.size w' u (colsFrom B.cr []) ∧ Below w.heap.size w w' := by
  by_cases h0 : B.m = 0
  · obtain ⟨A, cv, rfl, hin, hty⟩ := hrow
    have hl : B.cr = [] := List.eq_nil_of_length_eq_zero (by rw [hck.len]; exact h0)
    unfold Bl.val
    rw [h0, hl]
    simp only [List.length_nil]
    clear hin hty hck hcr hl h0
    go_enter Try.func69, Try.ntmps69
    go_wp2_with fail
    go_ret
    have HO := World.ownsRow_lit (base := w.heap.size) (e := 44) (size := 1) (w.alloc (.cells #[.slice B.A B.n B.c, .slice B.A' B.n' B.c', .int .i64 B.bend, .slice B.K 0 B.d] 25)) #[.slice A 0 cv] 1 (below_self _ _).size (by decide) rfl
    rw [World.size_alloc] at HO
    refine ⟨.slice (some ⟨w.heap.size + 1, 0, none⟩) 1 1, rfl, ⟨[.slice A 0 cv], HO, fun i hi => ?_⟩, below_alloc' (below_self _ _) _⟩
    obtain rfl : i = 0 := by simp [colsFrom] at hi; omega
    exact ⟨_, rfl, intRow_nil _⟩
  · obtain ⟨kb, ko, hK, hkb, _⟩ := hck.2 (by omega)
    have h := RefColumns_any B kb ko hm hn30 hcr B.cr [] v w rfl (by simpa using hck.len) (by rw [← hK]; exact hck) hkb hrow
    unfold Bl.val
    rw [hK]
    exact h
def SP (B : Bl) (s : Sw) (w0 gl i : Nat) (u : Value) (W : World) : Prop := W.cell? ⟨w0, 0, none⟩ = some (.slice B.A B.n B.c) ∧ W.cell? ⟨w0, 1, none⟩ = some (.slice B.A' B.n' B.c') ∧ W.cell? ⟨w0, 2, none⟩ = some (.int .i64 B.bend) ∧ W.cell? ⟨w0, 3, none⟩ = some (.slice B.K B.m B.d) ∧ W.cell? ⟨w0 + 1, 0, none⟩ = some (.int .i64 s.long) ∧ W.cell? ⟨w0 + 1, 1, none⟩ = some (.int .i64 s.wide) ∧ W.cell? ⟨w0 + 1, 2, none⟩ = some (.int .i64 s.kerf) ∧ W.cell? ⟨w0 + 1, 3, none⟩ = some (.int .i64 s.across) ∧ W.cell? ⟨gl, i, none⟩ = some u
def SP2 (B : Bl) (s : Sw) (w0 gl i : Nat) (u : Value) (x y : Int) (W : World) : Prop := W.cell? ⟨w0, 0, none⟩ = some (.slice B.A B.n B.c) ∧ W.cell? ⟨w0, 1, none⟩ = some (.slice B.A' B.n' B.c') ∧ W.cell? ⟨w0, 2, none⟩ = some (.int .i64 B.bend) ∧ W.cell? ⟨w0, 3, none⟩ = some (.slice B.K B.m B.d) ∧ W.cell? ⟨w0 + 1, 0, none⟩ = some (.int .i64 s.long) ∧ W.cell? ⟨w0 + 1, 1, none⟩ = some (.int .i64 s.wide) ∧ W.cell? ⟨w0 + 1, 2, none⟩ = some (.int .i64 s.kerf) ∧ W.cell? ⟨w0 + 1, 3, none⟩ = some (.int .i64 s.across) ∧ W.cell? ⟨gl, i, none⟩ = some u ∧ W.cell? ⟨w0 + 1 + 1, 0, none⟩ = some (.int .i64 x) ∧ W.cell? ⟨w0 + 1 + 1, 1, none⟩ = some (.int .i64 y)
set_option maxRecDepth 100000 in
set_option maxHeartbeats 4000000 in
theorem RefPossibly_any (B : Bl) (s : Sw) (x : Nat) (y : Nat) (w : World) (h : B.At w) (hc : B.cerr = 0) (hs : s.Ok) (hx : (x : Int) + s.long ≤ B.n) (y3 : y ≤ 300) :
    Calls Try.prog 30 #[B.val, s.val, .agg #[.int .i64 x, .int .i64 y]] w fun e w' => e = .returned (.bool (possB B s x y)) ∧ Below w.heap.size w w' := by
  have hO := curveErr_ok hc
  have hCR := err_cracks hc
  have E0 : Hid (Below w.heap.size w (((w.alloc (.cells #[.slice B.A B.n B.c, .slice B.A' B.n' B.c', .int .i64 B.bend, .slice B.K B.m B.d] 25)).alloc (.cells #[.int .i64 s.long, .int .i64 s.wide, .int .i64 s.kerf, .int .i64 s.across] 37)).alloc (.cells #[.int .i64 x, .int .i64 y] 39))) := below_alloc' (below_alloc' (below_self _ _) _) _
  have HB0 := Lib.hid (((Blk.new w 25 #[.slice B.A B.n B.c, .slice B.A' B.n' B.c', .int .i64 B.bend, .slice B.K B.m B.d] (g := w.heap.size) rfl).alloc (.cells #[.int .i64 s.long, .int .i64 s.wide, .int .i64 s.kerf, .int .i64 s.across] 37)).alloc (.cells #[.int .i64 x, .int .i64 y] 39))
  have HS0 := Lib.hid ((Blk.new (w.alloc (.cells #[.slice B.A B.n B.c, .slice B.A' B.n' B.c', .int .i64 B.bend, .slice B.K B.m B.d] 25)) 37 #[.int .i64 s.long, .int .i64 s.wide, .int .i64 s.kerf, .int .i64 s.across] (g := w.heap.size + 1) (by simp)).alloc (.cells #[.int .i64 x, .int .i64 y] 39))
  have HP0 := Lib.hid (Blk.new ((w.alloc (.cells #[.slice B.A B.n B.c, .slice B.A' B.n' B.c', .int .i64 B.bend, .slice B.K B.m B.d] 25)).alloc (.cells #[.int .i64 s.long, .int .i64 s.wide, .int .i64 s.kerf, .int .i64 s.across] 37)) 39 #[.int .i64 x, .int .i64 y] (g := w.heap.size + 1 + 1) (by simp))
  have HAT := Lib.hid (h.below E0.out)
  have HO := Lib.hid hO
  have HS := Lib.hid hs
  have HC := Lib.hid hc
  have HXX := Lib.hid hx
  have HCOL := Lib.hid (fun v W (hck : Cracks W B.K B.m B.cr) hr => RefColumns_all B hO.m4 hO.n2 hCR v W hck hr)
  have HLN : Hid ((colsFrom B.cr []).length ≤ 625) := by
    have h1 := colsFrom_len B.cr [] hCR
    have h2 : 5 ^ B.cr.length ≤ 5 ^ 4 := Nat.pow_le_pow_right (by omega) (by rw [h.hk.len]; exact hO.m4)
    unfold Hid; omega
  have HEA : Hid (∀ q ∈ colsFrom B.cr [], q.length = B.m) := fun q hq => by rw [colsFrom_each _ _ _ hq, h.hk.len]; simp
  have HSD : Hid (∀ xs ∈ colsFrom B.cr [], ∀ TA TB K c c' d, soundV (refBestV B xs TA TB K c c' d) s x y = soundS (B.bestX s xs) x y) := fun xs hq TA TB K c c' d => by
    rw [← sure_tight xs TA TB K c c' d hc, ← worst_tight xs hc]
    exact sound_sure hs (tight_cerr h.hb.len h.ht.len hc hq) y
  have HPB : Hid (possB B s x y = (colsFrom B.cr []).any fun xs => soundS (B.bestX s xs) x y) := rfl
  clear hO hCR h hc hs hx
  generalize colsFrom B.cr [] = ls at *
  unfold Bl.val Sw.val at *
  go_enter Try.func30, Try.ntmps30
  go_upto_region 1 with (fail)
  generalize (((w.alloc (.cells #[.slice B.A B.n B.c, .slice B.A' B.n' B.c', .int .i64 B.bend, .slice B.K B.m B.d] 25)).alloc (.cells #[.int .i64 s.long, .int .i64 s.wide, .int .i64 s.kerf, .int .i64 s.across] 37)).alloc (.cells #[.int .i64 x, .int .i64 y] 39)) = w0 at *
  have b0 := HB0.out.cell
  go_wp2_with fail
  refine (HCOL.out _ _ (HAT.out.hk.below (below_self _ _)) (intRow_nil _)).mono ?_
  rintro e w2 ⟨v, rfl, hL, hb⟩
  have D2 := Lib.hid (below_then (below_self w0 _) hb)
  have HL := Lib.hid hL
  clear hL hb b0 HCOL
  obtain ⟨LA, lc, rfl⟩ : ∃ A c, v = .slice A ls.length c := by obtain ⟨vs, ho, _⟩ := HL.out; exact own_slice ho
  go_wp2_with fail
  go_loopw [8] (fun iv wr => ∃ i : Nat, i ≤ ls.length ∧ iv = .int .i64 i ∧ Below w2.heap.size w2 wr ∧ ∀ j, j < i → soundS (B.bestX s (ls.getD j [])) x y = false) (fun iv _ => ls.length - (intOf iv).toNat)
  case atStart => exact ⟨0, Nat.zero_le _, rfl, Below.refl _ _, fun j h => absurd h (by omega)⟩
  case round =>
    obtain ⟨i, hi, rfl, hb, hno⟩ := hrel
    have D3 := Lib.hid hb
    have HNO := Lib.hid hno
    have hln := HLN.out
    clear hb hno
    by_cases hlt : i < ls.length
    · have hlt2 : (i : Int) < (ls.length : Int) := by omega
      obtain ⟨gl, lcap, u, e, hcell, hrow⟩ := (HL.out.below D3.out).at_ hlt
      simp only [Value.slice.injEq] at e
      obtain ⟨rfl, -, rfl⟩ := e
      have hmem : ls.getD i [] ∈ ls := by
        have e : ls.getD i [] = ls[i] := by simp [List.getD, hlt]
        rw [e]; exact List.getElem_mem hlt
      have HXL := Lib.hid (HEA.out _ hmem)
      have HSE := Lib.hid (HSD.out _ hmem)
      obtain ⟨xs, hxs⟩ : ∃ xs, xs = ls.getD i [] := ⟨_, rfl⟩
      rw [← hxs] at hrow HXL HSE
      have HXS := Lib.hid hxs
      obtain ⟨XA, xc, rfl, hin, -⟩ := hrow
      have HIN : Hid (Ints wr XA B.m xs) := by rw [HXL.out] at hin; exact hin
      rw [HXL.out] at hcell
      have DW := Lib.hid (below_then D2.out D3.out)
      have HSS : Hid (∀ V, Below wr.heap.size wr V → SP2 B s w.heap.size gl i (.slice XA B.m xc) x y V) := fun V hV => by
        have b := blk_keep hV (blk_keep DW.out HB0.out)
        have r := blk_keep hV (blk_keep DW.out HS0.out)
        have p := blk_keep hV (blk_keep DW.out HP0.out)
        exact ⟨b.cell 0, b.cell 1, b.cell 2, b.cell 3, r.cell 0, r.cell 1, r.cell 2, r.cell 3, (hV.cell (p := ⟨gl, i, none⟩) (World.block_lt_of_cell? _ _ hcell)).trans hcell, p.cell 0, p.cell 1⟩
      have HBE := Lib.hid (fun V (hV : Below wr.heap.size wr V) => RefBest_any B XA xc xs V ((HAT.out.below DW.out).below hV) HC.out (HIN.out.below hV))
      unfold Bl.val at HBE
      clear hin hmem hxs
      have D4 : Hid (Below wr.heap.size wr wr.drew) := (Below.refl _ _).drew
      go_upto_region 5 with (fail)
      refine wp_region_held_drew (S := SP2 B s w.heap.size gl i (.slice XA B.m xc) x y) (by kernel_rfl) (HSS.out _ D4.out) (fun _ => ?_)
      generalize wr.drew = wd at *
      refine heldTake (i := 0) 18 (v := ?v1) rfl (by kernel_rfl) (by kernel_rfl) (by kernel_rfl) (by kernel_rfl) (fun _ _ _ h => h) (Or.inl ⟨by rfl, ?y1⟩) (by assumption) ?r1
      case y1 => (intro w hSw; obtain ⟨g0, g1, g2, g3, g4, g5, g6, g7, g8, g9, g10⟩ := hSw; go_simp; try with_reducible rfl)
      refine heldTake (i := 1) 19 (v := ?v2) rfl (by kernel_rfl) (by kernel_rfl) (by kernel_rfl) (by kernel_rfl) (fun _ _ _ h => h) (Or.inl ⟨by rfl, ?y2⟩) (by assumption) ?r2
      case y2 => (intro w hSw; obtain ⟨g0, g1, g2, g3, g4, g5, g6, g7, g8, g9, g10⟩ := hSw; go_simp; try with_reducible rfl)
      refine heldTake (i := 2) 20 (v := ?v3) rfl (by kernel_rfl) (by kernel_rfl) (by kernel_rfl) (by kernel_rfl) (fun _ _ _ h => h) (Or.inl ⟨by rfl, ?y3⟩) (by assumption) ?r3
      case y3 => (intro w hSw; obtain ⟨g0, g1, g2, g3, g4, g5, g6, g7, g8, g9, g10⟩ := hSw; go_simp; try with_reducible rfl)
      refine heldTake (i := 3) 21 (v := ?v4) rfl (by kernel_rfl) (by kernel_rfl) (by kernel_rfl) (by kernel_rfl) (fun _ _ _ h => h) (Or.inl ⟨by rfl, ?y4⟩) (by assumption) ?r4
      case y4 => (intro w hSw; obtain ⟨g0, g1, g2, g3, g4, g5, g6, g7, g8, g9, g10⟩ := hSw; go_simp; try with_reducible rfl)
      refine heldTake (i := 4) 22 (v := ?v5) rfl (by kernel_rfl) (by kernel_rfl) (by kernel_rfl) (by kernel_rfl) (fun _ _ _ h => h) (Or.inl ⟨by rfl, ?y5⟩) (by assumption) ?r5
      case y5 => (intro w hSw; obtain ⟨g0, g1, g2, g3, g4, g5, g6, g7, g8, g9, g10⟩ := hSw; go_simp; try with_reducible rfl)
      refine heldTake (i := 6) 24 (v := ?v6) rfl (by kernel_rfl) (by kernel_rfl) (by kernel_rfl) (by kernel_rfl) (fun _ _ _ h => h) (Or.inl ⟨by rfl, ?y6⟩) (by assumption) ?r6
      case y6 => (intro w hSw; obtain ⟨g0, g1, g2, g3, g4, g5, g6, g7, g8, g9, g10⟩ := hSw; go_simp; try with_reducible rfl)
      refine heldTake (i := 7) 25 (v := ?v7) rfl (by kernel_rfl) (by kernel_rfl) (by kernel_rfl) (by kernel_rfl) (fun _ _ _ h => h) (Or.inl ⟨by rfl, ?y7⟩) (by assumption) ?r7
      case y7 => (intro w hSw; obtain ⟨g0, g1, g2, g3, g4, g5, g6, g7, g8, g9, g10⟩ := hSw; go_simp; try with_reducible rfl)
      simp only [Act.put, List.setIfInBounds_toArray, List.set_cons_zero, List.set_cons_succ]
      refine wpAnyH_ready (rs := [5]) (by kernel_rfl) (by simp) ?_
      refine AllReadyH.cons rfl (fun K1 hK1 => ?_) AllReadyH.nil
      go_simp
      refine (HBE.out _ D4.out).mono ?_
      rintro e W1 ⟨TA, TB, TK, c, c', d, rfl, hV, hb1⟩
      have D5 := Lib.hid (below_then D4.out hb1)
      have HSO := Lib.hid (Sound_any (refBestV B xs TA TB TK c c' d) s x y W1 hV HS.out HXX.out (by omega) (by omega))
      rw [HSE.out] at HSO
      unfold Sw.val at HSO
      refine hK1.out _ _ (HSS.out _ D5.out) (fun _ => ?_)
      clear hV hb1
      refine wpAnyH_ready (rs := [8]) (by kernel_rfl) (by simp) ?_
      refine AllReadyH.cons rfl (fun K2 hK2 => ?_) AllReadyH.nil
      go_simp
      refine HSO.out.mono ?_
      rintro e W2 ⟨rfl, hb2⟩
      have D6 := Lib.hid (below_then D5.out hb2)
      refine hK2.out _ _ (HSS.out _ D6.out) (fun _ => ?_)
      refine wpAnyH_done (by kernel_rfl) ?_ _
      clear hb2 HSO
      have HV : Hid (∃ v, v = soundS (B.bestX s xs) x y) := ⟨_, rfl⟩
      obtain ⟨v, hv⟩ := HV.out
      have HVV := Lib.hid hv
      rw [← hv]
      clear hv
      cases v
      · go_wp2_with fail
        go_roundw
        case rel => exact ⟨i + 1, by omega, by go_num, below_then D3.out D6.out, fun j hj => by
          by_cases e : j = i
          · subst e; rw [← HXS.out]; exact HVV.out.symm
          · exact HNO.out j (by omega)⟩
        case measure => simp [intOf]; omega
      · go_wp2_with fail
        go_ret
        refine ⟨?_, E0.out.trans ((below_then (below_then D2.out D3.out) D6.out).mono E0.out.size)⟩
        have hpb : possB B s x y = true := by
          rw [HPB.out]
          refine List.any_eq_true.2 ⟨ls.getD i [], ?_, ?_⟩
          · have e : ls.getD i [] = ls[i] := by simp [List.getD, hlt]
            rw [e]; exact List.getElem_mem hlt
          · rw [← HXS.out]; exact HVV.out.symm
        exact ret_bool hpb.symm
    · obtain rfl : i = ls.length := by omega
      go_wp2_with fail
      go_ret
      refine ⟨?_, E0.out.trans ((below_then D2.out D3.out).mono E0.out.size)⟩
      have e : possB B s x y = false := by
        rw [HPB.out, List.any_eq_false]
        intro q hq
        obtain ⟨j, hj, rfl⟩ := List.getElem_of_mem hq
        have e : ls.getD j [] = ls[j] := by simp [List.getD, hj]
        rw [← e, HNO.out j hj]
        simp
      exact ret_bool e.symm
theorem RefMost_best {B : Bl} {s : Sw} (hs : s.Ok) (hc : B.cerr = 0) (hb : B.bot.length = B.n) (ht : B.top.length = B.n') {xs : List Int} (hx : xs ∈ colsFrom B.cr []) {TA TB K : Option Addr} {c c' d : Nat} (W : World) (hV : (refBestV B xs TA TB K c c' d).At W) :
    Calls Try.prog 37 #[(refBestV B xs TA TB K c c' d).val, s.val] W fun e w' => ∃ A n c, e = .returned (.slice A n c) ∧ (n : Int) = countL (B.bestX s xs) B.n ∧ Below W.heap.size W w' := by
  have hct := tight_cerr hb ht hc hx
  have hok : (B.tight xs).Ok := curveErr_ok hct
  obtain ⟨e1, -, -, -, -, -, -⟩ := curveErr_parts hc
  have lb : (B.tight xs).bot.length = (B.tight xs).n := by simp [Bl.tight, lowsL, bentL_length, hb]
  have lt : (B.tight xs).top.length = (B.tight xs).n' := by simp [Bl.tight, highsL, bentL_length, ht]
  obtain ⟨l, hl⟩ := Int.eq_ofNat_of_zero_le (show 0 ≤ s.long by have := hs.l1; omega)
  obtain ⟨a, ha⟩ := Int.eq_ofNat_of_zero_le hs.a1
  have hV' : (sureV (B.tight xs) TA TB K c c' d).At W := by rw [sure_tight xs TA TB K c c' d hc]; exact hV
  have h := RefMost_sure (TA := TA) (TB := TB) (K := K) (c := c) (c' := c') (d := d) hok hs hct lb lt hl ha W hV'
  rw [sure_tight xs TA TB K c c' d hc, worst_tight xs hc] at h
  have hn := layout_len hok hs hct lb lt
  rw [worst_tight xs hc] at hn
  refine h.mono ?_
  rintro e w2 ⟨v, rfl, ⟨A, c2, rfl, _⟩, b2⟩
  exact ⟨A, _, c2, rfl, hn, b2⟩
theorem possTo_take {B : Bl} {s : Sw} {ls : List (List Int)} {i : Nat} (h : i < ls.length) : possTo B s (ls.take (i + 1)) = possStep B s (possTo B s (ls.take i)) (ls.getD i []) := by
  have e : ls.getD i [] = ls[i] := by simp [List.getD, h]
  rw [e, List.take_add_one, List.getElem?_eq_getElem h]
  exact possTo_snoc B s _ _
set_option maxRecDepth 100000 in
set_option maxHeartbeats 4000000 in
theorem RefPossible_any (B : Bl) (s : Sw) (w : World) (h : B.At w) (hc : B.cerr = 0) (hs : s.Ok) :
    Calls Try.prog 43 #[B.val, s.val] w fun e w' => ∃ u, e = .returned (.tuple #[.int .i64 (possTo B s (colsFrom B.cr [])).1, u]) ∧ IntRow w' u (possTo B s (colsFrom B.cr [])).2 ∧ Below w.heap.size w w' := by
  have hO := curveErr_ok hc
  have hCR := err_cracks hc
  have E0 : Hid (Below w.heap.size w ((w.alloc (.cells #[.slice B.A B.n B.c, .slice B.A' B.n' B.c', .int .i64 B.bend, .slice B.K B.m B.d] 25)).alloc (.cells #[.int .i64 s.long, .int .i64 s.wide, .int .i64 s.kerf, .int .i64 s.across] 37))) := below_alloc' (below_self _ _) _
  have HB0 := Lib.hid ((Blk.new w 25 #[.slice B.A B.n B.c, .slice B.A' B.n' B.c', .int .i64 B.bend, .slice B.K B.m B.d] (g := w.heap.size) rfl).alloc (.cells #[.int .i64 s.long, .int .i64 s.wide, .int .i64 s.kerf, .int .i64 s.across] 37))
  have HS0 := Lib.hid (Blk.new (w.alloc (.cells #[.slice B.A B.n B.c, .slice B.A' B.n' B.c', .int .i64 B.bend, .slice B.K B.m B.d] 25)) 37 #[.int .i64 s.long, .int .i64 s.wide, .int .i64 s.kerf, .int .i64 s.across] (g := w.heap.size + 1) (by simp))
  have HAT := Lib.hid (h.below E0.out)
  have HO := Lib.hid hO
  have HS := Lib.hid hs
  have HC := Lib.hid hc
  have HN30 := Lib.hid hO.n2
  have HCOL := Lib.hid (fun v W (hck : Cracks W B.K B.m B.cr) hr => RefColumns_all B hO.m4 hO.n2 hCR v W hck hr)
  have HLN : Hid (0 < (colsFrom B.cr []).length ∧ (colsFrom B.cr []).length ≤ 625) := by
    have h1 := colsFrom_len B.cr [] hCR
    have h2 : 5 ^ B.cr.length ≤ 5 ^ 4 := Nat.pow_le_pow_right (by omega) (by rw [h.hk.len]; exact hO.m4)
    exact ⟨colsFrom_pos _ _ hCR, by omega⟩
  have HEA : Hid (∀ q ∈ colsFrom B.cr [], q.length = B.m) := fun q hq => by rw [colsFrom_each _ _ _ hq, h.hk.len]; simp
  have HMO : Hid (∀ xs ∈ colsFrom B.cr [], ∀ TA TB K c c' d W, (refBestV B xs TA TB K c c' d).At W → Calls Try.prog 37 #[(refBestV B xs TA TB K c c' d).val, s.val] W fun e w' => ∃ A n c, e = .returned (.slice A n c) ∧ (n : Int) = countL (B.bestX s xs) B.n ∧ Below W.heap.size W w') := fun xs hq TA TB K c c' d W hV => RefMost_best hs hc h.hb.len h.ht.len hq W hV
  clear hO hCR h hc hs
  generalize colsFrom B.cr [] = ls at *
  unfold Bl.val Sw.val at *
  go_enter Try.func43, Try.ntmps43
  go_upto_region 1 with (fail)
  generalize ((w.alloc (.cells #[.slice B.A B.n B.c, .slice B.A' B.n' B.c', .int .i64 B.bend, .slice B.K B.m B.d] 25)).alloc (.cells #[.int .i64 s.long, .int .i64 s.wide, .int .i64 s.kerf, .int .i64 s.across] 37)) = w0 at *
  have b0 := HB0.out.cell
  go_wp2_with fail
  refine (HCOL.out _ _ (HAT.out.hk.below (below_self _ _)) (intRow_nil _)).mono ?_
  rintro e w2 ⟨v, rfl, hL, hb⟩
  have D2 := Lib.hid (below_then (below_self w0 _) hb)
  have HL := Lib.hid hL
  clear hL hb b0 HCOL
  obtain ⟨LA, lc, rfl⟩ : ∃ A c, v = .slice A ls.length c := by obtain ⟨vs, ho, _⟩ := HL.out; exact own_slice ho
  go_wp2_with fail
  go_loopw [7, 8, 9] (fun bv av iv wr => ∃ i k : Nat, i ≤ ls.length ∧ bv = .int .i64 (possTo B s (ls.take i)).1 ∧ av = .int .i64 k ∧ iv = .int .i64 i ∧ (0 < i → k < i ∧ (possTo B s (ls.take i)).2 = ls.getD k []) ∧ Below w2.heap.size w2 wr) (fun _ _ iv _ => ls.length - (intOf iv).toNat)
  case atStart => exact ⟨0, 0, Nat.zero_le _, rfl, rfl, rfl, fun h => absurd h (by omega), Below.refl _ _⟩
  case round =>
    obtain ⟨i, k, hi, rfl, rfl, rfl, hk, hb⟩ := hrel
    have D3 := Lib.hid hb
    have HK := Lib.hid hk
    have hln := HLN.out
    have HPT := Lib.hid (possTo_in B s HN30.out (ls.take i))
    clear hb hk
    by_cases hlt : i < ls.length
    · have hlt2 : (i : Int) < (ls.length : Int) := by omega
      obtain ⟨gl, lcap, u, e, hcell, hrow⟩ := (HL.out.below D3.out).at_ hlt
      simp only [Value.slice.injEq] at e
      obtain ⟨rfl, -, rfl⟩ := e
      have hmem : ls.getD i [] ∈ ls := by
        have e : ls.getD i [] = ls[i] := by simp [List.getD, hlt]
        rw [e]; exact List.getElem_mem hlt
      have HXL := Lib.hid (HEA.out _ hmem)
      have HSE := Lib.hid (HMO.out _ hmem)
      have HSTEP := Lib.hid (possTo_take (B := B) (s := s) hlt)
      obtain ⟨xs, hxs⟩ : ∃ xs, xs = ls.getD i [] := ⟨_, rfl⟩
      rw [← hxs] at hrow HXL HSE HSTEP
      have HXS := Lib.hid hxs
      obtain ⟨XA, xc, rfl, hin, -⟩ := hrow
      have HIN : Hid (Ints wr XA B.m xs) := by rw [HXL.out] at hin; exact hin
      rw [HXL.out] at hcell
      have DW := Lib.hid (below_then D2.out D3.out)
      have HSS : Hid (∀ V, Below wr.heap.size wr V → SP B s w.heap.size gl i (.slice XA B.m xc) V) := fun V hV => by
        have b := blk_keep hV (blk_keep DW.out HB0.out)
        have r := blk_keep hV (blk_keep DW.out HS0.out)
        exact ⟨b.cell 0, b.cell 1, b.cell 2, b.cell 3, r.cell 0, r.cell 1, r.cell 2, r.cell 3, (hV.cell (p := ⟨gl, i, none⟩) (World.block_lt_of_cell? _ _ hcell)).trans hcell⟩
      have HBE := Lib.hid (fun V (hV : Below wr.heap.size wr V) => RefBest_any B XA xc xs V ((HAT.out.below DW.out).below hV) HC.out (HIN.out.below hV))
      have HCI := Lib.hid (countL_in (B.bestX s xs) B.n HN30.out)
      unfold Bl.val at HBE
      clear hin hmem hxs
      have D4 : Hid (Below wr.heap.size wr wr.drew) := (Below.refl _ _).drew
      go_upto_region 6 with (fail)
      refine wp_region_held_drew (S := SP B s w.heap.size gl i (.slice XA B.m xc)) (by kernel_rfl) (HSS.out _ D4.out) (fun _ => ?_)
      generalize wr.drew = wd at *
      refine heldTake (i := 0) 20 (v := ?v8) rfl (by kernel_rfl) (by kernel_rfl) (by kernel_rfl) (by kernel_rfl) (fun _ _ _ h => h) (Or.inl ⟨by rfl, ?y8⟩) (by assumption) ?r8
      case y8 => (intro w hSw; obtain ⟨g0, g1, g2, g3, g4, g5, g6, g7, g8⟩ := hSw; go_simp; try with_reducible rfl)
      refine heldTake (i := 1) 21 (v := ?v9) rfl (by kernel_rfl) (by kernel_rfl) (by kernel_rfl) (by kernel_rfl) (fun _ _ _ h => h) (Or.inl ⟨by rfl, ?y9⟩) (by assumption) ?r9
      case y9 => (intro w hSw; obtain ⟨g0, g1, g2, g3, g4, g5, g6, g7, g8⟩ := hSw; go_simp; try with_reducible rfl)
      refine heldTake (i := 2) 22 (v := ?v10) rfl (by kernel_rfl) (by kernel_rfl) (by kernel_rfl) (by kernel_rfl) (fun _ _ _ h => h) (Or.inl ⟨by rfl, ?y10⟩) (by assumption) ?r10
      case y10 => (intro w hSw; obtain ⟨g0, g1, g2, g3, g4, g5, g6, g7, g8⟩ := hSw; go_simp; try with_reducible rfl)
      refine heldTake (i := 3) 23 (v := ?v11) rfl (by kernel_rfl) (by kernel_rfl) (by kernel_rfl) (by kernel_rfl) (fun _ _ _ h => h) (Or.inl ⟨by rfl, ?y11⟩) (by assumption) ?r11
      case y11 => (intro w hSw; obtain ⟨g0, g1, g2, g3, g4, g5, g6, g7, g8⟩ := hSw; go_simp; try with_reducible rfl)
      refine heldTake (i := 4) 24 (v := ?v12) rfl (by kernel_rfl) (by kernel_rfl) (by kernel_rfl) (by kernel_rfl) (fun _ _ _ h => h) (Or.inl ⟨by rfl, ?y12⟩) (by assumption) ?r12
      case y12 => (intro w hSw; obtain ⟨g0, g1, g2, g3, g4, g5, g6, g7, g8⟩ := hSw; go_simp; try with_reducible rfl)
      refine heldTake (i := 6) 26 (v := ?v13) rfl (by kernel_rfl) (by kernel_rfl) (by kernel_rfl) (by kernel_rfl) (fun _ _ _ h => h) (Or.inl ⟨by rfl, ?y13⟩) (by assumption) ?r13
      case y13 => (intro w hSw; obtain ⟨g0, g1, g2, g3, g4, g5, g6, g7, g8⟩ := hSw; go_simp; try with_reducible rfl)
      simp only [Act.put, List.setIfInBounds_toArray, List.set_cons_zero, List.set_cons_succ]
      refine wpAnyH_ready (rs := [5]) (by kernel_rfl) (by simp) ?_
      refine AllReadyH.cons rfl (fun K1 hK1 => ?_) AllReadyH.nil
      go_simp
      refine (HBE.out _ D4.out).mono ?_
      rintro e W1 ⟨TA, TB, TK, c, c', d, rfl, hV, hb1⟩
      have D5 := Lib.hid (below_then D4.out hb1)
      have HSO := Lib.hid (HSE.out TA TB TK c c' d W1 hV)
      refine hK1.out _ _ (HSS.out _ D5.out) (fun _ => ?_)
      clear hV hb1
      refine wpAnyH_ready (rs := [7]) (by kernel_rfl) (by simp) ?_
      refine AllReadyH.cons rfl (fun K2 hK2 => ?_) AllReadyH.nil
      go_simp
      refine HSO.out.mono ?_
      rintro e W2 ⟨MA, mn, mc, rfl, hmn, hb2⟩
      have D6 := Lib.hid (below_then D5.out hb2)
      refine hK2.out _ _ (HSS.out _ D6.out) (fun _ => ?_)
      refine heldTake (i := 8) 28 (v := ?v14) rfl (by kernel_rfl) (by kernel_rfl) (by kernel_rfl) (by kernel_rfl) (fun _ _ _ h => h) (Or.inl ⟨by rfl, ?y14⟩) (by assumption) ?r14
      case y14 => (intro w hSw; obtain ⟨g0, g1, g2, g3, g4, g5, g6, g7, g8⟩ := hSw; go_simp; try with_reducible rfl)
      refine heldTake (i := 9) 10 (v := ?v15) rfl (by kernel_rfl) (by kernel_rfl) (by kernel_rfl) (by kernel_rfl) (fun _ _ _ h => h) (Or.inl ⟨by rfl, ?y15⟩) (by assumption) ?r15
      case y15 => (intro w hSw; obtain ⟨g0, g1, g2, g3, g4, g5, g6, g7, g8⟩ := hSw; go_simp; try with_reducible rfl)
      refine wpAnyH_done (by kernel_rfl) ?_ _
      clear hb2 HSO
      have HMN := Lib.hid hmn
      clear hmn
      have hq1 := HPT.out
      have hq2 := HCI.out
      by_cases hbt : (possTo B s (ls.take i)).1 < countL (B.bestX s xs) B.n
      · have HST : Hid (possTo B s (ls.take (i + 1)) = (countL (B.bestX s xs) B.n, xs)) := by show _ = _; rw [HSTEP.out]; unfold possStep; rw [if_pos hbt]
        go_wp2_with fail
        go_roundw
        case rel => exact ⟨i + 1, i, by omega, by rw [HST.out], rfl, by go_num, fun _ => ⟨by omega, by rw [HST.out]; exact HXS.out⟩, below_then D3.out D6.out⟩
        case measure => simp [intOf]; omega
      · have HST : Hid (possTo B s (ls.take (i + 1)) = possTo B s (ls.take i)) := by show _ = _; rw [HSTEP.out]; unfold possStep; rw [if_neg hbt]
        have hi0 : 0 < i := by
          rcases Nat.eq_zero_or_pos i with rfl | h
          · exact absurd (by show (-1 : Int) < _; omega) hbt
          · exact h
        have HK2 := Lib.hid (HK.out hi0)
        go_wp2_with fail
        go_roundw
        case rel => exact ⟨i + 1, k, by omega, by rw [HST.out], rfl, by go_num, fun _ => ⟨by have := HK2.out.1; omega, by rw [HST.out]; exact HK2.out.2⟩, below_then D3.out D6.out⟩
        case measure => simp [intOf]; omega
    · obtain rfl : i = ls.length := by omega
      have hk3 := HK.out (by omega)
      have HK3 := Lib.hid hk3.2
      have hk4 : (k : Int) < (ls.length : Int) := by omega
      obtain ⟨gl, lcap, u, e, hcell, hrow⟩ := (HL.out.below D3.out).at_ hk3.1
      simp only [Value.slice.injEq] at e
      obtain ⟨rfl, -, rfl⟩ := e
      rw [← HK3.out, List.take_length] at hrow
      have HROW := Lib.hid hrow
      clear hrow hk3
      rw [List.take_length] at *
      go_wp2_with fail
      go_region
      go_wp2_with fail
      go_ret2
      exact ⟨u, rfl, HROW.out.below (Below.refl _ _).drew, E0.out.trans ((below_then D2.out D3.out).drew.mono E0.out.size)⟩
end Go.Proofs.Ytiflhimmieflpaa
