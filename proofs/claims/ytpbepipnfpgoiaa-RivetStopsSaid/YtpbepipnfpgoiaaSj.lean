/- Walks: the law of Stops. -/
import Derived.Test.YtpbepipnfpgoiaaSg
import Derived.Test.YtpbepipnfpgoiaaSh
namespace Go.Proofs.Ytpbepipnfpgoiaa
open Go.RowKit

/-- The law's fan, its copy, and a list of ints. -/
structure LD (w W : World) (f : Fan) (A : Option Addr) (n c g : Nat) (A' : Option Addr) (c' : Nat) (L : Option Addr) (m : Nat) (xs : List Int) : Prop where
  l : LB w W f A n c g A' c'
  i : Ints W L m xs
theorem LD.below {w W W' : World} {f : Fan} {A A' L : Option Addr} {n c c' g m : Nat} {xs : List Int} (h : LD w W f A n c g A' c' L m xs) (hb : Below W.heap.size W W') : LD w W' f A n c g A' c' L m xs := ⟨h.l.below hb, h.i.below hb⟩
theorem LD.drewd {w W : World} {f : Fan} {A A' L : Option Addr} {n c c' g m : Nat} {xs : List Int} (h : LD w W f A n c g A' c' L m xs) : LD w W.drew f A n c g A' c' L m xs := ⟨⟨⟨h.l.a.b, h.l.a.bel.drew⟩, h.l.b, h.l.r⟩, h.i⟩
theorem cell_keep {W W' : World} {p : Addr} {v : Value} (hb : Below W.heap.size W W') (h : W.cell? p = some v) : W'.cell? p = some v := (hb.cell (lt_of_cell h)).trans h
theorem stop_pt {W : World} {g b o b2 o2 : Nat} {fa fb fc fd sl x0 x1 x2 x3 z : Value} (h : Blk W g 26 #[fa, fb, fc, fd, sl]) (h0 : W.cell? ⟨b, o, none⟩ = some x0) (h1 : W.cell? ⟨b, o + 1, none⟩ = some x1) (h2 : W.cell? ⟨b, o + 2, none⟩ = some x2) (h3 : W.cell? ⟨b, o + 3, none⟩ = some x3) (hz : W.cell? ⟨b2, o2, none⟩ = some z) :
    (W.cell? ⟨g, 0, none⟩ = some fa ∧ W.cell? ⟨g, 1, none⟩ = some fb ∧ W.cell? ⟨g, 2, none⟩ = some fc ∧ W.cell? ⟨g, 3, none⟩ = some fd ∧ W.cell? ⟨g, 4, none⟩ = some sl) ∧ (W.cell? ⟨b, o, none⟩ = some x0 ∧ W.cell? ⟨b, o + 1, none⟩ = some x1 ∧ W.cell? ⟨b, o + 2, none⟩ = some x2 ∧ W.cell? ⟨b, o + 3, none⟩ = some x3) ∧ W.cell? ⟨b2, o2, none⟩ = some z := ⟨fan_get h, ⟨h0, h1, h2, h3⟩, hz⟩
theorem stop_pt_keep {W W' : World} {g b o b2 o2 : Nat} {fa fb fc fd sl x0 x1 x2 x3 z : Value} (hb : Below W.heap.size W W')
    (h : (W.cell? ⟨g, 0, none⟩ = some fa ∧ W.cell? ⟨g, 1, none⟩ = some fb ∧ W.cell? ⟨g, 2, none⟩ = some fc ∧ W.cell? ⟨g, 3, none⟩ = some fd ∧ W.cell? ⟨g, 4, none⟩ = some sl) ∧ (W.cell? ⟨b, o, none⟩ = some x0 ∧ W.cell? ⟨b, o + 1, none⟩ = some x1 ∧ W.cell? ⟨b, o + 2, none⟩ = some x2 ∧ W.cell? ⟨b, o + 3, none⟩ = some x3) ∧ W.cell? ⟨b2, o2, none⟩ = some z) :
    (W'.cell? ⟨g, 0, none⟩ = some fa ∧ W'.cell? ⟨g, 1, none⟩ = some fb ∧ W'.cell? ⟨g, 2, none⟩ = some fc ∧ W'.cell? ⟨g, 3, none⟩ = some fd ∧ W'.cell? ⟨g, 4, none⟩ = some sl) ∧ (W'.cell? ⟨b, o, none⟩ = some x0 ∧ W'.cell? ⟨b, o + 1, none⟩ = some x1 ∧ W'.cell? ⟨b, o + 2, none⟩ = some x2 ∧ W'.cell? ⟨b, o + 3, none⟩ = some x3) ∧ W'.cell? ⟨b2, o2, none⟩ = some z :=
  ⟨⟨cell_keep hb h.1.1, cell_keep hb h.1.2.1, cell_keep hb h.1.2.2.1, cell_keep hb h.1.2.2.2.1, cell_keep hb h.1.2.2.2.2⟩, ⟨cell_keep hb h.2.1.1, cell_keep hb h.2.1.2.1, cell_keep hb h.2.1.2.2.1, cell_keep hb h.2.1.2.2.2⟩, cell_keep hb h.2.2⟩

set_option maxRecDepth 100000 in
set_option maxHeartbeats 4000000 in
theorem RivetStops_any (f : Fan) (A : Option Addr) (n c : Nat) (w : World) (h : Gaps w A n f.gs) (hn : n ≤ maxLen) :
    Calls Try.prog 4 #[.agg (fanA f A n c)] w fun e w' => e = .returned (.bool true) ∧ Below w.heap.size w w' := by
  have L0 := Lib.hid (LA.start w f A n c)
  have HK := Lib.hid (fun W => known_any W)
  unfold KnownRes at HK
  have HN := Lib.hid hn
  have hn2 := hn
  unfold maxLen at hn2
  have hl := h.len
  by_cases h50 : 50 < n
  · clear h hn HN hl
    obtain ⟨fa, fb, fc, fd, gs⟩ := f
    simp only [fanA] at *
    go_enter Try.func4, Try.ntmps4
    go_wp2_with fail
    refine (HK.out _).mono ?_
    rintro e w1 ⟨rfl, b1⟩
    go_wp2
    go_ret
    exact ⟨rfl, below_then L0.out.bel b1⟩
  have HC := Lib.hid (fun W (hb : Below w.heap.size w W) => RefCopy_any f A n c W (h.below hb) (by omega))
  unfold FanRes at HC
  have H2 := Lib.hid (fun A' c' W (hG : Gaps W A' n f.gs) => Stops_any f A' n c' W hG HN.out)
  unfold StopsRes at H2
  have H3 := Lib.hid (fun W (hb : Below w.heap.size w W) => RefCheck_any f A n c W (h.below hb) HN.out)
  have H4 := Lib.hid (fun A' c' W (hG : Gaps W A' n f.gs) (hb : Below w.heap.size w W) => RefSame_any f A' A n c' c W hG (h.below hb) HN.out)
  have HG := Lib.hid h
  have HO1 : Hid (fanErr f = 0 → stopsL f = f.gs.map (stopL f)) := fun hE => if_pos hE
  have HO2 : Hid (¬ fanErr f = 0 → stopsL f = []) := fun hE => if_neg hE
  have H5 : Hid (fanErr f = 0 → ∀ k, k < n → ∀ W, Calls Try.prog 25 #[.agg (fanA f A n c), .agg #[.int .i64 (f.gs.getD k Gap.zero).ll, .int .i64 (f.gs.getD k Gap.zero).lh, .int .i64 (f.gs.getD k Gap.zero).fl, .int .i64 (f.gs.getD k Gap.zero).fh]] W fun e w' => e = .returned (.int .i64 (stopL f (f.gs.getD k Gap.zero))) ∧ Below W.heap.size W w') := fun hE k hk W =>
    RefStop_any f (f.gs.getD k Gap.zero) A n c W (fanB_of hE).1 (by rw [List.getD_eq_getElem?_getD, List.getElem?_eq_getElem (by omega)]; exact List.getElem_mem _)
  have H6 : Hid (∀ k, k < n → (f.gs.map (stopL f)).getD k 0 = stopL f (f.gs.getD k Gap.zero)) := fun k hk => by
    have : k < f.gs.length := by omega
    simp [List.getD, this]
  have H7 : Hid ((f.gs.map (stopL f)).length = n) := by unfold Hid; rw [List.length_map]; exact hl
  clear h hn HN hl
  generalize stopsL f = sl at *
  generalize fanErr f = r at *
  generalize f.gs.map (stopL f) = sl2 at *
  have HST : Hid (∀ k, k < n → r = 0 → sl2.getD k 0 = stopL f (f.gs.getD k Gap.zero)) := fun k hk _ => H6.out k hk
  clear H6
  generalize stopL f = st at *
  obtain ⟨fa, fb, fc, fd, gs⟩ := f
  have hr2 : (r != r) = false := by simp
  have hr3 : (r == r) = true := by simp
  simp only [fanA] at HC H2 H3 H4 H5 ⊢
  have p0 := fan_get L0.out.b
  go_enter Try.func4, Try.ntmps4
  go_wp2_with fail
  refine (HC.out _ L0.out.bel).mono ?_
  rintro e w1 ⟨A', c', rfl, hG, b1⟩
  have L1 := Lib.hid (L0.out.below b1)
  have G1 := Lib.hid hG
  have S1 := Lib.hid (Blk.new w1 26 #[.int .i64 0, .int .i64 0, .int .i64 0, .int .i64 0, .slice none 0 0] (g := w1.heap.size) rfl)
  clear b1 hG p0 L0 HC
  go_wp2_with (refine wpList_store_row rfl 26 _ _ rfl w1.heap.size _ rfl rfl 26 _ S1.out (by kernel_rfl) rfl (by kernel_rfl) ?_; have L2 := Lib.hid (LB.start (c' := c') L1.out G1.out #[.int .i64 0, .int .i64 0, .int .i64 0, .int .i64 0, .slice none 0 0]); simp only [fanA] at L2; have p2 := fan_get L2.out.b; clear L1 G1 S1)
  refine (H2.out _ _ _ L2.out.r).mono ?_
  rintro e w4 ⟨v, rfl, ho, b4⟩
  obtain ⟨AL, cL, rfl, hI⟩ := own_ints ho
  have L4 : Hid (LD w w4 ⟨fa, fb, fc, fd, gs⟩ A n c w1.heap.size A' c' AL sl.length sl) := ⟨L2.out.below b4, hI⟩
  have p4 := fan_get L4.out.l.a.b
  have q4 := fan_get L4.out.l.b
  clear b4 p2 L2 H2 ho hI
  generalize w1.heap.size = g at *
  go_wp2_with fail
  refine (H4.out _ _ _ L4.out.l.r L4.out.l.a.bel).mono ?_
  rintro e w6 ⟨rfl, b6⟩
  have L6 := Lib.hid (L4.out.below b6)
  have p6 := fan_get L6.out.l.a.b
  clear b6 p4 q4 L4 H4
  go_wp2_with fail
  refine (H3.out _ L6.out.l.a.bel).mono ?_
  rintro e w7 ⟨rfl, b7⟩
  have L7 := Lib.hid (L6.out.below b7)
  clear b7 p6 L6 H3
  by_cases hE : r = 0
  · have hO := HO1.out hE
    subst hE
    subst hO
    have h7 := H7.out
    rw [h7] at L7 ⊢
    have hnn : ((n : Int) != (n : Int)) = false := by simp
    have p7 := fan_get L7.out.l.a.b
    clear HO1 HO2 hr2 hr3
    go_wp2_with fail
    clear p7 hnn
    go_loopw [7] (fun i wr => ∃ k : Nat, k ≤ n ∧ i = .int .i64 k ∧ Below w7.heap.size w7 wr) (fun i _ => n - (intOf i).toNat)
    case atStart => exact ⟨0, Nat.zero_le _, rfl, Below.refl _ _⟩
    case round =>
      obtain ⟨k, hk, rfl, hbel⟩ := hrel
      have L8 := Lib.hid (L7.out.below hbel)
      have D8 := Lib.hid hbel
      clear hbel
      by_cases hlt : k < n
      · have G8 := HG.out.below L8.out.l.a.bel
        obtain ⟨b, off, hA, hb, c0, c1, c2, c3⟩ := G8.at_ hlt
        obtain ⟨b2, o2, hA2, hb2, d0⟩ := L8.out.i.at_ hlt
        subst hA hA2
        have hv := HST.out k hlt (by first | rfl | trivial)
        rw [hv] at d0
        have H8 := Lib.hid (H5.out (by first | rfl | trivial) k hlt)
        clear G8 hv H5 HST
        generalize gs.getD k Gap.zero = y at *
        generalize st y = z at *
        obtain ⟨ll, lh, fl, fh⟩ := y
        simp only at *
        have F1 := Lib.hid (stop_pt L8.out.l.a.b c0 c1 c2 c3 d0)
        have L9 := Lib.hid L8.out.drewd
        have D9 := Lib.hid D8.out.drew
        have hzz : (z != z) = false := by simp
        clear c0 c1 c2 c3 d0 D8
        go_wp2_with fail
        go_region_held3 (fun W => (W.cell? ⟨w.heap.size, 0, none⟩ = some (.int .i64 fa) ∧ W.cell? ⟨w.heap.size, 1, none⟩ = some (.int .i64 fb) ∧ W.cell? ⟨w.heap.size, 2, none⟩ = some (.int .i64 fc) ∧ W.cell? ⟨w.heap.size, 3, none⟩ = some (.int .i64 fd) ∧ W.cell? ⟨w.heap.size, 4, none⟩ = some (.slice (some ⟨b, off, none⟩) n c)) ∧ (W.cell? ⟨b, off + k * 4, none⟩ = some (.int .i64 ll) ∧ W.cell? ⟨b, off + k * 4 + 1, none⟩ = some (.int .i64 lh) ∧ W.cell? ⟨b, off + k * 4 + 2, none⟩ = some (.int .i64 fl) ∧ W.cell? ⟨b, off + k * 4 + 3, none⟩ = some (.int .i64 fh)) ∧ W.cell? ⟨b2, o2 + k, none⟩ = some (.int .i64 z))
          (first | exact F1.out | exact F2.out)
          (first | (go_at_call 25; refine (H8.out _).mono ?_; rintro e x1 ⟨rfl, h1⟩; have F2 := Lib.hid (stop_pt_keep h1 (show _ from F1.out)); have M1 := Lib.hid (below_then D9.out h1); clear h1))
        all_goals
          go_wp2
          go_roundw
          case rel => exact ⟨k + 1, by omega, by go_num, M1.out⟩
          case measure => simp [intOf]; omega
      · obtain rfl : k = n := by omega
        go_wp2_with fail
        refine (HK.out _).mono ?_
        rintro e w9 ⟨rfl, b9⟩
        go_wp2
        go_ret
        exact ⟨rfl, below_then L8.out.l.a.bel b9⟩
  · have hO := HO2.out hE
    subst hO
    clear HO1 HO2 H5
    have hr0 : (r != 0) = true := by simpa using hE
    go_wp2_with fail
    refine (HK.out _).mono ?_
    rintro e w8 ⟨rfl, b8⟩
    go_wp2
    go_ret
    exact ⟨rfl, below_then L7.out.l.a.bel b8⟩
end Go.Proofs.Ytpbepipnfpgoiaa
