/- Walks: the reference's Least, Most, Opens. -/
import Derived.Test.YtdekickmplkdiaaSc
namespace Go.Proofs.Ytdekickmplkdiaa
open Go.RowKit

theorem fan_gap {W : World} {g b o : Nat} {t : TypeId} {fa fb fc fd sl x0 x1 x2 x3 : Value} (h : Blk W g t #[fa, fb, fc, fd, sl]) (h0 : W.cell? ⟨b, o, none⟩ = some x0) (h1 : W.cell? ⟨b, o + 1, none⟩ = some x1) (h2 : W.cell? ⟨b, o + 2, none⟩ = some x2) (h3 : W.cell? ⟨b, o + 3, none⟩ = some x3) :
    (W.cell? ⟨g, 0, none⟩ = some fa ∧ W.cell? ⟨g, 1, none⟩ = some fb ∧ W.cell? ⟨g, 2, none⟩ = some fc ∧ W.cell? ⟨g, 3, none⟩ = some fd ∧ W.cell? ⟨g, 4, none⟩ = some sl) ∧ (W.cell? ⟨b, o, none⟩ = some x0 ∧ W.cell? ⟨b, o + 1, none⟩ = some x1 ∧ W.cell? ⟨b, o + 2, none⟩ = some x2 ∧ W.cell? ⟨b, o + 3, none⟩ = some x3) := ⟨⟨h.cell 0, h.cell 1, h.cell 2, h.cell 3, h.cell 4⟩, h0, h1, h2, h3⟩

set_option maxRecDepth 100000 in
set_option maxHeartbeats 4000000 in
theorem RefLeast_any (f : Fan) (A : Option Addr) (n c : Nat) (w : World) (hf : FanB f) (h : Gaps w A n f.gs) :
    Calls Try.prog 63 #[.agg (fanA f A n c)] w fun e w' => e = .returned (.tuple #[.int .i64 (openN false f), .int .i64 (partsL false f)]) ∧ Below w.heap.size w w' := by
  have hl := h.len
  have hn : n ≤ 41 := by have := hf.n; omega
  have B0 := Lib.hid (below_self w (.cells (fanA f A n c) 26))
  have R0 := Lib.hid (Blk.new w 26 (fanA f A n c) (g := w.heap.size) rfl)
  have HG := Lib.hid h
  have HK := Lib.hid (fun k (hk : k < n) => ang_parts hf false (g := f.gs.getD k Gap.zero) (by rw [List.getD_eq_getElem?_getD, List.getElem?_eq_getElem (by omega)]; exact List.getElem_mem _))
  have HT := Lib.hid (fun k (hk : k < n) => sum_take (anglesF false f) k (by simp only [anglesF, List.length_map]; omega))
  have HV : Hid (∀ k, k < n → (anglesF false f).getD k 0 = min ((f.gs.getD k Gap.zero).ll * f.d) ((f.gs.getD k Gap.zero).fl * f.b)) := fun k hk => by
    have : k < f.gs.length := by omega
    simp [anglesF, List.getD, this, angF, ris, fal]
  have HO : Hid (openN false f = ((anglesF false f).take n).sum) := by
    unfold Hid openN
    rw [List.take_of_length_le (by simp [anglesF]; omega)]
  have HP : Hid (partsL false f = f.b * f.d) := rfl
  have hpb : f.b * f.d ≤ 25000000 := (parts_bd hf false).2
  have hpa : 1 ≤ f.b * f.d := (parts_bd hf false).1
  have HR := Lib.hid (fun far near leaf foot W => RefAngle_any far near leaf foot W)
  generalize openN false f = r at *
  generalize partsL false f = s at *
  clear h hl hf
  obtain ⟨fa, fb, fc, fd, gs⟩ := f
  simp only [fanA] at *
  generalize anglesF false ⟨fa, fb, fc, fd, gs⟩ = ang at *
  go_enter Try.func63, Try.ntmps63
  go_wp2
  go_loopw [4, 5] (fun s i wr => ∃ k : Nat, k ≤ n ∧ i = .int .i64 k ∧ s = .int .i64 ((ang.take k).sum) ∧ 0 ≤ (ang.take k).sum ∧ (ang.take k).sum ≤ k * 15000000 ∧ Below w.heap.size w wr ∧ Blk wr w.heap.size 26 #[.int .i64 fa, .int .i64 fb, .int .i64 fc, .int .i64 fd, .slice A n c]) (fun _ i _ => n - (intOf i).toNat)
  case atStart => exact ⟨0, Nat.zero_le _, rfl, rfl, by simp, by simp, B0.out, R0.out⟩
  case round =>
    obtain ⟨k, hk, rfl, rfl, hs1, hs2, hbel, hblk⟩ := hrel
    have B1 := Lib.hid hbel
    have R1 := Lib.hid hblk
    have p1 := hblk.cell
    clear hbel hblk B0 R0
    by_cases hlt : k < n
    · obtain ⟨b, off, hA, hb, c0, c1, c2, c3⟩ := (HG.out.below B1.out).at_ hlt
      subst hA
      have hT := HT.out k hlt
      have hV := HV.out k hlt
      obtain ⟨⟨k1, k2⟩, ⟨k3, k4⟩⟩ := HK.out k hlt
      simp only [ris, fal, cond_false] at k1 k2 k3 k4
      have hC := HR.out fb fd (gs.getD k Gap.zero).ll (gs.getD k Gap.zero).fl
      rw [hV] at hT
      generalize gs.getD k Gap.zero = y at *
      obtain ⟨ll, lh, fl, fh⟩ := y
      simp only at *
      have HC := Lib.hid (fun W => hC W ⟨k1, by omega⟩ ⟨k3, by omega⟩)
      have hm : 0 ≤ min (ll * fd) (fl * fb) ∧ min (ll * fd) (fl * fb) ≤ 15000000 := by omega
      generalize min (ll * fd) (fl * fb) = m at *
      have hw : IntKind.i64.wrap ((ang.take k).sum + m) = (ang.take (k + 1)).sum := by rw [hT]; exact IntWalk.i64_in _ (by omega)
      have hs3 : 0 ≤ (ang.take (k + 1)).sum ∧ (ang.take (k + 1)).sum ≤ ((k + 1 : Nat) : Int) * 15000000 := by rw [hT]; omega
      have HS3 := Lib.hid hs3
      clear hT hV hC k1 k2 k3 k4 hm hs3 HR
      generalize hg2 : (ang.take (k + 1)).sum = s2 at *
      have HG2 := Lib.hid hg2
      clear hg2
      generalize (ang.take k).sum = s1 at *
      have F1 := Lib.hid (fan_gap R1.out c0 c1 c2 c3)
      have p4 := F1.out.1.2.2.2.2
      clear p1
      go_wp2_with fail
      go_region_held3 (fun W => (W.cell? ⟨w.heap.size, 0, none⟩ = some (.int .i64 fa) ∧ W.cell? ⟨w.heap.size, 1, none⟩ = some (.int .i64 fb) ∧ W.cell? ⟨w.heap.size, 2, none⟩ = some (.int .i64 fc) ∧ W.cell? ⟨w.heap.size, 3, none⟩ = some (.int .i64 fd) ∧ W.cell? ⟨w.heap.size, 4, none⟩ = some (.slice (some ⟨b, off, none⟩) n c)) ∧ (W.cell? ⟨b, off + k * 4, none⟩ = some (.int .i64 ll) ∧ W.cell? ⟨b, off + k * 4 + 1, none⟩ = some (.int .i64 lh) ∧ W.cell? ⟨b, off + k * 4 + 2, none⟩ = some (.int .i64 fl) ∧ W.cell? ⟨b, off + k * 4 + 3, none⟩ = some (.int .i64 fh)))
        (first | with_reducible exact F1.out | exact F1.out)
        (first | (go_at_call 96; refine (HC.out _).mono ?_; rintro e W1 ⟨rfl, rfl⟩))
      all_goals
        go_wp2
        go_roundw
        case rel => exact ⟨k + 1, by omega, by go_num, by rw [HG2.out], by rw [HG2.out]; exact HS3.out.1, by rw [HG2.out]; exact HS3.out.2, B1.out.drew, R1.out⟩
        case measure => simp [intOf]; omega
    · obtain rfl : k = n := by omega
      go_wp2_with fail
      go_quiet (fail)
      all_goals
        go_wp2
        go_ret2
        exact ⟨by rw [HO.out, HP.out]; first | done | rfl, below_drewN B1.out _⟩

set_option maxRecDepth 100000 in
set_option maxHeartbeats 4000000 in
theorem RefMost_any (f : Fan) (A : Option Addr) (n c : Nat) (w : World) (hf : FanB f) (h : Gaps w A n f.gs) :
    Calls Try.prog 64 #[.agg (fanA f A n c)] w fun e w' => e = .returned (.tuple #[.int .i64 (openN true f), .int .i64 (partsL true f)]) ∧ Below w.heap.size w w' := by
  have hl := h.len
  have hn : n ≤ 41 := by have := hf.n; omega
  have B0 := Lib.hid (below_self w (.cells (fanA f A n c) 26))
  have R0 := Lib.hid (Blk.new w 26 (fanA f A n c) (g := w.heap.size) rfl)
  have HG := Lib.hid h
  have HK := Lib.hid (fun k (hk : k < n) => ang_parts hf true (g := f.gs.getD k Gap.zero) (by rw [List.getD_eq_getElem?_getD, List.getElem?_eq_getElem (by omega)]; exact List.getElem_mem _))
  have HT := Lib.hid (fun k (hk : k < n) => sum_take (anglesF true f) k (by simp only [anglesF, List.length_map]; omega))
  have HV : Hid (∀ k, k < n → (anglesF true f).getD k 0 = min ((f.gs.getD k Gap.zero).lh * f.c) ((f.gs.getD k Gap.zero).fh * f.a)) := fun k hk => by
    have : k < f.gs.length := by omega
    simp [anglesF, List.getD, this, angF, ris, fal]
  have HO : Hid (openN true f = ((anglesF true f).take n).sum) := by
    unfold Hid openN
    rw [List.take_of_length_le (by simp [anglesF]; omega)]
  have HP : Hid (partsL true f = f.a * f.c) := rfl
  have hpb : f.a * f.c ≤ 25000000 := (parts_bd hf true).2
  have hpa : 1 ≤ f.a * f.c := (parts_bd hf true).1
  have HR := Lib.hid (fun far near leaf foot W => RefAngle_any far near leaf foot W)
  generalize openN true f = r at *
  generalize partsL true f = s at *
  clear h hl hf
  obtain ⟨fa, fb, fc, fd, gs⟩ := f
  simp only [fanA] at *
  generalize anglesF true ⟨fa, fb, fc, fd, gs⟩ = ang at *
  go_enter Try.func64, Try.ntmps64
  go_wp2
  go_loopw [4, 5] (fun s i wr => ∃ k : Nat, k ≤ n ∧ i = .int .i64 k ∧ s = .int .i64 ((ang.take k).sum) ∧ 0 ≤ (ang.take k).sum ∧ (ang.take k).sum ≤ k * 15000000 ∧ Below w.heap.size w wr ∧ Blk wr w.heap.size 26 #[.int .i64 fa, .int .i64 fb, .int .i64 fc, .int .i64 fd, .slice A n c]) (fun _ i _ => n - (intOf i).toNat)
  case atStart => exact ⟨0, Nat.zero_le _, rfl, rfl, by simp, by simp, B0.out, R0.out⟩
  case round =>
    obtain ⟨k, hk, rfl, rfl, hs1, hs2, hbel, hblk⟩ := hrel
    have B1 := Lib.hid hbel
    have R1 := Lib.hid hblk
    have p1 := hblk.cell
    clear hbel hblk B0 R0
    by_cases hlt : k < n
    · obtain ⟨b, off, hA, hb, c0, c1, c2, c3⟩ := (HG.out.below B1.out).at_ hlt
      subst hA
      have hT := HT.out k hlt
      have hV := HV.out k hlt
      obtain ⟨⟨k1, k2⟩, ⟨k3, k4⟩⟩ := HK.out k hlt
      simp only [ris, fal, cond_true] at k1 k2 k3 k4
      have hC := HR.out fa fc (gs.getD k Gap.zero).lh (gs.getD k Gap.zero).fh
      rw [hV] at hT
      generalize gs.getD k Gap.zero = y at *
      obtain ⟨ll, lh, fl, fh⟩ := y
      simp only at *
      have HC := Lib.hid (fun W => hC W ⟨k1, by omega⟩ ⟨k3, by omega⟩)
      have hm : 0 ≤ min (lh * fc) (fh * fa) ∧ min (lh * fc) (fh * fa) ≤ 15000000 := by omega
      generalize min (lh * fc) (fh * fa) = m at *
      have hw : IntKind.i64.wrap ((ang.take k).sum + m) = (ang.take (k + 1)).sum := by rw [hT]; exact IntWalk.i64_in _ (by omega)
      have hs3 : 0 ≤ (ang.take (k + 1)).sum ∧ (ang.take (k + 1)).sum ≤ ((k + 1 : Nat) : Int) * 15000000 := by rw [hT]; omega
      have HS3 := Lib.hid hs3
      clear hT hV hC k1 k2 k3 k4 hm hs3 HR
      generalize hg2 : (ang.take (k + 1)).sum = s2 at *
      have HG2 := Lib.hid hg2
      clear hg2
      generalize (ang.take k).sum = s1 at *
      have F1 := Lib.hid (fan_gap R1.out c0 c1 c2 c3)
      have p4 := F1.out.1.2.2.2.2
      clear p1
      go_wp2_with fail
      go_region_held3 (fun W => (W.cell? ⟨w.heap.size, 0, none⟩ = some (.int .i64 fa) ∧ W.cell? ⟨w.heap.size, 1, none⟩ = some (.int .i64 fb) ∧ W.cell? ⟨w.heap.size, 2, none⟩ = some (.int .i64 fc) ∧ W.cell? ⟨w.heap.size, 3, none⟩ = some (.int .i64 fd) ∧ W.cell? ⟨w.heap.size, 4, none⟩ = some (.slice (some ⟨b, off, none⟩) n c)) ∧ (W.cell? ⟨b, off + k * 4, none⟩ = some (.int .i64 ll) ∧ W.cell? ⟨b, off + k * 4 + 1, none⟩ = some (.int .i64 lh) ∧ W.cell? ⟨b, off + k * 4 + 2, none⟩ = some (.int .i64 fl) ∧ W.cell? ⟨b, off + k * 4 + 3, none⟩ = some (.int .i64 fh)))
        (first | with_reducible exact F1.out | exact F1.out)
        (first | (go_at_call 96; refine (HC.out _).mono ?_; rintro e W1 ⟨rfl, rfl⟩))
      all_goals
        go_wp2
        go_roundw
        case rel => exact ⟨k + 1, by omega, by go_num, by rw [HG2.out], by rw [HG2.out]; exact HS3.out.1, by rw [HG2.out]; exact HS3.out.2, B1.out.drew, R1.out⟩
        case measure => simp [intOf]; omega
    · obtain rfl : k = n := by omega
      go_wp2_with fail
      go_quiet (fail)
      all_goals
        go_wp2
        go_ret2
        exact ⟨by rw [HO.out, HP.out]; first | done | rfl, below_drewN B1.out _⟩
end Go.Proofs.Ytdekickmplkdiaa
