/- Walks: the reference's Look. -/
import Derived.Test.YtiflhimmieflpaaW77
namespace Go.Proofs.Ytiflhimmieflpaa
open Go.RowKit Go.Maps

/-- The reference's Most of a blade that is like another one: how many. -/
theorem most_like {B1 B2 : Bl} {s : Sw} (hL : B1.Like B2) (hc : B1.cerr = 0) (hs : s.Ok) (hb : B2.bot.length = B2.n) (ht : B2.top.length = B2.n') :
    ∀ TA TB K c c' d W, (sureV B2 TA TB K c c' d).At W → Calls Try.prog 37 #[(sureV B2 TA TB K c c' d).val, s.val] W fun e w' => ∃ A n cc, e = .returned (.slice A n cc) ∧ (n : Int) = countL (B1.worst s) B1.n ∧ Below W.heap.size W w' := fun TA TB K c c' d W hV => by
  have hc2 : B2.cerr = 0 := by rw [hL.cerr]; exact hc
  have hok : B2.Ok := curveErr_ok hc2
  obtain ⟨l, hl⟩ := Int.eq_ofNat_of_zero_le (show 0 ≤ s.long by have := hs.l1; omega)
  obtain ⟨a, ha⟩ := Int.eq_ofNat_of_zero_le hs.a1
  refine (RefMost_sure hok hs hc2 hb ht hl ha W hV).mono ?_
  rintro e w' ⟨v, rfl, ⟨A, cc, rfl, _⟩, hbb⟩
  refine ⟨A, _, cc, rfl, ?_, hbb⟩
  rw [layout_len hok hs hc2 hb ht, hL.worst, hL.n]

set_option maxRecDepth 100000 in
set_option maxHeartbeats 4000000 in
theorem RefLook_any (B : Bl) (s : Sw) (w : World) (h : B.At w) (hc : B.cerr = 0) (hs : s.Ok) : Calls Try.prog 47 #[B.val, s.val] w fun e w' => e = .returned (.tuple #[.int .i64 (lookTo B s B.n).1, .int .i64 (lookTo B s B.n).2]) ∧ Below w.heap.size w w' := by
  have hok : B.Ok := curveErr_ok hc
  have hn30 := hok.n2
  have L0 := Lib.hid (LV.new w B s)
  have HSU := Lib.hid (fun W (hb : Below w.heap.size w W) => Sure_any B W (h.below hb) hc)
  have HMO := Lib.hid (most_like (B1 := B) (B2 := B) (s := s) ⟨rfl, rfl, rfl, rfl, rfl, rfl, rfl⟩ hc hs h.hb.len h.ht.len)
  have HSD := Lib.hid (fun (x : Nat) W (hb : Below w.heap.size w W) (hx : x < B.n) => RefSounded_any B x _ _ W (h.below hb) hok hc hx rfl rfl)
  have HS2 := Lib.hid (fun (x : Nat) (hx : x < B.n) (B2 : Bl) (hL : (B.sound x ((bentL B.bot B.bend).getD x (0, 0)).1 ((bentL B.top B.bend).getD x (0, 0)).2).Like B2) W (hat : B2.At W) => Sure_any B2 W hat (by rw [hL.cerr]; exact sound_cerr hc h.hb.len h.ht.len hx))
  have HM2 : Hid (∀ (x : Nat) (_ : x < B.n) (B2 : Bl) (_ : (B.sound x ((bentL B.bot B.bend).getD x (0, 0)).1 ((bentL B.top B.bend).getD x (0, 0)).2).Like B2) (W0 : World) (_ : B2.At W0), ∀ TA TB K c c' d W, (sureV B2 TA TB K c c' d).At W → Calls Try.prog 37 #[(sureV B2 TA TB K c c' d).val, s.val] W fun e w' => ∃ A n cc, e = .returned (.slice A n cc) ∧ (n : Int) = countL (B.soundX s x) B.n ∧ Below W.heap.size W w') := fun x hx B2 hL W0 hat => by
    have := most_like (s := s) hL (sound_cerr hc h.hb.len h.ht.len hx) hs hat.hb.len hat.ht.len
    rw [sound_worst hc h.hb.len h.ht.len hx] at this
    exact this
  have HCI := Lib.hid (fun x => countL_in x B.n hn30)
  have HLI := Lib.hid (lookTo_in B s hn30)
  have HGA : Hid (∀ x, gainAt B s x = countL (B.soundX s x) B.n - countL (B.worst s) B.n) := fun x => rfl
  have HLS : Hid (∀ k, lookTo B s (k + 1) = if (lookTo B s k).2 < gainAt B s k then ((k : Int), gainAt B s k) else lookTo B s k) := fun k => rfl
  clear h hc hs hok
  unfold Bl.val Sw.val at *
  go_enter Try.func47, Try.ntmps47
  go_upto_region 1 with (fail)
  generalize ((w.alloc (.cells #[.slice B.A B.n B.c, .slice B.A' B.n' B.c', .int .i64 B.bend, .slice B.K B.m B.d] 25)).alloc (.cells #[.int .i64 s.long, .int .i64 s.wide, .int .i64 s.kerf, .int .i64 s.across] 37)) = W0 at *
  have L5 := Lib.hid L0.out.drewd
  have l5 := L5.out.get
  clear L0
  go_region_held3 (fun W => (W.cell? ⟨w.heap.size, 0, none⟩ = some (.slice B.A B.n B.c) ∧ W.cell? ⟨w.heap.size, 1, none⟩ = some (.slice B.A' B.n' B.c') ∧ W.cell? ⟨w.heap.size, 2, none⟩ = some (.int .i64 B.bend) ∧ W.cell? ⟨w.heap.size, 3, none⟩ = some (.slice B.K B.m B.d)) ∧
      W.cell? ⟨w.heap.size + 1, 0, none⟩ = some (.int .i64 s.long) ∧ W.cell? ⟨w.heap.size + 1, 1, none⟩ = some (.int .i64 s.wide) ∧ W.cell? ⟨w.heap.size + 1, 2, none⟩ = some (.int .i64 s.kerf) ∧ W.cell? ⟨w.heap.size + 1, 3, none⟩ = some (.int .i64 s.across))
    (first | with_reducible exact L5.out.get | with_reducible exact L7.out.get | with_reducible exact L6.out.get)
    (first
      | (go_at_call 29; refine (HSU.out _ ?_).mono ?_; (with_reducible exact L5.out.bel); rintro e W6 ⟨TA, TB, K, q1, q2, q3, rfl, hV, b6⟩; have L6 := Lib.hid (L5.out.below b6); have HV6 := Lib.hid hV; clear hV b6)
      | (go_at_call 37; refine (HMO.out _ _ _ _ _ _ _ HV6.out).mono ?_; rintro e W7 ⟨A7, n7, c7, rfl, hn7, b7⟩; have L7 := Lib.hid (L6.out.below b7); have HN7 := Lib.hid hn7; clear hn7 b7))
  clear l5 L5 L6 HV6 HSU HMO
  have hnow := HN7.out
  have hn7 := HCI.out (B.worst s)
  rw [← hnow] at hn7
  have HNOW := Lib.hid hnow
  clear hnow HN7
  go_wp2_with fail
  go_loopw [7, 8, 9] (fun v u i wr => ∃ k : Nat, k ≤ B.n ∧ i = .int .i64 k ∧ v = .int .i64 (lookTo B s k).1 ∧ u = .int .i64 (lookTo B s k).2 ∧ LV w B s wr) (fun _ _ i _ => B.n - (intOf i).toNat)
  case atStart => exact ⟨0, Nat.zero_le _, rfl, rfl, rfl, L7.out⟩
  case round =>
    obtain ⟨k, hk, rfl, rfl, rfl, hlv⟩ := hrel
    have M4 := Lib.hid hlv
    have hli := HLI.out k hk
    have m4 := M4.out.get
    clear hlv L7
    by_cases hlt : k < B.n
    · have hcx := HCI.out (B.soundX s k)
      have M5 := Lib.hid M4.out.drewd
      have hls : Hid (lookTo B s (k + 1) = if (lookTo B s k).2 < countL (B.soundX s k) B.n - n7 then ((k : Int), countL (B.soundX s k) B.n - n7) else lookTo B s k) := by unfold Hid; rw [HLS.out, HGA.out, HNOW.out]
      go_upto_region 5 with (fail)
      go_region_held3 (fun W => (W.cell? ⟨w.heap.size, 0, none⟩ = some (.slice B.A B.n B.c) ∧ W.cell? ⟨w.heap.size, 1, none⟩ = some (.slice B.A' B.n' B.c') ∧ W.cell? ⟨w.heap.size, 2, none⟩ = some (.int .i64 B.bend) ∧ W.cell? ⟨w.heap.size, 3, none⟩ = some (.slice B.K B.m B.d)) ∧
        W.cell? ⟨w.heap.size + 1, 0, none⟩ = some (.int .i64 s.long) ∧ W.cell? ⟨w.heap.size + 1, 1, none⟩ = some (.int .i64 s.wide) ∧ W.cell? ⟨w.heap.size + 1, 2, none⟩ = some (.int .i64 s.kerf) ∧ W.cell? ⟨w.heap.size + 1, 3, none⟩ = some (.int .i64 s.across))
        (first | with_reducible exact M5.out.get | with_reducible exact M8.out.get | with_reducible exact M7.out.get | with_reducible exact M6.out.get)
        (first
          | (go_at_call 87; refine (HSD.out k _ M5.out.bel hlt).mono ?_; rintro e W6 ⟨B2, rfl, hlk, hat, b6⟩; have M6 := Lib.hid (M5.out.below b6); have HS3 := Lib.hid (HS2.out k hlt B2 hlk _ hat); have HM3 := Lib.hid (HM2.out k hlt B2 hlk _ hat); clear hlk hat b6)
          | (go_at_call 29; refine HS3.out.mono ?_; rintro e W7 ⟨TA, TB, K, q1, q2, q3, rfl, hV, b7⟩; have M7 := Lib.hid (M6.out.below b7); have HV7 := Lib.hid hV; clear hV b7)
          | (go_at_call 37; refine (HM3.out _ _ _ _ _ _ _ HV7.out).mono ?_; rintro e W8 ⟨A8, n8, c8, rfl, hn8, b8⟩; have M8 := Lib.hid (M7.out.below b8); have HN8 := Lib.hid hn8; have k8 : IntKind.i64.wrap ((n8 : Int) - (n7 : Int)) = (n8 : Int) - (n7 : Int) := IntWalk.i64_in _ (by omega); clear hn8 b8))
      have hn8 := HN8.out
      clear HN8 HSD HS2 HM2 HS3 HM3 HV7 M5 M6 M7 HLS HGA HNOW m4 M4
      rw [← hn8] at hls hcx
      clear hn8
      by_cases hgt : (lookTo B s k).2 < (n8 : Int) - (n7 : Int)
      · have hnx : Hid (lookTo B s (k + 1) = ((k : Int), (n8 : Int) - n7)) := by unfold Hid; rw [hls.out, if_pos hgt]
        clear hls
        go_wp2
        go_roundw
        case rel => exact ⟨k + 1, by omega, by go_num, by rw [hnx.out], by rw [hnx.out], M8.out⟩
        case measure => simp [intOf]; omega
      · have hnx : Hid (lookTo B s (k + 1) = lookTo B s k) := by unfold Hid; rw [hls.out, if_neg hgt]
        clear hls
        go_wp2
        go_roundw
        case rel => exact ⟨k + 1, by omega, by go_num, by rw [hnx.out], by rw [hnx.out], M8.out⟩
        case measure => simp [intOf]; omega
    · obtain rfl : k = B.n := by omega
      clear HSD HS2 HM2 HLS HGA
      go_wp2
      go_ret2
      exact ⟨rfl, M4.out.bel⟩
end Go.Proofs.Ytiflhimmieflpaa
