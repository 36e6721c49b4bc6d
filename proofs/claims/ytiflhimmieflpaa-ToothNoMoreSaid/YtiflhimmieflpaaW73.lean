/- Walks: the code's Look. -/
import Derived.Test.YtiflhimmieflpaaW72
namespace Go.Proofs.Ytiflhimmieflpaa
open Go.RowKit Go.Maps

theorem soundX_top (B : Bl) (s : Sw) (x g cap g' cap' : Nat) (w : World) (hB : B.Ok) (h : Pairs w (some ⟨g, 0, none⟩) B.n (setLow (bentL B.bot B.bend) x B.bend)) (h' : Pairs w (some ⟨g', 0, none⟩) B.n (setHigh (bentL B.top B.bend) x B.bend)) (hk : Cracks w B.K B.m B.cr) :
    Calls Try.prog 66 #[B.curved g cap g' cap', s.val] w (WorstTop w B.n B.m (B.soundX s x)) := by
  unfold Bl.curved
  rw [hB.nn]
  refine (worst_any B.A B.A' B.K B.c B.c' B.m B.d g 0 g' 0 B.n cap cap' B.bend s.long s.wide s.kerf s.across (setLow (bentL B.bot B.bend) x B.bend) (setHigh (bentL B.top B.bend) x B.bend) B.cr w h h' hk (by have := hB.n1; omega) hB.n2 hB.m4).mono ?_
  rintro e w' ⟨hb, ⟨b, o, so⟩, ⟨b', o', so'⟩, c, c', K, d, rfl, hs, hc, hc', rfl, rfl⟩
  exact ⟨hb, b, o, b', o', c, c', K, d, rfl, hs, hc.1, hc'.1, hc.2⟩
theorem set_in {ys : List (Int × Int)} {x : Nat} {v : Int} (h : ∀ s ∈ ys, InR s) (h0 : 0 ≤ v) (h3 : v ≤ 300) {bend : Int} (b0 : 0 ≤ bend) : ∀ s ∈ bentL (ys.set x (v, v)) bend, InR s := bentL_in (set_inR h h0 h3) b0
theorem getD_inR {ys : List (Int × Int)} {x : Nat} (h : ∀ s ∈ ys, InR s) (hx : x < ys.length) : InR (ys.getD x (0, 0)) := by
  have e : ys.getD x (0, 0) = ys[x] := by simp [List.getD, hx]
  rw [e]; exact h _ (List.getElem_mem _)
theorem soundX_bounds {B : Bl} {s : Sw} {x : Nat} (h : B.Ok) (hs : s.Ok) (hx : x < (bentL B.bot B.bend).length) (hx' : x < (bentL B.top B.bend).length) : SawBounds (B.soundX s x) := by
  have i1 := getD_inR (bentL_in h.bot h.b0) hx
  have i2 := getD_inR (bentL_in h.top h.b0) hx'
  refine ⟨hs.l1, hs.l2, hs.w1, hs.w2, hs.k1, hs.k2, hs.a1, hs.a2, fun v hv => ?_, fun v hv => ?_, fun k hk => ?_⟩
  · obtain ⟨p, hp, rfl⟩ := List.mem_map.1 hv
    have := set_in (bentL_in h.bot h.b0) i1.1 i1.2.1 h.b0 p hp
    exact ⟨this.2.2.1, this.2.2.2⟩
  · obtain ⟨p, hp, rfl⟩ := List.mem_map.1 hv
    have := set_in (bentL_in h.top h.b0) i2.2.2.1 i2.2.2.2 h.b0 p hp
    exact ⟨this.1, this.2.1⟩
  · obtain ⟨p, hp, rfl⟩ := List.mem_map.1 hk
    exact h.cr p hp
theorem bentOk_both {B : Bl} (h : B.cerr = 0) : bentOk B.bot B.bend = true ∧ bentOk B.top B.bend = true := by
  have h' : curveErr B.n B.n' B.m B.bend B.bot B.top B.cr = 0 := h
  unfold curveErr at h'
  split at h'
  · omega
  split at h'
  · omega
  split at h'
  · omega
  split at h'
  · omega
  split at h'
  · omega
  rename_i e1 e2 e3 e4 e5
  cases hb : bentOk B.bot B.bend
  · rw [hb] at h'; simp at h'
  · cases ht : bentOk B.top B.bend
    · rw [hb, ht] at h'; simp at h'
    · exact ⟨rfl, rfl⟩
theorem blk6 {W : World} {g : Nat} {t : TypeId} {a b c d e f : Value} (h : Blk W g t #[a, b, c, d, e, f]) : W.cell? ⟨g, 0, none⟩ = some a ∧ W.cell? ⟨g, 1, none⟩ = some b ∧ W.cell? ⟨g, 2, none⟩ = some c ∧ W.cell? ⟨g, 3, none⟩ = some d ∧ W.cell? ⟨g, 4, none⟩ = some e ∧ W.cell? ⟨g, 5, none⟩ = some f :=
  ⟨h.cell 0, h.cell 1, h.cell 2, h.cell 3, h.cell 4, h.cell 5⟩
theorem blk4 {W : World} {g : Nat} {t : TypeId} {a b c d : Value} (h : Blk W g t #[a, b, c, d]) : W.cell? ⟨g, 0, none⟩ = some a ∧ W.cell? ⟨g, 1, none⟩ = some b ∧ W.cell? ⟨g, 2, none⟩ = some c ∧ W.cell? ⟨g, 3, none⟩ = some d :=
  ⟨h.cell 0, h.cell 1, h.cell 2, h.cell 3⟩
def LookRes (w : World) (B : Bl) (s : Sw) (e : Ending) (w' : World) : Prop :=
  Below w.heap.size w w' ∧ ((B.err s ≠ 0 ∧ e = .returned (.tuple #[.int .i64 0, .int .i64 0, .int .i64 (B.err s)])) ∨
    (B.err s = 0 ∧ (lookTo B s B.n).2 = 0 ∧ e = .returned (.tuple #[.int .i64 0, .int .i64 0, .int .i64 7])) ∨
    (B.err s = 0 ∧ (lookTo B s B.n).2 ≠ 0 ∧ e = .returned (.tuple #[.int .i64 (lookTo B s B.n).1, .int .i64 (lookTo B s B.n).2, .int .i64 0])))

set_option maxRecDepth 100000 in
set_option maxHeartbeats 4000000 in
theorem Look_any (B : Bl) (s : Sw) (w : World) (h : B.At w) : Calls Try.prog 45 #[B.val, s.val] w (LookRes w B s) := by
  have E0 : Hid (Below w.heap.size w ((w.alloc (.cells #[.slice B.A B.n B.c, .slice B.A' B.n' B.c', .int .i64 B.bend, .slice B.K B.m B.d] 25)).alloc (.cells #[.int .i64 s.long, .int .i64 s.wide, .int .i64 s.kerf, .int .i64 s.across] 37))) := below_alloc' (below_self _ _) _
  have S0 := Lib.hid (Blk.new (w.alloc (.cells #[.slice B.A B.n B.c, .slice B.A' B.n' B.c', .int .i64 B.bend, .slice B.K B.m B.d] 25)) 37 #[.int .i64 s.long, .int .i64 s.wide, .int .i64 s.kerf, .int .i64 s.across] (g := w.heap.size + 1) (by simp))
  have HC := Lib.hid (ready_top B s _ (h.below E0.out))
  have HK := Lib.hid h
  clear h
  unfold Bl.val Sw.val at *
  go_enter Try.func45, Try.ntmps45
  go_wp2_with fail
  refine HC.out.mono ?_
  rintro e w2 ⟨hb2, ⟨herr, rfl⟩ | ⟨hok, g, cap, g', cap', rfl, P, P', -⟩⟩
  · have B2 := Lib.hid (below_then E0.out hb2)
    have Herr := Lib.hid herr
    have hz : (B.err s == 0) = false := by simpa using herr
    have hz2 : (B.err s != 0) = true := by simpa using herr
    clear hb2 herr HC
    unfold zeroCurved
    go_wp2
    go_ret3
    exact ⟨below_alloc' B2.out _, .inl ⟨Herr.out, rfl⟩⟩
  · have B2 := Lib.hid (below_then E0.out hb2)
    have S2 := Lib.hid (blk_keep hb2 S0.out)
    have Hok := Lib.hid (err_ok hok)
    have Hbo := Lib.hid (bentOk_both (show B.cerr = 0 from (err_ok hok).1))
    have hP := Lib.hid P
    have hP' := Lib.hid P'
    have s2 := S2.out.cell
    have hz := S2.out.lt
    have hlb : (bentL B.bot B.bend).length = B.n := P.len
    have hlt : (bentL B.top B.bend).length = B.n := P'.len
    have HLB := Lib.hid hlb
    have HLT2 := Lib.hid hlt
    have HWT := Lib.hid (fun W (hb : Below w2.heap.size w2 W) => worst_top B s g cap g' cap' W Hok.out.2.1 (hP.out.below hb) (hP'.out.below hb) (HK.out.below (below_then B2.out hb)).hk)
    have HLT := Lib.hid (fun b o b' o' c c' K d W => count_top B (B.worst s) b o b' o' c c' K B.m d W Hok.out.2.1 (worst_bounds Hok.out.2.1 Hok.out.2.2) Hok.out.2.1.m4)
    have HSD := Lib.hid (fun (x : Nat) W (hb : Below w2.heap.size w2 W) (hx : x < B.n) => sounded_any B g cap g' cap' x (bentL B.bot B.bend) (bentL B.top B.bend) W Hok.out.2.1 (hP.out.below hb) (hP'.out.below hb) hx (bentL_in Hok.out.2.1.bot Hok.out.2.1.b0) (bentL_in Hok.out.2.1.top Hok.out.2.1.b0)
      (bent_full Hok.out.2.1.b0 Hbo.out.1 0 (by rw [bentL_length] at hlb; omega)) (bent_full Hok.out.2.1.b0 Hbo.out.2 0 (by rw [bentL_length] at hlt; omega)) (low_ok Hok.out.2.1.b0 Hbo.out.1 (by rw [bentL_length] at hlb; omega)) (high_ok Hok.out.2.1.b0 Hbo.out.2 (by rw [bentL_length] at hlt; omega)))
    have HWX := Lib.hid (fun (x q dq q' dq' : Nat) W (hb : Below w2.heap.size w2 W) (h1 : Pairs W (some ⟨q, 0, none⟩) B.n (setLow (bentL B.bot B.bend) x B.bend)) (h2 : Pairs W (some ⟨q', 0, none⟩) B.n (setHigh (bentL B.top B.bend) x B.bend)) => soundX_top B s x q dq q' dq' W Hok.out.2.1 h1 h2 (HK.out.below (below_then B2.out hb)).hk)
    have HLX := Lib.hid (fun (x : Nat) (hx : x < B.n) b o b' o' c c' K d W => count_top B (B.soundX s x) b o b' o' c c' K B.m d W Hok.out.2.1 (soundX_bounds Hok.out.2.1 Hok.out.2.2 (by rw [HLB.out]; exact hx) (by rw [HLT2.out]; exact hx)) Hok.out.2.1.m4)
    have Hok0 := Lib.hid hok
    have C2 := Lib.hid (Blk.new w2 106 #[.slice B.A B.n B.c, .slice B.A' B.n' B.c', .int .i64 B.bend, .slice B.K B.m B.d, .slice (some ⟨g, 0, none⟩) B.n cap, .slice (some ⟨g', 0, none⟩) B.n cap'] (g := w2.heap.size) rfl)
    have S2' := Lib.hid (S2.out.alloc (.cells #[.slice B.A B.n B.c, .slice B.A' B.n' B.c', .int .i64 B.bend, .slice B.K B.m B.d, .slice (some ⟨g, 0, none⟩) B.n cap, .slice (some ⟨g', 0, none⟩) B.n cap'] 106))
    have HCI := Lib.hid (fun x => countL_in x B.n Hok.out.2.1.n2)
    have HLI := Lib.hid (lookTo_in B s Hok.out.2.1.n2)
    have n2 := Hok.out.2.1.n2
    clear hb2 hok P P' HC hlb hlt
    unfold Bl.curved Sw.val at HWT
    unfold Bl.curved at HSD
    unfold Bl.curved Sw.val at HWX
    unfold Bl.curved
    go_wp2_with fail
    refine (HWT.out _ (below_self _ _)).mono ?_
    rintro e w3 ⟨hb3, b, o, b', o', c, c', K, d, rfl, hs, hc, hc', hm⟩
    have B3 := Lib.hid (below_then (below_alloc' B2.out _) hb3)
    have G3 := Lib.hid (below_then (below_self w2 _) hb3)
    have HL3 := Lib.hid (HLT.out b o b' o' c c' K d _ hs hc hc' hm)
    have C3 := Lib.hid (blk_keep hb3 C2.out)
    have S3 := Lib.hid (blk_keep hb3 S2'.out)
    clear hb3 hs hc hc' hm HWT HLT s2 hz C2 S2 S2'
    go_wp2_with fail
    refine HL3.out.mono ?_
    rintro e w4 ⟨rfl, hb4⟩
    have B4 := Lib.hid (below_then B3.out hb4)
    have G4 := Lib.hid (below_then G3.out hb4)
    have C4 := Lib.hid (blk_keep hb4 C3.out)
    have S4 := Lib.hid (blk_keep hb4 S3.out)
    have c4 := C4.out.cell
    have HGA : Hid (∀ x, gainAt B s x = countL (B.soundX s x) B.n - countL (B.worst s) B.n) := fun x => rfl
    have HLS : Hid (∀ k, lookTo B s (k + 1) = if (lookTo B s k).2 < gainAt B s k then ((k : Int), gainAt B s k) else lookTo B s k) := fun k => rfl
    have hn0 := HCI.out (B.worst s)
    clear hb4 C3 S3 HL3 G3 B3
    generalize countL (B.worst s) B.n = now at *
    go_wp2_with fail
    clear c4
    go_loopw [4, 5, 27] (fun v u i wr => ∃ k : Nat, k ≤ B.n ∧ i = .int .i64 k ∧ v = .int .i64 (lookTo B s k).1 ∧ u = .int .i64 (lookTo B s k).2 ∧ Below w4.heap.size w4 wr) (fun _ _ i _ => B.n - (intOf i).toNat)
    case atStart => exact ⟨0, Nat.zero_le _, rfl, rfl, rfl, Below.refl _ _⟩
    case round =>
      obtain ⟨k, hk, rfl, rfl, rfl, hbel⟩ := hrel
      have Hbel := Lib.hid hbel
      have hli := HLI.out k hk
      clear hbel
      by_cases hlt : k < B.n
      · have C5 := Lib.hid (blk_keep (Hbel.out.drew) C4.out)
        have S5 := Lib.hid (blk_keep (Hbel.out.drew) S4.out)
        have K5 := Lib.hid (And.intro (blk6 C5.out) (blk4 S5.out))
        have hcx := HCI.out (B.soundX s k)
        have hga := Lib.hid (HGA.out k)
        have hls := Lib.hid (HLS.out k)
        have G5 := Lib.hid ((below_then G4.out Hbel.out).drew)
        have D5 := Lib.hid (Hbel.out.drew)
        have k5 : IntKind.i64.wrap (countL (B.soundX s k) B.n - now) = countL (B.soundX s k) B.n - now := IntWalk.i64_in _ (by omega)
        rw [hga.out] at hls
        clear hga
        have HLK := Lib.hid (HLX.out k hlt)
        generalize countL (B.soundX s k) B.n = cx at *
        by_cases hgt : (lookTo B s k).2 < cx - now
        · have hnx : Hid (lookTo B s (k + 1) = ((k : Int), cx - now)) := by unfold Hid; rw [hls.out, if_pos hgt]
          clear hls
          go_upto_region 8 with (fail)
          go_region_held3 (fun W => (W.cell? ⟨w2.heap.size, 0, none⟩ = some (.slice B.A B.n B.c) ∧ W.cell? ⟨w2.heap.size, 1, none⟩ = some (.slice B.A' B.n' B.c') ∧ W.cell? ⟨w2.heap.size, 2, none⟩ = some (.int .i64 B.bend) ∧ W.cell? ⟨w2.heap.size, 3, none⟩ = some (.slice B.K B.m B.d) ∧ W.cell? ⟨w2.heap.size, 4, none⟩ = some (.slice (some ⟨g, 0, none⟩) B.n cap) ∧ W.cell? ⟨w2.heap.size, 5, none⟩ = some (.slice (some ⟨g', 0, none⟩) B.n cap')) ∧
            W.cell? ⟨w.heap.size + 1, 0, none⟩ = some (.int .i64 s.long) ∧ W.cell? ⟨w.heap.size + 1, 1, none⟩ = some (.int .i64 s.wide) ∧ W.cell? ⟨w.heap.size + 1, 2, none⟩ = some (.int .i64 s.kerf) ∧ W.cell? ⟨w.heap.size + 1, 3, none⟩ = some (.int .i64 s.across))
            (first | with_reducible exact K5.out | with_reducible exact K8.out | with_reducible exact K7.out | with_reducible exact K6.out)
            (first
              | (go_at_call 86; refine (HSD.out k _ G5.out hlt).mono ?_; rintro e W6 ⟨q, dq, q', dq', rfl, h1, h2, b6⟩; have H1 := Lib.hid h1; have H2 := Lib.hid h2; have G6 := Lib.hid (below_then G5.out b6); have D6 := Lib.hid (below_then D5.out b6); have C6 := Lib.hid (blk_keep b6 C5.out); have S6 := Lib.hid (blk_keep b6 S5.out); have K6 := Lib.hid (And.intro (blk6 C6.out) (blk4 S6.out)); clear h1 h2 b6)
              | (go_at_call 66; refine (HWX.out k q dq q' dq' _ G6.out H1.out H2.out).mono ?_; rintro e W7 ⟨b7, bb, oo, bb', oo', cc, cc', KK, dd, rfl, hs, hc, hc', hm⟩; have HL7 := Lib.hid (HLK.out bb oo bb' oo' cc cc' KK dd _ hs hc hc' hm); have D7 := Lib.hid (below_then D6.out b7); have C7 := Lib.hid (blk_keep b7 C6.out); have S7 := Lib.hid (blk_keep b7 S6.out); have K7 := Lib.hid (And.intro (blk6 C7.out) (blk4 S7.out)); clear hs hc hc' hm b7)
              | (go_at_call 83; refine HL7.out.mono ?_; rintro e W8 ⟨rfl, b8⟩; have D8 := Lib.hid (below_then D7.out b8); have C8 := Lib.hid (blk_keep b8 C7.out); have S8 := Lib.hid (blk_keep b8 S7.out); have K8 := Lib.hid (And.intro (blk6 C8.out) (blk4 S8.out)); clear b8))
          clear K5 K6 K7 K8 C5 S5 C6 S6 C7 S7 C8 S8 H1 H2 G5 G6 HL7 D5 D6 D7
          go_wp2
          go_roundw
          case rel => exact ⟨k + 1, by omega, by go_num, by rw [hnx.out], by rw [hnx.out], D8.out⟩
          case measure => simp [intOf]; omega
        · have hnx : Hid (lookTo B s (k + 1) = lookTo B s k) := by unfold Hid; rw [hls.out, if_neg hgt]
          clear hls
          go_upto_region 8 with (fail)
          go_region_held3 (fun W => (W.cell? ⟨w2.heap.size, 0, none⟩ = some (.slice B.A B.n B.c) ∧ W.cell? ⟨w2.heap.size, 1, none⟩ = some (.slice B.A' B.n' B.c') ∧ W.cell? ⟨w2.heap.size, 2, none⟩ = some (.int .i64 B.bend) ∧ W.cell? ⟨w2.heap.size, 3, none⟩ = some (.slice B.K B.m B.d) ∧ W.cell? ⟨w2.heap.size, 4, none⟩ = some (.slice (some ⟨g, 0, none⟩) B.n cap) ∧ W.cell? ⟨w2.heap.size, 5, none⟩ = some (.slice (some ⟨g', 0, none⟩) B.n cap')) ∧
            W.cell? ⟨w.heap.size + 1, 0, none⟩ = some (.int .i64 s.long) ∧ W.cell? ⟨w.heap.size + 1, 1, none⟩ = some (.int .i64 s.wide) ∧ W.cell? ⟨w.heap.size + 1, 2, none⟩ = some (.int .i64 s.kerf) ∧ W.cell? ⟨w.heap.size + 1, 3, none⟩ = some (.int .i64 s.across))
            (first | with_reducible exact K5.out | with_reducible exact K8.out | with_reducible exact K7.out | with_reducible exact K6.out)
            (first
              | (go_at_call 86; refine (HSD.out k _ G5.out hlt).mono ?_; rintro e W6 ⟨q, dq, q', dq', rfl, h1, h2, b6⟩; have H1 := Lib.hid h1; have H2 := Lib.hid h2; have G6 := Lib.hid (below_then G5.out b6); have D6 := Lib.hid (below_then D5.out b6); have C6 := Lib.hid (blk_keep b6 C5.out); have S6 := Lib.hid (blk_keep b6 S5.out); have K6 := Lib.hid (And.intro (blk6 C6.out) (blk4 S6.out)); clear h1 h2 b6)
              | (go_at_call 66; refine (HWX.out k q dq q' dq' _ G6.out H1.out H2.out).mono ?_; rintro e W7 ⟨b7, bb, oo, bb', oo', cc, cc', KK, dd, rfl, hs, hc, hc', hm⟩; have HL7 := Lib.hid (HLK.out bb oo bb' oo' cc cc' KK dd _ hs hc hc' hm); have D7 := Lib.hid (below_then D6.out b7); have C7 := Lib.hid (blk_keep b7 C6.out); have S7 := Lib.hid (blk_keep b7 S6.out); have K7 := Lib.hid (And.intro (blk6 C7.out) (blk4 S7.out)); clear hs hc hc' hm b7)
              | (go_at_call 83; refine HL7.out.mono ?_; rintro e W8 ⟨rfl, b8⟩; have D8 := Lib.hid (below_then D7.out b8); have C8 := Lib.hid (blk_keep b8 C7.out); have S8 := Lib.hid (blk_keep b8 S7.out); have K8 := Lib.hid (And.intro (blk6 C8.out) (blk4 S8.out)); clear b8))
          clear K5 K6 K7 K8 C5 S5 C6 S6 C7 S7 C8 S8 H1 H2 G5 G6 HL7 D5 D6 D7
          go_wp2
          go_roundw
          case rel => exact ⟨k + 1, by omega, by go_num, by rw [hnx.out], by rw [hnx.out], D8.out⟩
          case measure => simp [intOf]; omega
      · obtain rfl : k = B.n := by omega
        have BE := Lib.hid (below_then B4.out Hbel.out)
        clear HSD HWX HLX HGA HLS
        by_cases h0 : (lookTo B s B.n).2 = 0
        · have H0 := Lib.hid h0
          have h1 : ((lookTo B s B.n).2 == 0) = true := by simpa using h0
          clear h0
          go_wp2
          go_ret3
          exact ⟨BE.out, .inr (.inl ⟨Hok0.out, H0.out, rfl⟩)⟩
        · have H0 := Lib.hid h0
          have h1 : ((lookTo B s B.n).2 == 0) = false := by simpa using h0
          clear h0
          go_wp2
          go_ret3
          exact ⟨BE.out, .inr (.inr ⟨Hok0.out, H0.out, rfl⟩)⟩
end Go.Proofs.Ytiflhimmieflpaa
