/- Walks: the reference's Sets. -/
import Derived.Test.YtdekickmplkdiaaUj
import Derived.Test.YtdekickmplkdiaaUk
namespace Go.Proofs.Ytdekickmplkdiaa
open Go.RowKit

/-- A set of places behind ones that were begun. -/
def sel (p : List Int) (L : List Nat) : List Int := p ++ L.map fun i : Nat => (i : Int)
/-- All sets of places from k on, m more. -/
def setsL (zs : List Int) (p : List Int) (k m : Nat) : List (List Int) := (enumL (zs.drop k) k m).map (sel p)
theorem setsL_zero (zs p : List Int) (k : Nat) : setsL zs p k 0 = [p] := by unfold setsL; rw [enumL_zero]; simp [sel]
theorem setsL_step (zs p : List Int) {k m : Nat} (hk : k < zs.length) : setsL zs p k (m + 1) = setsL zs (p ++ [(k : Int)]) (k + 1) m ++ setsL zs p (k + 1) (m + 1) := by
  have hd : zs.drop k = zs[k] :: zs.drop (k + 1) := List.drop_eq_getElem_cons hk
  unfold setsL
  rw [hd]
  simp only [enumL, List.map_append, List.map_map]
  congr 1
  refine List.map_congr_left fun L _ => ?_
  simp [sel]
theorem setsL_end (zs p : List Int) {k m : Nat} (hk : zs.length ≤ k) : setsL zs p k (m + 1) = [] := by
  unfold setsL
  rw [List.drop_of_length_le hk]; rfl
theorem setsL_len (zs p : List Int) (k m : Nat) (hz : zs.length ≤ 10) : (setsL zs p k m).length ≤ 1024 := by
  unfold setsL
  rw [List.length_map]
  have h1 := enum_len (zs.drop k) k m
  have h2 : (2 : Nat) ^ (zs.drop k).length ≤ 2 ^ 10 := Nat.pow_le_pow_right (by omega) (by rw [List.length_drop]; omega)
  omega
theorem lists_one {W : World} {base : Nat} {v : Value} {p : List Int} (h : IntRow W v p) (hb : base ≤ W.heap.size) : Lists base (W.alloc (.cells #[v] 54)) (.slice (some ⟨W.heap.size, 0, none⟩) 1 1) [p] := by
  have ho := World.ownsRow_lit (base := base) (e := 54) (size := 1) W #[v] 1 hb (by decide) rfl
  refine ⟨[v], ho, fun i hi => ?_⟩
  obtain rfl : i = 0 := by simp at hi; omega
  exact ⟨v, rfl, h.below (below_self W _)⟩
def SetsRes (w : World) (ls : List (List Int)) (e : Ending) (w' : World) : Prop := ∃ u, e = .returned u ∧ Lists w.heap.size w' u ls ∧ Below w.heap.size w w'
theorem last_cell {W : World} {A : Option Addr} {p : List Int} (h : Ints W A p.length p) (h0 : 0 < p.length) : ∃ b off, A = some ⟨b, off, none⟩ ∧ W.cell? ⟨b, off + (p.length - 1), none⟩ = some (.int .i64 (p.getD (p.length - 1) 0)) := by
  obtain ⟨b, off, u, e, _, h1, h2⟩ := h.at1 (k := p.length - 1) (by omega)
  refine ⟨b, off, e, h2.trans ?_⟩
  rw [← h1, List.getElem?_map]
  simp [List.getD, show p.length - 1 < p.length by omega]

set_option maxRecDepth 100000 in
set_option maxHeartbeats 4000000 in
theorem Sets_any (zs : List Int) (n : Nat) (hn : n ≤ 10) (hz : zs.length = n) (m : Nat) : ∀ (M : Int) (p : List Int) (k : Nat) (v : Value) (w : World), M = (p.length : Int) + m → IntRow w v p → p.length + m ≤ 10 → k ≤ n → (p.length = 0 → k = 0) → (0 < p.length → p.getD (p.length - 1) 0 = (k : Int) - 1) →
    Calls Try.prog 78 #[.int .i64 n, .int .i64 M, v] w (SetsRes w (setsL zs p k m)) := by
  induction m with
  | zero =>
    intro M p k v w hM hv hp hk _ _
    rw [setsL_zero]
    have H0 := Lib.hid (lists_one (base := w.heap.size) hv (Nat.le_refl _))
    have B0 := Lib.hid (below_self w (.cells #[v] 54))
    obtain ⟨A, c, rfl, _, _⟩ := hv
    obtain rfl : M = (p.length : Int) := by omega
    have he : ((p.length : Int) == (p.length : Int)) = true := beq_self_eq_true _
    clear hM hp hk
    generalize p.length = q at *
    go_enter Try.func78, Try.ntmps78
    go_wp2
    go_ret
    exact ⟨_, rfl, H0.out, B0.out⟩
  | succ m ih =>
    intro M p k v w hM hv hp hk hk0 hk1
    obtain ⟨i0, hi0, hz0, hz1, hz2⟩ := info_parts Try.infoInt
    obtain ⟨k0, hk0', hy0, hy1, hy2⟩ := info_parts Try.infoInts
    have IH := Lib.hid ih
    have HV := Lib.hid hv
    have he : ((p.length : Int) == M) = false := by rw [beq_eq_false_iff_ne]; omega
    have HMM := Lib.hid hM
    have hp9 : p.length ≤ 9 := by omega
    obtain ⟨A, c, rfl, hin, hty⟩ := hv
    have HIN := Lib.hid hin
    have HLS := Lib.hid (fun h0 => last_cell hin h0)
    have HK1 := Lib.hid hk1
    have HK0 := Lib.hid hk0
    obtain ⟨T, hT⟩ : ∃ T, setsL zs p k (m + 1) = T := ⟨_, rfl⟩
    have HTT := Lib.hid hT
    have HL4 := Lib.hid (setsL_len zs p k (m + 1) (by omega))
    have HST := Lib.hid (fun i (hi : i < n) => setsL_step zs p (k := i) (m := m) (by omega))
    have HEN := Lib.hid (setsL_end zs p (k := n) (m := m) (by omega))
    rw [hT] at HL4 ⊢
    have O0 := Lib.hid (World.ownsRow_lit (base := w.heap.size) (e := 54) (size := 1) w #[] 0 (Nat.le_refl _) (by decide) rfl)
    have L0 : Hid (Lists w.heap.size (w.alloc (.cells #[] 54)) (.slice (some ⟨w.heap.size, 0, none⟩) 0 0) []) := ⟨[], O0.out, fun i h => absurd h (by simp)⟩
    have B0 := Lib.hid (below_self w (.cells #[] 54))
    clear hin hty ih hT hM hk0 hk1 O0 hz
    by_cases h0 : p.length = 0
    · have HKK := Lib.hid (HK0.out h0)
      obtain rfl : p = [] := List.eq_nil_of_length_eq_zero h0
      simp only [List.length_nil] at hp hp9 HMM he HIN
      clear h0 HLS HK0 HK1 he
      have he : ((0 : Int) == M) = false := by rw [beq_eq_false_iff_ne]; have := HMM.out; simp only [Int.natCast_zero] at this; omega
      go_enter Try.func78, Try.ntmps78
      go_wp2_with fail
      go_loopw [7, 9] (fun u s9 wr => ∃ (i : Nat) (v7 : Value) (out : List (List Int)), k ≤ i ∧ i ≤ n ∧ s9 = .int .i64 i ∧ u = v7 ∧ Lists w.heap.size wr v7 out ∧ Below w.heap.size w wr ∧ out ++ setsL zs [] i (m + 1) = T) (fun _ s9 _ => n - (intOf s9).toNat)
      case atStart => exact ⟨k, _, [], Nat.le_refl _, hk, by rw [HKK.out]; rfl, rfl, L0.out, B0.out, by rw [HTT.out]; rfl⟩
      case round =>
        obtain ⟨i, v7, out, hki, hi, rfl, rfl, hL, hW, hq⟩ := hrel
        have HL := Lib.hid hL
        have HW := Lib.hid hW
        have HQ := Lib.hid hq
        clear hL hW hq
        by_cases hlt : i < n
        · have hst := HST.out i hlt
          have HQ2 : Hid ((out ++ setsL zs ([] ++ [(i : Int)]) (i + 1) m) ++ setsL zs [] (i + 1) (m + 1) = T) := by unfold Hid; rw [List.append_assoc, ← hst]; exact HQ.out
          have hlen : out.length + (setsL zs ([] ++ [(i : Int)]) (i + 1) m).length ≤ 1024 := by
            have h1 := congrArg List.length HQ2.out
            have h2 := HL4.out
            simp only [List.length_append] at h1
            omega
          have HLE := Lib.hid hlen
          have O1 := Lib.hid (World.ownsRow_lit (base := wr.heap.size) (e := 3) (size := 1) wr #[] 0 (Nat.le_refl _) (by decide) rfl)
          have D1 := Lib.hid (below_self wr (.cells #[] 3))
          have N1 := Lib.hid (HIN.out.below (HW.out.trans (D1.out.mono HW.out.size)))
          clear hst hlen
          go_wp2_with (at_builtin; refine wpList_append_any rfl (.tmp 36) (.tmp 37) 54 rfl wr.heap.size 3 i0 (.int .i64 0) 1 8 Try.underlying54 hi0 hz0 hz1 hz2 rfl (by decide) (.slice (some ⟨wr.heap.size, 0, none⟩) 0 0) 0 [] (by rfl) O1.out A 0 c [] (by rfl) N1.out ?caa ?cba ?cca D1.out.size ?_)
          try (case caa => first | exact ints_oneCell1 p | (intro u hu; rfl))
          try (case cba => unfold maxLen; omega)
          try (case cca => omega)
          intro v2 V2 hown hgrow
          have O2 : Hid (V2.ownsRow wr.heap.size 3 1 v2 0 []) := by unfold Hid; simpa using hown
          have D2 := Lib.hid (D1.out.grown hgrow D1.out.size (fun k e => (O1.out.lt k e.symm.symm).1))
          have D3 := Lib.hid (below_then D2.out (below_self V2 (.cells #[.int .i64 (i : Int)] 3)))
          have O3 := Lib.hid (ownsRow_below O2.out (below_self V2 (.cells #[.int .i64 (i : Int)] 3)))
          have N3 := Lib.hid (Blk.new V2 3 #[.int .i64 (i : Int)] (g := V2.heap.size) rfl)
          clear hown hgrow O1 D1 N1
          go_wp2_with (at_builtin; refine wpList_append_any rfl (.tmp 38) (.tmp 40) 54 rfl wr.heap.size 3 i0 (.int .i64 0) 1 8 Try.underlying54 hi0 hz0 hz1 hz2 rfl (by decide) v2 0 [] (by rfl) O3.out (some ⟨V2.heap.size, 0, none⟩) 1 1 [.int .i64 (i : Int)] (by rfl) (reads_one N3.out) ?cda ?cea ?cfa D3.out.size ?_)
          case cda => intro u hu; rw [List.mem_singleton.1 hu]; rfl
          case cea => unfold maxLen; omega
          case cfa => omega
          intro v4 V4 hown hgrow
          have O4 : Hid (V4.ownsRow wr.heap.size 3 1 v4 ([] ++ [(i : Int)]).length (([] ++ [(i : Int)]).map (Value.int .i64))) := by unfold Hid; simpa using hown
          have D4 := Lib.hid (D3.out.grown hgrow D3.out.size (fun k e => (O3.out.lt k e.symm.symm).1))
          clear hown hgrow O2 D2 D3 O3 N3
          have C5 := Lib.hid (IH.out M ([] ++ [(i : Int)]) (i + 1) v4 V4 (by have := HMM.out; simp; omega) (intRow_of_own O4.out) (by simp; omega) (by omega) (fun h => by simp at h) (fun _ => by simp))
          unfold SetsRes at C5
          go_wp2_with fail
          refine C5.out.mono ?_
          rintro e V5 ⟨u8, rfl, hl8, hb8⟩
          have L5 := Lib.hid hl8
          have D5 := Lib.hid (below_then D4.out hb8)
          clear hl8 hb8 C5 D4 O4
          obtain ⟨vs, ho, hi1⟩ := HL.out.below D5.out
          obtain ⟨vs8, ho8, hi8⟩ := L5.out
          obtain ⟨A8, c8, rfl⟩ := own_slice ho8
          have HO := Lib.hid ho
          have HI1 := Lib.hid hi1
          have HI8 := Lib.hid hi8
          have HO8 := Lib.hid ho8
          have hlen := HLE.out
          clear ho hi1 ho8 hi8
          generalize hls : setsL zs ([] ++ [(i : Int)]) (i + 1) m = ls8 at *
          have HLS8 := Lib.hid hls
          clear hls
          go_wp2_with (at_builtin; refine wpList_append_any rfl (.tmp 33) (.tmp 42) 126 rfl w.heap.size 54 k0 (.slice none 0 0) 1 24 Try.underlying126 hk0' hy0 hy1 hy2 rfl (by decide) _ _ vs (by rfl) HO.out A8 _ c8 vs8 (by rfl) (reads_of_own HO8.out).r ?cga ?cha ?cia (HW.out.trans (D5.out.mono HW.out.size)).size ?_)
          case cga =>
            intro z hz
            obtain ⟨j, hj, rfl⟩ := List.getElem_of_mem hz
            have hj2 : j < ls8.length := by have := HO8.out.1; omega
            obtain ⟨q, e, A9, c9, e9, _⟩ := HI8.out j hj2
            rw [List.getElem?_eq_getElem hj] at e
            rw [Option.some.inj e, e9]
            rfl
          case cha => unfold maxLen; omega
          case cia => omega
          intro v6 V6 hown hgrow
          have Z6 := Lib.hid (Lists.append HO.out HI1.out HI8.out (by have := HO.out.1; omega) hgrow hown)
          have D6 : Hid (Below w.heap.size w V6) := (HW.out.trans (D5.out.mono HW.out.size)).grown hgrow (HW.out.trans (D5.out.mono HW.out.size)).size (fun k e => (HO.out.lt k e).1)
          clear hown hgrow hlen
          go_wp2_with fail
          go_roundw
          case rel => exact ⟨i + 1, _, _, by omega, by omega, by go_num, rfl, Z6.out, D6.out, HQ2.out⟩
          case measure => simp [intOf]; omega
        · obtain rfl : i = n := by omega
          have HE : Hid (out = T) := by unfold Hid; rw [← HQ.out, HEN.out, List.append_nil]
          go_wp2_with fail
          go_ret
          exact ⟨_, rfl, by rw [← HE.out]; exact HL.out, HW.out⟩
    · have HPE := Lib.hid h0
      obtain ⟨b, off, hA, hcl⟩ := HLS.out (by omega)
      have hk2 := HK1.out (by omega)
      rw [hk2] at hcl
      subst hA
      have hcl1 := (B0.out.cell (lt_of_cell hcl)).trans hcl
      clear hk2 hcl h0
      have hz9 : (0 : Int) < p.length := by have := HPE.out; omega
      have hz7 : 0 < p.length := by omega
      have hz6 : decide (0 < p.length) = true := decide_eq_true hz7
      go_enter Try.func78, Try.ntmps78
      go_wp2_with fail
      clear hcl1
      go_loopw [7, 9] (fun u s9 wr => ∃ (i : Nat) (v7 : Value) (out : List (List Int)), k ≤ i ∧ i ≤ n ∧ s9 = .int .i64 i ∧ u = v7 ∧ Lists w.heap.size wr v7 out ∧ Below w.heap.size w wr ∧ out ++ setsL zs p i (m + 1) = T) (fun _ s9 _ => n - (intOf s9).toNat)
      case atStart => exact ⟨k, _, [], Nat.le_refl _, hk, rfl, rfl, L0.out, B0.out, by rw [HTT.out]; rfl⟩
      case round =>
        obtain ⟨i, v7, out, hki, hi, rfl, rfl, hL, hW, hq⟩ := hrel
        have HL := Lib.hid hL
        have HW := Lib.hid hW
        have HQ := Lib.hid hq
        clear hL hW hq
        by_cases hlt : i < n
        · have hst := HST.out i hlt
          have HQ2 : Hid ((out ++ setsL zs (p ++ [(i : Int)]) (i + 1) m) ++ setsL zs p (i + 1) (m + 1) = T) := by unfold Hid; rw [List.append_assoc, ← hst]; exact HQ.out
          have hlen : out.length + (setsL zs (p ++ [(i : Int)]) (i + 1) m).length ≤ 1024 := by
            have h1 := congrArg List.length HQ2.out
            have h2 := HL4.out
            simp only [List.length_append] at h1
            omega
          have HLE := Lib.hid hlen
          have O1 := Lib.hid (World.ownsRow_lit (base := wr.heap.size) (e := 3) (size := 1) wr #[] 0 (Nat.le_refl _) (by decide) rfl)
          have D1 := Lib.hid (below_self wr (.cells #[] 3))
          have N1 := Lib.hid (HIN.out.below (HW.out.trans (D1.out.mono HW.out.size)))
          clear hst hlen
          go_wp2_with (at_builtin; refine wpList_append_any rfl (.tmp 36) (.tmp 37) 54 rfl wr.heap.size 3 i0 (.int .i64 0) 1 8 Try.underlying54 hi0 hz0 hz1 hz2 rfl (by decide) (.slice (some ⟨wr.heap.size, 0, none⟩) 0 0) 0 [] (by rfl) O1.out (some ⟨b, off, none⟩) p.length c (p.map (Value.int .i64)) (by rfl) N1.out ?cab ?cbb ?ccb D1.out.size ?_)
          try (case cab => first | exact ints_oneCell1 p | (intro u hu; rfl))
          try (case cbb => unfold maxLen; omega)
          try (case ccb => omega)
          intro v2 V2 hown hgrow
          have O2 : Hid (V2.ownsRow wr.heap.size 3 1 v2 p.length (p.map (Value.int .i64))) := by unfold Hid; simpa using hown
          have D2 := Lib.hid (D1.out.grown hgrow D1.out.size (fun k e => (O1.out.lt k e.symm.symm).1))
          have D3 := Lib.hid (below_then D2.out (below_self V2 (.cells #[.int .i64 (i : Int)] 3)))
          have O3 := Lib.hid (ownsRow_below O2.out (below_self V2 (.cells #[.int .i64 (i : Int)] 3)))
          have N3 := Lib.hid (Blk.new V2 3 #[.int .i64 (i : Int)] (g := V2.heap.size) rfl)
          clear hown hgrow O1 D1 N1
          go_wp2_with (at_builtin; refine wpList_append_any rfl (.tmp 38) (.tmp 40) 54 rfl wr.heap.size 3 i0 (.int .i64 0) 1 8 Try.underlying54 hi0 hz0 hz1 hz2 rfl (by decide) v2 p.length (p.map (Value.int .i64)) (by rfl) O3.out (some ⟨V2.heap.size, 0, none⟩) 1 1 [.int .i64 (i : Int)] (by rfl) (reads_one N3.out) ?cdb ?ceb ?cfb D3.out.size ?_)
          case cdb => intro u hu; rw [List.mem_singleton.1 hu]; rfl
          case ceb => unfold maxLen; omega
          case cfb => omega
          intro v4 V4 hown hgrow
          have O4 : Hid (V4.ownsRow wr.heap.size 3 1 v4 (p ++ [(i : Int)]).length ((p ++ [(i : Int)]).map (Value.int .i64))) := by unfold Hid; simpa using hown
          have D4 := Lib.hid (D3.out.grown hgrow D3.out.size (fun k e => (O3.out.lt k e.symm.symm).1))
          clear hown hgrow O2 D2 D3 O3 N3
          have C5 := Lib.hid (IH.out M (p ++ [(i : Int)]) (i + 1) v4 V4 (by have := HMM.out; simp; omega) (intRow_of_own O4.out) (by simp; omega) (by omega) (fun h => by simp at h) (fun _ => by simp))
          unfold SetsRes at C5
          go_wp2_with fail
          refine C5.out.mono ?_
          rintro e V5 ⟨u8, rfl, hl8, hb8⟩
          have L5 := Lib.hid hl8
          have D5 := Lib.hid (below_then D4.out hb8)
          clear hl8 hb8 C5 D4 O4
          obtain ⟨vs, ho, hi1⟩ := HL.out.below D5.out
          obtain ⟨vs8, ho8, hi8⟩ := L5.out
          obtain ⟨A8, c8, rfl⟩ := own_slice ho8
          have HO := Lib.hid ho
          have HI1 := Lib.hid hi1
          have HI8 := Lib.hid hi8
          have HO8 := Lib.hid ho8
          have hlen := HLE.out
          clear ho hi1 ho8 hi8
          generalize hls : setsL zs (p ++ [(i : Int)]) (i + 1) m = ls8 at *
          have HLS8 := Lib.hid hls
          clear hls
          go_wp2_with (at_builtin; refine wpList_append_any rfl (.tmp 33) (.tmp 42) 126 rfl w.heap.size 54 k0 (.slice none 0 0) 1 24 Try.underlying126 hk0' hy0 hy1 hy2 rfl (by decide) _ _ vs (by rfl) HO.out A8 _ c8 vs8 (by rfl) (reads_of_own HO8.out).r ?cgb ?chb ?cib (HW.out.trans (D5.out.mono HW.out.size)).size ?_)
          case cgb =>
            intro z hz
            obtain ⟨j, hj, rfl⟩ := List.getElem_of_mem hz
            have hj2 : j < ls8.length := by have := HO8.out.1; omega
            obtain ⟨q, e, A9, c9, e9, _⟩ := HI8.out j hj2
            rw [List.getElem?_eq_getElem hj] at e
            rw [Option.some.inj e, e9]
            rfl
          case chb => unfold maxLen; omega
          case cib => omega
          intro v6 V6 hown hgrow
          have Z6 := Lib.hid (Lists.append HO.out HI1.out HI8.out (by have := HO.out.1; omega) hgrow hown)
          have D6 : Hid (Below w.heap.size w V6) := (HW.out.trans (D5.out.mono HW.out.size)).grown hgrow (HW.out.trans (D5.out.mono HW.out.size)).size (fun k e => (HO.out.lt k e).1)
          clear hown hgrow hlen
          go_wp2_with fail
          go_roundw
          case rel => exact ⟨i + 1, _, _, by omega, by omega, by go_num, rfl, Z6.out, D6.out, HQ2.out⟩
          case measure => simp [intOf]; omega
        · obtain rfl : i = n := by omega
          have HE : Hid (out = T) := by unfold Hid; rw [← HQ.out, HEN.out, List.append_nil]
          go_wp2_with fail
          go_ret
          exact ⟨_, rfl, by rw [← HE.out]; exact HL.out, HW.out⟩
end Go.Proofs.Ytdekickmplkdiaa
