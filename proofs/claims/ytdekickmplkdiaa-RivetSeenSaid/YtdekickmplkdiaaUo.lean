/- Walks: the reference's Wrong. -/
import Derived.Test.YtdekickmplkdiaaUl
import Derived.Test.YtdekickmplkdiaaUn
namespace Go.Proofs.Ytdekickmplkdiaa
open Go.RowKit

def castL (L : List Nat) : List Int := L.map fun i : Nat => (i : Int)
/-- The first set that will do among those of fewer than m gaps, the smaller ones first. -/
def firstW (zs : List Int) (P : List Nat → Bool) : Nat → Option (List Nat)
  | 0 => none
  | m + 1 => (firstW zs P m).or ((enumL zs 0 m).find? P)
theorem firstW_keep {zs : List Int} {P : List Nat → Bool} {m : Nat} {L : List Nat} (h : firstW zs P m = some L) : ∀ j, m ≤ j → firstW zs P j = some L := by
  intro j hj
  induction j with
  | zero => obtain rfl : m = 0 := by omega
            exact h
  | succ j ih =>
    rcases Nat.eq_or_lt_of_le hj with rfl | hlt
    · exact h
    · rw [firstW, ih (by omega)]; rfl
theorem firstW_step {zs : List Int} {P : List Nat → Bool} {m : Nat} (h : firstW zs P m = none) : firstW zs P (m + 1) = (enumL zs 0 m).find? P := by rw [firstW, h]; rfl
theorem find_step {P : List Nat → Bool} {E : List (List Nat)} {i : Nat} (hi : i < E.length) (h : (E.take i).find? P = none) (hp : P (E.getD i []) = false) : (E.take (i + 1)).find? P = none := by
  have e : E.getD i [] = E[i] := by simp [List.getD, hi]
  rw [List.take_succ_eq_append_getElem hi, List.find?_append, h, ← e]
  simp only [List.find?_cons, hp, List.find?_nil, Option.none_or]
theorem find_hit {P : List Nat → Bool} {E : List (List Nat)} {i : Nat} (hi : i < E.length) (h : (E.take i).find? P = none) (hp : P (E.getD i []) = true) : E.find? P = some (E.getD i []) := by
  have e : E.getD i [] = E[i] := by simp [List.getD, hi]
  have e2 : E = E.take i ++ E[i] :: E.drop (i + 1) := by rw [← List.drop_eq_getElem_cons hi, List.take_append_drop]
  conv => lhs; rw [e2]
  rw [List.find?_append, h, ← e]
  simp only [List.find?_cons, hp, Option.none_or]
theorem setsL_at (zs : List Int) (k : Nat) {i : Nat} (hi : i < (enumL zs 0 k).length) : (setsL zs [] 0 k).getD i [] = castL ((enumL zs 0 k).getD i []) := by
  simp only [setsL, List.drop_zero, List.getD, List.getElem?_map, List.getElem?_eq_getElem hi, Option.map_some, Option.getD_some]
  simp [sel, castL]
theorem setsL_length (zs : List Int) (k : Nat) : (setsL zs [] 0 k).length = (enumL zs 0 k).length := by simp [setsL]
def WRes (w : World) (r : Option (List Nat)) (e : Ending) (w' : World) : Prop := ∃ v, e = .returned (.tuple #[v, .bool r.isSome]) ∧ IntRow w' v (castL (r.getD [])) ∧ Below w.heap.size w w'
theorem intRow_nil (W : World) : IntRow W (.slice none 0 0) [] := ⟨none, 0, rfl, Reads.none_, fun h => absurd h (by simp)⟩
theorem intRow_nil2 (W : World) (g : Nat) : IntRow W (.slice (some ⟨g, 0, none⟩) 0 0) [] := ⟨_, 0, rfl, ⟨by simp, fun h => absurd h (by simp)⟩, fun h => absurd h (by simp)⟩

theorem IntRow.drewd {W : World} {v : Value} {xs : List Int} (h : IntRow W v xs) : IntRow W.drew v xs := by
  obtain ⟨A, c, rfl, hi, ht⟩ := h
  exact ⟨A, c, rfl, hi, ht⟩
theorem Lists.drewd {W : World} {base : Nat} {v : Value} {ls : List (List Int)} (h : Lists base W v ls) : Lists base W.drew v ls := by
  obtain ⟨vs, ho, hi⟩ := h
  exact ⟨vs, ho.drew, fun i hl => by obtain ⟨u, e, hr⟩ := hi i hl; exact ⟨u, e, hr.drewd⟩⟩

set_option maxRecDepth 100000 in
set_option maxHeartbeats 4000000 in
theorem RefWrong_any (f : Fan) (s1 s2 : Int) (A : Option Addr) (n c : Nat) (w : World) (hf : FanB f) (h : Gaps w A n f.gs) (hn : n ≤ 10) :
    Calls Try.prog 33 #[.agg (fanA f A n c), .agg #[.int .i64 s1, .int .i64 s2]] w (WRes w (firstW (anglesF false f) (fun L => canB f (s1, s2) (castL L)) (n + 1))) := by
  have hl := h.len
  have hz : (anglesF false f).length = n := by rw [← hl]; simp [anglesF]
  have E0 := Lib.hid (Env2.start w 26 23 (fanA f A n c) #[.int .i64 s1, .int .i64 s2])
  have HS := Lib.hid (fun (k : Nat) (hk : k ≤ n) (v : Value) W (hv : IntRow W v []) => Sets_any (anglesF false f) n hn hz k (k : Int) [] 0 v W (by simp) hv (by simp; omega) (Nat.zero_le _) (fun _ => rfl) (fun h => absurd h (by simp)))
  have HC := Lib.hid (fun (L : List Int) (hL : L.length ≤ 1000) B d W (hb : Below w.heap.size w W) (hB : Ints W B L.length L) => Can_any f s1 s2 L A B n c d W hf (h.below hb) (by omega) hB hL)
  have HL := Lib.hid (fun k => setsL_len (anglesF false f) [] 0 k (by omega))
  have HLE := Lib.hid (fun k (L : List Nat) (hL : L ∈ enumL (anglesF false f) 0 k) => (enum_sub (atL_angles f) hL).2)
  clear h hf hl hz
  generalize anglesF false f = zs at *
  generalize hP : (fun L => canB f (s1, s2) (castL L)) = P at *
  have HP := Lib.hid (fun L => show P L = canB f (s1, s2) (castL L) from by rw [← hP])
  clear hP
  have HR : Hid (∃ r, firstW zs P (n + 1) = r) := ⟨_, rfl⟩
  obtain ⟨r, hr⟩ := HR.out
  rw [hr]
  have HRR := Lib.hid hr
  clear hr HR
  have HW := Lib.hid (fun e w' => show WRes w r e w' = ∃ v, e = .returned (.tuple #[v, .bool r.isSome]) ∧ IntRow w' v (castL (r.getD [])) ∧ Below w.heap.size w w' from rfl)
  generalize hcan : canB f (s1, s2) = cb at *
  clear hcan
  obtain ⟨fa, fb, fc, fd, gs⟩ := f
  simp only [fanA] at *
  have p0 := fan_get E0.out.p
  go_enter Try.func33, Try.ntmps33
  go_wp2_with fail
  clear p0
  go_loopw [6] (fun s6 wr => ∃ k : Nat, k ≤ n + 1 ∧ s6 = .int .i64 k ∧ firstW zs P k = none ∧ Env2 w wr 26 23 #[.int .i64 fa, .int .i64 fb, .int .i64 fc, .int .i64 fd, .slice A n c] #[.int .i64 s1, .int .i64 s2]) (fun s6 _ => n + 1 - (intOf s6).toNat)
  case atStart => exact ⟨0, Nat.zero_le _, rfl, rfl, E0.out⟩
  case round =>
    obtain ⟨k, hk, rfl, hfk, hE⟩ := hrel
    have HFK := Lib.hid hfk
    have E1 := Lib.hid hE
    have p1 := fan_get hE.p
    clear hfk hE
    by_cases hlt : k ≤ n
    · have C1 := Lib.hid (HS.out k hlt (.slice (some ⟨wr.heap.size, 0, none⟩) 0 0) (wr.alloc (.cells #[] 3)) (intRow_nil2 _ _))
      unfold SetsRes at C1
      have E2 := Lib.hid (E1.out.alloc (.cells #[] 3))
      go_wp2_with fail
      refine C1.out.mono ?_
      rintro e w3 ⟨u, rfl, hls, b3⟩
      have E3 := Lib.hid (E2.out.below b3)
      obtain ⟨vs0, ho0, hi0⟩ := hls
      obtain ⟨A8, c8, rfl⟩ := own_slice ho0
      have L3 : Hid (Lists 0 w3 (.slice A8 (setsL zs [] 0 k).length c8) (setsL zs [] 0 k)) := ⟨vs0, own_base ho0 (Nat.zero_le _), hi0⟩
      have hN := HL.out k
      have HSL := Lib.hid (setsL_length zs k)
      have HSA := Lib.hid (fun i (hi : i < (enumL zs 0 k).length) => setsL_at zs k hi)
      clear ho0 hi0 b3 C1 p1 E1 E2
      generalize setsL zs [] 0 k = SL at *
      go_wp2_with fail
      go_loopw [8] (fun s8 wr => ∃ i : Nat, i ≤ SL.length ∧ s8 = .int .i64 i ∧ ((enumL zs 0 k).take i).find? P = none ∧ Env2 w wr 26 23 #[.int .i64 fa, .int .i64 fb, .int .i64 fc, .int .i64 fd, .slice A n c] #[.int .i64 s1, .int .i64 s2] ∧ Lists 0 wr (.slice A8 SL.length c8) SL) (fun s8 _ => SL.length - (intOf s8).toNat)
      case atStart => exact ⟨0, Nat.zero_le _, rfl, rfl, E3.out, L3.out⟩
      case round =>
        obtain ⟨i, hi, rfl, hfi, hE, hLL⟩ := hrel
        have HFI := Lib.hid hfi
        have E4 := Lib.hid hE
        have L4 := Lib.hid hLL
        clear hfi hE hLL E3 L3
        by_cases hil : i < SL.length
        · obtain ⟨g, cap, u, hv, hcell, hrow⟩ := L4.out.at_ hil
          simp only [Value.slice.injEq, true_and] at hv
          obtain ⟨rfl, rfl⟩ := hv
          have hie : i < (enumL zs 0 k).length := by rw [← HSL.out]; exact hil
          have hsa := HSA.out i hie
          rw [hsa] at hrow
          have hln : (castL ((enumL zs 0 k).getD i [])).length ≤ 1000 := by
            have hm : (enumL zs 0 k).getD i [] ∈ enumL zs 0 k := by
              have e : (enumL zs 0 k).getD i [] = (enumL zs 0 k)[i] := by simp only [List.getD, List.getElem?_eq_getElem hie, Option.getD_some]
              rw [e]; exact List.getElem_mem _
            have := HLE.out k _ hm
            simp only [castL, List.length_map]; omega
          have HF1 := Lib.hid (find_step (P := P) hie HFI.out)
          have HF2 := Lib.hid (find_hit (P := P) hie HFI.out)
          have HPi := Lib.hid (HP.out ((enumL zs 0 k).getD i []))
          clear hsa
          generalize (enumL zs 0 k).getD i [] = E at *
          have HROW := Lib.hid hrow
          obtain ⟨B9, d9, rfl, hB9, _⟩ := hrow
          have E5 := Lib.hid E4.out.drewd
          have C5 := Lib.hid (HC.out (castL E) hln B9 d9 wr.drew E5.out.bel hB9)
          have p5 := fan_get E5.out.p
          have q5 := pair_get E5.out.q
          have hc5 : wr.drew.cell? ⟨g, i, none⟩ = some (.slice B9 (castL E).length d9) := hcell
          have L5 : Hid (Lists 0 wr.drew (.slice (some ⟨g, 0, none⟩) SL.length c8) SL) := Lib.hid (L4.out.drewd)
          have R5 : Hid (IntRow wr.drew (.slice B9 (castL E).length d9) (castL E)) := Lib.hid (HROW.out.drewd)
          clear hcell hB9 HROW L4
          generalize (castL E).length = le at *
          go_wp2_with fail
          go_still_tail 6, (by kernel_rfl)
          change wpList _ _ _ _ _ wr.drew
          generalize wr.drew = wd at *
          go_wp2_with fail
          refine C5.out.mono ?_
          rintro e w6 ⟨rfl, b6⟩
          have E6 := Lib.hid (E5.out.below b6)
          have L6 := Lib.hid (L5.out.below b6)
          have R6 := Lib.hid (R5.out.below b6)
          have hc6 : w6.cell? ⟨g, i, none⟩ = some (.slice B9 le d9) := (b6.cell (lt_of_cell hc5)).trans hc5
          clear b6 p5 q5 hc5 C5 L5 R5 E5
          cases q : cb (castL E)
          · have HF3 := Lib.hid (HF1.out (by rw [HPi.out, q]))
            clear q HF1 HF2 HPi
            go_wp2_with fail
            go_roundw
            case rel => exact ⟨i + 1, by omega, by go_num, HF3.out, E6.out, L6.out⟩
            case measure => simp [intOf]; omega
          · have HF3 := Lib.hid (HF2.out (by rw [HPi.out, q]))
            have HF4 : Hid (r = some E) := by
              unfold Hid
              rw [← HRR.out]
              exact firstW_keep (m := k + 1) (by rw [firstW_step HFK.out]; exact HF3.out) _ (by omega)
            clear q HF1 HF2 HPi
            go_wp2_with fail
            go_ret2
            rw [HW.out]
            exact ⟨_, by rw [HF4.out]; rfl, by rw [HF4.out]; exact R6.out, E6.out.bel⟩
        · obtain rfl : i = SL.length := by omega
          have HF3 : Hid (firstW zs P (k + 1) = none) := by
            unfold Hid
            rw [firstW_step HFK.out]
            have := HFI.out
            rw [HSL.out, List.take_length] at this
            exact this
          go_wp2_with fail
          go_roundw
          case rel => exact ⟨k + 1, by omega, by go_num, HF3.out, E4.out⟩
          case measure => simp [intOf]; omega
    · obtain rfl : k = n + 1 := by omega
      have HF4 : Hid (r = none) := by unfold Hid; rw [← HRR.out]; exact HFK.out
      go_wp2_with fail
      go_ret2
      rw [HW.out]
      exact ⟨_, by rw [HF4.out]; rfl, by rw [HF4.out]; exact intRow_nil _, E1.out.bel⟩
end Go.Proofs.Ytdekickmplkdiaa
