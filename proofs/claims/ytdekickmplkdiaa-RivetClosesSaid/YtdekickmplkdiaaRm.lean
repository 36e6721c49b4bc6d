/- Walks: sort.Search, Pleat. -/
import Derived.Test.YtdekickmplkdiaaRl
namespace Go.Proofs.Ytdekickmplkdiaa
open Go.RowKit

def searchGo (p : Nat → Bool) : Nat → Nat → Nat → Nat
  | 0, i, _ => i
  | f + 1, i, j => if i < j then (if p ((i + j) / 2) = true then searchGo p f i ((i + j) / 2) else searchGo p f ((i + j) / 2 + 1) j) else i
def searchL (p : Nat → Bool) (n : Nat) : Nat := searchGo p n 0 n
theorem searchGo_end {p : Nat → Bool} {f i j : Nat} (h : ¬ i < j) : searchGo p f i j = i := by
  cases f with
  | zero => rfl
  | succ f => rw [searchGo, if_neg h]
theorem searchGo_yes {p : Nat → Bool} {f i j : Nat} (h : i < j) (hp : p ((i + j) / 2) = true) : searchGo p (f + 1) i j = searchGo p f i ((i + j) / 2) := by
  rw [searchGo, if_pos h, if_pos hp]
theorem searchGo_no {p : Nat → Bool} {f i j : Nat} (h : i < j) (hp : p ((i + j) / 2) = false) : searchGo p (f + 1) i j = searchGo p f ((i + j) / 2 + 1) j := by
  rw [searchGo, if_pos h, if_neg (by simp [hp])]

set_option maxRecDepth 100000 in
theorem SearchP_any (p : Nat → Bool) (n : Nat) (I : World → Prop) (q0 q1 : Value) (w : World) (hn : n ≤ 2000) (h0 : I w)
    (hf : ∀ (h : Nat) W, h < n → I W → Calls Try.prog 83 #[.int .i64 h, q0, q1] W fun e W' => e = .returned (.bool (p h)) ∧ I W') :
    Calls Try.prog 80 #[.int .i64 n, .func (.func 83) #[] #[q0, q1]] w fun e w' => e = .returned (.int .i64 (searchL p n)) ∧ I w' := by
  have Hf := Lib.hid hf
  have H0 := Lib.hid h0
  have HL : Hid (searchGo p n 0 n = searchL p n) := rfl
  clear hf h0
  go_enter Try.func80, Try.ntmps80
  go_wp2
  go_loopw [5, 6] (fun u v wr => ∃ i j f : Nat, i ≤ j ∧ j ≤ n ∧ j ≤ i + f ∧ u = .int .i64 i ∧ v = .int .i64 j ∧ searchGo p f i j = searchL p n ∧ I wr) (fun u v _ => (intOf v - intOf u).toNat)
  case atStart => exact ⟨0, n, n, by omega, by omega, by omega, rfl, rfl, HL.out, H0.out⟩
  case round =>
    obtain ⟨i, j, f, hij, hjn, hjf, rfl, rfl, hgo, hI⟩ := hrel
    have Hgo := Lib.hid hgo
    have HI := Lib.hid hI
    clear hgo hI HL H0
    by_cases hlt : i < j
    · obtain ⟨f, rfl⟩ : ∃ f', f = f' + 1 := ⟨f - 1, by omega⟩
      have hh : (i + j) / 2 < n := by omega
      have hcast : (((i + j) / 2 : Nat) : Int) = ((i : Int) + (j : Int)) / 2 := by omega
      have HC := Hf.out ((i + j) / 2) wr hh HI.out
      rw [hcast] at HC
      replace HC := Lib.hid HC
      clear hcast
      have HY := Lib.hid (searchGo_yes (p := p) (f := f) hlt)
      have HN := Lib.hid (searchGo_no (p := p) (f := f) hlt)
      cases hp : p ((i + j) / 2)
      · rw [hp] at HC
        have HG := Lib.hid (HN.out hp)
        clear HY HN hp
        go_wp2_with fail
        refine HC.out.mono ?_
        rintro e w2 ⟨rfl, hI2⟩
        have HI2 := Lib.hid hI2
        clear hI2
        go_wp2
        go_roundw
        case rel => exact ⟨(i + j) / 2 + 1, j, f, by omega, hjn, by omega, by go_num, rfl, by rw [← HG.out]; exact Hgo.out, HI2.out⟩
        case measure => simp [intOf]; omega
      · rw [hp] at HC
        have HG := Lib.hid (HY.out hp)
        clear HY HN hp
        go_wp2_with fail
        refine HC.out.mono ?_
        rintro e w2 ⟨rfl, hI2⟩
        have HI2 := Lib.hid hI2
        clear hI2
        go_wp2
        go_roundw
        case rel => exact ⟨i, (i + j) / 2, f, by omega, by omega, by omega, rfl, by go_num, by rw [← HG.out]; exact Hgo.out, HI2.out⟩
        case measure => simp [intOf]; omega
    · have hE : searchGo p f i j = i := searchGo_end hlt
      have HE : Hid ((i : Int) = (searchL p n : Int)) := by unfold Hid; rw [← Hgo.out, hE]
      clear hE
      go_wp2
      go_ret
      exact ⟨ret_int HE.out, HI.out⟩
set_option maxRecDepth 100000 in
theorem SearchS_any (p : Nat → Bool) (n : Nat) (I : World → Prop) (q0 q1 : Value) (w : World) (hn : n ≤ 2000) (h0 : I w)
    (hf : ∀ (h : Nat) W, h < n → I W → Calls Try.prog 81 #[.int .i64 h, q0, q1] W fun e W' => e = .returned (.bool (p h)) ∧ I W') :
    Calls Try.prog 80 #[.int .i64 n, .func (.func 81) #[] #[q0, q1]] w fun e w' => e = .returned (.int .i64 (searchL p n)) ∧ I w' := by
  have Hf := Lib.hid hf
  have H0 := Lib.hid h0
  have HL : Hid (searchGo p n 0 n = searchL p n) := rfl
  clear hf h0
  go_enter Try.func80, Try.ntmps80
  go_wp2
  go_loopw [5, 6] (fun u v wr => ∃ i j f : Nat, i ≤ j ∧ j ≤ n ∧ j ≤ i + f ∧ u = .int .i64 i ∧ v = .int .i64 j ∧ searchGo p f i j = searchL p n ∧ I wr) (fun u v _ => (intOf v - intOf u).toNat)
  case atStart => exact ⟨0, n, n, by omega, by omega, by omega, rfl, rfl, HL.out, H0.out⟩
  case round =>
    obtain ⟨i, j, f, hij, hjn, hjf, rfl, rfl, hgo, hI⟩ := hrel
    have Hgo := Lib.hid hgo
    have HI := Lib.hid hI
    clear hgo hI HL H0
    by_cases hlt : i < j
    · obtain ⟨f, rfl⟩ : ∃ f', f = f' + 1 := ⟨f - 1, by omega⟩
      have hh : (i + j) / 2 < n := by omega
      have hcast : (((i + j) / 2 : Nat) : Int) = ((i : Int) + (j : Int)) / 2 := by omega
      have HC := Hf.out ((i + j) / 2) wr hh HI.out
      rw [hcast] at HC
      replace HC := Lib.hid HC
      clear hcast
      have HY := Lib.hid (searchGo_yes (p := p) (f := f) hlt)
      have HN := Lib.hid (searchGo_no (p := p) (f := f) hlt)
      cases hp : p ((i + j) / 2)
      · rw [hp] at HC
        have HG := Lib.hid (HN.out hp)
        clear HY HN hp
        go_wp2_with fail
        refine HC.out.mono ?_
        rintro e w2 ⟨rfl, hI2⟩
        have HI2 := Lib.hid hI2
        clear hI2
        go_wp2
        go_roundw
        case rel => exact ⟨(i + j) / 2 + 1, j, f, by omega, hjn, by omega, by go_num, rfl, by rw [← HG.out]; exact Hgo.out, HI2.out⟩
        case measure => simp [intOf]; omega
      · rw [hp] at HC
        have HG := Lib.hid (HY.out hp)
        clear HY HN hp
        go_wp2_with fail
        refine HC.out.mono ?_
        rintro e w2 ⟨rfl, hI2⟩
        have HI2 := Lib.hid hI2
        clear hI2
        go_wp2
        go_roundw
        case rel => exact ⟨i, (i + j) / 2, f, by omega, by omega, by omega, rfl, by go_num, by rw [← HG.out]; exact Hgo.out, HI2.out⟩
        case measure => simp [intOf]; omega
    · have hE : searchGo p f i j = i := searchGo_end hlt
      have HE : Hid ((i : Int) = (searchL p n : Int)) := by unfold Hid; rw [← Hgo.out, hE]
      clear hE
      go_wp2
      go_ret
      exact ⟨ret_int HE.out, HI.out⟩

/-- A pleat of this arc opens so far. -/
def pleatP (f : Fan) (d : Int) (k : Nat) : Bool := decide (d ≤ degL false (f.pleat k))
def pleatL (f : Fan) (d : Int) : Nat := searchL (pleatP f d) 1001
def pleatR (f : Fan) (d : Int) : Int × Int :=
  if fanErr f = 0 then (if within 0 360 [d] = true then (if 1000 < pleatL f d then (0, 7) else ((pleatL f d : Int), 0)) else (0, 4)) else (0, fanErr f)
theorem pleat_B {f : Fan} (h : fanErr f = 0) {arc : Int} (h0 : 0 ≤ arc) (h1 : arc ≤ 1000) : FanB (f.pleat arc) := by
  obtain ⟨hf, hg, hl⟩ := fanB_of h
  refine ⟨hf.a1, hf.ab, hf.b5, hf.c1, hf.cd, hf.d5, by simpa [Fan.pleat] using hf.n, fun g hq => ?_⟩
  obtain ⟨y, hy, rfl⟩ := List.mem_map.1 hq
  have := hf.g y hy
  simp only [Gap.leaf]; omega
theorem fanD_get {w W : World} {fa fb fc fd sl d : Value} (h : Env2 w W 26 3 #[fa, fb, fc, fd, sl] #[d]) :
    W.cell? ⟨w.heap.size, 0, none⟩ = some fa ∧ W.cell? ⟨w.heap.size, 1, none⟩ = some fb ∧ W.cell? ⟨w.heap.size, 2, none⟩ = some fc ∧ W.cell? ⟨w.heap.size, 3, none⟩ = some fd ∧ W.cell? ⟨w.heap.size, 4, none⟩ = some sl ∧ W.cell? ⟨w.heap.size + 1, 0, none⟩ = some d := ⟨h.p.cell 0, h.p.cell 1, h.p.cell 2, h.p.cell 3, h.p.cell 4, h.q.cell 0⟩

set_option maxRecDepth 100000 in
set_option maxHeartbeats 1000000 in
theorem pleat1_any (f : Fan) (d : Int) (A : Option Addr) (n c : Nat) (w : World) (h : Gaps w A n f.gs) (hE : fanErr f = 0) (k : Nat) (W : World) (hk : k < 1001) (hW : Env2 w W 26 3 (fanA f A n c) #[.int .i64 d]) :
    Calls Try.prog 83 #[.int .i64 k, .pointer (some ⟨w.heap.size, 0, none⟩), .pointer (some ⟨w.heap.size + 1, 0, none⟩)] W fun e W' => e = .returned (.bool (pleatP f d k)) ∧ Env2 w W' 26 3 (fanA f A n c) #[.int .i64 d] := by
  have hl := h.len
  have hn : n ≤ 40 := by have := (fanB_of hE).2.2; omega
  have HP := Lib.hid (fun X (hb : Below w.heap.size w X) => pleated_any f A n c (k : Int) X (h.below hb) (by omega))
  have HS := Lib.hid (fun A c X (hG : Gaps X A n (f.pleat k).gs) => surely_any (f.pleat k) A n c X (pleat_B hE (by omega) (by omega)) hG)
  have HV : Hid (∀ A c, fanA (f.pleat k) A n c = fanA f A n c) := fun _ _ => rfl
  have HO : Hid (pleatP f d k = decide (d ≤ degL false (f.pleat k))) := rfl
  have E0 := Lib.hid hW
  have E0d := Lib.hid hW.drewd
  clear h hE hW hl hn
  unfold FanRes at HP
  generalize pleatP f d k = r at *
  generalize f.pleat k = f2 at *
  generalize degL false f2 = z at *
  obtain ⟨fa, fb, fc, fd, gs⟩ := f
  simp only [HV.out] at HP HS
  clear HV
  simp only [fanA] at *
  go_enter Try.func83, Try.ntmps83
  go_wp2_with fail
  go_region_held3 (fun W => W.cell? ⟨w.heap.size, 0, none⟩ = some (.int .i64 fa) ∧ W.cell? ⟨w.heap.size, 1, none⟩ = some (.int .i64 fb) ∧ W.cell? ⟨w.heap.size, 2, none⟩ = some (.int .i64 fc) ∧ W.cell? ⟨w.heap.size, 3, none⟩ = some (.int .i64 fd) ∧ W.cell? ⟨w.heap.size, 4, none⟩ = some (.slice A n c) ∧ W.cell? ⟨w.heap.size + 1, 0, none⟩ = some (.int .i64 d))
    (first | with_reducible exact fanD_get E0d.out | with_reducible exact fanD_get E0.out | with_reducible exact fanD_get E1.out | with_reducible exact fanD_get E2.out)
    (first | (go_at_call 84; refine (HP.out _ E0d.out.bel).mono ?_; rintro e W1 ⟨A1, c1, rfl, hG, hb1⟩; have G1 := Lib.hid hG; have E1 := Lib.hid (E0d.out.below hb1); clear hb1 hG) | (go_at_call 61; refine (HS.out _ _ _ G1.out).mono ?_; rintro e W2 ⟨rfl, hb2⟩; have E2 := Lib.hid (E1.out.below hb2); clear hb2))
  all_goals
    go_wp2
    go_ret
    exact ⟨ret_bool HO.out.symm, E2.out⟩

set_option maxRecDepth 100000 in
set_option maxHeartbeats 2000000 in
theorem Pleat_any (f : Fan) (d : Int) (A : Option Addr) (n c : Nat) (w : World) (h : Gaps w A n f.gs) (hn : n ≤ maxLen) :
    Calls Try.prog 37 #[.agg (fanA f A n c), .int .i64 d] w fun e w' => e = .returned (.tuple #[.int .i64 (pleatR f d).1, .int .i64 (pleatR f d).2]) ∧ Below w.heap.size w w' := by
  have HF := Lib.hid (fun W (hb : Below w.heap.size w W) => fanError_any f A n c W (h.below hb) hn)
  have E0 := Lib.hid (Env2.start w 26 3 (fanA f A n c) #[.int .i64 d])
  by_cases hE : fanErr f = 0
  · cases q1 : within 0 360 [d]
    · have HO : Hid (pleatR f d = (0, 4)) := by unfold Hid pleatR; rw [if_pos hE, q1]; rfl
      rw [hE] at HF
      clear h hn hE
      generalize pleatR f d = r at *
      obtain ⟨fa, fb, fc, fd, gs⟩ := f
      simp only [fanA] at *
      go_enter Try.func37, Try.ntmps37
      go_wp2_with fail
      refine (HF.out _ E0.out.bel).mono ?_
      rintro e W1 ⟨rfl, hb1⟩
      have E1 := Lib.hid (E0.out.below hb1)
      have p1 := fanD_get E1.out
      clear hb1
      go_wp2_with (go_at_call 73; refine (within1 _ _ _ _ _ _ (by simp)).mono ?_; rintro e w' ⟨rfl, rfl⟩)
      go_ret2
      exact ⟨by rw [HO.out]; rfl, E1.out.bel.alloc E1.out.bel.size _⟩
    · have HS := Lib.hid (fun W (hW : Env2 w W 26 3 (fanA f A n c) #[.int .i64 d]) => SearchP_any (pleatP f d) 1001 (fun W => Env2 w W 26 3 (fanA f A n c) #[.int .i64 d]) (.pointer (some ⟨w.heap.size, 0, none⟩)) (.pointer (some ⟨w.heap.size + 1, 0, none⟩)) W (by omega) hW (fun k X hk hX => pleat1_any f d A n c w h hE k X hk hX))
      have HO : Hid (pleatR f d = if 1000 < searchL (pleatP f d) 1001 then (0, 7) else ((searchL (pleatP f d) 1001 : Int), 0)) := by unfold Hid pleatR; rw [if_pos hE, q1]; rfl
      rw [hE] at HF
      clear h hn hE
      generalize pleatR f d = r at *
      generalize searchL (pleatP f d) 1001 = z at *
      obtain ⟨fa, fb, fc, fd, gs⟩ := f
      simp only [fanA] at *
      by_cases hz : 1000 < z
      · have HO2 : Hid (r = (0, 7)) := by unfold Hid; rw [HO.out, if_pos hz]
        go_enter Try.func37, Try.ntmps37
        go_wp2_with fail
        refine (HF.out _ E0.out.bel).mono ?_
        rintro e W1 ⟨rfl, hb1⟩
        have E1 := Lib.hid (E0.out.below hb1)
        have E2 := Lib.hid (E1.out.alloc (.cells #[.int .i64 d] 3))
        have p1 := fanD_get E1.out
        clear hb1
        go_wp2_with (first | (go_at_call 73; refine (within1 _ _ _ _ _ _ (by simp)).mono ?_; rintro e w' ⟨rfl, rfl⟩) | (go_at_call 80; refine (HS.out _ E2.out).mono ?_; rintro e W3 ⟨rfl, hE3⟩))
        have E3 := Lib.hid hE3
        clear hE3
        go_ret2
        exact ⟨by rw [HO2.out]; rfl, E3.out.bel⟩
      · have HO2 : Hid (r = ((z : Int), 0)) := by unfold Hid; rw [HO.out, if_neg hz]
        go_enter Try.func37, Try.ntmps37
        go_wp2_with fail
        refine (HF.out _ E0.out.bel).mono ?_
        rintro e W1 ⟨rfl, hb1⟩
        have E1 := Lib.hid (E0.out.below hb1)
        have E2 := Lib.hid (E1.out.alloc (.cells #[.int .i64 d] 3))
        have p1 := fanD_get E1.out
        clear hb1
        go_wp2_with (first | (go_at_call 73; refine (within1 _ _ _ _ _ _ (by simp)).mono ?_; rintro e w' ⟨rfl, rfl⟩) | (go_at_call 80; refine (HS.out _ E2.out).mono ?_; rintro e W3 ⟨rfl, hE3⟩))
        have E3 := Lib.hid hE3
        clear hE3
        go_ret2
        exact ⟨by rw [HO2.out]; rfl, E3.out.bel⟩
  · have HO : Hid (pleatR f d = (0, fanErr f)) := if_neg hE
    clear h hn
    generalize pleatR f d = r at *
    generalize fanErr f = e0 at *
    unfold fanA at *
    go_enter Try.func37, Try.ntmps37
    go_wp2_with fail
    refine (HF.out _ E0.out.bel).mono ?_
    rintro e W1 ⟨rfl, hb1⟩
    have E1 := Lib.hid (E0.out.below hb1)
    have he1 : decide (e0 = 0) = false := by simpa using hE
    clear hb1
    go_wp2
    go_ret2
    exact ⟨by rw [HO.out]; rfl, E1.out.bel⟩
end Go.Proofs.Ytdekickmplkdiaa
