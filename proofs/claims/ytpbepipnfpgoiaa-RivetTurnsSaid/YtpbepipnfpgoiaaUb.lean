/- Walks: together, Closed, Holds. -/
import Derived.Test.YtpbepipnfpgoiaaUa
namespace Go.Proofs.Ytpbepipnfpgoiaa
open Go.RowKit

def tlo (u : Bool) (s : Stk) : Int := bif u then s.tl else s.wl
def thi (u : Bool) (s : Stk) : Int := bif u then s.th else s.wh
def sumLo (u : Bool) (l : List Stk) : Int := (l.map (tlo u)).sum
def sumHi (u : Bool) (l : List Stk) : Int := (l.map (thi u)).sum
theorem tlo_bd {l : List Stk} (h : StkB l) (u : Bool) : ∀ s ∈ l, 1 ≤ tlo u s ∧ tlo u s ≤ 10000 := by
  intro s hs
  have := h.s s hs
  unfold tlo; cases u <;> simp only [cond_true, cond_false] <;> omega
theorem thi_bd {l : List Stk} (h : StkB l) (u : Bool) : ∀ s ∈ l, 1 ≤ thi u s ∧ thi u s ≤ 10000 := by
  intro s hs
  have := h.s s hs
  unfold thi; cases u <;> simp only [cond_true, cond_false] <;> omega
theorem sumLo_bd {l : List Stk} (h : StkB l) (u : Bool) : 0 ≤ sumLo u l ∧ sumLo u l ≤ 120000 := by
  have := map_sum_bd (tlo u) l 1 10000 (tlo_bd h u)
  have hn := h.n
  unfold sumLo; omega
theorem sumHi_bd {l : List Stk} (h : StkB l) (u : Bool) : 0 ≤ sumHi u l ∧ sumHi u l ≤ 120000 := by
  have := map_sum_bd (thi u) l 1 10000 (thi_bd h u)
  have hn := h.n
  unfold sumHi; omega
theorem Env2.setRowFar {w W : World} {t1 t2 : TypeId} {c1 c2 : Array Value} (h : Env2 w W t1 t2 c1 c2) {g : Nat} (hg : w.heap.size + 1 < g) (cs : Array Value) : Env2 w (W.setRow g cs) t1 t2 c1 c2 :=
  ⟨h.p.setRow_far (by omega) cs, h.q.setRow_far (by omega) cs, below_setR h.bel (by omega) cs⟩
theorem Env2.putQ {w W : World} {t1 t2 : TypeId} {c1 : Array Value} {a b : Value} (h : Env2 w W t1 t2 c1 #[a, b]) (a' b' : Value) : Env2 w ((W.setCell ⟨w.heap.size + 1, 0, none⟩ a').setCell ⟨w.heap.size + 1, 1, none⟩ b') t1 t2 c1 #[a', b'] :=
  ⟨(h.p.far (p := ⟨w.heap.size + 1, 0, none⟩) (by simp) a').far (p := ⟨w.heap.size + 1, 1, none⟩) (by simp) b', (h.q.set_ 0 a').set_ 1 b', (h.bel.setCell (p := ⟨w.heap.size + 1, 0, none⟩) (by simp) a').setCell (p := ⟨w.heap.size + 1, 1, none⟩) (by simp) b'⟩
theorem pair_get {W : World} {g : Nat} {t : TypeId} {x0 x1 : Value} (h : Blk W g t #[x0, x1]) : W.cell? ⟨g, 0, none⟩ = some x0 ∧ W.cell? ⟨g, 1, none⟩ = some x1 ∧ W.frozen? ⟨g, 0, none⟩ = false ∧ W.frozen? ⟨g, 1, none⟩ = false := ⟨h.cell 0, h.cell 1, h.frozen 0, h.frozen 1⟩

set_option maxRecDepth 100000 in
set_option maxHeartbeats 4000000 in
theorem togetherfalse_any (l : List Stk) (A : Option Addr) (n c : Nat) (w : World) (hs : StkB l) (h : Stks w A n l) :
    Calls Try.prog 86 #[.slice A n c, .func (.func 87) #[] #[]] w fun e w' => e = .returned (.agg #[.int .i64 (sumLo false l), .int .i64 (sumHi false l)]) ∧ Below w.heap.size w w' := by
  have hl := h.len
  have hn := hs.n
  rw [hl] at hn
  have HG := Lib.hid h
  have Hl := Lib.hid hl
  have E0 := Lib.hid (Env2.start w 23 23 #[.int .i64 0, .int .i64 0] #[.int .i64 0, .int .i64 0])
  have HN1 := Lib.hid (fun k (hk : k < l.length) => map_sum_take (tlo false) l Stk.zero k hk)
  have HD1 := Lib.hid (fun k (hk : k < l.length) => map_sum_take (thi false) l Stk.zero k hk)
  have HB1 := Lib.hid (fun k => sumLo_bd (hs.take k) false)
  have HB2 := Lib.hid (fun k => sumHi_bd (hs.take k) false)
  have HE : Hid (((l.take n).map (tlo false)).sum = sumLo false l ∧ ((l.take n).map (thi false)).sum = sumHi false l) := by unfold Hid sumLo sumHi; rw [List.take_of_length_le (by omega)]; exact ⟨rfl, rfl⟩
  have HY := Lib.hid (fun k (hk : k < n) => show 1 ≤ tlo false (l.getD k Stk.zero) ∧ tlo false (l.getD k Stk.zero) ≤ 10000 ∧ 1 ≤ thi false (l.getD k Stk.zero) ∧ thi false (l.getD k Stk.zero) ≤ 10000 from by
    have e : l.getD k Stk.zero = l[k]'(by omega) := by simp [List.getD, show k < l.length from by omega]
    rw [e]; exact ⟨(tlo_bd hs false _ (List.getElem_mem _)).1, (tlo_bd hs false _ (List.getElem_mem _)).2, thi_bd hs false _ (List.getElem_mem _)⟩)
  have HM : Hid (∀ s : Stk, tlo false s = s.wl) := fun _ => rfl
  have HW : Hid (∀ s : Stk, thi false s = s.wh) := fun _ => rfl
  have HZ : Hid (((l.take 0).map (tlo false)).sum = 0 ∧ ((l.take 0).map (thi false)).sum = 0) := ⟨rfl, rfl⟩
  unfold sumLo at HB1
  unfold sumHi at HB2
  clear hl h hs
  generalize sumLo false l = rn at *
  generalize sumHi false l = rd at *
  generalize tlo false = m at *
  generalize thi false = v at *
  generalize hnum : (fun k => ((l.take k).map m).sum) = num at *
  generalize hden : (fun k => ((l.take k).map v).sum) = den at *
  have en : ∀ k, ((l.take k).map m).sum = num k := fun k => by rw [← hnum]
  have ed : ∀ k, ((l.take k).map v).sum = den k := fun k => by rw [← hden]
  simp only [en, ed] at HN1 HD1 HB1 HB2 HE HZ
  clear en ed hnum hden
  go_enter Try.func86, Try.ntmps86
  go_wp2
  go_loopw [11] (fun i wr => ∃ k : Nat, k ≤ n ∧ i = .int .i64 k ∧ Env2 w wr 23 23 #[.int .i64 0, .int .i64 0] #[.int .i64 (num k), .int .i64 (den k)]) (fun i _ => n - (intOf i).toNat)
  case atStart => exact ⟨0, Nat.zero_le _, rfl, by rw [HZ.out.1, HZ.out.2]; exact E0.out⟩
  case round =>
    obtain ⟨k, hk, rfl, hE⟩ := hrel
    have E1 := Lib.hid hE
    clear hE
    by_cases hlt : k < n
    · obtain ⟨b, off, rfl, hb, hc0, hc1, hc2, hc3, hc4⟩ := (HG.out.below E1.out.bel).at_ hlt
      have hn1 := Lib.hid (HN1.out k (by rw [Hl.out]; exact hlt))
      have hd1 := Lib.hid (HD1.out k (by rw [Hl.out]; exact hlt))
      have hy := HY.out k hlt
      have hb1 := HB1.out k
      have hb2 := HB2.out k
      rw [HM.out, HW.out] at hy
      rw [HM.out] at hn1
      rw [HW.out] at hd1
      generalize l.getD k Stk.zero = y at *
      obtain ⟨yl, yh, zl, zh, pl⟩ := y
      simp only at hc0 hc1 hc2 hc3 hc4 hy hn1 hd1
      have bs := below_self wr (.cells #[.int .i64 yl, .int .i64 yh, .int .i64 zl, .int .i64 zh, .int .i64 pl] 106)
      have E2 := Lib.hid (E1.out.below bs)
      clear bs
      go_wp2_with fail
      refine (weightOf_any _ _ _ _ _ _).mono ?_
      rintro e W3 ⟨rfl, hb3⟩
      have E3 := Lib.hid (E2.out.below hb3)
      have S3 := Lib.hid (Blk.new W3 23 #[.int .i64 0, .int .i64 0] (g := W3.heap.size) rfl)
      have hz3 := E3.out.q.lt
      have E4 := Lib.hid ((E3.out.alloc (.cells #[.int .i64 0, .int .i64 0] 23)).setRowFar (g := W3.heap.size) (by omega) #[.int .i64 yl, .int .i64 yh])
      clear hb3 hc0 hc1 hc2 hc3 hc4
      go_wp2_with (refine wpList_store_row rfl 23 _ _ rfl W3.heap.size _ rfl rfl 23 _ S3.out (by kernel_rfl) rfl (by kernel_rfl) ?_; have S4 := Lib.hid (S3.out.setRow #[.int .i64 yl, .int .i64 yh]); clear S3; have r5 := pair_get E4.out.q; have g5 := pair_get S4.out; have nq : w.heap.size + 1 ≠ W3.heap.size := (by omega))
      have N5 := Lib.hid (E4.out.putQ (.int .i64 (num k + yl)) (.int .i64 (den k + yh)))
      go_roundw
      case rel => exact ⟨k + 1, by omega, by go_num, by rw [hn1.out, hd1.out]; exact N5.out⟩
      case measure => simp [intOf]; omega
    · obtain rfl : k = n := by omega
      have r5 := pair_get E1.out.q
      have q5 := pair_get E1.out.p
      go_wp2
      exact bodyPost_ret (results_c rfl _ _ _ w.heap.size _ _ _ rfl ((E1.out.p.set_ 0 _).set_ 1 _) Try.underlying23 (by kernel_rfl)) rfl ⟨by rw [← HE.out.1, ← HE.out.2]; rfl, (E1.out.bel.setCell (p := ⟨w.heap.size, 0, none⟩) (Nat.le_refl _) _).setCell (p := ⟨w.heap.size, 1, none⟩) (Nat.le_refl _) _⟩

set_option maxRecDepth 100000 in
set_option maxHeartbeats 4000000 in
theorem togethertrue_any (l : List Stk) (A : Option Addr) (n c : Nat) (w : World) (hs : StkB l) (h : Stks w A n l) :
    Calls Try.prog 86 #[.slice A n c, .func (.func 88) #[] #[]] w fun e w' => e = .returned (.agg #[.int .i64 (sumLo true l), .int .i64 (sumHi true l)]) ∧ Below w.heap.size w w' := by
  have hl := h.len
  have hn := hs.n
  rw [hl] at hn
  have HG := Lib.hid h
  have Hl := Lib.hid hl
  have E0 := Lib.hid (Env2.start w 23 23 #[.int .i64 0, .int .i64 0] #[.int .i64 0, .int .i64 0])
  have HN1 := Lib.hid (fun k (hk : k < l.length) => map_sum_take (tlo true) l Stk.zero k hk)
  have HD1 := Lib.hid (fun k (hk : k < l.length) => map_sum_take (thi true) l Stk.zero k hk)
  have HB1 := Lib.hid (fun k => sumLo_bd (hs.take k) true)
  have HB2 := Lib.hid (fun k => sumHi_bd (hs.take k) true)
  have HE : Hid (((l.take n).map (tlo true)).sum = sumLo true l ∧ ((l.take n).map (thi true)).sum = sumHi true l) := by unfold Hid sumLo sumHi; rw [List.take_of_length_le (by omega)]; exact ⟨rfl, rfl⟩
  have HY := Lib.hid (fun k (hk : k < n) => show 1 ≤ tlo true (l.getD k Stk.zero) ∧ tlo true (l.getD k Stk.zero) ≤ 10000 ∧ 1 ≤ thi true (l.getD k Stk.zero) ∧ thi true (l.getD k Stk.zero) ≤ 10000 from by
    have e : l.getD k Stk.zero = l[k]'(by omega) := by simp [List.getD, show k < l.length from by omega]
    rw [e]; exact ⟨(tlo_bd hs true _ (List.getElem_mem _)).1, (tlo_bd hs true _ (List.getElem_mem _)).2, thi_bd hs true _ (List.getElem_mem _)⟩)
  have HM : Hid (∀ s : Stk, tlo true s = s.tl) := fun _ => rfl
  have HW : Hid (∀ s : Stk, thi true s = s.th) := fun _ => rfl
  have HZ : Hid (((l.take 0).map (tlo true)).sum = 0 ∧ ((l.take 0).map (thi true)).sum = 0) := ⟨rfl, rfl⟩
  unfold sumLo at HB1
  unfold sumHi at HB2
  clear hl h hs
  generalize sumLo true l = rn at *
  generalize sumHi true l = rd at *
  generalize tlo true = m at *
  generalize thi true = v at *
  generalize hnum : (fun k => ((l.take k).map m).sum) = num at *
  generalize hden : (fun k => ((l.take k).map v).sum) = den at *
  have en : ∀ k, ((l.take k).map m).sum = num k := fun k => by rw [← hnum]
  have ed : ∀ k, ((l.take k).map v).sum = den k := fun k => by rw [← hden]
  simp only [en, ed] at HN1 HD1 HB1 HB2 HE HZ
  clear en ed hnum hden
  go_enter Try.func86, Try.ntmps86
  go_wp2
  go_loopw [11] (fun i wr => ∃ k : Nat, k ≤ n ∧ i = .int .i64 k ∧ Env2 w wr 23 23 #[.int .i64 0, .int .i64 0] #[.int .i64 (num k), .int .i64 (den k)]) (fun i _ => n - (intOf i).toNat)
  case atStart => exact ⟨0, Nat.zero_le _, rfl, by rw [HZ.out.1, HZ.out.2]; exact E0.out⟩
  case round =>
    obtain ⟨k, hk, rfl, hE⟩ := hrel
    have E1 := Lib.hid hE
    clear hE
    by_cases hlt : k < n
    · obtain ⟨b, off, rfl, hb, hc0, hc1, hc2, hc3, hc4⟩ := (HG.out.below E1.out.bel).at_ hlt
      have hn1 := Lib.hid (HN1.out k (by rw [Hl.out]; exact hlt))
      have hd1 := Lib.hid (HD1.out k (by rw [Hl.out]; exact hlt))
      have hy := HY.out k hlt
      have hb1 := HB1.out k
      have hb2 := HB2.out k
      rw [HM.out, HW.out] at hy
      rw [HM.out] at hn1
      rw [HW.out] at hd1
      generalize l.getD k Stk.zero = y at *
      obtain ⟨yl, yh, zl, zh, pl⟩ := y
      simp only at hc0 hc1 hc2 hc3 hc4 hy hn1 hd1
      have bs := below_self wr (.cells #[.int .i64 yl, .int .i64 yh, .int .i64 zl, .int .i64 zh, .int .i64 pl] 106)
      have E2 := Lib.hid (E1.out.below bs)
      clear bs
      go_wp2_with fail
      refine (thickOf_any _ _ _ _ _ _).mono ?_
      rintro e W3 ⟨rfl, hb3⟩
      have E3 := Lib.hid (E2.out.below hb3)
      have S3 := Lib.hid (Blk.new W3 23 #[.int .i64 0, .int .i64 0] (g := W3.heap.size) rfl)
      have hz3 := E3.out.q.lt
      have E4 := Lib.hid ((E3.out.alloc (.cells #[.int .i64 0, .int .i64 0] 23)).setRowFar (g := W3.heap.size) (by omega) #[.int .i64 zl, .int .i64 zh])
      clear hb3 hc0 hc1 hc2 hc3 hc4
      go_wp2_with (refine wpList_store_row rfl 23 _ _ rfl W3.heap.size _ rfl rfl 23 _ S3.out (by kernel_rfl) rfl (by kernel_rfl) ?_; have S4 := Lib.hid (S3.out.setRow #[.int .i64 zl, .int .i64 zh]); clear S3; have r5 := pair_get E4.out.q; have g5 := pair_get S4.out; have nq : w.heap.size + 1 ≠ W3.heap.size := (by omega))
      have N5 := Lib.hid (E4.out.putQ (.int .i64 (num k + zl)) (.int .i64 (den k + zh)))
      go_roundw
      case rel => exact ⟨k + 1, by omega, by go_num, by rw [hn1.out, hd1.out]; exact N5.out⟩
      case measure => simp [intOf]; omega
    · obtain rfl : k = n := by omega
      have r5 := pair_get E1.out.q
      have q5 := pair_get E1.out.p
      go_wp2
      exact bodyPost_ret (results_c rfl _ _ _ w.heap.size _ _ _ rfl ((E1.out.p.set_ 0 _).set_ 1 _) Try.underlying23 (by kernel_rfl)) rfl ⟨by rw [← HE.out.1, ← HE.out.2]; rfl, (E1.out.bel.setCell (p := ⟨w.heap.size, 0, none⟩) (Nat.le_refl _) _).setCell (p := ⟨w.heap.size, 1, none⟩) (Nat.le_refl _) _⟩
end Go.Proofs.Ytpbepipnfpgoiaa
