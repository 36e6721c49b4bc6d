/- Walks: balanceBehind. -/
import Derived.Test.YtdekickmplkdiaaRf
namespace Go.Proofs.Ytdekickmplkdiaa
open Go.RowKit

structure StkB (l : List Stk) : Prop where
  n : l.length ≤ 12
  s : ∀ s ∈ l, 1 ≤ s.wl ∧ s.wl ≤ s.wh ∧ s.wh ≤ 10000 ∧ 1 ≤ s.tl ∧ s.tl ≤ s.th ∧ s.th ≤ 100 ∧ 0 ≤ s.pl ∧ s.pl ≤ 5000
/-- What a stick weighs at an end if those behind a place draw outward. -/
def wAt (u : Bool) (p : Int) (s : Stk) : Int := if p < s.pl then ris u s.wl s.wh else fal u s.wl s.wh
def mAt (u : Bool) (p : Int) (s : Stk) : Int := wAt u p s * s.pl
def numB (u : Bool) (p : Int) (l : List Stk) : Int := (l.map (mAt u p)).sum
def denB (u : Bool) (p : Int) (l : List Stk) : Int := (l.map (wAt u p)).sum
theorem map_sum_take {α : Type} (f : α → Int) (xs : List α) (z : α) (k : Nat) (hk : k < xs.length) : ((xs.take (k + 1)).map f).sum = ((xs.take k).map f).sum + f (xs.getD k z) := by
  rw [List.take_succ_eq_append_getElem hk, List.map_append, List.sum_append]; simp [List.getD, hk]
theorem map_sum_bd {α : Type} (f : α → Int) (xs : List α) (A B : Int) (h : ∀ x ∈ xs, A ≤ f x ∧ f x ≤ B) : xs.length * A ≤ (xs.map f).sum ∧ (xs.map f).sum ≤ xs.length * B := by
  induction xs with
  | nil => simp
  | cons a r ih =>
    have h1 := h a (by simp)
    have h2 := ih (fun x hx => h x (by simp [hx]))
    simp only [List.map_cons, List.sum_cons, List.length_cons]
    have e1 : ((r.length + 1 : Nat) : Int) * A = r.length * A + A := by rw [Int.natCast_add, Int.add_mul]; simp
    have e2 : ((r.length + 1 : Nat) : Int) * B = r.length * B + B := by rw [Int.natCast_add, Int.add_mul]; simp
    omega
theorem wAt_bd {l : List Stk} (h : StkB l) (u : Bool) (p : Int) : ∀ s ∈ l, 1 ≤ wAt u p s ∧ wAt u p s ≤ 10000 := by
  intro s hs
  have := h.s s hs
  unfold wAt ris fal
  cases u <;> simp only [cond_true, cond_false] <;> split <;> omega
theorem mAt_bd {l : List Stk} (h : StkB l) (u : Bool) (p : Int) : ∀ s ∈ l, 0 ≤ mAt u p s ∧ mAt u p s ≤ 50000000 := by
  intro s hs
  have h1 := wAt_bd h u p s hs
  have h2 := h.s s hs
  exact mul_bd (X := 10000) (Y := 5000) (by omega) h1.2 (by omega) (by omega)
theorem StkB.take {l : List Stk} (h : StkB l) (k : Nat) : StkB (l.take k) := ⟨by have := h.n; rw [List.length_take]; omega, fun s hs => h.s s (List.mem_of_mem_take hs)⟩
theorem numB_bd {l : List Stk} (h : StkB l) (u : Bool) (p : Int) : 0 ≤ numB u p l ∧ numB u p l ≤ 600000000 := by
  have := map_sum_bd (mAt u p) l 0 50000000 (mAt_bd h u p)
  have hn := h.n
  unfold numB; omega
theorem denB_bd {l : List Stk} (h : StkB l) (u : Bool) (p : Int) : l.length ≤ denB u p l ∧ denB u p l ≤ 120000 := by
  have := map_sum_bd (wAt u p) l 1 10000 (wAt_bd h u p)
  have hn := h.n
  unfold denB; omega
structure Env3 (w W : World) (x c1 c2 : Array Value) : Prop where
  e : Env2 w W 117 77 x c1
  r : Blk W (w.heap.size + 2) 77 c2
theorem Env3.below {w W W' : World} {x c1 c2 : Array Value} (h : Env3 w W x c1 c2) (hb : Below W.heap.size W W') : Env3 w W' x c1 c2 := ⟨h.e.below hb, blk_keep hb h.r⟩
theorem Env3.put {w W : World} {x c1 : Array Value} {a b : Value} (h : Env3 w W x c1 #[a, b]) (a' b' : Value) : Env3 w ((W.setCell ⟨w.heap.size + 2, 0, none⟩ a').setCell ⟨w.heap.size + 2, 1, none⟩ b') x c1 #[a', b'] :=
  ⟨(h.e.set (by omega) 0 a').set (by omega) 1 b', (h.r.set_ 0 a').set_ 1 b'⟩
theorem end_get {W : World} {g : Nat} {x0 x1 x2 : Value} (h : Blk W g 117 #[x0, x1, x2]) : W.cell? ⟨g, 0, none⟩ = some x0 ∧ W.cell? ⟨g, 1, none⟩ = some x1 ∧ W.cell? ⟨g, 2, none⟩ = some x2 := ⟨h.cell 0, h.cell 1, h.cell 2⟩
theorem rat_get {W : World} {g : Nat} {x0 x1 : Value} (h : Blk W g 77 #[x0, x1]) : W.cell? ⟨g, 0, none⟩ = some x0 ∧ W.cell? ⟨g, 1, none⟩ = some x1 ∧ W.frozen? ⟨g, 0, none⟩ = false ∧ W.frozen? ⟨g, 1, none⟩ = false := ⟨h.cell 0, h.cell 1, h.frozen 0, h.frozen 1⟩
theorem stk_get {W : World} {g : Nat} {x0 x1 x2 x3 x4 : Value} (h : Blk W g 106 #[x0, x1, x2, x3, x4]) : W.cell? ⟨g, 0, none⟩ = some x0 ∧ W.cell? ⟨g, 1, none⟩ = some x1 ∧ W.cell? ⟨g, 2, none⟩ = some x2 ∧ W.cell? ⟨g, 3, none⟩ = some x3 ∧ W.cell? ⟨g, 4, none⟩ = some x4 := ⟨h.cell 0, h.cell 1, h.cell 2, h.cell 3, h.cell 4⟩

set_option maxRecDepth 100000 in
set_option maxHeartbeats 4000000 in
theorem behind_any (u : Bool) (l : List Stk) (p : Int) (A : Option Addr) (n c : Nat) (w : World) (hs : StkB l) (h : Stks w A n l) :
    Calls Try.prog 116 #[.agg (endA u), .slice A n c, .int .i64 p] w fun e w' => e = .returned (.agg #[.int .i64 (numB u p l), .int .i64 (denB u p l)]) ∧ Below w.heap.size w w' := by
  have hl := h.len
  have hn := hs.n
  rw [hl] at hn
  have HG := Lib.hid h
  have Hl := Lib.hid hl
  have E0 : Hid (Env3 w (((w.alloc (.cells (endA u) 117)).alloc (.cells #[.int .i64 0, .int .i64 0] 77)).alloc (.cells #[.int .i64 0, .int .i64 0] 77)) (endA u) #[.int .i64 0, .int .i64 0] #[.int .i64 0, .int .i64 0]) := ⟨(Env2.start w _ _ _ _).alloc _, Blk.new _ _ _ (by simp)⟩
  have HN1 := Lib.hid (fun k (hk : k < l.length) => map_sum_take (mAt u p) l Stk.zero k hk)
  have HD1 := Lib.hid (fun k (hk : k < l.length) => map_sum_take (wAt u p) l Stk.zero k hk)
  have HB1 := Lib.hid (fun k => numB_bd (hs.take k) u p)
  have HB2 := Lib.hid (fun k => denB_bd (hs.take k) u p)
  have HE : Hid (((l.take n).map (mAt u p)).sum = numB u p l ∧ ((l.take n).map (wAt u p)).sum = denB u p l) := by unfold Hid numB denB; rw [List.take_of_length_le (by omega)]; exact ⟨rfl, rfl⟩
  have HY := Lib.hid (fun k (hk : k < n) => show 0 ≤ mAt u p (l.getD k Stk.zero) ∧ mAt u p (l.getD k Stk.zero) ≤ 50000000 ∧ 1 ≤ wAt u p (l.getD k Stk.zero) ∧ wAt u p (l.getD k Stk.zero) ≤ 10000 from by
    have e : l.getD k Stk.zero = l[k]'(by omega) := by simp [List.getD, show k < l.length from by omega]
    rw [e]; exact ⟨(mAt_bd hs u p _ (List.getElem_mem _)).1, (mAt_bd hs u p _ (List.getElem_mem _)).2, wAt_bd hs u p _ (List.getElem_mem _)⟩)
  have HM : Hid (∀ s, mAt u p s = wAt u p s * s.pl) := fun _ => rfl
  have HW : Hid (∀ s, wAt u p s = if p < s.pl then ris u s.wl s.wh else fal u s.wl s.wh) := fun _ => rfl
  have HZ : Hid (((l.take 0).map (mAt u p)).sum = 0 ∧ ((l.take 0).map (wAt u p)).sum = 0) := ⟨rfl, rfl⟩
  unfold numB at HB1
  unfold denB at HB2
  clear hl h hs
  generalize numB u p l = rn at *
  generalize denB u p l = rd at *
  generalize mAt u p = m at *
  generalize wAt u p = v at *
  have HNk := Lib.hid (fun k => show ((l.take k).map m).sum = ((l.take k).map m).sum from rfl)
  generalize hnum : (fun k => ((l.take k).map m).sum) = num at *
  generalize hden : (fun k => ((l.take k).map v).sum) = den at *
  have en : ∀ k, ((l.take k).map m).sum = num k := fun k => by rw [← hnum]
  have ed : ∀ k, ((l.take k).map v).sum = den k := fun k => by rw [← hden]
  simp only [en, ed] at HN1 HD1 HB1 HB2 HE HZ
  clear en ed hnum hden HNk
  cases u <;> simp only [endA, ris, fal, cond_true, cond_false] at *
  · go_enter Try.func116, Try.ntmps116
    go_wp2
    go_loopw [13] (fun i wr => ∃ k : Nat, k ≤ n ∧ i = .int .i64 k ∧ Env3 w wr #[.func (.func 99) #[] #[], .func (.func 100) #[] #[], .func (.func 101) #[] #[]] #[.int .i64 0, .int .i64 0] #[.int .i64 (num k), .int .i64 (den k)]) (fun i _ => n - (intOf i).toNat)
    case atStart => exact ⟨0, Nat.zero_le _, rfl, by rw [HZ.out.1, HZ.out.2]; exact E0.out⟩
    case round =>
      obtain ⟨k, hk, rfl, hE⟩ := hrel
      have E1 := Lib.hid hE
      clear hE
      by_cases hlt : k < n
      · obtain ⟨b, off, rfl, hb, hc0, hc1, hc2, hc3, hc4⟩ := (HG.out.below E1.out.e.bel).at_ hlt
        have hn1 := Lib.hid (HN1.out k (by rw [Hl.out]; exact hlt))
        have hd1 := Lib.hid (HD1.out k (by rw [Hl.out]; exact hlt))
        have hy := HY.out k hlt
        have hb1 := HB1.out k
        have hb2 := HB2.out k
        have hm := HM.out (l.getD k Stk.zero)
        have hw := HW.out (l.getD k Stk.zero)
        have hlk : (l.take k).length ≤ k := List.length_take_le _ _
        generalize l.getD k Stk.zero = y at *
        obtain ⟨yl, yh, zl, zh, pl⟩ := y
        simp only at hc0 hc1 hc2 hc3 hc4 hw hm
        generalize m ⟨yl, yh, zl, zh, pl⟩ = r at *
        generalize v ⟨yl, yh, zl, zh, pl⟩ = t at *
        have bs := below_self wr (.cells #[.int .i64 yl, .int .i64 yh, .int .i64 zl, .int .i64 zh, .int .i64 pl] 106)
        have E2 := Lib.hid (E1.out.below bs)
        have G2 := Lib.hid (Blk.new wr 106 #[.int .i64 yl, .int .i64 yh, .int .i64 zl, .int .i64 zh, .int .i64 pl] rfl)
        have x2 := end_get E2.out.e.p
        clear bs
        by_cases hp : p < pl
        · obtain rfl : t = yl := by rw [hw, if_pos hp]
          obtain rfl := hm
          clear hw
          have hq : Hid (0 ≤ t * pl) := hy.1
          go_wp2_with fail
          refine (high_any _ _ _).mono ?_
          rintro e W3 ⟨rfl, hb3⟩
          have E3 := Lib.hid (E2.out.below hb3)
          have G3 := Lib.hid (blk_keep hb3 G2.out)
          have x3 := end_get E3.out.e.p
          have g3 := stk_get G3.out
          clear hb3 x2 hc0 hc1 hc2 hc3 hc4
          go_wp2_with fail
          refine (low_any _ _ _).mono ?_
          rintro e W5 ⟨rfl, hb5⟩
          have E5 := Lib.hid (E3.out.below hb5)
          have G5 := Lib.hid (blk_keep hb5 G3.out)
          clear hb5 x3 g3
          have r5 := rat_get E5.out.r
          have g5 := stk_get G5.out
          have N5 := Lib.hid (E5.out.put (.int .i64 (num k + t * pl)) (.int .i64 (den k + t)))
          go_wp2
          go_roundw
          case rel => exact ⟨k + 1, by omega, by go_num, by rw [hn1.out, hd1.out]; exact N5.out⟩
          case measure => simp [intOf]; omega
        · obtain rfl : t = yh := by rw [hw, if_neg hp]
          obtain rfl := hm
          clear hw
          go_wp2_with fail
          refine (high_any _ _ _).mono ?_
          rintro e W5 ⟨rfl, hb5⟩
          have E5 := Lib.hid (E2.out.below hb5)
          have G5 := Lib.hid (blk_keep hb5 G2.out)
          clear hb5 x2 hc0 hc1 hc2 hc3 hc4
          have r5 := rat_get E5.out.r
          have g5 := stk_get G5.out
          have N5 := Lib.hid (E5.out.put (.int .i64 (num k + t * pl)) (.int .i64 (den k + t)))
          go_wp2
          go_roundw
          case rel => exact ⟨k + 1, by omega, by go_num, by rw [hn1.out, hd1.out]; exact N5.out⟩
          case measure => simp [intOf]; omega
      · obtain rfl : k = n := by omega
        have r5 := rat_get E1.out.r
        have q5 := rat_get E1.out.e.q
        go_wp2
        exact bodyPost_ret (results_c rfl _ _ _ (w.heap.size + 1) _ _ _ rfl ((E1.out.e.q.set_ 0 _).set_ 1 _) Try.underlying77 (by kernel_rfl)) rfl ⟨by rw [← HE.out.1, ← HE.out.2]; rfl, (E1.out.e.bel.setCell (p := ⟨w.heap.size + 1, 0, none⟩) (by simp) _).setCell (p := ⟨w.heap.size + 1, 1, none⟩) (by simp) _⟩
  · go_enter Try.func116, Try.ntmps116
    go_wp2
    go_loopw [13] (fun i wr => ∃ k : Nat, k ≤ n ∧ i = .int .i64 k ∧ Env3 w wr #[.func (.func 100) #[] #[], .func (.func 99) #[] #[], .func (.func 106) #[] #[]] #[.int .i64 0, .int .i64 0] #[.int .i64 (num k), .int .i64 (den k)]) (fun i _ => n - (intOf i).toNat)
    case atStart => exact ⟨0, Nat.zero_le _, rfl, by rw [HZ.out.1, HZ.out.2]; exact E0.out⟩
    case round =>
      obtain ⟨k, hk, rfl, hE⟩ := hrel
      have E1 := Lib.hid hE
      clear hE
      by_cases hlt : k < n
      · obtain ⟨b, off, rfl, hb, hc0, hc1, hc2, hc3, hc4⟩ := (HG.out.below E1.out.e.bel).at_ hlt
        have hn1 := Lib.hid (HN1.out k (by rw [Hl.out]; exact hlt))
        have hd1 := Lib.hid (HD1.out k (by rw [Hl.out]; exact hlt))
        have hy := HY.out k hlt
        have hb1 := HB1.out k
        have hb2 := HB2.out k
        have hm := HM.out (l.getD k Stk.zero)
        have hw := HW.out (l.getD k Stk.zero)
        have hlk : (l.take k).length ≤ k := List.length_take_le _ _
        generalize l.getD k Stk.zero = y at *
        obtain ⟨yl, yh, zl, zh, pl⟩ := y
        simp only at hc0 hc1 hc2 hc3 hc4 hw hm
        generalize m ⟨yl, yh, zl, zh, pl⟩ = r at *
        generalize v ⟨yl, yh, zl, zh, pl⟩ = t at *
        have bs := below_self wr (.cells #[.int .i64 yl, .int .i64 yh, .int .i64 zl, .int .i64 zh, .int .i64 pl] 106)
        have E2 := Lib.hid (E1.out.below bs)
        have G2 := Lib.hid (Blk.new wr 106 #[.int .i64 yl, .int .i64 yh, .int .i64 zl, .int .i64 zh, .int .i64 pl] rfl)
        have x2 := end_get E2.out.e.p
        clear bs
        by_cases hp : p < pl
        · obtain rfl : t = yh := by rw [hw, if_pos hp]
          obtain rfl := hm
          clear hw
          have hq : Hid (0 ≤ t * pl) := hy.1
          go_wp2_with fail
          refine (low_any _ _ _).mono ?_
          rintro e W3 ⟨rfl, hb3⟩
          have E3 := Lib.hid (E2.out.below hb3)
          have G3 := Lib.hid (blk_keep hb3 G2.out)
          have x3 := end_get E3.out.e.p
          have g3 := stk_get G3.out
          clear hb3 x2 hc0 hc1 hc2 hc3 hc4
          go_wp2_with fail
          refine (high_any _ _ _).mono ?_
          rintro e W5 ⟨rfl, hb5⟩
          have E5 := Lib.hid (E3.out.below hb5)
          have G5 := Lib.hid (blk_keep hb5 G3.out)
          clear hb5 x3 g3
          have r5 := rat_get E5.out.r
          have g5 := stk_get G5.out
          have N5 := Lib.hid (E5.out.put (.int .i64 (num k + t * pl)) (.int .i64 (den k + t)))
          go_wp2
          go_roundw
          case rel => exact ⟨k + 1, by omega, by go_num, by rw [hn1.out, hd1.out]; exact N5.out⟩
          case measure => simp [intOf]; omega
        · obtain rfl : t = yl := by rw [hw, if_neg hp]
          obtain rfl := hm
          clear hw
          go_wp2_with fail
          refine (low_any _ _ _).mono ?_
          rintro e W5 ⟨rfl, hb5⟩
          have E5 := Lib.hid (E2.out.below hb5)
          have G5 := Lib.hid (blk_keep hb5 G2.out)
          clear hb5 x2 hc0 hc1 hc2 hc3 hc4
          have r5 := rat_get E5.out.r
          have g5 := stk_get G5.out
          have N5 := Lib.hid (E5.out.put (.int .i64 (num k + t * pl)) (.int .i64 (den k + t)))
          go_wp2
          go_roundw
          case rel => exact ⟨k + 1, by omega, by go_num, by rw [hn1.out, hd1.out]; exact N5.out⟩
          case measure => simp [intOf]; omega
      · obtain rfl : k = n := by omega
        have r5 := rat_get E1.out.r
        have q5 := rat_get E1.out.e.q
        go_wp2
        exact bodyPost_ret (results_c rfl _ _ _ (w.heap.size + 1) _ _ _ rfl ((E1.out.e.q.set_ 0 _).set_ 1 _) Try.underlying77 (by kernel_rfl)) rfl ⟨by rw [← HE.out.1, ← HE.out.2]; rfl, (E1.out.e.bel.setCell (p := ⟨w.heap.size + 1, 0, none⟩) (by simp) _).setCell (p := ⟨w.heap.size + 1, 1, none⟩) (by simp) _⟩
end Go.Proofs.Ytdekickmplkdiaa
