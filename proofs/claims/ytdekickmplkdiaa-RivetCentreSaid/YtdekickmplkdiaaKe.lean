/- Merged: Rp, Rq, Rr, Rt, Ru. -/
import Derived.Test.YtdekickmplkdiaaKb
import Derived.Test.YtdekickmplkdiaaKc

/- Walks: balanceBehind. -/
namespace Go.Proofs.Ytdekickmplkdiaa
open Go.RowKit

structure StkB (l : List Stk) : Prop where
  n : l.length ≤ 12
  s : ∀ s ∈ l, 1 ≤ s.wl ∧ s.wl ≤ s.wh ∧ s.wh ≤ 10000 ∧ 1 ≤ s.tl ∧ s.tl ≤ s.th ∧ s.th ≤ 100 ∧ 0 ≤ s.pl ∧ s.pl ≤ 5000
/-- What a stick weighs at an end if those behind a place draw outward. -/
def wAt (u : Bool) (p : Int) (s : Stk) : Int := if p < s.pl then ris u s.wl s.wh else fal u s.wl s.wh
def mAt (u : Bool) (p : Int) (s : Stk) : Int := wAt u p s * s.pl
def numB (u : Bool) (p : Int) (l : List Stk) : Int := (l.map (mAt u p)).sum
def denB (u : Bool) (p : Int) (l : List Stk) : Int := (l.map (wAt u p)).sum
theorem map_sum_take {α : Type} (f : α → Int) (xs : List α) (z : α) (k : Nat) (hk : k < xs.length) : ((xs.take (k + 1)).map f).sum = ((xs.take k).map f).sum + f (xs.getD k z) := by
  rw [List.take_succ_eq_append_getElem hk, List.map_append, List.sum_append]; simp [List.getD, hk]
theorem map_sum_bd {α : Type} (f : α → Int) (xs : List α) (A B : Int) (h : ∀ x ∈ xs, A ≤ f x ∧ f x ≤ B) : xs.length * A ≤ (xs.map f).sum ∧ (xs.map f).sum ≤ xs.length * B := by
  induction xs with
  | nil => simp
  | cons a r ih =>
    have h1 := h a (by simp)
    have h2 := ih (fun x hx => h x (by simp [hx]))
    simp only [List.map_cons, List.sum_cons, List.length_cons]
    have e1 : ((r.length + 1 : Nat) : Int) * A = r.length * A + A := by rw [Int.natCast_add, Int.add_mul]; simp
    have e2 : ((r.length + 1 : Nat) : Int) * B = r.length * B + B := by rw [Int.natCast_add, Int.add_mul]; simp
    omega
theorem wAt_bd {l : List Stk} (h : StkB l) (u : Bool) (p : Int) : ∀ s ∈ l, 1 ≤ wAt u p s ∧ wAt u p s ≤ 10000 := by
  intro s hs
  have := h.s s hs
  unfold wAt ris fal
  cases u <;> simp only [cond_true, cond_false] <;> split <;> omega
theorem mAt_bd {l : List Stk} (h : StkB l) (u : Bool) (p : Int) : ∀ s ∈ l, 0 ≤ mAt u p s ∧ mAt u p s ≤ 50000000 := by
  intro s hs
  have h1 := wAt_bd h u p s hs
  have h2 := h.s s hs
  exact mul_bd (X := 10000) (Y := 5000) (by omega) h1.2 (by omega) (by omega)
theorem StkB.take {l : List Stk} (h : StkB l) (k : Nat) : StkB (l.take k) := ⟨by have := h.n; rw [List.length_take]; omega, fun s hs => h.s s (List.mem_of_mem_take hs)⟩
theorem numB_bd {l : List Stk} (h : StkB l) (u : Bool) (p : Int) : 0 ≤ numB u p l ∧ numB u p l ≤ 600000000 := by
  have := map_sum_bd (mAt u p) l 0 50000000 (mAt_bd h u p)
  have hn := h.n
  unfold numB; omega
theorem denB_bd {l : List Stk} (h : StkB l) (u : Bool) (p : Int) : l.length ≤ denB u p l ∧ denB u p l ≤ 120000 := by
  have := map_sum_bd (wAt u p) l 1 10000 (wAt_bd h u p)
  have hn := h.n
  unfold denB; omega
structure Env3 (w W : World) (x c1 c2 : Array Value) : Prop where
  e : Env2 w W 117 77 x c1
  r : Blk W (w.heap.size + 2) 77 c2
theorem Env3.below {w W W' : World} {x c1 c2 : Array Value} (h : Env3 w W x c1 c2) (hb : Below W.heap.size W W') : Env3 w W' x c1 c2 := ⟨h.e.below hb, blk_keep hb h.r⟩
theorem Env3.put {w W : World} {x c1 : Array Value} {a b : Value} (h : Env3 w W x c1 #[a, b]) (a' b' : Value) : Env3 w ((W.setCell ⟨w.heap.size + 2, 0, none⟩ a').setCell ⟨w.heap.size + 2, 1, none⟩ b') x c1 #[a', b'] :=
  ⟨(h.e.set (by omega) 0 a').set (by omega) 1 b', (h.r.set_ 0 a').set_ 1 b'⟩
theorem end_get {W : World} {g : Nat} {x0 x1 x2 : Value} (h : Blk W g 117 #[x0, x1, x2]) : W.cell? ⟨g, 0, none⟩ = some x0 ∧ W.cell? ⟨g, 1, none⟩ = some x1 ∧ W.cell? ⟨g, 2, none⟩ = some x2 := ⟨h.cell 0, h.cell 1, h.cell 2⟩
theorem rat_get {W : World} {g : Nat} {x0 x1 : Value} (h : Blk W g 77 #[x0, x1]) : W.cell? ⟨g, 0, none⟩ = some x0 ∧ W.cell? ⟨g, 1, none⟩ = some x1 ∧ W.frozen? ⟨g, 0, none⟩ = false ∧ W.frozen? ⟨g, 1, none⟩ = false := ⟨h.cell 0, h.cell 1, h.frozen 0, h.frozen 1⟩
theorem stk_get {W : World} {g : Nat} {x0 x1 x2 x3 x4 : Value} (h : Blk W g 106 #[x0, x1, x2, x3, x4]) : W.cell? ⟨g, 0, none⟩ = some x0 ∧ W.cell? ⟨g, 1, none⟩ = some x1 ∧ W.cell? ⟨g, 2, none⟩ = some x2 ∧ W.cell? ⟨g, 3, none⟩ = some x3 ∧ W.cell? ⟨g, 4, none⟩ = some x4 := ⟨h.cell 0, h.cell 1, h.cell 2, h.cell 3, h.cell 4⟩

set_option maxRecDepth 100000 in
set_option maxHeartbeats 4000000 in
theorem behind_any (u : Bool) (l : List Stk) (p : Int) (A : Option Addr) (n c : Nat) (w : World) (hs : StkB l) (h : Stks w A n l) :
    Calls Try.prog 116 #[.agg (endA u), .slice A n c, .int .i64 p] w fun e w' => e = .returned (.agg #[.int .i64 (numB u p l), .int .i64 (denB u p l)]) ∧ Below w.heap.size w w' := by
  have hl := h.len
  have hn := hs.n
  rw [hl] at hn
  have HG := Lib.hid h
  have Hl := Lib.hid hl
  have E0 : Hid (Env3 w (((w.alloc (.cells (endA u) 117)).alloc (.cells #[.int .i64 0, .int .i64 0] 77)).alloc (.cells #[.int .i64 0, .int .i64 0] 77)) (endA u) #[.int .i64 0, .int .i64 0] #[.int .i64 0, .int .i64 0]) := ⟨(Env2.start w _ _ _ _).alloc _, Blk.new _ _ _ (by simp)⟩
  have HN1 := Lib.hid (fun k (hk : k < l.length) => map_sum_take (mAt u p) l Stk.zero k hk)
  have HD1 := Lib.hid (fun k (hk : k < l.length) => map_sum_take (wAt u p) l Stk.zero k hk)
  have HB1 := Lib.hid (fun k => numB_bd (hs.take k) u p)
  have HB2 := Lib.hid (fun k => denB_bd (hs.take k) u p)
  have HE : Hid (((l.take n).map (mAt u p)).sum = numB u p l ∧ ((l.take n).map (wAt u p)).sum = denB u p l) := by unfold Hid numB denB; rw [List.take_of_length_le (by omega)]; exact ⟨rfl, rfl⟩
  have HY := Lib.hid (fun k (hk : k < n) => show 0 ≤ mAt u p (l.getD k Stk.zero) ∧ mAt u p (l.getD k Stk.zero) ≤ 50000000 ∧ 1 ≤ wAt u p (l.getD k Stk.zero) ∧ wAt u p (l.getD k Stk.zero) ≤ 10000 from by
    have e : l.getD k Stk.zero = l[k]'(by omega) := by simp [List.getD, show k < l.length from by omega]
    rw [e]; exact ⟨(mAt_bd hs u p _ (List.getElem_mem _)).1, (mAt_bd hs u p _ (List.getElem_mem _)).2, wAt_bd hs u p _ (List.getElem_mem _)⟩)
  have HM : Hid (∀ s, mAt u p s = wAt u p s * s.pl) := fun _ => rfl
  have HW : Hid (∀ s, wAt u p s = if p < s.pl then ris u s.wl s.wh else fal u s.wl s.wh) := fun _ => rfl
  have HZ : Hid (((l.take 0).map (mAt u p)).sum = 0 ∧ ((l.take 0).map (wAt u p)).sum = 0) := ⟨rfl, rfl⟩
  unfold numB at HB1
  unfold denB at HB2
  clear hl h hs
  generalize numB u p l = rn at *
  generalize denB u p l = rd at *
  generalize mAt u p = m at *
  generalize wAt u p = v at *
  have HNk := Lib.hid (fun k => show ((l.take k).map m).sum = ((l.take k).map m).sum from rfl)
  generalize hnum : (fun k => ((l.take k).map m).sum) = num at *
  generalize hden : (fun k => ((l.take k).map v).sum) = den at *
  have en : ∀ k, ((l.take k).map m).sum = num k := fun k => by rw [← hnum]
  have ed : ∀ k, ((l.take k).map v).sum = den k := fun k => by rw [← hden]
  simp only [en, ed] at HN1 HD1 HB1 HB2 HE HZ
  clear en ed hnum hden HNk
  cases u <;> simp only [endA, ris, fal, cond_true, cond_false] at *
  · go_enter Try.func116, Try.ntmps116
    go_wp2
    go_loopw [13] (fun i wr => ∃ k : Nat, k ≤ n ∧ i = .int .i64 k ∧ Env3 w wr #[.func (.func 99) #[] #[], .func (.func 100) #[] #[], .func (.func 101) #[] #[]] #[.int .i64 0, .int .i64 0] #[.int .i64 (num k), .int .i64 (den k)]) (fun i _ => n - (intOf i).toNat)
    case atStart => exact ⟨0, Nat.zero_le _, rfl, by rw [HZ.out.1, HZ.out.2]; exact E0.out⟩
    case round =>
      obtain ⟨k, hk, rfl, hE⟩ := hrel
      have E1 := Lib.hid hE
      clear hE
      by_cases hlt : k < n
      · obtain ⟨b, off, rfl, hb, hc0, hc1, hc2, hc3, hc4⟩ := (HG.out.below E1.out.e.bel).at_ hlt
        have hn1 := Lib.hid (HN1.out k (by rw [Hl.out]; exact hlt))
        have hd1 := Lib.hid (HD1.out k (by rw [Hl.out]; exact hlt))
        have hy := HY.out k hlt
        have hb1 := HB1.out k
        have hb2 := HB2.out k
        have hm := HM.out (l.getD k Stk.zero)
        have hw := HW.out (l.getD k Stk.zero)
        have hlk : (l.take k).length ≤ k := List.length_take_le _ _
        generalize l.getD k Stk.zero = y at *
        obtain ⟨yl, yh, zl, zh, pl⟩ := y
        simp only at hc0 hc1 hc2 hc3 hc4 hw hm
        generalize m ⟨yl, yh, zl, zh, pl⟩ = r at *
        generalize v ⟨yl, yh, zl, zh, pl⟩ = t at *
        have bs := below_self wr (.cells #[.int .i64 yl, .int .i64 yh, .int .i64 zl, .int .i64 zh, .int .i64 pl] 106)
        have E2 := Lib.hid (E1.out.below bs)
        have G2 := Lib.hid (Blk.new wr 106 #[.int .i64 yl, .int .i64 yh, .int .i64 zl, .int .i64 zh, .int .i64 pl] rfl)
        have x2 := end_get E2.out.e.p
        clear bs
        by_cases hp : p < pl
        · obtain rfl : t = yl := by rw [hw, if_pos hp]
          obtain rfl := hm
          clear hw
          have hq : Hid (0 ≤ t * pl) := hy.1
          go_wp2_with fail
          refine (high_any _ _ _).mono ?_
          rintro e W3 ⟨rfl, hb3⟩
          have E3 := Lib.hid (E2.out.below hb3)
          have G3 := Lib.hid (blk_keep hb3 G2.out)
          have x3 := end_get E3.out.e.p
          have g3 := stk_get G3.out
          clear hb3 x2 hc0 hc1 hc2 hc3 hc4
          go_wp2_with fail
          refine (low_any _ _ _).mono ?_
          rintro e W5 ⟨rfl, hb5⟩
          have E5 := Lib.hid (E3.out.below hb5)
          have G5 := Lib.hid (blk_keep hb5 G3.out)
          clear hb5 x3 g3
          have r5 := rat_get E5.out.r
          have g5 := stk_get G5.out
          have N5 := Lib.hid (E5.out.put (.int .i64 (num k + t * pl)) (.int .i64 (den k + t)))
          go_wp2
          go_roundw
          case rel => exact ⟨k + 1, by omega, by go_num, by rw [hn1.out, hd1.out]; exact N5.out⟩
          case measure => simp [intOf]; omega
        · obtain rfl : t = yh := by rw [hw, if_neg hp]
          obtain rfl := hm
          clear hw
          go_wp2_with fail
          refine (high_any _ _ _).mono ?_
          rintro e W5 ⟨rfl, hb5⟩
          have E5 := Lib.hid (E2.out.below hb5)
          have G5 := Lib.hid (blk_keep hb5 G2.out)
          clear hb5 x2 hc0 hc1 hc2 hc3 hc4
          have r5 := rat_get E5.out.r
          have g5 := stk_get G5.out
          have N5 := Lib.hid (E5.out.put (.int .i64 (num k + t * pl)) (.int .i64 (den k + t)))
          go_wp2
          go_roundw
          case rel => exact ⟨k + 1, by omega, by go_num, by rw [hn1.out, hd1.out]; exact N5.out⟩
          case measure => simp [intOf]; omega
      · obtain rfl : k = n := by omega
        have r5 := rat_get E1.out.r
        have q5 := rat_get E1.out.e.q
        go_wp2
        exact bodyPost_ret (results_c rfl _ _ _ (w.heap.size + 1) _ _ _ rfl ((E1.out.e.q.set_ 0 _).set_ 1 _) Try.underlying77 (by kernel_rfl)) rfl ⟨by rw [← HE.out.1, ← HE.out.2]; rfl, (E1.out.e.bel.setCell (p := ⟨w.heap.size + 1, 0, none⟩) (by simp) _).setCell (p := ⟨w.heap.size + 1, 1, none⟩) (by simp) _⟩
  · go_enter Try.func116, Try.ntmps116
    go_wp2
    go_loopw [13] (fun i wr => ∃ k : Nat, k ≤ n ∧ i = .int .i64 k ∧ Env3 w wr #[.func (.func 100) #[] #[], .func (.func 99) #[] #[], .func (.func 106) #[] #[]] #[.int .i64 0, .int .i64 0] #[.int .i64 (num k), .int .i64 (den k)]) (fun i _ => n - (intOf i).toNat)
    case atStart => exact ⟨0, Nat.zero_le _, rfl, by rw [HZ.out.1, HZ.out.2]; exact E0.out⟩
    case round =>
      obtain ⟨k, hk, rfl, hE⟩ := hrel
      have E1 := Lib.hid hE
      clear hE
      by_cases hlt : k < n
      · obtain ⟨b, off, rfl, hb, hc0, hc1, hc2, hc3, hc4⟩ := (HG.out.below E1.out.e.bel).at_ hlt
        have hn1 := Lib.hid (HN1.out k (by rw [Hl.out]; exact hlt))
        have hd1 := Lib.hid (HD1.out k (by rw [Hl.out]; exact hlt))
        have hy := HY.out k hlt
        have hb1 := HB1.out k
        have hb2 := HB2.out k
        have hm := HM.out (l.getD k Stk.zero)
        have hw := HW.out (l.getD k Stk.zero)
        have hlk : (l.take k).length ≤ k := List.length_take_le _ _
        generalize l.getD k Stk.zero = y at *
        obtain ⟨yl, yh, zl, zh, pl⟩ := y
        simp only at hc0 hc1 hc2 hc3 hc4 hw hm
        generalize m ⟨yl, yh, zl, zh, pl⟩ = r at *
        generalize v ⟨yl, yh, zl, zh, pl⟩ = t at *
        have bs := below_self wr (.cells #[.int .i64 yl, .int .i64 yh, .int .i64 zl, .int .i64 zh, .int .i64 pl] 106)
        have E2 := Lib.hid (E1.out.below bs)
        have G2 := Lib.hid (Blk.new wr 106 #[.int .i64 yl, .int .i64 yh, .int .i64 zl, .int .i64 zh, .int .i64 pl] rfl)
        have x2 := end_get E2.out.e.p
        clear bs
        by_cases hp : p < pl
        · obtain rfl : t = yh := by rw [hw, if_pos hp]
          obtain rfl := hm
          clear hw
          have hq : Hid (0 ≤ t * pl) := hy.1
          go_wp2_with fail
          refine (low_any _ _ _).mono ?_
          rintro e W3 ⟨rfl, hb3⟩
          have E3 := Lib.hid (E2.out.below hb3)
          have G3 := Lib.hid (blk_keep hb3 G2.out)
          have x3 := end_get E3.out.e.p
          have g3 := stk_get G3.out
          clear hb3 x2 hc0 hc1 hc2 hc3 hc4
          go_wp2_with fail
          refine (high_any _ _ _).mono ?_
          rintro e W5 ⟨rfl, hb5⟩
          have E5 := Lib.hid (E3.out.below hb5)
          have G5 := Lib.hid (blk_keep hb5 G3.out)
          clear hb5 x3 g3
          have r5 := rat_get E5.out.r
          have g5 := stk_get G5.out
          have N5 := Lib.hid (E5.out.put (.int .i64 (num k + t * pl)) (.int .i64 (den k + t)))
          go_wp2
          go_roundw
          case rel => exact ⟨k + 1, by omega, by go_num, by rw [hn1.out, hd1.out]; exact N5.out⟩
          case measure => simp [intOf]; omega
        · obtain rfl : t = yl := by rw [hw, if_neg hp]
          obtain rfl := hm
          clear hw
          go_wp2_with fail
          refine (low_any _ _ _).mono ?_
          rintro e W5 ⟨rfl, hb5⟩
          have E5 := Lib.hid (E2.out.below hb5)
          have G5 := Lib.hid (blk_keep hb5 G2.out)
          clear hb5 x2 hc0 hc1 hc2 hc3 hc4
          have r5 := rat_get E5.out.r
          have g5 := stk_get G5.out
          have N5 := Lib.hid (E5.out.put (.int .i64 (num k + t * pl)) (.int .i64 (den k + t)))
          go_wp2
          go_roundw
          case rel => exact ⟨k + 1, by omega, by go_num, by rw [hn1.out, hd1.out]; exact N5.out⟩
          case measure => simp [intOf]; omega
      · obtain rfl : k = n := by omega
        have r5 := rat_get E1.out.r
        have q5 := rat_get E1.out.e.q
        go_wp2
        exact bodyPost_ret (results_c rfl _ _ _ (w.heap.size + 1) _ _ _ rfl ((E1.out.e.q.set_ 0 _).set_ 1 _) Try.underlying77 (by kernel_rfl)) rfl ⟨by rw [← HE.out.1, ← HE.out.2]; rfl, (E1.out.e.bel.setCell (p := ⟨w.heap.size + 1, 0, none⟩) (by simp) _).setCell (p := ⟨w.heap.size + 1, 1, none⟩) (by simp) _⟩
end Go.Proofs.Ytdekickmplkdiaa

/- Walks: MinFunc, MaxFunc, the outermost ratio. -/
namespace Go.Proofs.Ytdekickmplkdiaa
open Go.RowKit

/-- The outermost of the first k + 1 ratios. -/
def pickGo (u : Bool) (rs : List (Int × Int)) : Nat → Int × Int
  | 0 => rs.getD 0 (0, 0)
  | k + 1 => if (bif u then decide (0 < ratL (rs.getD (k + 1) (0, 0)).1 (rs.getD (k + 1) (0, 0)).2 (pickGo u rs k).1 (pickGo u rs k).2) else decide (ratL (rs.getD (k + 1) (0, 0)).1 (rs.getD (k + 1) (0, 0)).2 (pickGo u rs k).1 (pickGo u rs k).2 < 0)) = true then rs.getD (k + 1) (0, 0) else pickGo u rs k
def RatB (r : Int × Int) : Prop := (0 ≤ r.1 ∧ r.1 ≤ 1000000000) ∧ (0 ≤ r.2 ∧ r.2 ≤ 25000000)
theorem getD_B {rs : List (Int × Int)} (h : ∀ r ∈ rs, RatB r) (k : Nat) (hk : k < rs.length) : RatB (rs.getD k (0, 0)) := by
  have e : rs.getD k (0, 0) = rs[k] := by simp [List.getD, hk]
  rw [e]; exact h _ (List.getElem_mem hk)
theorem pick_B {u : Bool} {rs : List (Int × Int)} (h : ∀ r ∈ rs, RatB r) (k : Nat) (hk : k < rs.length) : RatB (pickGo u rs k) := by
  induction k with
  | zero => exact getD_B h 0 hk
  | succ k ih =>
    rw [pickGo]
    split
    · exact getD_B h _ hk
    · exact ih (by omega)
theorem rats_get {W : World} {g g' o : Nat} {x0 x1 y0 y1 : Value} (h : Blk W g 77 #[x0, x1]) (c0 : W.cell? ⟨g', o, none⟩ = some y0) (c1 : W.cell? ⟨g', o + 1, none⟩ = some y1) : W.cell? ⟨g, 0, none⟩ = some x0 ∧ W.cell? ⟨g, 1, none⟩ = some x1 ∧ W.cell? ⟨g', o, none⟩ = some y0 ∧ W.cell? ⟨g', o + 1, none⟩ = some y1 := ⟨h.cell 0, h.cell 1, c0, c1⟩
theorem cell_below {W W' : World} {g o : Nat} {v : Value} (hb : Below W.heap.size W W') (h : W.cell? ⟨g, o, none⟩ = some v) : W'.cell? ⟨g, o, none⟩ = some v := (hb.cell (p := ⟨g, o, none⟩) (block_lt_of_cell h)).trans h

set_option maxRecDepth 100000 in
set_option maxHeartbeats 2000000 in
theorem MinFunc_any (rs : List (Int × Int)) (A : Option Addr) (n c : Nat) (w : World) (h : Pairs w A n rs) (h0 : 0 < n) (hn : n ≤ 1000) (hr : ∀ r ∈ rs, RatB r) :
    Calls Try.prog 102 #[.slice A n c, .func (.func 68) #[] #[]] w fun e w' => e = .returned (.agg #[.int .i64 (pickGo false rs (n - 1)).1, .int .i64 (pickGo false rs (n - 1)).2]) ∧ Below w.heap.size w w' := by
  have hl := h.len
  have HG := Lib.hid h
  have Hl := Lib.hid hl
  have HZ := Lib.hid (show pickGo false rs 0 = rs.getD 0 (0, 0) from rfl)
  have HS := Lib.hid (fun k => show pickGo false rs (k + 1) = if decide (ratL (rs.getD (k + 1) (0, 0)).1 (rs.getD (k + 1) (0, 0)).2 (pickGo false rs k).1 (pickGo false rs k).2 < 0) = true then rs.getD (k + 1) (0, 0) else pickGo false rs k from rfl)
  have HP := Lib.hid (fun k (hk : k < n) => pick_B (u := false) hr k (by omega))
  have HR := Lib.hid (fun k (hk : k < n) => getD_B hr k (by omega))
  have ⟨b, off, eA, hb, _⟩ := h.at_ h0
  subst eA
  obtain ⟨b', off', e', hb', c0, c1⟩ := (h.below ((below_self w (.cells #[.int .i64 0, .int .i64 0] 77)))).at_ h0
  simp only [Option.some.injEq, Addr.mk.injEq, and_true] at e'
  obtain ⟨rfl, rfl⟩ := e'
  have E0 := Lib.hid (fun c1 => Env2.start w 77 77 #[.int .i64 0, .int .i64 0] c1)
  clear hl h hr hb'
  generalize pickGo false rs = pk at *
  have hn1 : ¬ (n : Int) < 1 := by omega
  have hn0 : (0 : Int) < (n : Int) := by omega
  generalize hz : rs.getD 0 (0, 0) = z0 at *
  have Hz := Lib.hid hz
  clear hz
  obtain ⟨za, zb⟩ := z0
  simp only [Nat.zero_mul, Nat.add_zero] at c0 c1
  go_enter Try.func102, Try.ntmps102
  go_wp2
  clear c0 c1
  go_loopw [6] (fun i wr => ∃ k : Nat, 1 ≤ k ∧ k ≤ n ∧ i = .int .i64 k ∧ Env2 w wr 77 77 #[.int .i64 0, .int .i64 0] #[.int .i64 (pk (k - 1)).1, .int .i64 (pk (k - 1)).2]) (fun i _ => n - (intOf i).toNat)
  case atStart => exact ⟨1, Nat.le_refl _, h0, rfl, by rw [Nat.sub_self, HZ.out]; exact E0.out _⟩
  case round =>
    obtain ⟨k, hk1, hk, rfl, hE⟩ := hrel
    have E1 := Lib.hid hE
    clear hE
    by_cases hlt : k < n
    · obtain ⟨b', off', e', hb', c0, c1⟩ := (HG.out.below E1.out.bel).at_ hlt
      simp only [Option.some.injEq, Addr.mk.injEq, and_true] at e'
      obtain ⟨rfl, rfl⟩ := e'
      have hgo := HS.out (k - 1)
      rw [Nat.sub_add_cancel hk1] at hgo
      have hp := HP.out (k - 1) (by omega)
      have hr := HR.out k hlt
      generalize rs.getD k (0, 0) = y at *
      generalize pk (k - 1) = z at *
      obtain ⟨ya, yb⟩ := y
      obtain ⟨za, zb⟩ := z
      simp only at hp hr c0 c1 hgo
      have HC := Lib.hid (fun W => compare_any ya yb za zb W hr.1 hr.2 hp.1 hp.2)
      clear hp hr
      generalize ratL ya yb za zb = q at *
      have E1d := Lib.hid E1.out.drewd
      have C0d : Hid (wr.drew.cell? ⟨b, off + k * 2, none⟩ = some (.int .i64 ya)) := c0
      have C1d : Hid (wr.drew.cell? ⟨b, off + k * 2 + 1, none⟩ = some (.int .i64 yb)) := c1
      have hk0 : (0 : Int) ≤ (k : Int) := by omega
      have hkn : (k : Int) < (n : Int) := by omega
      clear c0 c1
      by_cases ht : q < 0
      · have hgo := Lib.hid (show pk (k + 1 - 1) = (ya, yb) from by rw [Nat.add_sub_cancel]; rw [hgo, if_pos (by simpa using ht)])
        go_wp2_with fail
        go_region_held3 (fun W => W.cell? ⟨w.heap.size + 1, 0, none⟩ = some (.int .i64 za) ∧ W.cell? ⟨w.heap.size + 1, 1, none⟩ = some (.int .i64 zb) ∧ W.cell? ⟨b, off + k * 2, none⟩ = some (.int .i64 ya) ∧ W.cell? ⟨b, off + k * 2 + 1, none⟩ = some (.int .i64 yb))
          (first | with_reducible exact rats_get E1d.out.q C0d.out C1d.out | with_reducible exact rats_get E3.out.q D0.out D1.out)
          (first | (go_at_call 68; refine (HC.out _).mono ?_; rintro e W3 ⟨rfl, hb3⟩; have E3 := Lib.hid (E1d.out.below hb3); have D0 := Lib.hid (cell_below hb3 C0d.out); have D1 := Lib.hid (cell_below hb3 C1d.out); clear hb3))
        all_goals
          have r3 := rat_get E3.out.q
          have d0 := D0.out
          have d1 := D1.out
          go_wp2
          go_roundw
          case rel => exact ⟨k + 1, by omega, by omega, by go_num, by rw [hgo.out]; exact ⟨(E3.out.p.far (p := ⟨w.heap.size + 1, 0, none⟩) (by simp) _).far (p := ⟨w.heap.size + 1, 1, none⟩) (by simp) _, (E3.out.q.set_ 0 _).set_ 1 _, (E3.out.bel.setCell (p := ⟨w.heap.size + 1, 0, none⟩) (by simp) _).setCell (p := ⟨w.heap.size + 1, 1, none⟩) (by simp) _⟩⟩
          case measure => simp [intOf]; omega
      · have hgo := Lib.hid (show pk (k + 1 - 1) = (za, zb) from by rw [Nat.add_sub_cancel]; rw [hgo, if_neg (by simpa using ht)])
        go_wp2_with fail
        go_region_held3 (fun W => W.cell? ⟨w.heap.size + 1, 0, none⟩ = some (.int .i64 za) ∧ W.cell? ⟨w.heap.size + 1, 1, none⟩ = some (.int .i64 zb) ∧ W.cell? ⟨b, off + k * 2, none⟩ = some (.int .i64 ya) ∧ W.cell? ⟨b, off + k * 2 + 1, none⟩ = some (.int .i64 yb))
          (first | with_reducible exact rats_get E1d.out.q C0d.out C1d.out | with_reducible exact rats_get E3.out.q D0.out D1.out)
          (first | (go_at_call 68; refine (HC.out _).mono ?_; rintro e W3 ⟨rfl, hb3⟩; have E3 := Lib.hid (E1d.out.below hb3); have D0 := Lib.hid (cell_below hb3 C0d.out); have D1 := Lib.hid (cell_below hb3 C1d.out); clear hb3))
        all_goals
          have r3 := rat_get E3.out.q
          have d0 := D0.out
          have d1 := D1.out
          go_wp2
          go_roundw
          case rel => exact ⟨k + 1, by omega, by omega, by go_num, by rw [hgo.out]; exact E3.out⟩
          case measure => simp [intOf]; omega
    · obtain rfl : k = n := by omega
      have r1 := rat_get E1.out.q
      have q1 := rat_get E1.out.p
      go_wp2
      exact bodyPost_ret (results_c rfl _ _ _ w.heap.size _ _ _ rfl ((E1.out.p.set_ 0 _).set_ 1 _) Try.underlying77 (by kernel_rfl)) rfl ⟨rfl, (E1.out.bel.setCell (p := ⟨w.heap.size, 0, none⟩) (Nat.le_refl _) _).setCell (p := ⟨w.heap.size, 1, none⟩) (Nat.le_refl _) _⟩

set_option maxHeartbeats 400000 in
theorem pickfalse_any (rs : List (Int × Int)) (A : Option Addr) (n c : Nat) (w : World) (h : Pairs w A n rs) (h0 : 0 < n) (hn : n ≤ 1000) (hr : ∀ r ∈ rs, RatB r) :
    Calls Try.prog 101 #[.slice A n c] w fun e w' => e = .returned (.agg #[.int .i64 (pickGo false rs (n - 1)).1, .int .i64 (pickGo false rs (n - 1)).2]) ∧ Below w.heap.size w w' := by
  have B0 := Lib.hid (below_self w (.cells #[.int .i64 0, .int .i64 0] 77))
  have R0 := Lib.hid (Blk.new w 77 #[.int .i64 0, .int .i64 0] rfl)
  have C := Lib.hid (MinFunc_any rs A n c _ (h.below B0.out) h0 hn hr)
  clear h hr
  generalize pickGo false rs (n - 1) = z at *
  go_enter Try.func101, Try.ntmps101
  go_wp2_with fail
  refine C.out.mono ?_
  rintro e W1 ⟨rfl, hb1⟩
  have R1 := Lib.hid (blk_keep hb1 R0.out)
  have B1 := Lib.hid (below_then B0.out hb1)
  have r1 := rat_get R1.out
  clear hb1
  go_wp2
  exact bodyPost_ret (results_c rfl _ _ _ w.heap.size _ _ _ rfl ((R1.out.set_ 0 _).set_ 1 _) Try.underlying77 (by kernel_rfl)) rfl ⟨rfl, (B1.out.setCell (p := ⟨w.heap.size, 0, none⟩) (Nat.le_refl _) _).setCell (p := ⟨w.heap.size, 1, none⟩) (Nat.le_refl _) _⟩

set_option maxRecDepth 100000 in
set_option maxHeartbeats 2000000 in
theorem MaxFunc_any (rs : List (Int × Int)) (A : Option Addr) (n c : Nat) (w : World) (h : Pairs w A n rs) (h0 : 0 < n) (hn : n ≤ 1000) (hr : ∀ r ∈ rs, RatB r) :
    Calls Try.prog 107 #[.slice A n c, .func (.func 68) #[] #[]] w fun e w' => e = .returned (.agg #[.int .i64 (pickGo true rs (n - 1)).1, .int .i64 (pickGo true rs (n - 1)).2]) ∧ Below w.heap.size w w' := by
  have hl := h.len
  have HG := Lib.hid h
  have Hl := Lib.hid hl
  have HZ := Lib.hid (show pickGo true rs 0 = rs.getD 0 (0, 0) from rfl)
  have HS := Lib.hid (fun k => show pickGo true rs (k + 1) = if decide (0 < ratL (rs.getD (k + 1) (0, 0)).1 (rs.getD (k + 1) (0, 0)).2 (pickGo true rs k).1 (pickGo true rs k).2) = true then rs.getD (k + 1) (0, 0) else pickGo true rs k from rfl)
  have HP := Lib.hid (fun k (hk : k < n) => pick_B (u := true) hr k (by omega))
  have HR := Lib.hid (fun k (hk : k < n) => getD_B hr k (by omega))
  have ⟨b, off, eA, hb, _⟩ := h.at_ h0
  subst eA
  obtain ⟨b', off', e', hb', c0, c1⟩ := (h.below ((below_self w (.cells #[.int .i64 0, .int .i64 0] 77)))).at_ h0
  simp only [Option.some.injEq, Addr.mk.injEq, and_true] at e'
  obtain ⟨rfl, rfl⟩ := e'
  have E0 := Lib.hid (fun c1 => Env2.start w 77 77 #[.int .i64 0, .int .i64 0] c1)
  clear hl h hr hb'
  generalize pickGo true rs = pk at *
  have hn1 : ¬ (n : Int) < 1 := by omega
  have hn0 : (0 : Int) < (n : Int) := by omega
  generalize hz : rs.getD 0 (0, 0) = z0 at *
  have Hz := Lib.hid hz
  clear hz
  obtain ⟨za, zb⟩ := z0
  simp only [Nat.zero_mul, Nat.add_zero] at c0 c1
  go_enter Try.func107, Try.ntmps107
  go_wp2
  clear c0 c1
  go_loopw [6] (fun i wr => ∃ k : Nat, 1 ≤ k ∧ k ≤ n ∧ i = .int .i64 k ∧ Env2 w wr 77 77 #[.int .i64 0, .int .i64 0] #[.int .i64 (pk (k - 1)).1, .int .i64 (pk (k - 1)).2]) (fun i _ => n - (intOf i).toNat)
  case atStart => exact ⟨1, Nat.le_refl _, h0, rfl, by rw [Nat.sub_self, HZ.out]; exact E0.out _⟩
  case round =>
    obtain ⟨k, hk1, hk, rfl, hE⟩ := hrel
    have E1 := Lib.hid hE
    clear hE
    by_cases hlt : k < n
    · obtain ⟨b', off', e', hb', c0, c1⟩ := (HG.out.below E1.out.bel).at_ hlt
      simp only [Option.some.injEq, Addr.mk.injEq, and_true] at e'
      obtain ⟨rfl, rfl⟩ := e'
      have hgo := HS.out (k - 1)
      rw [Nat.sub_add_cancel hk1] at hgo
      have hp := HP.out (k - 1) (by omega)
      have hr := HR.out k hlt
      generalize rs.getD k (0, 0) = y at *
      generalize pk (k - 1) = z at *
      obtain ⟨ya, yb⟩ := y
      obtain ⟨za, zb⟩ := z
      simp only at hp hr c0 c1 hgo
      have HC := Lib.hid (fun W => compare_any ya yb za zb W hr.1 hr.2 hp.1 hp.2)
      clear hp hr
      generalize ratL ya yb za zb = q at *
      have E1d := Lib.hid E1.out.drewd
      have C0d : Hid (wr.drew.cell? ⟨b, off + k * 2, none⟩ = some (.int .i64 ya)) := c0
      have C1d : Hid (wr.drew.cell? ⟨b, off + k * 2 + 1, none⟩ = some (.int .i64 yb)) := c1
      have hk0 : (0 : Int) ≤ (k : Int) := by omega
      have hkn : (k : Int) < (n : Int) := by omega
      clear c0 c1
      by_cases ht : 0 < q
      · have hgo := Lib.hid (show pk (k + 1 - 1) = (ya, yb) from by rw [Nat.add_sub_cancel]; rw [hgo, if_pos (by simpa using ht)])
        go_wp2_with fail
        go_region_held3 (fun W => W.cell? ⟨w.heap.size + 1, 0, none⟩ = some (.int .i64 za) ∧ W.cell? ⟨w.heap.size + 1, 1, none⟩ = some (.int .i64 zb) ∧ W.cell? ⟨b, off + k * 2, none⟩ = some (.int .i64 ya) ∧ W.cell? ⟨b, off + k * 2 + 1, none⟩ = some (.int .i64 yb))
          (first | with_reducible exact rats_get E1d.out.q C0d.out C1d.out | with_reducible exact rats_get E3.out.q D0.out D1.out)
          (first | (go_at_call 68; refine (HC.out _).mono ?_; rintro e W3 ⟨rfl, hb3⟩; have E3 := Lib.hid (E1d.out.below hb3); have D0 := Lib.hid (cell_below hb3 C0d.out); have D1 := Lib.hid (cell_below hb3 C1d.out); clear hb3))
        all_goals
          have r3 := rat_get E3.out.q
          have d0 := D0.out
          have d1 := D1.out
          go_wp2
          go_roundw
          case rel => exact ⟨k + 1, by omega, by omega, by go_num, by rw [hgo.out]; exact ⟨(E3.out.p.far (p := ⟨w.heap.size + 1, 0, none⟩) (by simp) _).far (p := ⟨w.heap.size + 1, 1, none⟩) (by simp) _, (E3.out.q.set_ 0 _).set_ 1 _, (E3.out.bel.setCell (p := ⟨w.heap.size + 1, 0, none⟩) (by simp) _).setCell (p := ⟨w.heap.size + 1, 1, none⟩) (by simp) _⟩⟩
          case measure => simp [intOf]; omega
      · have hgo := Lib.hid (show pk (k + 1 - 1) = (za, zb) from by rw [Nat.add_sub_cancel]; rw [hgo, if_neg (by simpa using ht)])
        go_wp2_with fail
        go_region_held3 (fun W => W.cell? ⟨w.heap.size + 1, 0, none⟩ = some (.int .i64 za) ∧ W.cell? ⟨w.heap.size + 1, 1, none⟩ = some (.int .i64 zb) ∧ W.cell? ⟨b, off + k * 2, none⟩ = some (.int .i64 ya) ∧ W.cell? ⟨b, off + k * 2 + 1, none⟩ = some (.int .i64 yb))
          (first | with_reducible exact rats_get E1d.out.q C0d.out C1d.out | with_reducible exact rats_get E3.out.q D0.out D1.out)
          (first | (go_at_call 68; refine (HC.out _).mono ?_; rintro e W3 ⟨rfl, hb3⟩; have E3 := Lib.hid (E1d.out.below hb3); have D0 := Lib.hid (cell_below hb3 C0d.out); have D1 := Lib.hid (cell_below hb3 C1d.out); clear hb3))
        all_goals
          have r3 := rat_get E3.out.q
          have d0 := D0.out
          have d1 := D1.out
          go_wp2
          go_roundw
          case rel => exact ⟨k + 1, by omega, by omega, by go_num, by rw [hgo.out]; exact E3.out⟩
          case measure => simp [intOf]; omega
    · obtain rfl : k = n := by omega
      have r1 := rat_get E1.out.q
      have q1 := rat_get E1.out.p
      go_wp2
      exact bodyPost_ret (results_c rfl _ _ _ w.heap.size _ _ _ rfl ((E1.out.p.set_ 0 _).set_ 1 _) Try.underlying77 (by kernel_rfl)) rfl ⟨rfl, (E1.out.bel.setCell (p := ⟨w.heap.size, 0, none⟩) (Nat.le_refl _) _).setCell (p := ⟨w.heap.size, 1, none⟩) (Nat.le_refl _) _⟩

set_option maxHeartbeats 400000 in
theorem picktrue_any (rs : List (Int × Int)) (A : Option Addr) (n c : Nat) (w : World) (h : Pairs w A n rs) (h0 : 0 < n) (hn : n ≤ 1000) (hr : ∀ r ∈ rs, RatB r) :
    Calls Try.prog 106 #[.slice A n c] w fun e w' => e = .returned (.agg #[.int .i64 (pickGo true rs (n - 1)).1, .int .i64 (pickGo true rs (n - 1)).2]) ∧ Below w.heap.size w w' := by
  have B0 := Lib.hid (below_self w (.cells #[.int .i64 0, .int .i64 0] 77))
  have R0 := Lib.hid (Blk.new w 77 #[.int .i64 0, .int .i64 0] rfl)
  have C := Lib.hid (MaxFunc_any rs A n c _ (h.below B0.out) h0 hn hr)
  clear h hr
  generalize pickGo true rs (n - 1) = z at *
  go_enter Try.func106, Try.ntmps106
  go_wp2_with fail
  refine C.out.mono ?_
  rintro e W1 ⟨rfl, hb1⟩
  have R1 := Lib.hid (blk_keep hb1 R0.out)
  have B1 := Lib.hid (below_then B0.out hb1)
  have r1 := rat_get R1.out
  clear hb1
  go_wp2
  exact bodyPost_ret (results_c rfl _ _ _ w.heap.size _ _ _ rfl ((R1.out.set_ 0 _).set_ 1 _) Try.underlying77 (by kernel_rfl)) rfl ⟨rfl, (B1.out.setCell (p := ⟨w.heap.size, 0, none⟩) (Nat.le_refl _) _).setCell (p := ⟨w.heap.size, 1, none⟩) (Nat.le_refl _) _⟩
end Go.Proofs.Ytdekickmplkdiaa

/- Walks: the error of sticks, lowest terms, Balance. -/
namespace Go.Proofs.Ytdekickmplkdiaa
open Go.RowKit

def stkOk (s : Stk) : Bool := validS 1 10000 [(s.wl, s.wh)] && validS 1 100 [(s.tl, s.th)] && within 0 5000 [s.pl]
set_option maxHeartbeats 1000000 in
theorem wrongStk_any (wl wh tl th pl : Int) (w : World) :
    Calls Try.prog 113 #[.agg #[.int .i64 wl, .int .i64 wh, .int .i64 tl, .int .i64 th, .int .i64 pl]] w
      fun e w' => e = .returned (.bool (!stkOk ⟨wl, wh, tl, th, pl⟩)) ∧ Below w.heap.size w w' := by
  have HE : Hid (stkOk ⟨wl, wh, tl, th, pl⟩ = (validS 1 10000 [(wl, wh)] && validS 1 100 [(tl, th)] && within 0 5000 [pl])) := rfl
  generalize stkOk ⟨wl, wh, tl, th, pl⟩ = r at *
  have G0 := Lib.hid (Blk.new w 106 #[.int .i64 wl, .int .i64 wh, .int .i64 tl, .int .i64 th, .int .i64 pl] rfl)
  have B0 := Lib.hid (below_self w (.cells #[.int .i64 wl, .int .i64 wh, .int .i64 tl, .int .i64 th, .int .i64 pl] 106))
  have G1 := Lib.hid (G0.out.alloc (.cells #[.int .i64 wl, .int .i64 wh] 23))
  have B1 := Lib.hid (below_alloc' B0.out (.cells #[.int .i64 wl, .int .i64 wh] 23))
  cases q1 : validS 1 10000 [(wl, wh)]
  · go_enter Try.func113, Try.ntmps113
    go_wp2_with (go_at_call 76; refine (valid1 _ _ _ _ _ _ _ (by simp)).mono ?_; rintro e w' ⟨rfl, hb⟩)
    go_ret
    exact ⟨ret_bool (by rw [HE.out, q1]; rfl), B1.out.trans (hb.mono (by simp <;> omega))⟩
  cases q2 : validS 1 100 [(tl, th)]
  · go_enter Try.func113, Try.ntmps113
    go_wp2_with fail
    refine (valid1 _ _ _ _ _ _ _ (by simp)).mono ?_
    rintro e w2 ⟨rfl, hb2⟩
    have G2 := Lib.hid (G1.out.below hb2 (by simp <;> omega))
    have B2 := Lib.hid (B1.out.trans (hb2.mono (by simp <;> omega)))
    have g2 := stk_get G2.out
    have hz2 : w.heap.size < w2.heap.size := G2.out.lt
    clear hb2
    go_wp2_with (go_at_call 76; refine (valid1 _ _ _ _ _ _ _ (by simp)).mono ?_; rintro e w' ⟨rfl, hb⟩)
    go_ret
    exact ⟨ret_bool (by rw [HE.out, q1, q2]; rfl), (below_alloc' B2.out _).trans (hb.mono (by omega))⟩
  · go_enter Try.func113, Try.ntmps113
    go_wp2_with fail
    refine (valid1 _ _ _ _ _ _ _ (by simp)).mono ?_
    rintro e w2 ⟨rfl, hb2⟩
    have G2 := Lib.hid (G1.out.below hb2 (by simp <;> omega))
    have B2 := Lib.hid (B1.out.trans (hb2.mono (by simp <;> omega)))
    have g2 := stk_get G2.out
    have hz2 : w.heap.size < w2.heap.size := G2.out.lt
    clear hb2
    go_wp2_with fail
    refine (valid1 _ _ _ _ _ _ _ (by simp)).mono ?_
    rintro e w3 ⟨rfl, hb3⟩
    have G3 := Lib.hid ((G2.out.alloc (.cells #[.int .i64 tl, .int .i64 th] 23)).below hb3 (by omega))
    have B3 := Lib.hid ((below_alloc' B2.out (.cells #[.int .i64 tl, .int .i64 th] 23)).trans (hb3.mono (by omega)))
    have g3 := stk_get G3.out
    clear hb3 g2
    go_wp2_with (go_at_call 73; refine (within1 _ _ _ _ _ _ (by simp)).mono ?_; rintro e w' ⟨rfl, rfl⟩)
    go_ret
    exact ⟨ret_bool (by rw [HE.out, q1, q2]; rfl), below_alloc' B3.out _⟩

set_option maxHeartbeats 1000000 in
theorem indexStk_any (A : Option Addr) (n c : Nat) (xs : List Stk) (w : World) (h : Stks w A n xs) (hn : n ≤ maxLen) :
    Calls Try.prog 122 #[.slice A n c, .func (.func 113) #[] #[]] w
      fun e w' => e = .returned (.int .i64 (idx (fun g => !stkOk g) xs)) ∧ Below w.heap.size w w' := by
  unfold maxLen at hn
  have hl := h.len
  generalize hpp : (fun g : Stk => !stkOk g) = p
  have hcall : ∀ (k : Stk) W, Calls Try.prog 113 #[.agg #[.int .i64 k.wl, .int .i64 k.wh, .int .i64 k.tl, .int .i64 k.th, .int .i64 k.pl]] W fun e w' => e = .returned (.bool (p k)) ∧ Below W.heap.size W w' := fun k W => by
    rw [← hpp]; exact wrongStk_any k.wl k.wh k.tl k.th k.pl W
  clear hpp
  have Hcall := Lib.hid hcall
  clear hcall
  go_enter Try.func122, Try.ntmps122
  go_wp2
  go_loopw [8] (fun i wr => ∃ k : Nat, k ≤ n ∧ i = .int .i64 k ∧ noneOf p (xs.take k) = true ∧ Below w.heap.size w wr) (fun i _ => n - (intOf i).toNat)
  case atStart => exact ⟨0, Nat.zero_le _, rfl, rfl, Below.refl _ _⟩
  case round =>
    obtain ⟨k, hk, rfl, hin, hbel⟩ := hrel
    by_cases hlt : k < n
    · obtain ⟨bb, off, rfl, hb, hc0, hc1, hc2, hc3, hc4⟩ := (h.below hbel).at_ hlt
      have H := Lib.hid (noneOf_succ (p := p) Stk.zero (xs := xs) (k := k) (by omega))
      have Hin := Lib.hid hin
      have Hit := Lib.hid (idx_hit (p := p) Stk.zero (xs := xs) (k := k) (by omega) hin)
      clear hin hl
      generalize xs.getD k Stk.zero = y at *
      have C := Lib.hid (Hcall.out y wr)
      cases hq : p y
      · go_wp2_with (go_at_call 113; refine C.out.mono ?_; rintro e w2 ⟨rfl, hb2⟩)
        go_roundw
        case rel => exact ⟨k + 1, by omega, by go_num, by rw [H.out, Hin.out, hq]; rfl, hbel.trans (hb2.mono hbel.size)⟩
        case measure => simp [intOf]; omega
      · go_wp2_with (go_at_call 113; refine C.out.mono ?_; rintro e w2 ⟨rfl, hb2⟩)
        go_ret
        exact ⟨ret_int (Hit.out hq).symm, hbel.trans (hb2.mono hbel.size)⟩
    · have he : idx p xs = -1 := idx_none (by rw [← hin, List.take_of_length_le (by omega)])
      clear hin
      have He := Lib.hid he
      clear he
      go_wp2
      go_ret
      exact ⟨ret_int He.out.symm, hbel⟩
theorem containsStk_any (A : Option Addr) (n c : Nat) (xs : List Stk) (w : World) (h : Stks w A n xs) (hn : n ≤ maxLen) :
    Calls Try.prog 114 #[.slice A n c, .func (.func 113) #[] #[]] w
      fun e w' => e = .returned (.bool (xs.any (fun g => !stkOk g))) ∧ Below w.heap.size w w' := by
  have C := Lib.hid (indexStk_any A n c xs w h hn)
  have HE := Lib.hid (idx_any (p := (fun g => !stkOk g)) (xs := xs))
  generalize (xs.any (fun g => !stkOk g)) = r at *
  generalize idx (fun g => !stkOk g) xs = i at *
  go_enter Try.func114, Try.ntmps114
  go_wp2_with (go_at_call 122; refine C.out.mono ?_; rintro e w2 ⟨rfl, hb2⟩)
  go_ret
  exact ⟨ret_bool HE.out, hb2⟩
def stkErr (l : List Stk) : Int := if 12 < l.length then 5 else if l.any (fun g => !stkOk g) = true then 2 else 0
set_option maxHeartbeats 1000000 in
theorem sticksError_any (l : List Stk) (A : Option Addr) (n c : Nat) (w : World) (h : Stks w A n l) (hn : n ≤ maxLen) :
    Calls Try.prog 85 #[.slice A n c] w fun e w' => e = .returned (.int .i64 (stkErr l)) ∧ Below w.heap.size w w' := by
  have hl := h.len
  have HE : Hid (stkErr l = if 12 < n then 5 else if l.any (fun g => !stkOk g) = true then 2 else 0) := by unfold Hid stkErr; rw [hl]
  have C := Lib.hid (containsStk_any A n c l w h hn)
  unfold maxLen at hn
  clear h hl
  generalize stkErr l = r at *
  by_cases h6 : 12 < n
  · go_enter Try.func85, Try.ntmps85
    go_wp2
    go_ret
    exact ⟨ret_int (by rw [HE.out]; simp [h6]), Below.refl _ _⟩
  cases q2 : l.any (fun g => !stkOk g)
  · rw [q2] at C HE
    go_enter Try.func85, Try.ntmps85
    go_wp2_with (go_at_call 114; refine C.out.mono ?_; rintro e w3 ⟨rfl, hb3⟩)
    go_ret
    exact ⟨ret_int (by rw [HE.out]; simp [h6]), hb3⟩
  · rw [q2] at C HE
    go_enter Try.func85, Try.ntmps85
    go_wp2_with (go_at_call 114; refine C.out.mono ?_; rintro e w3 ⟨rfl, hb3⟩)
    go_ret
    exact ⟨ret_int (by rw [HE.out]; simp [h6]), hb3⟩
theorem stkB_of {l : List Stk} (h : stkErr l = 0) : StkB l := by
  unfold stkErr at h
  split at h
  · omega
  rename_i h2
  split at h
  · omega
  rename_i h3
  refine ⟨by omega, fun s hs => ?_⟩
  have h4 : stkOk s = true := by
    cases hq : stkOk s
    · exact absurd (List.any_eq_true.2 ⟨s, hs, by rw [hq]; rfl⟩) h3
    · rfl
  simp [stkOk, validS, within] at h4
  omega

theorem rat2_get {W : World} {g : Nat} {x0 x1 : Value} (h : Blk W g 77 #[x0, x1]) : W.cell? ⟨g, 0, none⟩ = some x0 ∧ W.cell? ⟨g, 1, none⟩ = some x1 := ⟨h.cell 0, h.cell 1⟩
/-- A ratio in lowest terms. -/
def lowL (p q : Nat) : Int × Int := (((p / Nat.gcd p q : Nat) : Int), ((q / Nat.gcd p q : Nat) : Int))
set_option maxRecDepth 100000 in
set_option maxHeartbeats 1000000 in
theorem lowest_any (p q : Nat) (w : World) (hp : p ≤ 1000000000) (hq1 : 1 ≤ q) (hq : q ≤ 1000000000) :
    Calls Try.prog 89 #[.agg #[.int .i64 p, .int .i64 q]] w fun e w' => e = .returned (.agg #[.int .i64 (lowL p q).1, .int .i64 (lowL p q).2]) ∧ Below w.heap.size w w' := by
  have E0 := Lib.hid (Env2.start w 77 77 #[.int .i64 p, .int .i64 q] #[.int .i64 0, .int .i64 0])
  have HO : Hid (lowL p q = (((p / Nat.gcd p q : Nat) : Int), ((q / Nat.gcd p q : Nat) : Int))) := rfl
  generalize lowL p q = r at *
  have HG0 := Lib.hid (show Nat.gcd q p = Nat.gcd p q from Nat.gcd_comm _ _)
  have HG1 := Lib.hid (show 1 ≤ Nat.gcd p q from Nat.gcd_pos_of_pos_right _ hq1)
  have HG2 := Lib.hid (show Nat.gcd p q ≤ q from Nat.gcd_le_right _ hq1)
  generalize Nat.gcd p q = g at *
  have hn0 : (0 : Int) ≤ (p : Int) := by omega
  have hn1 : (0 : Int) ≤ (q : Int) := by omega
  go_enter Try.func89, Try.ntmps89
  go_wp2
  go_quiet (fail)
  go_wp2_with fail
  go_loopw [3, 4] (fun x y wr => ∃ a b m : Nat, x = .int .i64 a ∧ y = .int .i64 b ∧ Nat.gcd a b = g ∧ a ≤ 1000000000 ∧ b ≤ 1000000000 ∧ Env2 w wr 77 77 #[.int .i64 p, .int .i64 q] #[.int .i64 0, .int .i64 0]) (fun _ y _ => (intOf y).toNat)
  case atStart => exact ⟨q, p, 0, rfl, rfl, HG0.out, by omega, by omega, ⟨E0.out.p, E0.out.q, below_drewN E0.out.bel _⟩⟩
  case round =>
    obtain ⟨a, b, m, rfl, rfl, hg, ha, hb, hE⟩ := hrel
    have HGG := Lib.hid hg
    have E1 := Lib.hid hE
    clear hg hE
    by_cases hz : b = 0
    · subst hz
      have hag : Hid (a = g) := by have := HGG.out; rw [Nat.gcd_zero_right] at this; exact this
      have hg1 := HG1.out
      have hg2 := HG2.out
      have hag' := hag.out
      have ha0 : ¬ (a : Int) = 0 := by omega
      have ha1 : ((a : Int) = 0) = False := by simpa using ha0
      have ha2 : ((a : Int) == 0) = false := by simpa using ha0
      have ha3 : (a = 0) = False := by simp; omega
      have ha4 : (a == 0) = false := by simp; omega
      have ha5 : ¬ a = 0 := by omega
      have r1 := rat_get E1.out.q
      obtain ⟨d1, hd1⟩ : ∃ d, d = p / g := ⟨_, rfl⟩
      obtain ⟨d2, hd2⟩ : ∃ d, d = q / g := ⟨_, rfl⟩
      have t1 : (p : Int).tdiv (a : Int) = (d1 : Int) := by rw [Int.tdiv_eq_ediv_of_nonneg hn0, hag', hd1]; rfl
      have t2 : (q : Int).tdiv (a : Int) = (d2 : Int) := by rw [Int.tdiv_eq_ediv_of_nonneg hn1, hag', hd2]; rfl
      have b1 : d1 ≤ p := by rw [hd1]; exact Nat.div_le_self p g
      have b2 : d2 ≤ q := by rw [hd2]; exact Nat.div_le_self q g
      have w1 : IntKind.i64.wrap (d1 : Int) = (d1 : Int) := IntWalk.i64_in _ (by omega)
      have w2 : IntKind.i64.wrap (d2 : Int) = (d2 : Int) := IntWalk.i64_in _ (by omega)
      have hr := Lib.hid (show r = ((d1 : Int), (d2 : Int)) from by rw [hd1, hd2]; exact HO.out)
      clear hag' b1 b2 hg1 hg2 hd1 hd2
      have E1d := Lib.hid E1.out.drewd
      go_wp2_with fail
      have p1 := rat2_get E1d.out.p
      have r1d := rat_get E1d.out.q
      go_still_tail 9, (by kernel_rfl)
      change wpList _ _ _ _ _ wr.drew
      generalize wr.drew = w2 at *
      go_wp2
      exact bodyPost_ret (results_c rfl _ _ _ (w.heap.size + 1) _ _ _ rfl ((E1d.out.q.set_ 0 _).set_ 1 _) Try.underlying77 (by kernel_rfl)) rfl ⟨by rw [hr.out]; rfl, (E1d.out.bel.setCell (p := ⟨w.heap.size + 1, 0, none⟩) (by simp) _).setCell (p := ⟨w.heap.size + 1, 1, none⟩) (by simp) _⟩
    · have hb0 : ¬ (b : Int) = 0 := by omega
      have hb1 : ((b : Int) = 0) = False := by simpa using hb0
      have hb2 : ((b : Int) == 0) = false := by simpa using hb0
      have t1 : (a : Int).tmod (b : Int) = ((a % b : Nat) : Int) := by rw [Int.tmod_eq_emod_of_nonneg (by omega)]; rfl
      have hlt : a % b < b := Nat.mod_lt _ (by omega)
      have w1 : IntKind.i64.wrap ((a % b : Nat) : Int) = ((a % b : Nat) : Int) := IntWalk.i64_in _ (by omega)
      have hgg : Hid (Nat.gcd b (a % b) = g) := by unfold Hid; rw [← HGG.out, Nat.gcd_comm a b]; exact (Nat.gcd_rec b a).symm ▸ (by rw [Nat.gcd_comm])
      generalize a % b = z at *
      go_wp2
      go_quiet (fail)
      go_wp2_with fail
      go_roundw
      case rel => exact ⟨b, z, 0, rfl, rfl, hgg.out, by omega, by omega, ⟨E1.out.p, E1.out.q, below_drewN E1.out.bel _⟩⟩
      case measure => simp [intOf]; omega
end Go.Proofs.Ytdekickmplkdiaa

/- Walks: Balance. -/
namespace Go.Proofs.Ytdekickmplkdiaa
open Go.RowKit

def ratsL (u : Bool) (l : List Stk) : List (Int × Int) := l.map fun s => (numB u s.pl l, denB u s.pl l)
def balL (u : Bool) (l : List Stk) : Int × Int := pickGo u (ratsL u l) (l.length - 1)
theorem rats_B {l : List Stk} (h : StkB l) (u : Bool) : ∀ r ∈ ratsL u l, RatB r := by
  intro r hr
  obtain ⟨s, _, rfl⟩ := List.mem_map.1 hr
  have h1 := numB_bd h u s.pl
  have h2 := denB_bd h u s.pl
  exact ⟨⟨h1.1, by omega⟩, by omega, by omega⟩
theorem rats_take (u : Bool) (l : List Stk) (k : Nat) (hk : k < l.length) : flat2 ((ratsL u l).take (k + 1)) = flat2 ((ratsL u l).take k) ++ [.int .i64 (numB u (l.getD k Stk.zero).pl l), .int .i64 (denB u (l.getD k Stk.zero).pl l)] := by
  have e : l.getD k Stk.zero = l[k] := by simp [List.getD, hk]
  rw [e, List.take_succ_eq_append_getElem (by simpa [ratsL] using hk)]
  simp [flat2, ratsL]
theorem own_pairs {W : World} {base n : Nat} {t : TypeId} {v : Value} {xs : List (Int × Int)} (h : W.ownsRow base t 2 v n (flat2 xs)) : ∃ A c, v = .slice A n c ∧ Pairs W A n xs := by
  rcases Nat.eq_zero_or_pos n with rfl | hp
  · obtain ⟨A, c, rfl⟩ := own_slice h
    have := h.1
    exact ⟨A, c, rfl, ⟨by simpa using this, fun h => absurd h (by omega)⟩⟩
  · obtain ⟨g, c, rfl⟩ := own_form h hp
    exact ⟨_, c, rfl, pairs_of_own h⟩

set_option maxRecDepth 100000 in
set_option maxHeartbeats 4000000 in
theorem balance_any (u : Bool) (l : List Stk) (A : Option Addr) (n c : Nat) (w : World) (hs : StkB l) (h : Stks w A n l) (h0 : 0 < n) :
    Calls Try.prog 90 #[.agg (endA u), .slice A n c] w fun e w' => e = .returned (.agg #[.int .i64 (balL u l).1, .int .i64 (balL u l).2]) ∧ Below w.heap.size w w' := by
  obtain ⟨i0, hi0, hz0, hz1, hz2⟩ := info_parts Try.infoRatio
  have hl := h.len
  have hn := hs.n
  rw [hl] at hn
  have HG := Lib.hid h
  have Hl := Lib.hid hl
  have E0 := Lib.hid (Env2.start w 117 77 (endA u) #[.int .i64 0, .int .i64 0])
  have HT := Lib.hid (fun k (hk : k < n) => rats_take u l k (by omega))
  have HC := Lib.hid (fun (p : Int) W (hb : Below w.heap.size w W) => behind_any u l p A n c W hs (h.below hb))
  have HPK : Hid (∀ (B : Option Addr) (d : Nat) (W : World), Pairs W B n (ratsL u l) → Calls Try.prog (bif u then 106 else 101) #[.slice B n d] W fun e w' => e = .returned (.agg #[.int .i64 (balL u l).1, .int .i64 (balL u l).2]) ∧ Below W.heap.size W w') := by
    intro B d W hP
    unfold balL
    rw [hl]
    cases u
    · exact pickfalse_any (ratsL false l) B n d W hP h0 (by omega) (rats_B hs false)
    · exact picktrue_any (ratsL true l) B n d W hP h0 (by omega) (rats_B hs true)
  have HA := Lib.hid (show (ratsL u l).take n = ratsL u l from List.take_of_length_le (by simp [ratsL, hl]))
  clear hl h hs
  generalize balL u l = z at *
  obtain ⟨z1, z2⟩ := z
  generalize ratsL u l = rs at *
  have HN : Hid (∀ p, numB u p l = numB u p l) := fun _ => rfl
  generalize hnum : (fun p => numB u p l) = num at *
  generalize hden : (fun p => denB u p l) = den at *
  have en : ∀ p, numB u p l = num p := fun p => by rw [← hnum]
  have ed : ∀ p, denB u p l = den p := fun p => by rw [← hden]
  simp only [en, ed] at HT HC
  clear en ed hnum hden HN
  cases u <;> simp only [endA, cond_true, cond_false] at *
  · go_enter Try.func90, Try.ntmps90
    go_wp2
    go_loopw [5, 10] (fun s i wr => ∃ (k : Nat) (v : Value), k ≤ n ∧ i = .int .i64 k ∧ s = v ∧ wr.ownsRow (w.heap.size + 2) 77 2 v k (flat2 (rs.take k)) ∧ Env2 w wr 117 77 #[.func (.func 99) #[] #[], .func (.func 100) #[] #[], .func (.func 101) #[] #[]] #[.int .i64 0, .int .i64 0]) (fun _ i _ => n - (intOf i).toNat)
    case atStart => exact ⟨0, _, Nat.zero_le _, rfl, rfl, World.ownsRow_nil _ _ _ _, E0.out⟩
    case round =>
      obtain ⟨k, v, hk, rfl, rfl, hown, hE⟩ := hrel
      have O1 := Lib.hid hown
      have E1 := Lib.hid hE
      clear hown hE
      by_cases hlt : k < n
      · obtain ⟨b, off, rfl, hb, hc0, hc1, hc2, hc3, hc4⟩ := (HG.out.below E1.out.bel).at_ hlt
        have HS := Lib.hid (HT.out k hlt)
        generalize l.getD k Stk.zero = y at *
        obtain ⟨yl, yh, zl, zh, pl⟩ := y
        simp only at hc0 hc1 hc2 hc3 hc4 HS
        have bs := below_self wr (.cells #[.int .i64 yl, .int .i64 yh, .int .i64 zl, .int .i64 zh, .int .i64 pl] 106)
        have E2 := Lib.hid (E1.out.below bs)
        have O2 := Lib.hid (ownsRow_below O1.out bs)
        have C := Lib.hid (HC.out pl _ E2.out.bel)
        have x2 := end_get E2.out.p
        clear bs
        generalize num pl = r1 at *
        generalize den pl = r2 at *
        go_wp2_with fail
        refine C.out.mono ?_
        rintro e W4 ⟨rfl, hb4⟩
        have E4 := Lib.hid (E2.out.below hb4)
        have O4 := Lib.hid (ownsRow_below O2.out hb4)
        clear hb4 x2 hc0 hc1 hc2 hc3 hc4
        go_wp2_with (at_builtin; refine wpList_append_any rfl _ _ 143 rfl (w.heap.size + 2) 77 i0 (.agg #[.int .i64 0, .int .i64 0]) 2 16 Try.underlying143 hi0 hz0 hz1 hz2 rfl (by decide) _ k _ rfl (O4.out.alloc _) (some ⟨W4.heap.size, 0, none⟩) 1 1 [.int .i64 r1, .int .i64 r2] rfl (pairs_new1 W4 r1 r2 _ rfl) ?cfalse1 ?cfalse2 ?cfalse3 ?cfalse4 ?_)
        case cfalse1 => intro u hu; simp only [List.mem_cons, List.not_mem_nil, or_false] at hu; rcases hu with rfl | rfl <;> rfl
        case cfalse2 => unfold maxLen; omega
        case cfalse3 => omega
        case cfalse4 => have := E4.out.q.lt; simp; omega
        intro v' W5 hown5 hgrow
        have O5 : Hid (W5.ownsRow (w.heap.size + 2) 77 2 v' (k + 1) (flat2 (rs.take (k + 1)))) := by unfold Hid; rw [HS.out]; exact hown5
        have hne5 : u5.ownBlock ≠ some (w.heap.size + 1) := fun e => by have := (O4.out.lt _ e).1; omega
        have hz4 := E4.out.q.lt
        have E5 : Hid (Env2 w W5 117 77 #[.func (.func 99) #[] #[], .func (.func 100) #[] #[], .func (.func 101) #[] #[]] #[.int .i64 0, .int .i64 0]) := ⟨(E4.out.p.alloc _).grown hgrow (own_blk_ne O4.out E4.out.p (by decide)), (E4.out.q.alloc _).grown hgrow hne5, (E4.out.bel.alloc E4.out.bel.size _).grown hgrow (by have := E4.out.bel.size; simp; omega) (fun q e => by have := (O4.out.lt q e.symm.symm).1; omega)⟩
        clear hown5 hgrow hne5 hz4
        go_wp2
        go_roundw
        case rel => exact ⟨k + 1, _, by omega, by go_num, rfl, O5.out, E5.out⟩
        case measure => simp [intOf]; omega
      · obtain rfl : k = n := by omega
        have ho := O1.out
        rw [HA.out] at ho
        obtain ⟨B, d, hv, hP⟩ := own_pairs ho
        subst hv
        have C := Lib.hid (HPK.out B d wr hP)
        have x1 := end_get E1.out.p
        clear ho hP
        go_wp2_with fail
        refine C.out.mono ?_
        rintro e W4 ⟨rfl, hb4⟩
        have E4 := Lib.hid (E1.out.below hb4)
        have q4 := rat_get E4.out.q
        clear hb4 x1
        go_wp2
        exact bodyPost_ret (results_c rfl _ _ _ (w.heap.size + 1) _ _ _ rfl ((E4.out.q.set_ 0 _).set_ 1 _) Try.underlying77 (by kernel_rfl)) rfl ⟨rfl, (E4.out.bel.setCell (p := ⟨w.heap.size + 1, 0, none⟩) (by simp) _).setCell (p := ⟨w.heap.size + 1, 1, none⟩) (by simp) _⟩
  · go_enter Try.func90, Try.ntmps90
    go_wp2
    go_loopw [5, 10] (fun s i wr => ∃ (k : Nat) (v : Value), k ≤ n ∧ i = .int .i64 k ∧ s = v ∧ wr.ownsRow (w.heap.size + 2) 77 2 v k (flat2 (rs.take k)) ∧ Env2 w wr 117 77 #[.func (.func 100) #[] #[], .func (.func 99) #[] #[], .func (.func 106) #[] #[]] #[.int .i64 0, .int .i64 0]) (fun _ i _ => n - (intOf i).toNat)
    case atStart => exact ⟨0, _, Nat.zero_le _, rfl, rfl, World.ownsRow_nil _ _ _ _, E0.out⟩
    case round =>
      obtain ⟨k, v, hk, rfl, rfl, hown, hE⟩ := hrel
      have O1 := Lib.hid hown
      have E1 := Lib.hid hE
      clear hown hE
      by_cases hlt : k < n
      · obtain ⟨b, off, rfl, hb, hc0, hc1, hc2, hc3, hc4⟩ := (HG.out.below E1.out.bel).at_ hlt
        have HS := Lib.hid (HT.out k hlt)
        generalize l.getD k Stk.zero = y at *
        obtain ⟨yl, yh, zl, zh, pl⟩ := y
        simp only at hc0 hc1 hc2 hc3 hc4 HS
        have bs := below_self wr (.cells #[.int .i64 yl, .int .i64 yh, .int .i64 zl, .int .i64 zh, .int .i64 pl] 106)
        have E2 := Lib.hid (E1.out.below bs)
        have O2 := Lib.hid (ownsRow_below O1.out bs)
        have C := Lib.hid (HC.out pl _ E2.out.bel)
        have x2 := end_get E2.out.p
        clear bs
        generalize num pl = r1 at *
        generalize den pl = r2 at *
        go_wp2_with fail
        refine C.out.mono ?_
        rintro e W4 ⟨rfl, hb4⟩
        have E4 := Lib.hid (E2.out.below hb4)
        have O4 := Lib.hid (ownsRow_below O2.out hb4)
        clear hb4 x2 hc0 hc1 hc2 hc3 hc4
        go_wp2_with (at_builtin; refine wpList_append_any rfl _ _ 143 rfl (w.heap.size + 2) 77 i0 (.agg #[.int .i64 0, .int .i64 0]) 2 16 Try.underlying143 hi0 hz0 hz1 hz2 rfl (by decide) _ k _ rfl (O4.out.alloc _) (some ⟨W4.heap.size, 0, none⟩) 1 1 [.int .i64 r1, .int .i64 r2] rfl (pairs_new1 W4 r1 r2 _ rfl) ?ctrue1 ?ctrue2 ?ctrue3 ?ctrue4 ?_)
        case ctrue1 => intro u hu; simp only [List.mem_cons, List.not_mem_nil, or_false] at hu; rcases hu with rfl | rfl <;> rfl
        case ctrue2 => unfold maxLen; omega
        case ctrue3 => omega
        case ctrue4 => have := E4.out.q.lt; simp; omega
        intro v' W5 hown5 hgrow
        have O5 : Hid (W5.ownsRow (w.heap.size + 2) 77 2 v' (k + 1) (flat2 (rs.take (k + 1)))) := by unfold Hid; rw [HS.out]; exact hown5
        have hne5 : u5.ownBlock ≠ some (w.heap.size + 1) := fun e => by have := (O4.out.lt _ e).1; omega
        have hz4 := E4.out.q.lt
        have E5 : Hid (Env2 w W5 117 77 #[.func (.func 100) #[] #[], .func (.func 99) #[] #[], .func (.func 106) #[] #[]] #[.int .i64 0, .int .i64 0]) := ⟨(E4.out.p.alloc _).grown hgrow (own_blk_ne O4.out E4.out.p (by decide)), (E4.out.q.alloc _).grown hgrow hne5, (E4.out.bel.alloc E4.out.bel.size _).grown hgrow (by have := E4.out.bel.size; simp; omega) (fun q e => by have := (O4.out.lt q e.symm.symm).1; omega)⟩
        clear hown5 hgrow hne5 hz4
        go_wp2
        go_roundw
        case rel => exact ⟨k + 1, _, by omega, by go_num, rfl, O5.out, E5.out⟩
        case measure => simp [intOf]; omega
      · obtain rfl : k = n := by omega
        have ho := O1.out
        rw [HA.out] at ho
        obtain ⟨B, d, hv, hP⟩ := own_pairs ho
        subst hv
        have C := Lib.hid (HPK.out B d wr hP)
        have x1 := end_get E1.out.p
        clear ho hP
        go_wp2_with fail
        refine C.out.mono ?_
        rintro e W4 ⟨rfl, hb4⟩
        have E4 := Lib.hid (E1.out.below hb4)
        have q4 := rat_get E4.out.q
        clear hb4 x1
        go_wp2
        exact bodyPost_ret (results_c rfl _ _ _ (w.heap.size + 1) _ _ _ rfl ((E4.out.q.set_ 0 _).set_ 1 _) Try.underlying77 (by kernel_rfl)) rfl ⟨rfl, (E4.out.bel.setCell (p := ⟨w.heap.size + 1, 0, none⟩) (by simp) _).setCell (p := ⟨w.heap.size + 1, 1, none⟩) (by simp) _⟩
end Go.Proofs.Ytdekickmplkdiaa

/- Walks: Balance, its face. -/
namespace Go.Proofs.Ytdekickmplkdiaa
open Go.RowKit

theorem results_cct {fn : Func} {p q u : Tmp} {ty ty' : TypeId} (h : fn.results = #[.cell p ty, .cell q ty', .tmp u]) (tmps : Array Value) (P : Program) (w : World) (g g' : Nat) (t t' : TypeId) (cs cs' : Array Value) (fs fs' : Array Field)
    (hp : tmps.getD p undef = .pointer (some ⟨g, 0, none⟩)) (hg : Blk w g t cs) (hu : P.underlying ty = some (.struct fs)) (hi : (P.info? ty).map (·.size) = some cs.size)
    (hq : tmps.getD q undef = .pointer (some ⟨g', 0, none⟩)) (hg' : Blk w g' t' cs') (hu' : P.underlying ty' = some (.struct fs')) (hi' : (P.info? ty').map (·.size) = some cs'.size) :
    (results fn tmps).run P w = .ok (.tuple #[.agg cs, .agg cs', tmps.getD u undef]) w := by
  have e1 := run_loadVar_row (P := P) w g t ty cs (0, 0) _ hg hu rfl hi
  have e2 := run_loadVar_row (P := P) w g' t' ty' cs' (0, 0) _ hg' hu' rfl hi'
  simp only [results, h]
  simp at hp hq
  simp [Sem.run_bind, Result.andThen, hp, hq, asAddr, e1, e2]
theorem pick_mem {u : Bool} {rs : List (Int × Int)} (k : Nat) (hk : k < rs.length) : pickGo u rs k ∈ rs := by
  have hg : ∀ i, i < rs.length → rs.getD i (0, 0) ∈ rs := fun i hi => by
    have e : rs.getD i (0, 0) = rs[i] := by simp [List.getD, hi]
    rw [e]; exact List.getElem_mem hi
  induction k with
  | zero => exact hg 0 hk
  | succ k ih =>
    rw [pickGo]
    split
    · exact hg _ hk
    · exact ih (by omega)
theorem bal_bd {l : List Stk} (h : StkB l) (h0 : 0 < l.length) (u : Bool) : 0 ≤ (balL u l).1 ∧ (balL u l).1 ≤ 1000000000 ∧ 1 ≤ (balL u l).2 ∧ (balL u l).2 ≤ 1000000000 := by
  have hm := pick_mem (u := u) (rs := ratsL u l) (l.length - 1) (by simp only [ratsL, List.length_map]; omega)
  obtain ⟨s, _, hs⟩ := List.mem_map.1 hm
  have h1 := numB_bd h u s.pl
  have h2 := denB_bd h u s.pl
  have hn := h.n
  unfold balL
  rw [← hs]
  simp only
  omega
def lowR (r : Int × Int) : Int × Int := lowL r.1.toNat r.2.toNat
/-- The least and the greatest place, and the error. -/
def balR (l : List Stk) : (Int × Int) × (Int × Int) × Int :=
  if stkErr l = 0 then (if l.length = 0 then ((0, 0), (0, 0), 7) else (lowR (balL false l), lowR (balL true l), 0)) else ((0, 0), (0, 0), stkErr l)
theorem lowR_any (r : Int × Int) (w : World) (h : 0 ≤ r.1 ∧ r.1 ≤ 1000000000 ∧ 1 ≤ r.2 ∧ r.2 ≤ 1000000000) :
    Calls Try.prog 89 #[.agg #[.int .i64 r.1, .int .i64 r.2]] w fun e w' => e = .returned (.agg #[.int .i64 (lowR r).1, .int .i64 (lowR r).2]) ∧ Below w.heap.size w w' := by
  have := lowest_any r.1.toNat r.2.toNat w (by omega) (by omega) (by omega)
  rw [Int.toNat_of_nonneg h.1, Int.toNat_of_nonneg (by omega)] at this
  exact this

set_option maxRecDepth 100000 in
set_option maxHeartbeats 2000000 in
theorem Balance_any (l : List Stk) (A : Option Addr) (n c : Nat) (w : World) (h : Stks w A n l) (hn : n ≤ maxLen) :
    Calls Try.prog 46 #[.slice A n c] w fun e w' => e = .returned (.tuple #[.agg #[.int .i64 (balR l).1.1, .int .i64 (balR l).1.2], .agg #[.int .i64 (balR l).2.1.1, .int .i64 (balR l).2.1.2], .int .i64 (balR l).2.2]) ∧ Below w.heap.size w w' := by
  have hl := h.len
  have E0 := Lib.hid (Env2.start w 77 77 #[.int .i64 0, .int .i64 0] #[.int .i64 0, .int .i64 0])
  have HF := Lib.hid (fun W (hb : Below w.heap.size w W) => sticksError_any l A n c W (h.below hb) hn)
  by_cases hE : stkErr l = 0
  · rw [hE] at HF
    by_cases hz : n = 0
    · have HO : Hid (balR l = ((0, 0), (0, 0), 7)) := by unfold Hid balR; rw [if_pos hE, hl, if_pos hz]
      clear h hn hE hl
      subst hz
      generalize balR l = r at *
      go_enter Try.func46, Try.ntmps46
      go_wp2_with fail
      refine (HF.out _ E0.out.bel).mono ?_
      rintro e W1 ⟨rfl, hb1⟩
      have E1 := Lib.hid (E0.out.below hb1)
      have p1 := rat_get E1.out.p
      have q1 := rat_get E1.out.q
      clear hb1
      go_wp2
      exact bodyPost_ret (results_cct rfl _ _ _ w.heap.size (w.heap.size + 1) _ _ _ _ _ _ rfl ((((E1.out.p.set_ 0 _).set_ 1 _).far (p := ⟨w.heap.size + 1, 0, none⟩) (by simp) _).far (p := ⟨w.heap.size + 1, 1, none⟩) (by simp) _) Try.underlying77 (by kernel_rfl) rfl ((((E1.out.q.far (p := ⟨w.heap.size, 0, none⟩) (by simp) _).far (p := ⟨w.heap.size, 1, none⟩) (by simp) _).set_ 0 _).set_ 1 _) Try.underlying77 (by kernel_rfl)) rfl
        ⟨by rw [HO.out]; rfl, (((E1.out.bel.setCell (p := ⟨w.heap.size, 0, none⟩) (Nat.le_refl _) _).setCell (p := ⟨w.heap.size, 1, none⟩) (Nat.le_refl _) _).setCell (p := ⟨w.heap.size + 1, 0, none⟩) (by simp) _).setCell (p := ⟨w.heap.size + 1, 1, none⟩) (by simp) _⟩
    · have HO : Hid (balR l = (lowR (balL false l), lowR (balL true l), 0)) := by unfold Hid balR; rw [if_pos hE, hl, if_neg hz]
      have hs := stkB_of hE
      have h0 : 0 < n := by omega
      have H1 := Lib.hid (fun W (hb : Below w.heap.size w W) => balance_any false l A n c W hs (h.below hb) h0)
      have H2 := Lib.hid (fun W (hb : Below w.heap.size w W) => balance_any true l A n c W hs (h.below hb) h0)
      have H3 := Lib.hid (fun W => lowR_any (balL false l) W (bal_bd hs (by omega) false))
      have H4 := Lib.hid (fun W => lowR_any (balL true l) W (bal_bd hs (by omega) true))
      have L1 := Lib.hid leastEnd_any
      have L2 := Lib.hid mostEnd_any
      have hz1 : ((n : Int) == 0) = false := by simpa using hz
      have hz2 : decide (n = 0) = false := by simpa using hz
      clear h hn hE hl hs
      generalize balR l = r at *
      generalize balL false l = b1 at *
      generalize balL true l = b2 at *
      generalize lowR b1 = r1 at *
      generalize lowR b2 = r2 at *
      obtain ⟨x1, y1⟩ := r1
      obtain ⟨x2, y2⟩ := r2
      simp only [endA] at *
      go_enter Try.func46, Try.ntmps46
      go_wp2_with fail
      refine (HF.out _ E0.out.bel).mono ?_
      rintro e W1 ⟨rfl, hb1⟩
      have E1 := Lib.hid (E0.out.below hb1)
      clear hb1
      go_wp2_with fail
      refine (L1.out _).mono ?_
      rintro e W2 ⟨rfl, hb2⟩
      have E2 := Lib.hid (E1.out.below hb2)
      clear hb2
      go_wp2_with fail
      refine (H1.out _ E2.out.bel).mono ?_
      rintro e W3 ⟨rfl, hb3⟩
      have E3 := Lib.hid (E2.out.below hb3)
      clear hb3
      go_wp2_with fail
      refine (H3.out _).mono ?_
      rintro e W4 ⟨rfl, hb4⟩
      have E4 := Lib.hid (E3.out.below hb4)
      clear hb4
      go_wp2_with fail
      refine (L2.out _).mono ?_
      rintro e W5 ⟨rfl, hb5⟩
      have E5 := Lib.hid (E4.out.below hb5)
      clear hb5
      go_wp2_with fail
      refine (H2.out _ E5.out.bel).mono ?_
      rintro e W6 ⟨rfl, hb6⟩
      have E6 := Lib.hid (E5.out.below hb6)
      clear hb6
      go_wp2_with fail
      refine (H4.out _).mono ?_
      rintro e W7 ⟨rfl, hb7⟩
      have E7 := Lib.hid (E6.out.below hb7)
      have p1 := rat_get E7.out.p
      have q1 := rat_get E7.out.q
      clear hb7
      go_wp2
      exact bodyPost_ret (results_cct rfl _ _ _ w.heap.size (w.heap.size + 1) _ _ _ _ _ _ rfl ((((E7.out.p.set_ 0 _).set_ 1 _).far (p := ⟨w.heap.size + 1, 0, none⟩) (by simp) _).far (p := ⟨w.heap.size + 1, 1, none⟩) (by simp) _) Try.underlying77 (by kernel_rfl) rfl ((((E7.out.q.far (p := ⟨w.heap.size, 0, none⟩) (by simp) _).far (p := ⟨w.heap.size, 1, none⟩) (by simp) _).set_ 0 _).set_ 1 _) Try.underlying77 (by kernel_rfl)) rfl
        ⟨by rw [HO.out]; rfl, (((E7.out.bel.setCell (p := ⟨w.heap.size, 0, none⟩) (Nat.le_refl _) _).setCell (p := ⟨w.heap.size, 1, none⟩) (Nat.le_refl _) _).setCell (p := ⟨w.heap.size + 1, 0, none⟩) (by simp) _).setCell (p := ⟨w.heap.size + 1, 1, none⟩) (by simp) _⟩
  · have HO : Hid (balR l = ((0, 0), (0, 0), stkErr l)) := if_neg hE
    have he1 : decide (stkErr l = 0) = false := by simpa using hE
    clear h hn hl
    generalize balR l = r at *
    generalize stkErr l = e0 at *
    go_enter Try.func46, Try.ntmps46
    go_wp2_with fail
    refine (HF.out _ E0.out.bel).mono ?_
    rintro e W1 ⟨rfl, hb1⟩
    have E1 := Lib.hid (E0.out.below hb1)
    have p1 := rat_get E1.out.p
    have q1 := rat_get E1.out.q
    clear hb1
    go_wp2
    exact bodyPost_ret (results_cct rfl _ _ _ w.heap.size (w.heap.size + 1) _ _ _ _ _ _ rfl ((((E1.out.p.set_ 0 _).set_ 1 _).far (p := ⟨w.heap.size + 1, 0, none⟩) (by simp) _).far (p := ⟨w.heap.size + 1, 1, none⟩) (by simp) _) Try.underlying77 (by kernel_rfl) rfl ((((E1.out.q.far (p := ⟨w.heap.size, 0, none⟩) (by simp) _).far (p := ⟨w.heap.size, 1, none⟩) (by simp) _).set_ 0 _).set_ 1 _) Try.underlying77 (by kernel_rfl)) rfl
      ⟨by rw [HO.out]; rfl, (((E1.out.bel.setCell (p := ⟨w.heap.size, 0, none⟩) (Nat.le_refl _) _).setCell (p := ⟨w.heap.size, 1, none⟩) (Nat.le_refl _) _).setCell (p := ⟨w.heap.size + 1, 0, none⟩) (by simp) _).setCell (p := ⟨w.heap.size + 1, 1, none⟩) (by simp) _⟩
end Go.Proofs.Ytdekickmplkdiaa
