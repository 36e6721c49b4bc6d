/- Walks: guard's apart, alike. -/
import Derived.Test.YtllioljphpgfhaaGA
namespace Go.Proofs.Ytllioljphpgfhaa
open Go.RowKit

def apartI (x y : Int) : Int := max (x - y) (y - x)
theorem apart_any (x y : Int) (w : World) (hx : -1000000 ≤ x ∧ x ≤ 1000000) (hy : -1000000 ≤ y ∧ y ≤ 1000000) :
    Calls Try.prog 34 #[.int .i64 x, .int .i64 y] w fun e w' => e = .returned (.int .i64 (apartI x y)) ∧ w = w' := by
  have k1 : IntKind.i64.wrap (x - y) = x - y := IntWalk.i64_in _ (by omega)
  have k2 : IntKind.i64.wrap (y - x) = y - x := IntWalk.i64_in _ (by omega)
  have HA : Hid (apartI x y = max (x - y) (y - x)) := rfl
  generalize apartI x y = r at *
  by_cases h : x - y < y - x
  · go_enter Try.func34, Try.ntmps34
    go_wp2
    go_ret
    exact ⟨ret_int (by rw [HA.out]; omega), rfl⟩
  · go_enter Try.func34, Try.ntmps34
    go_wp2
    go_ret
    exact ⟨ret_int (by rw [HA.out]; omega), rfl⟩
theorem quiet_leftA {P : Program} {f : FuncId} {args : Array Value} {w : World} {n : Nat} {v : Value}
    (h : Calls P f args (w.drewN n) fun e w' => e = .returned v ∧ w.drewN n = w') : Calls P f args (w.drewN n) fun e w'' => e = .returned v ∧ ∃ m, w'' = w.drewN m :=
  h.mono fun _ _ ⟨he, hw⟩ => ⟨he, n, hw.symm⟩
/-- Whether two guards' first marks are no farther apart than some number. -/
def okTo (xs ys : List Int) (lim : Int) (k : Nat) : Bool := (List.range k).all fun i => decide (apartI (xs.getD i 0) (ys.getD i 0) ≤ lim)
theorem okTo_succ (xs ys : List Int) (lim : Int) (k : Nat) : okTo xs ys lim (k + 1) = (okTo xs ys lim k && decide (apartI (xs.getD k 0) (ys.getD k 0) ≤ lim)) := by
  simp [okTo, List.range_succ, List.all_append]
theorem okTo_no (xs ys : List Int) (lim : Int) (k n : Nat) (hk : k < n) (h : decide (apartI (xs.getD k 0) (ys.getD k 0) ≤ lim) = false) : okTo xs ys lim n = false := by
  unfold okTo
  rw [List.all_eq_false]
  exact ⟨k, List.mem_range.2 hk, by rw [h]; decide⟩
/-- Both gauges, and what guards of a pair may be unlike. -/
structure Gg where
  sc : Int
  ga : Int
  wt : Int
  cu : Int
def Gg.val (g : Gg) : Value := .agg #[.int .i64 g.sc, .int .i64 g.ga, .int .i64 g.wt, .int .i64 g.cu]
def ggOk (g : Gg) : Bool := within 0 100 [g.sc, g.ga] && (within 0 10000 [g.wt] && within 0 500 [g.cu])
def alikeB (a b : Gd) (g : Gg) (er : Int) : Bool := okTo a.xs b.xs (g.cu + er * g.ga) a.n && decide (apartI a.w b.w ≤ g.wt + er * g.sc)
def Gd.Ok (g : Gd) : Prop := (1 ≤ g.w ∧ g.w ≤ 10000) ∧ ∀ x ∈ g.xs, 0 ≤ x ∧ x ≤ 500
theorem getD_bd {xs : List Int} (h : ∀ x ∈ xs, 0 ≤ x ∧ x ≤ 500) (k : Nat) : 0 ≤ xs.getD k 0 ∧ xs.getD k 0 ≤ 500 := by
  rcases Nat.lt_or_ge k xs.length with hk | hk
  · simp only [List.getD, List.getElem?_eq_getElem hk, Option.getD_some]
    exact h _ (List.getElem_mem hk)
  · simp [List.getD, hk]
theorem gd_get {W : World} {g : Nat} {x y : Value} (h : Blk W g 33 #[x, y]) : W.cell? ⟨g, 0, none⟩ = some x ∧ W.cell? ⟨g, 1, none⟩ = some y := ⟨h.cell 0, h.cell 1⟩
theorem gg_get {W : World} {g : Nat} {x y z t : Value} (h : Blk W g 39 #[x, y, z, t]) : W.cell? ⟨g, 0, none⟩ = some x ∧ W.cell? ⟨g, 1, none⟩ = some y ∧ W.cell? ⟨g, 2, none⟩ = some z ∧ W.cell? ⟨g, 3, none⟩ = some t := ⟨h.cell 0, h.cell 1, h.cell 2, h.cell 3⟩

set_option maxRecDepth 100000 in
set_option maxHeartbeats 4000000 in
theorem alike_any (a b : Gd) (g : Gg) (er : Int) (w : World) (ha : a.At w) (hb : b.At w) (hn : a.n ≤ b.n) (ha1 : a.Ok) (hb1 : b.Ok) (hg : (0 ≤ g.sc ∧ g.sc ≤ 100) ∧ (0 ≤ g.ga ∧ g.ga ≤ 100) ∧ (0 ≤ g.wt ∧ g.wt ≤ 10000) ∧ (0 ≤ g.cu ∧ g.cu ≤ 500)) (he : er = -2 ∨ er = 2 ∨ er = -1) :
    Calls Try.prog 16 #[a.val, b.val, g.val, .int .i64 er] w fun e w' => e = .returned (.bool (alikeB a b g er)) ∧ Below w.heap.size w w' := by
  obtain ⟨aw, A, n, c, xs⟩ := a
  obtain ⟨bw, B, m, d, ys⟩ := b
  obtain ⟨sc, ga, wt, cu⟩ := g
  have HX := Lib.hid (fun k => getD_bd ha1.2 k)
  have HY := Lib.hid (fun k => getD_bd hb1.2 k)
  obtain ⟨ha1, -⟩ := ha1
  obtain ⟨hb1, -⟩ := hb1
  simp only [Gd.val, Gg.val, Gd.At, alikeB] at *
  have HA := Lib.hid (fun W (h : Below w.heap.size w W) => ha.1.below h)
  have HB := Lib.hid (fun W (h : Below w.heap.size w W) => hb.1.below h)
  obtain ⟨ha, hna⟩ := ha
  obtain ⟨hb, hnb⟩ := hb
  clear ha hb
  unfold maxLen at hna hnb
  have q1 : -200 ≤ er * ga ∧ er * ga ≤ 200 := by rcases he with rfl | rfl | rfl <;> omega
  have q2 : -200 ≤ er * sc ∧ er * sc ≤ 200 := by rcases he with rfl | rfl | rfl <;> omega
  clear he
  obtain ⟨ea, hea⟩ : ∃ z, z = er * ga := ⟨_, rfl⟩
  obtain ⟨es, hes⟩ : ∃ z, z = er * sc := ⟨_, rfl⟩
  have k1 : IntKind.i64.wrap (er * ga) = ea := by rw [hea]; exact IntWalk.i64_in _ (by omega)
  have k2 : IntKind.i64.wrap (er * sc) = es := by rw [hes]; exact IntWalk.i64_in _ (by omega)
  rw [← hea] at q1 ⊢
  rw [← hes] at q2 ⊢
  clear hea hes
  obtain ⟨lim, hlim⟩ : ∃ z, z = cu + ea := ⟨_, rfl⟩
  obtain ⟨liw, hliw⟩ : ∃ z, z = wt + es := ⟨_, rfl⟩
  have k3 : IntKind.i64.wrap (cu + ea) = lim := by rw [hlim]; exact IntWalk.i64_in _ (by omega)
  have k4 : IntKind.i64.wrap (wt + es) = liw := by rw [hliw]; exact IntWalk.i64_in _ (by omega)
  rw [← hlim, ← hliw]
  clear hlim hliw q1 q2 hg
  have B1 := Lib.hid (below_alloc' (below_alloc' (below_self w (.cells #[.int .i64 aw, .slice A n c] 33)) (.cells #[.int .i64 bw, .slice B m d] 33)) (.cells #[.int .i64 sc, .int .i64 ga, .int .i64 wt, .int .i64 cu] 39))
  have P1 := Lib.hid (((Blk.new w 33 #[.int .i64 aw, .slice A n c] (g := w.heap.size) rfl).alloc (.cells #[.int .i64 bw, .slice B m d] 33)).alloc (.cells #[.int .i64 sc, .int .i64 ga, .int .i64 wt, .int .i64 cu] 39))
  have P2 := Lib.hid ((Blk.new (w.alloc (.cells #[.int .i64 aw, .slice A n c] 33)) 33 #[.int .i64 bw, .slice B m d] (g := w.heap.size + 1) (by simp)).alloc (.cells #[.int .i64 sc, .int .i64 ga, .int .i64 wt, .int .i64 cu] 39))
  have P3 := Lib.hid (Blk.new ((w.alloc (.cells #[.int .i64 aw, .slice A n c] 33)).alloc (.cells #[.int .i64 bw, .slice B m d] 33)) 39 #[.int .i64 sc, .int .i64 ga, .int .i64 wt, .int .i64 cu] (g := w.heap.size + 2) (by simp))
  have HS := Lib.hid (okTo_succ xs ys lim)
  have HN := Lib.hid (okTo_no xs ys lim)
  have H0 : Hid (okTo xs ys lim 0 = true) := rfl
  have HK := Lib.hid (fun k x y (hx : xs.getD k 0 = x) (hy : ys.getD k 0 = y) => show (0 ≤ x ∧ x ≤ 500) ∧ (0 ≤ y ∧ y ≤ 500) from ⟨hx ▸ HX.out k, hy ▸ HY.out k⟩)
  clear HX HY
  generalize okTo xs ys lim = f at *
  go_enter Try.func16, Try.ntmps16
  go_wp2_with fail
  generalize ((w.alloc (.cells #[.int .i64 aw, .slice A n c] 33)).alloc (.cells #[.int .i64 bw, .slice B m d] 33)).alloc (.cells #[.int .i64 sc, .int .i64 ga, .int .i64 wt, .int .i64 cu] 39) = W0 at *
  go_loopw [13] (fun i wr => ∃ k : Nat, k ≤ n ∧ i = .int .i64 k ∧ f k = true ∧ Below W0.heap.size W0 wr) (fun i _ => n - (intOf i).toNat)
  case atStart => exact ⟨0, Nat.zero_le _, rfl, H0.out, Below.refl _ _⟩
  case round =>
    obtain ⟨k, hk, rfl, hin, hbel⟩ := hrel
    have Hin := Lib.hid hin
    have BB := Lib.hid hbel
    clear hin
    have p1 := gd_get (blk_keep hbel P1.out)
    have p2 := gd_get (blk_keep hbel P2.out)
    have p3 := gg_get (blk_keep hbel P3.out)
    have ia := HA.out wr (below_then B1.out hbel)
    have ib := HB.out wr (below_then B1.out hbel)
    clear hbel
    by_cases hlt : k < n
    · obtain ⟨ba, oa, rfl, -, ca⟩ := ia.at_ hlt
      obtain ⟨bb, ob, rfl, -, cb⟩ := ib.at_ (k := k) (by omega)
      clear ia ib
      have hS := Lib.hid (HS.out k)
      have hN := Lib.hid (HN.out k n hlt)
      generalize hx : xs.getD k 0 = x at *
      generalize hy : ys.getD k 0 = y at *
      obtain ⟨x1, y1⟩ := HK.out k x y hx hy
      clear hx hy HS HN H0 HK
      have CA := Lib.hid (fun W => apart_any x y W (by omega) (by omega))
      have e1 : ((k : Int) < m) := by omega
      have e2 : ((k : Int) < n) := by omega
      by_cases hq : apartI x y ≤ lim
      · have hq2 : ¬ lim < apartI x y := by omega
        go_wp2_with fail
        go_quiet (first | (go_at_call 34; exact quiet_leftA (CA.out _)))
        go_wp2_with fail
        go_roundw
        case rel => exact ⟨k + 1, by omega, by go_num, by rw [hS.out, Hin.out, decide_eq_true hq]; rfl, below_drewN BB.out _⟩
        case measure => simp [intOf]; omega
      · have hq2 : lim < apartI x y := by omega
        go_wp2_with fail
        go_quiet (first | (go_at_call 34; exact quiet_leftA (CA.out _)))
        go_wp2_with fail
        go_ret
        exact ⟨ret_bool (by rw [hN.out (decide_eq_false (by omega))]; rfl), below_drewN (below_then B1.out BB.out) _⟩
    · obtain rfl : k = n := by omega
      clear ia ib
      have CA := Lib.hid (fun W => apart_any aw bw W (by omega) (by omega))
      go_wp2_with fail
      go_quiet (first | (go_at_call 34; exact quiet_leftA (CA.out _)))
      go_wp2_with fail
      go_ret
      exact ⟨ret_bool (by rw [Hin.out]; rfl), below_drewN (below_then B1.out BB.out) _⟩
end Go.Proofs.Ytllioljphpgfhaa
