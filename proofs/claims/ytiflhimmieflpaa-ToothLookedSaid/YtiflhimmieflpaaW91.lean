/- What the law ToothLooked calls and stores. -/
import Derived.Test.YtiflhimmieflpaaW89
namespace Go.Proofs.Ytiflhimmieflpaa
open Go.RowKit Go.Maps

/-- Two spans of one's own copy are stored into: a column is sounded. -/
theorem own_two1 {b : Nat} {W : World} {B : Bl} (hat : B.At W) (ha : ON b W 98 2 B.n B.A B.c (flat2 B.bot)) (hb : ON b W 98 2 B.n' B.A' B.c' (flat2 B.top)) (hc : ON b W 111 6 B.m B.K B.d (flat6 B.cr))
    (hs : ∀ ga oa gb ob, 0 < B.n → 0 < B.n' → B.A = some ⟨ga, oa, none⟩ → B.A' = some ⟨gb, ob, none⟩ → ga ≠ gb) (hnn : B.n' = B.n) {x : Nat} (hx : x < B.n) :
    ∃ ga gb csa csb, B.A = some ⟨ga, 0, none⟩ ∧ B.A' = some ⟨gb, 0, none⟩ ∧ b ≤ ga ∧ b ≤ gb ∧ Blk W ga 98 csa ∧ Blk W gb 98 csb ∧ W.there ga (x * 2) 2 ∧
      ∀ v, (W.setCells ga (x * 2) [.int .i64 v, .int .i64 v]).there gb (x * 2) 2 ∧ ∀ u, (B.sound x v u).At ((W.setCells ga (x * 2) [.int .i64 v, .int .i64 v]).setCells gb (x * 2) [.int .i64 u, .int .i64 u]) := by
  have la : B.bot.length = B.n := hat.hb.len
  have lb : B.top.length = B.n' := hat.ht.len
  obtain ⟨ga, ca, ea⟩ := own_form (ha.own (by omega)) (by omega)
  obtain ⟨gb, cb, eb⟩ := own_form (hb.own (by omega)) (by omega)
  simp only [Value.slice.injEq, true_and] at ea eb
  have oa := ha.own (by omega)
  have ob := hb.own (by omega)
  rw [ea.1] at oa
  rw [eb.1] at ob
  have hne : ga ≠ gb := hs ga 0 gb 0 (by omega) (by omega) ea.1 eb.1
  obtain ⟨csa, Ba, _⟩ := own_blk oa
  obtain ⟨csb, Bb, _⟩ := own_blk ob
  have RA := row2_of_own oa la
  have RB := row2_of_own ob lb
  have q := RA x hx
  refine ⟨ga, gb, csa, csb, ea.1, eb.1, (oa.lt ga rfl).1, (ob.lt gb rfl).1, Ba, Bb, there2 q.1 q.2.1 q.2.2.1 q.2.2.2, fun v => ?_⟩
  have RB1 := RB.far (x := x) (fun e => hne e.symm) (.int .i64 v) (.int .i64 v)
  have q1 := RB1 x (by omega)
  refine ⟨there2 q1.1 q1.2.1 q1.2.2.1 q1.2.2.2, fun u => ?_⟩
  have hRA := (RA.set x hx v v 0).far (x := x) hne (.int .i64 u) (.int .i64 u)
  have hRB := RB1.set x (by omega) u u 0
  have hPA := pairs_of_row2 hRA (xs := B.bot.set x (v, v)) (by rw [List.length_set]; exact la) (fun k hk => getD_set B.bot x k (v, v) (by omega))
  have hPB := pairs_of_row2 hRB (xs := B.top.set x (u, u)) (by rw [List.length_set]; exact lb) (fun k hk => getD_set B.top x k (u, u) (by omega))
  refine ⟨?_, ?_, reads_put (reads_put hat.hk (on_far hc Ba (by decide))) (on_far hc Bb (by decide)), hat.n1, hat.n2, hat.n3⟩
  · rw [← ea.1] at hPA; exact hPA
  · rw [← eb.1] at hPB; exact hPB
theorem own_two {b : Nat} {W : World} {B : Bl} (hat : B.At W) (ha : ON b W 98 2 B.n B.A B.c (flat2 B.bot)) (hb : ON b W 98 2 B.n' B.A' B.c' (flat2 B.top)) (hc : ON b W 111 6 B.m B.K B.d (flat6 B.cr))
    (hs : ∀ ga oa gb ob, 0 < B.n → 0 < B.n' → B.A = some ⟨ga, oa, none⟩ → B.A' = some ⟨gb, ob, none⟩ → ga ≠ gb) (hnn : B.n' = B.n) {x : Nat} (hx : x < B.n) :
    ∃ ga gb, B.A = some ⟨ga, 0, none⟩ ∧ B.A' = some ⟨gb, 0, none⟩ ∧ b ≤ ga ∧ b ≤ gb ∧ ∀ W', Below W.heap.size W W' → (∃ csa, Blk W' ga 98 csa) ∧ (∃ csb, Blk W' gb 98 csb) ∧ W'.there ga (x * 2) 2 ∧
      ∀ v, (W'.setCells ga (x * 2) [.int .i64 v, .int .i64 v]).there gb (x * 2) 2 ∧ ∀ u, (B.sound x v u).At ((W'.setCells ga (x * 2) [.int .i64 v, .int .i64 v]).setCells gb (x * 2) [.int .i64 u, .int .i64 u]) := by
  obtain ⟨ga, gb, _, _, ea, eb, h1, h2, _⟩ := own_two1 hat ha hb hc hs hnn hx
  refine ⟨ga, gb, ea, eb, h1, h2, fun W' hbl => ?_⟩
  obtain ⟨ga', gb', csa, csb, ea', eb', _, _, h3, h4, h5, h6⟩ := own_two1 (hat.below hbl) (ha.below hbl) (hb.below hbl) (hc.below hbl) hs hnn hx
  rw [ea] at ea'
  rw [eb] at eb'
  simp only [Option.some.injEq, Addr.mk.injEq, and_true] at ea' eb'
  subst ea' eb'
  exact ⟨⟨csa, h3⟩, ⟨csb, h4⟩, h5, h6⟩
theorem saw_err {B : Bl} {s : Sw} (hc : B.cerr = 0) (hs : s.Ok) : B.err s = 0 := by
  unfold Bl.err readyErr
  unfold Bl.cerr at hc
  rw [hc]
  have h1 := hs.l1
  have h2 := hs.l2
  have h3 := hs.w1
  have h4 := hs.w2
  have h5 := hs.k1
  have h6 := hs.k2
  have h7 := hs.a1
  have h8 := hs.a2
  have e : sawOk s.long s.wide s.kerf s.across = true := by
    simp [sawOk, within]
    omega
  simp [e]
theorem most_ok (B : Bl) (s : Sw) (w : World) (h : B.At w) (hc : B.cerr = 0) (hs : s.Ok) : Calls Try.prog 34 #[B.val, s.val] w fun e w' => ∃ A n c, e = .returned (.tuple #[.slice A n c, .int .i64 0]) ∧ (n : Int) = countL (B.worst s) B.n ∧ Below w.heap.size w w' := by
  refine (Most_any B s w h).mono ?_
  rintro e w' ⟨hb, ⟨he, _⟩ | ⟨_, v, rfl, hown⟩⟩
  · exact absurd (saw_err hc hs) he
  · obtain ⟨A, c, rfl⟩ := own_slice hown
    exact ⟨A, _, c, rfl, layout_len (curveErr_ok hc) hs hc h.hb.len h.ht.len, hb⟩
theorem look_ok (B : Bl) (s : Sw) (w : World) (h : B.At w) (hc : B.cerr = 0) (hs : s.Ok) (hn : 0 < B.n) : Calls Try.prog 45 #[B.val, s.val] w fun e w' => ∃ (x : Nat) (g f : Int), e = .returned (.tuple #[.int .i64 x, .int .i64 g, .int .i64 f]) ∧ x < B.n ∧ (∀ i, i < B.n → gainAt B s i ≤ g) ∧ 0 ≤ g ∧ g ≤ 9060 ∧
    ((f = 7 ∧ g = 0) ∨ (f = 0 ∧ 0 < g ∧ g = gainAt B s x)) ∧ Below w.heap.size w w' := by
  refine (Look_any B s w h).mono ?_
  have hok : B.Ok := curveErr_ok hc
  have hi := lookTo_in B s hok.n2 B.n (Nat.le_refl _)
  have ha := lookTo_at B s B.n
  rintro e w' ⟨hb, ⟨he, _⟩ | ⟨_, h2, rfl⟩ | ⟨_, h2, rfl⟩⟩
  · exact absurd (saw_err hc hs) he
  · refine ⟨0, 0, 7, rfl, hn, fun i hi => ?_, by omega, by omega, .inl ⟨rfl, rfl⟩, hb⟩
    have := ha.1 i hi
    omega
  · obtain ⟨x, h3, h4, h5⟩ := ha.2 h2
    refine ⟨x, (lookTo B s B.n).2, 0, by rw [h4], h3, ha.1, hi.2.2.1, hi.2.2.2.1, .inr ⟨rfl, by omega, h5⟩, hb⟩
theorem curve_ok (B : Bl) (w : World) (h : B.At w) (hc : B.cerr = 0) : Calls Try.prog 21 #[B.val] w fun e w' => ∃ g cap g' cap', e = .returned (.tuple #[.slice (some ⟨g, 0, none⟩) B.n cap, .slice (some ⟨g', 0, none⟩) B.n cap', .int .i64 0]) ∧ Pairs w' (some ⟨g, 0, none⟩) B.n (bentL B.bot B.bend) ∧ Pairs w' (some ⟨g', 0, none⟩) B.n (bentL B.top B.bend) ∧ Below w.heap.size w w' := by
  refine (Curve_top B w h).mono ?_
  rintro e w' ⟨hb, ⟨he, _⟩ | ⟨_, g, cap, g', cap', rfl, h1, h2⟩⟩
  · exact absurd hc he
  · exact ⟨g, cap, g', cap', rfl, h1, h2, hb⟩
theorem Bl.Like.soundL {B B' : Bl} (h : B.Like B') (x : Nat) (v u : Int) : (B.sound x v u).Like (B'.sound x v u) :=
  ⟨h.n, h.n', h.m, h.bend, (show B'.bot.set x (v, v) = B.bot.set x (v, v) by rw [h.bot]), (show B'.top.set x (u, u) = B.top.set x (u, u) by rw [h.top]), h.cr⟩
def S8L (go gr g1 g2 y : Nat) (V1 V2 R1 R2 : Value) (a h : Int) (W : World) : Prop := W.cell? ⟨go, 0, none⟩ = some V1 ∧ W.cell? ⟨go, 1, none⟩ = some V2 ∧ W.cell? ⟨gr, 0, none⟩ = some R1 ∧ W.cell? ⟨gr, 1, none⟩ = some R2 ∧ W.cell? ⟨g1, y, none⟩ = some (.int .i64 a) ∧ W.cell? ⟨g2, y, none⟩ = some (.int .i64 h)
theorem look_like {B B' : Bl} (hl : B.Like B') (s : Sw) (w : World) (h : B'.At w) (hc : B.cerr = 0) (hs : s.Ok) (hn : 0 < B.n) : Calls Try.prog 45 #[B'.val, s.val] w fun e w' => ∃ (x : Nat) (g f : Int), e = .returned (.tuple #[.int .i64 x, .int .i64 g, .int .i64 f]) ∧ x < B.n ∧ (∀ i, i < B.n → gainAt B s i ≤ g) ∧ 0 ≤ g ∧ g ≤ 9060 ∧
    ((f = 7 ∧ g = 0) ∨ (f = 0 ∧ 0 < g ∧ g = gainAt B s x)) ∧ Below w.heap.size w w' := by
  have hg : ∀ x, gainAt B' s x = gainAt B s x := fun x => by
    unfold gainAt Bl.soundX Bl.worst
    rw [hl.n, hl.bend, hl.bot, hl.top, hl.cr]
  refine (look_ok B' s w h (by rw [hl.cerr]; exact hc) hs (by rw [hl.n]; exact hn)).mono ?_
  rintro e w' ⟨x, g, f, rfl, h1, h2, h3, h4, h5, hb⟩
  rw [hl.n] at h1 h2
  simp only [hg] at h2 h5
  exact ⟨x, g, f, rfl, h1, h2, h3, h4, h5, hb⟩
end Go.Proofs.Ytiflhimmieflpaa
