/- Walks: the reference's Sure, . -/
import Derived.Test.YtiflhimmieflpaaJ2
namespace Go.Proofs.Ytiflhimmieflpaa
open Go.RowKit Go.Maps

abbrev z3 : Array Value := #[.slice none 0 0, .slice none 0 0, .slice none 0 0]
/-- The blocks of Sure. -/
structure SV (w : World) (B : Bl) (W : World) : Prop where
  b : Blk W w.heap.size 25 #[.slice B.A B.n B.c, .slice B.A' B.n' B.c', .int .i64 B.bend, .slice B.K B.m B.d]
  z : Blk W (w.heap.size + 1) 46 z3
  bel : Below w.heap.size w W
theorem SV.below {w W W' : World} {B : Bl} (h : SV w B W) (hb : Below W.heap.size W W') : SV w B W' := ⟨blk_keep hb h.b, blk_keep hb h.z, below_then h.bel hb⟩
theorem SV.alloc {w W : World} {B : Bl} (h : SV w B W) (o : Obj) : SV w B (W.alloc o) := h.below (below_self W o)
theorem SV.set {w W : World} {B : Bl} {g : Nat} (h : SV w B W) (hg : w.heap.size + 1 < g) (i : Nat) (u : Value) : SV w B (W.setCell ⟨g, i, none⟩ u) :=
  ⟨h.b.far (p := ⟨g, i, none⟩) (by show w.heap.size ≠ g; omega) u, h.z.far (p := ⟨g, i, none⟩) (by show w.heap.size + 1 ≠ g; omega) u, h.bel.setCell (p := ⟨g, i, none⟩) (by show w.heap.size ≤ g; omega) u⟩
theorem SV.set3 {w W : World} {B : Bl} {g : Nat} (h : SV w B W) (hg : w.heap.size + 1 < g) (u0 u1 u2 : Value) : SV w B (((W.setCell ⟨g, 0, none⟩ u0).setCell ⟨g, 1, none⟩ u1).setCell ⟨g, 2, none⟩ u2) :=
  ((h.set hg 0 u0).set hg 1 u1).set hg 2 u2
theorem SV.get {w W : World} {B : Bl} (h : SV w B W) : W.cell? ⟨w.heap.size, 0, none⟩ = some (.slice B.A B.n B.c) ∧ W.cell? ⟨w.heap.size, 1, none⟩ = some (.slice B.A' B.n' B.c') ∧ W.cell? ⟨w.heap.size, 2, none⟩ = some (.int .i64 B.bend) := ⟨h.b.cell 0, h.b.cell 1, h.b.cell 2⟩
theorem SV.drewd {w W : World} {B : Bl} (h : SV w B W) : SV w B W.drew := ⟨h.b, h.z, h.bel.drew⟩
theorem SV.allocd {w W : World} {B : Bl} (h : SV w B W) (o : Obj) : SV w B (W.alloc o).drew := (h.alloc o).drewd
/-- What stands behind the first statement of Sure. -/
structure SMid (w : World) (B : Bl) (W : World) (g : Nat) (TA TB : Option Addr) : Prop where
  v : SV w B W
  g1 : w.heap.size + 1 < g
  box : Blk W g 46 z3
  pa : Pairs W TA B.n (bentL B.bot B.bend)
  pb : Pairs W TB B.n' (bentL B.top B.bend)
theorem z3_get {W : World} {g : Nat} (h : Blk W g 46 z3) : (W.cell? ⟨g, 0, none⟩ = some (.slice none 0 0) ∧ W.cell? ⟨g, 1, none⟩ = some (.slice none 0 0) ∧ W.cell? ⟨g, 2, none⟩ = some (.slice none 0 0)) ∧ W.frozen? ⟨g, 0, none⟩ = false ∧ W.frozen? ⟨g, 1, none⟩ = false ∧ W.frozen? ⟨g, 2, none⟩ = false :=
  ⟨⟨h.cell 0, h.cell 1, h.cell 2⟩, h.frozen 0, h.frozen 1, h.frozen 2⟩
theorem z3_set {W : World} {g : Nat} (h : Blk W g 46 z3) : Blk (((W.setCell ⟨g, 0, none⟩ (.slice none 0 0)).setCell ⟨g, 1, none⟩ (.slice none 0 0)).setCell ⟨g, 2, none⟩ (.slice none 0 0)) g 46 z3 := ((h.set_ 0 _).set_ 1 _).set_ 2 _
theorem Reads.set3 {W : World} {size n g b : Nat} {A : Option Addr} {xs : List Value} (h : NR b W size A n xs) (hb : g < b) (u0 u1 u2 : Value) : Reads (((W.setCell ⟨g, 0, none⟩ u0).setCell ⟨g, 1, none⟩ u1).setCell ⟨g, 2, none⟩ u2) size A n xs :=
  (((h.setCell (p := ⟨g, 0, none⟩) hb u0).setCell (p := ⟨g, 1, none⟩) hb u1).setCell (p := ⟨g, 2, none⟩) hb u2).r
theorem NR.ge {b b' : Nat} {w : World} {size n : Nat} {A : Option Addr} {xs : List Value} (h : NR b w size A n xs) (hb : b' ≤ b) : NR b' w size A n xs := ⟨h.r, fun hn g o e => Nat.le_trans hb (h.far hn g o e)⟩
/-- The box, and that it is none of the lists. -/
structure SBox (w : World) (W2 : World) (g ta tb : Nat) : Prop where
  g1 : w.heap.size + 1 < g
  box : Blk W2 g 46 z3
  na : ta ≠ g
  nb : tb ≠ g
theorem SBox.a {w W0 W1 W2 : World} {ta tb : Nat} (hz : W0.heap.size = w.heap.size + 1 + 1) (b1 : Below (W0.alloc (.cells #[.slice none 0 0, .slice none 0 0, .slice none 0 0] 46)).drew.heap.size (W0.alloc (.cells #[.slice none 0 0, .slice none 0 0, .slice none 0 0] 46)).drew W1) (b2 : Below W1.heap.size W1 W2)
    (h1 : (W0.alloc (.cells #[.slice none 0 0, .slice none 0 0, .slice none 0 0] 46)).drew.heap.size ≤ ta) (h2 : W1.heap.size ≤ tb) : SBox w W2 W0.heap.size ta tb := by
  have k := blk_keep b1 (blk_new_drew W0 46 z3 rfl)
  have kl := k.lt
  exact ⟨by omega, blk_keep b2 k, by simp at h1; omega, by omega⟩
theorem SBox.b {w W1 W2 : World} {ta tb : Nat} (hz : w.heap.size + 1 < W1.heap.size) (b2 : Below (W1.alloc (.cells #[.slice none 0 0, .slice none 0 0, .slice none 0 0] 46)).heap.size (W1.alloc (.cells #[.slice none 0 0, .slice none 0 0, .slice none 0 0] 46)) W2)
    (h1 : ta < W1.heap.size) (h2 : (W1.alloc (.cells #[.slice none 0 0, .slice none 0 0, .slice none 0 0] 46)).heap.size ≤ tb) : SBox w W2 W1.heap.size ta tb :=
  ⟨hz, blk_keep b2 (Blk.new W1 _ _ rfl), by omega, by simp at h2; omega⟩
theorem Reads.set3far {W : World} {size n g t o : Nat} {xs : List Value} (h : Reads W size (some ⟨t, o, none⟩) n xs) (hb : t ≠ g) (u0 u1 u2 : Value) : Reads (((W.setCell ⟨g, 0, none⟩ u0).setCell ⟨g, 1, none⟩ u1).setCell ⟨g, 2, none⟩ u2) size (some ⟨t, o, none⟩) n xs :=
  ((h.setCell_far (p := ⟨g, 0, none⟩) (fun e => hb e.symm) u0).setCell_far (p := ⟨g, 1, none⟩) (fun e => hb e.symm) u1).setCell_far (p := ⟨g, 2, none⟩) (fun e => hb e.symm) u2
theorem ne_of_box {W : World} {g t i : Nat} {a b c : Value} {x : Int} (h : Blk W g 46 #[a, b, c]) (ha : ∃ A n d, a = .slice A n d) (hb : ∃ A n d, b = .slice A n d) (hc : ∃ A n d, c = .slice A n d) (hx : W.cell? ⟨t, i, none⟩ = some (.int .i64 x)) : t ≠ g := by
  rintro rfl
  rw [h.cell i] at hx
  obtain ⟨_, _, _, rfl⟩ := ha
  obtain ⟨_, _, _, rfl⟩ := hb
  obtain ⟨_, _, _, rfl⟩ := hc
  match i, hx with
  | 0, hx => simp at hx
  | 1, hx => simp at hx
  | 2, hx => simp at hx
  | n + 3, hx => simp at hx
/-- What stands when Sure's first loop has done k rounds. -/
structure S1 (wc : World) (g n : Nat) (H T : List Int) (k : Nat) (v1 v2 : Value) (W : World) : Prop where
  gr : wc.grownBy W (some g)
  box : Blk W g 46 #[v1, v2, .slice none 0 0]
  o1 : W.ownsRow wc.heap.size 3 1 v1 k ((H.take k).map (Value.int .i64))
  o2 : W.ownsRow wc.heap.size 3 1 v2 k ((T.take k).map (Value.int .i64))
  sep : v1.ownBlock = none ∨ v2.ownBlock = none ∨ v1.ownBlock ≠ v2.ownBlock
/-- Reading a list when another row has grown. -/
theorem Reads.grown {w w' : World} {size n : Nat} {A : Option Addr} {xs : List Value} {row : Option Nat} (h : Reads w size A n xs) (hg : w.grownBy w' row) (hne : 0 < n → ∀ b o, A = some ⟨b, o, none⟩ → row ≠ some b) : Reads w' size A n xs :=
  ⟨h.1, fun hn => by
    obtain ⟨b, o, e, hlt, hc⟩ := h.2 hn
    exact ⟨b, o, e, Nat.lt_of_lt_of_le hlt hg.size, fun j u hj => (World.cell?_of_block (hg.block b hlt (fun e' => hne hn b o e e'.symm))).trans (hc j u hj)⟩⟩
def splitOf (k : Crack) : Crack := ⟨k.cl, k.ch, k.fl, k.fl, k.th, k.th⟩
theorem flat6_snoc (xs : List Crack) (k : Nat) (hk : k < xs.length) : flat6 (xs.take (k + 1)) = flat6 (xs.take k) ++ (xs.getD k Crack.zero).cells := by
  rw [List.take_succ_eq_append_getElem hk, flat6, List.flatMap_append]
  simp [flat6, List.getD, hk]
theorem split_snoc (cr : List Crack) (k : Nat) (hk : k < cr.length) : flat6 ((cr.map splitOf).take (k + 1)) = flat6 ((cr.map splitOf).take k) ++ [.int .i64 (cr.getD k Crack.zero).cl, .int .i64 (cr.getD k Crack.zero).ch, .int .i64 (cr.getD k Crack.zero).fl, .int .i64 (cr.getD k Crack.zero).fl, .int .i64 (cr.getD k Crack.zero).th, .int .i64 (cr.getD k Crack.zero).th] := by
  rw [flat6_snoc _ _ (by simpa using hk)]
  have : (cr.map splitOf).getD k Crack.zero = splitOf (cr.getD k Crack.zero) := by simp [List.getD, hk]
  rw [this]
  rfl
theorem cell_six_new (w : World) (x0 x1 x2 x3 x4 x5 : Value) (t : TypeId) {g : Nat} (hg : g = w.heap.size) : ∀ j u, [x0, x1, x2, x3, x4, x5][j]? = some u → (w.alloc (.cells #[x0, x1, x2, x3, x4, x5] t)).cell? ((⟨g, 0, none⟩ : Addr).add j) = some u := by
  subst hg
  intro j u hj
  rw [addr_add, Nat.zero_add]
  rw [(Blk.new w t #[x0, x1, x2, x3, x4, x5] rfl).cell]
  simpa using hj
theorem grown_set {a W : World} {g i : Nat} (h : a.grownBy W (some g)) (u : Value) : a.grownBy (W.setCell ⟨g, i, none⟩ u) (some g) :=
  ⟨h.os, h.tape, h.output, by simpa using h.size, fun j hj hne => (Below.heap_setCell W ⟨g, i, none⟩ _ j (fun e => hne (by rw [e]))).trans (h.block j hj hne)⟩
/-- What stands when Sure's second loop has done k rounds. -/
structure S2 (wc : World) (g : Nat) (v1 v2 : Value) (cr : List Crack) (k : Nat) (sv : Value) (W : World) : Prop where
  gr : wc.grownBy W (some g)
  box : Blk W g 46 #[v1, v2, sv]
  os : W.ownsRow wc.heap.size 111 6 sv k (flat6 ((cr.map splitOf).take k))
theorem S2.alloc {wc W : World} {g k : Nat} {v1 v2 sv : Value} {cr : List Crack} (h : S2 wc g v1 v2 cr k sv W) (o : Obj) : S2 wc g v1 v2 cr k sv (W.alloc o) := ⟨grownBy_alloc h.gr o, h.box.alloc o, h.os.alloc o⟩
theorem S2.appended {wc W W' : World} {g k : Nat} {v1 v2 sv sv' : Value} {cr : List Crack} (h : S2 wc g v1 v2 cr k sv W) (hg : W.grownBy W' sv.ownBlock) (ho : W'.ownsRow wc.heap.size 111 6 sv' (k + 1) (flat6 ((cr.map splitOf).take (k + 1)))) : S2 wc g v1 v2 cr (k + 1) sv' (W'.setCell ⟨g, 2, none⟩ sv') := by
  have hb := h.box.grown hg (own_blk_ne h.os h.box (by decide))
  exact ⟨grown_set (grown_own h.gr h.os hg (Nat.le_refl _)) _, hb.set_ 2 sv', own_setCell ho hb (by decide) 2 sv'⟩
/-- What Sure answers. -/
def sureV (B : Bl) (TA TB K : Option Addr) (c c' d : Nat) : Vw := ⟨TA, TB, K, B.n, c, c', B.m, d, (bentL B.bot B.bend).map (·.2), (bentL B.top B.bend).map (·.1), B.cr.map splitOf⟩

theorem opAt {ops : Array Oper} {k : Nat} {o o' : Oper} (h : ops[k]? = some o) (h' : ops[k]? = some o') : o = o' := Option.some.inj (h.symm.trans h')
attribute [local go_sem ↓] Go.wp_at_zero Go.wp_at_succ
set_option maxRecDepth 100000 in
set_option maxHeartbeats 8000000 in
theorem Sure_any (B : Bl) (w : World) (h : B.At w) (hok : B.cerr = 0) :
    Calls Try.prog 29 #[B.val] w fun e w' => ∃ TA TB K c c' d, e = .returned (sureV B TA TB K c c' d).val ∧ (sureV B TA TB K c c' d).At w' ∧ Below w.heap.size w w' := by
  have hO := curveErr_ok hok
  have hE := cerr_bent hok
  have hnn := hO.nn
  have HC1 := Lib.hid (fun W (hb : Below w.heap.size w W) => RefCurve_ok B.A B.n B.c B.bot B.bend W (h.hb.below hb) (by have := hO.n2; omega) hO.bot hO.b0 hO.b3 hE.1)
  have HC2 := Lib.hid (fun W (hb : Below w.heap.size w W) => RefCurve_ok B.A' B.n' B.c' B.top B.bend W (h.ht.below hb) (by have := hO.n2; omega) hO.top hO.b0 hO.b3 hE.2)
  have HK := Lib.hid h.hk
  have HO := Lib.hid hO
  have HV : Hid (SV w B ((w.alloc (.cells #[.slice B.A B.n B.c, .slice B.A' B.n' B.c', .int .i64 B.bend, .slice B.K B.m B.d] 25)).alloc (.cells #[.slice none 0 0, .slice none 0 0, .slice none 0 0] 46))) :=
    ⟨(Blk.new w _ _ rfl).alloc _, Blk.new _ _ _ (by simp), below_alloc' (below_self _ _) _⟩
  have HN := Lib.hid hnn
  clear h hok hO hE
  unfold Bl.val
  clear hnn
  go_enter Try.func29, Try.ntmps29
  go_upto_region 1 with (fail)
  go_cut [3, 4, 5] (fun s3 s4 s5 W => ∃ TA tc TB td g, s3 = .slice TA B.n tc ∧ s4 = .slice TB B.n' td ∧ s5 = .pointer (some ⟨g, 0, none⟩) ∧ SMid w B W g TA TB)
  case first =>
    have hz0 : ((w.alloc (.cells #[.slice B.A B.n B.c, .slice B.A' B.n' B.c', .int .i64 B.bend, .slice B.K B.m B.d] 25)).alloc (.cells #[.slice none 0 0, .slice none 0 0, .slice none 0 0] 46)).heap.size = w.heap.size + 1 + 1 := by simp
    have HZ := Lib.hid hz0
    have Hpos : Hid (0 < B.n) := by have := HO.out.n1; unfold Hid; omega
    have Hpos2 : Hid (0 < B.n') := by have := HO.out.n1; have := HN.out; unfold Hid; omega
    clear hz0
    generalize ((w.alloc (.cells #[.slice B.A B.n B.c, .slice B.A' B.n' B.c', .int .i64 B.bend, .slice B.K B.m B.d] 25)).alloc (.cells #[.slice none 0 0, .slice none 0 0, .slice none 0 0] 46)) = W0 at *
    have e0 := HV.out.drewd.get
    go_region_held3 (fun W' => W'.cell? ⟨w.heap.size, 0, none⟩ = some (.slice B.A B.n B.c) ∧ W'.cell? ⟨w.heap.size, 1, none⟩ = some (.slice B.A' B.n' B.c') ∧ W'.cell? ⟨w.heap.size, 2, none⟩ = some (.int .i64 B.bend)) (first | with_reducible exact HV.out.drewd.get | with_reducible exact (HV.out.allocd _).get | with_reducible exact (V2.out.set3 SB.out.g1 _ _ _).get | with_reducible exact V2.out.get | with_reducible exact (V2.out.alloc _).get | with_reducible exact V1.out.get | with_reducible exact (V1.out.alloc _).get)
      (first
        | (go_at_call_of 25 (Value.slice B.A B.n B.c); refine (HC1.out _ ?_).mono ?_; (first | with_reducible exact HV.out.drewd.bel | with_reducible exact (HV.out.allocd _).bel); rintro e W1 ⟨TA, tc, rfl, hT, b1⟩; (first | (with_reducible have V1 := Lib.hid (HV.out.drewd.below b1)) | (with_reducible have V1 := Lib.hid ((HV.out.allocd _).below b1))); have HB1 := Lib.hid b1; have HT1 := Lib.hid hT.r; obtain ⟨ta, tao, rfl, hta, _⟩ := hT.r.2 Hpos.out; have Hta := Lib.hid hta; have Hta2 := Lib.hid (hT.far Hpos.out ta tao rfl); clear hT b1 hta)
        | (go_at_call_of 25 (Value.slice B.A' B.n' B.c'); refine (HC2.out _ ?_).mono ?_; (first | with_reducible exact V1.out.bel | with_reducible exact (V1.out.alloc _).bel); rintro e W2 ⟨TB, td, rfl, hT, b2⟩; (first | (with_reducible have V2 := Lib.hid (V1.out.below b2); have HT3 := Lib.hid (Reads.below HT1.out b2)) | (with_reducible have V2 := Lib.hid ((V1.out.alloc _).below b2); have HT3 := Lib.hid (Reads.below (Reads.below HT1.out (below_self _ _)) b2))); have HT2 := Lib.hid hT.r; obtain ⟨tb, tbo, rfl, htb, _⟩ := hT.r.2 Hpos2.out; have Htb2 := Lib.hid (hT.far Hpos2.out tb tbo rfl); (first | (with_reducible have SB := Lib.hid (SBox.a HZ.out HB1.out b2 Hta2.out Htb2.out); obtain ⟨⟨z0, z1, z2⟩, f0, f1, f2⟩ := z3_get SB.out.box) | (with_reducible have SB := Lib.hid (SBox.b V1.out.z.lt b2 Hta.out Htb2.out); obtain ⟨⟨z0, z1, z2⟩, f0, f1, f2⟩ := z3_get SB.out.box) | skip); clear hT b2 htb))
    all_goals (go_wp2_with fail; go_meet)
    all_goals
      first
        | exact ⟨_, tc, _, td, _, rfl, rfl, rfl, V2.out.set3 SB.out.g1 _ _ _, SB.out.g1, z3_set SB.out.box, Reads.set3far HT3.out SB.out.na _ _ _, Reads.set3far HT2.out SB.out.nb _ _ _⟩
        | exact ⟨_, tc, _, td, _, rfl, rfl, rfl, V2.out.alloc _, V2.out.z.lt, Blk.new W2 _ _ rfl, Reads.below HT3.out (below_self _ _), Reads.below HT2.out (below_self _ _)⟩
  case rest =>
    obtain ⟨TA, tc, TB, td, g, rfl, rfl, rfl, hm⟩ := hcut
    have HM := Lib.hid hm
    have S10 : Hid (S1 wc g B.n ((bentL B.bot B.bend).map (·.2)) ((bentL B.top B.bend).map (·.1)) 0 (.slice none 0 0) (.slice none 0 0) wc) := ⟨World.grownBy.refl wc _, hm.box, World.ownsRow_nil _ _ _ _, World.ownsRow_nil _ _ _ _, .inl rfl⟩
    clear hm
    go_wp2_with fail
    go_loopw [6] (fun iv wr => ∃ (k : Nat) (v1 v2 : Value), k ≤ B.n ∧ iv = .int .i64 k ∧ S1 wc g B.n ((bentL B.bot B.bend).map (·.2)) ((bentL B.top B.bend).map (·.1)) k v1 v2 wr) (fun iv _ => B.n - (intOf iv).toNat)
    case atStart => exact ⟨0, _, _, Nat.zero_le _, rfl, S10.out⟩
    case round =>
      obtain ⟨k, v1, v2, hk, rfl, hs⟩ := hrel
      have HS := Lib.hid hs
      clear hs
      by_cases hlt : k < B.n
      · go_wp2_with fail
        refine wp_region_any (by kernel_rfl) ?_
        have hk1 : (k : Int) < (B.n : Int) := by omega
        have hk2 : (k : Int) < (B.n' : Int) := by have := HN.out; omega
        have hpos : 0 < B.n := by omega
        have h30 := HO.out.n2
        have hgl : g < wc.heap.size := HM.out.box.lt
        obtain ⟨ta, tao, rfl, hta, ca0, ca1⟩ := Pairs.at_ HM.out.pa hlt
        obtain ⟨tb, tbo, rfl, htb, cb0, cb1⟩ := Pairs.at_ HM.out.pb (show k < B.n' by have := HN.out; omega)
        have na := ne_of_box HM.out.box ⟨_, _, _, rfl⟩ ⟨_, _, _, rfl⟩ ⟨_, _, _, rfl⟩ ca1
        have nb := ne_of_box HM.out.box ⟨_, _, _, rfl⟩ ⟨_, _, _, rfl⟩ ⟨_, _, _, rfl⟩ cb0
        obtain ⟨X1, hX1⟩ : ∃ X1, Hid (X1 = ((bentL B.bot B.bend).getD k (0, 0)).2) := ⟨_, rfl⟩
        obtain ⟨X2, hX2⟩ : ∃ X2, Hid (X2 = ((bentL B.top B.bend).getD k (0, 0)).1) := ⟨_, rfl⟩
        obtain ⟨HL, hHL⟩ : ∃ HL, Hid (HL = (((bentL B.bot B.bend).map (·.2)).take k).map (Value.int .i64)) := ⟨_, rfl⟩
        obtain ⟨TL, hTL⟩ : ∃ TL, Hid (TL = (((bentL B.top B.bend).map (·.1)).take k).map (Value.int .i64)) := ⟨_, rfl⟩
        rw [← hX1.out] at ca1
        rw [← hX2.out] at cb0
        have LA : ∀ W, wc.grownBy W (some g) → W.cell? ⟨ta, tao + k * 2 + 1, none⟩ = some (.int .i64 X1) := fun W hW => (World.cell?_of_block (hW.block ta hta (fun e => na (by simpa using e)))).trans ca1
        have LB : ∀ W, wc.grownBy W (some g) → W.cell? ⟨tb, tbo + k * 2, none⟩ = some (.int .i64 X2) := fun W hW => (World.cell?_of_block (hW.block tb htb (fun e => nb (by simpa using e)))).trans cb0
        (refine wpAny_take (i := 0) (v := ?_) rfl (by kernel_rfl) (by kernel_rfl) (by kernel_rfl) (fun _ _ _ h => h) (Or.inl ⟨by rfl, ?_⟩) ?_; rotate_left; focus (intro w; go_simp; try with_reducible rfl))
        (refine wpAny_take (i := 2) (v := ?_) rfl (by kernel_rfl) (by kernel_rfl) (by kernel_rfl) (fun _ _ _ h => h) (Or.inl ⟨by rfl, ?_⟩) ?_; rotate_left; focus (intro w; go_simp; try with_reducible rfl))
        (refine wpAny_take (i := 3) (v := ?_) rfl (by kernel_rfl) (by kernel_rfl) (by kernel_rfl) (fun _ _ _ h => h) (Or.inl ⟨by rfl, ?_⟩) ?_; rotate_left; focus (intro w; go_simp; try with_reducible rfl))
        (refine wpAny_take (i := 4) (v := ?_) rfl (by kernel_rfl) (by kernel_rfl) (by kernel_rfl) (fun _ _ _ h => h) (Or.inl ⟨by rfl, ?_⟩) ?_; rotate_left; focus (intro w; go_simp; try with_reducible rfl))
        (refine wpAny_take (i := 5) (v := ?_) rfl (by kernel_rfl) (by kernel_rfl) (by kernel_rfl) (fun _ _ _ h => h) (Or.inl ⟨by rfl, ?_⟩) ?_; rotate_left; focus (intro w; go_simp; try with_reducible rfl))
        (refine wpAny_take (i := 9) (v := ?_) rfl (by kernel_rfl) (by kernel_rfl) (by kernel_rfl) (fun _ _ _ h => h) (Or.inl ⟨by rfl, ?_⟩) ?_; rotate_left; focus (intro w; go_simp; try with_reducible rfl))
        (refine wpAny_take (i := 11) (v := ?_) rfl (by kernel_rfl) (by kernel_rfl) (by kernel_rfl) (fun _ _ _ h => h) (Or.inl ⟨by rfl, ?_⟩) ?_; rotate_left; focus (intro w; go_simp; try with_reducible rfl))
        (refine wpAny_take (i := 12) (v := ?_) rfl (by kernel_rfl) (by kernel_rfl) (by kernel_rfl) (fun _ _ _ h => h) (Or.inl ⟨by rfl, ?_⟩) ?_; rotate_left; focus (intro w; go_simp; try with_reducible rfl))
        (refine wpAny_take (i := 13) (v := ?_) rfl (by kernel_rfl) (by kernel_rfl) (by kernel_rfl) (fun _ _ _ h => h) (Or.inl ⟨by rfl, ?_⟩) ?_; rotate_left; focus (intro w; go_simp; try with_reducible rfl))
        (refine wpAny_take (i := 14) (v := ?_) rfl (by kernel_rfl) (by kernel_rfl) (by kernel_rfl) (fun _ _ _ h => h) (Or.inl ⟨by rfl, ?_⟩) ?_; rotate_left; focus (intro w; go_simp; try with_reducible rfl))
        show wpAny _ _ _ _ _ _ _ wr.drew
        refine wpAny_tame0 [1, 6, 7, 8, 10, 15, 16, 17, 18, 19, 20, 21] (by decide) (by kernel_rfl) (J2L wc g v1 v2 (.slice none 0 0) k HL TL X1 X2) (by decide) (by kernel_rfl) (by decide) ?_ ?_ ?_
        · have hs := HS.out
          refine ⟨⟨⟨hs.gr.os, hs.gr.tape, hs.gr.output, hs.gr.size, hs.gr.block⟩, hgl, ?_, by simp, by simp, by simp, by simp, by simp, by simp, ?_, ?_, ?_, by simp, by simp⟩, by simp, by simp⟩
          · simp only [Bool.false_eq_true, if_false]; exact hs.box
          · simp only [Bool.false_eq_true, if_false]; rw [hHL.out]; exact hs.o1
          · simp only [Bool.false_eq_true, if_false]; rw [hTL.out]; exact hs.o2
          · simp only [Bool.false_eq_true, if_false]; exact hs.sep
        · intro i hi o ho L σ W hLi hW hC hJ
          generalize hA : allOf _ σ _ _ = A
          simp only [List.mem_cons, List.not_mem_nil, or_false] at hi
          rcases hi with rfl | rfl | rfl | rfl | rfl | rfl | rfl | rfl | rfl | rfl | rfl | rfl
          · obtain rfl := opAt ho rfl
            have e1 : A.tmps[26]?.getD undef = .pointer (some ⟨g, 0, none⟩) := by rw [← hA]; kernel_rfl
            have h8 : L 8 = false := hC.no hLi rfl rfl (by kernel_rfl)
            have h19 : L 19 = false := hC.no h8 rfl rfl (by kernel_rfl)
            have c1 := hJ.1.box.cell 0
            simp only [h19, Bool.false_eq_true, if_false, List.getElem?_toArray, List.getElem?_cons_zero] at c1
            go_simp
            exact hJ.up hJ.1.load1 (by simp) (by simp)
          · obtain rfl := opAt ho rfl
            have e1 : A.tmps[31]?.getD undef = .pointer (some ⟨ta, tao + k * 2 + 1, none⟩) := by rw [← hA]; kernel_rfl
            have c1 := LA W hJ.1.k
            go_simp
            exact hJ.up hJ.1.load6 (by simp) (by simp)
          · obtain rfl := opAt ho rfl
            have h6 : L 6 = true := hW.yes rfl (by kernel_rfl)
            have e1 : A.tmps[32]?.getD undef = .int .i64 X1 := by rw [← hJ.1.p6 h6, ← hA]; kernel_rfl
            go_simp
            exact hJ.up hJ.1.build7 (by simp) (by simp)
          · obtain rfl := opAt ho rfl
            have h1 : L 1 = true := hW.yes rfl (by kernel_rfl)
            have h7 : L 7 = true := hW.yes rfl (by kernel_rfl)
            have h17 : L 17 = false := hC.no hLi rfl rfl (by kernel_rfl)
            have h19 : L 19 = false := hC.no hLi rfl rfl (by kernel_rfl)
            have h21 : L 21 = false := hC.no h17 rfl rfl (by kernel_rfl)
            have e1 : A.tmps[27]?.getD undef = v1 := by rw [← hJ.1.p1 h1, ← hA]; kernel_rfl
            obtain ⟨q, hq, hb⟩ := hJ.1.p7 h7 hLi
            have e2 : A.tmps[33]?.getD undef = .slice (some ⟨q, 0, none⟩) 1 1 := by rw [← hq, ← hA]; kernel_rfl
            have o1 := hJ.1.o1
            rw [hLi] at o1
            simp only [Bool.false_eq_true, if_false] at o1
            obtain ⟨v', W', hrun, hown, hg, _, hat⟩ := run_append_own_at (P := Try.prog) W wc.heap.size 44 44 3 _ _ 1 8 rfl rfl rfl rfl rfl rfl (by decide) v1 k HL o1 ⟨q, 0, none⟩ 1 1 [.int .i64 X1] rfl (fun j u hj => by match j, hj with | 0, hj => exact (hb.cell 0).trans hj) (by simp [Value.oneCell']) (by simp only [maxLen]; omega) (by omega) hJ.1.k.size
            exact tame_append (.tmp 27) (.tmp 33) 44 rfl (by simpa [Act.eval] using e1) (by simpa [Act.eval] using e2) hrun (hJ.up (hJ.1.app8 hLi h17 h19 h21 hown hg hat) (by simp) (by simp))
          · obtain rfl := opAt ho rfl
            have e1 : A.tmps[35]?.getD undef = .pointer (some ⟨g, 1, none⟩) := by rw [← hA]; kernel_rfl
            have h17 : L 17 = false := hC.no hLi rfl rfl (by kernel_rfl)
            have h21 : L 21 = false := hC.no h17 rfl rfl (by kernel_rfl)
            have c1 := hJ.1.box.cell 1
            simp only [h21, Bool.false_eq_true, if_false, List.getElem?_toArray, List.getElem?_cons_zero, List.getElem?_cons_succ] at c1
            go_simp
            exact hJ.up hJ.1.load10 (by simp) (by simp)
          · obtain rfl := opAt ho rfl
            have e1 : A.tmps[40]?.getD undef = .pointer (some ⟨tb, tbo + k * 2, none⟩) := by rw [← hA]; kernel_rfl
            have c1 := LB W hJ.1.k
            go_simp
            exact hJ.up hJ.1.load15 (by simp) (by simp)
          · obtain rfl := opAt ho rfl
            have h15 : L 15 = true := hW.yes rfl (by kernel_rfl)
            have e1 : A.tmps[41]?.getD undef = .int .i64 X2 := by rw [← hJ.1.p15 h15, ← hA]; kernel_rfl
            go_simp
            exact hJ.up hJ.1.build16 (by simp) (by simp)
          · obtain rfl := opAt ho rfl
            have h8 : L 8 = true := hW.yes rfl (by kernel_rfl)
            have h10 : L 10 = true := hW.yes rfl (by kernel_rfl)
            have h16 : L 16 = true := hW.yes rfl (by kernel_rfl)
            have h19 : L 19 = false := hC.no hLi rfl rfl (by kernel_rfl)
            have h21 : L 21 = false := hC.no hLi rfl rfl (by kernel_rfl)
            have e1 : A.tmps[36]?.getD undef = v2 := by rw [← hJ.1.p10 h10, ← hA]; kernel_rfl
            obtain ⟨q, hq, hb, _⟩ := hJ.1.p16 h16 hLi
            have e2 : A.tmps[42]?.getD undef = .slice (some ⟨q, 0, none⟩) 1 1 := by rw [← hq, ← hA]; kernel_rfl
            have o2 := hJ.1.o2
            rw [hLi] at o2
            simp only [Bool.false_eq_true, if_false] at o2
            obtain ⟨v', W', hrun, hown, hg, _, hat⟩ := run_append_own_at (P := Try.prog) W wc.heap.size 44 44 3 _ _ 1 8 rfl rfl rfl rfl rfl rfl (by decide) v2 k TL o2 ⟨q, 0, none⟩ 1 1 [.int .i64 X2] rfl (fun j u hj => by match j, hj with | 0, hj => exact (hb.cell 0).trans hj) (by simp [Value.oneCell']) (by simp only [maxLen]; omega) (by omega) hJ.1.k.size
            exact tame_append (.tmp 36) (.tmp 42) 44 rfl (by simpa [Act.eval] using e1) (by simpa [Act.eval] using e2) hrun (hJ.up (hJ.1.app17 h8 hLi h19 h21 hown hg hat) (by simp) (by simp))
          · obtain rfl := opAt ho rfl
            have e1 : A.tmps[5]?.getD undef = .pointer (some ⟨g, 0, none⟩) := by rw [← hA]; kernel_rfl
            go_simp
            exact hJ.up (hJ.1.load18 _) (fun _ => rfl) (by simp)
          · obtain rfl := opAt ho rfl
            have h8 : L 8 = true := hW.yes rfl (by kernel_rfl)
            have h17 : L 17 = true := hW.yes rfl (by kernel_rfl)
            have h18 : L 18 = true := hW.yes rfl (by kernel_rfl)
            have e1 : A.tmps[44]?.getD undef = .pointer (some ⟨g, 0, none⟩) := by rw [← hJ.2.1 h18, ← hA]; kernel_rfl
            have e2 : A.tmps[34]?.getD undef = σ 8 := by rw [← hA]; kernel_rfl
            obtain ⟨q, cap, hq⟩ := hJ.1.c8 h8
            rw [hq] at e2
            have hs := hJ.1.sets19 h8 h17 undef
            rw [hq] at hs
            have f0 := hJ.1.box.frozen 0
            have c0 := hJ.1.box.cell 0
            go_simp
            exact hJ.up hs (by simp) (by simp)
          · obtain rfl := opAt ho rfl
            have e1 : A.tmps[5]?.getD undef = .pointer (some ⟨g, 0, none⟩) := by rw [← hA]; kernel_rfl
            go_simp
            exact hJ.up (hJ.1.load20 _) (by simp) (fun _ => rfl)
          · obtain rfl := opAt ho rfl
            have h17 : L 17 = true := hW.yes rfl (by kernel_rfl)
            have h8 : L 8 = true := hW.yes rfl (by kernel_rfl)
            have h20 : L 20 = true := hW.yes rfl (by kernel_rfl)
            have e1 : A.tmps[45]?.getD undef = .pointer (some ⟨g, 1, none⟩) := by rw [← hJ.2.2 h20, ← hA]; kernel_rfl
            have e2 : A.tmps[43]?.getD undef = σ 17 := by rw [← hA]; kernel_rfl
            obtain ⟨q, cap, hq⟩ := hJ.1.c17 h17
            rw [hq] at e2
            have hs := hJ.1.sets21 h8 h17 undef
            rw [hq] at hs
            have f0 := hJ.1.box.frozen 1
            have c0 := hJ.1.box.cell 1
            go_simp
            exact hJ.up hs (by simp) (by simp)
        · intro L σ W hL hJ
          have hJ1 := hJ.1
          have hs' : S1 wc g B.n ((bentL B.bot B.bend).map (·.2)) ((bentL B.top B.bend).map (·.1)) (k + 1) (σ 8) (σ 17) W := by
            have l8 := hL 8 (by simp)
            have l17 := hL 17 (by simp)
            have l19 := hL 19 (by simp)
            have l21 := hL 21 (by simp)
            have hbox := hJ1.box
            have ho1 := hJ1.o1
            have ho2 := hJ1.o2
            have hsep := hJ1.sep
            rw [l19, l21] at hbox
            rw [l8] at ho1
            rw [l17] at ho2
            rw [l8, l17] at hsep
            simp only [if_true] at hbox ho1 ho2 hsep
            have lb : (bentL B.bot B.bend).length = B.n := Pairs.len HM.out.pa
            have lt_ : (bentL B.top B.bend).length = B.n' := Pairs.len HM.out.pb
            have hnn := HN.out
            refine ⟨hJ1.k, hbox, ?_, ?_, hsep⟩
            · have e : (((bentL B.bot B.bend).map (·.2)).take (k + 1)).map (Value.int .i64) = HL ++ [.int .i64 X1] := by
                rw [hHL.out, hX1.out, List.take_succ_eq_append_getElem (by simp; omega), List.map_append]
                simp [List.getElem?_eq_getElem (show k < (bentL B.bot B.bend).length by omega)]
              rw [e]; exact ho1
            · have e : (((bentL B.top B.bend).map (·.1)).take (k + 1)).map (Value.int .i64) = TL ++ [.int .i64 X2] := by
                rw [hTL.out, hX2.out, List.take_succ_eq_append_getElem (by simp; omega), List.map_append]
                simp [List.getElem?_eq_getElem (show k < (bentL B.top B.bend).length by omega)]
              rw [e]; exact ho2
          clear hJ hJ1 hL
          simp only [allOf, dstOf]
          go_simp
          go_wp2
          go_roundw
          case rel => exact ⟨k + 1, _, _, by omega, by go_num, hs'⟩
          case measure => simp [intOf]; omega
      · obtain rfl : k = B.n := by omega
        have hs := HS.out
        have hl1 : ((bentL B.bot B.bend).map (·.2)).take B.n = (bentL B.bot B.bend).map (·.2) := List.take_of_length_le (by rw [List.length_map]; exact Nat.le_of_eq (Pairs.len HM.out.pa))
        have hl2 : ((bentL B.top B.bend).map (·.1)).take B.n = (bentL B.top B.bend).map (·.1) := List.take_of_length_le (by rw [List.length_map, ← HN.out]; exact Nat.le_of_eq (Pairs.len HM.out.pb))
        obtain ⟨wc2, rfl⟩ : ∃ wc2 : World, wc2 = wr := ⟨wr, rfl⟩
        have HV2 : Hid (SV w B wc2) := ⟨HM.out.v.b.grown hs.gr (by simp; have := HM.out.g1; omega), HM.out.v.z.grown hs.gr (by simp; have := HM.out.g1; omega), HM.out.v.bel.grown hs.gr (by have := HM.out.v.bel.size; omega) (fun q hq => by simp at hq; have := HM.out.g1; omega)⟩
        have hKn : ∀ q o, B.K = some ⟨q, o, none⟩ → 0 < B.m → q ≠ g := by
          intro q o e hm
          have hc := HK.out.below HM.out.v.bel
          obtain ⟨b, off, e2, _, c0, _⟩ := Cracks.at_ hc hm
          rw [e] at e2
          cases e2
          exact ne_of_box HM.out.box ⟨_, _, _, rfl⟩ ⟨_, _, _, rfl⟩ ⟨_, _, _, rfl⟩ c0
        have HKN := Lib.hid hKn
        have HK2 : Hid (Cracks wc2 B.K B.m B.cr) := Reads.grown (HK.out.below HM.out.v.bel) hs.gr (fun hm q o e => by simp; exact fun e2 => hKn q o e hm e2.symm)
        have HG1 := Lib.hid HM.out.g1
        have HS1 := Lib.hid hs
        have Hlen := Lib.hid HK.out.len
        have HPN : Hid (0 < B.n) := by have := HO.out.n1; unfold Hid; omega
        have HM4 := Lib.hid HO.out.m4
        have S20 : Hid (S2 wc2 g v1 v2 B.cr 0 (.slice none 0 0) wc2) := ⟨World.grownBy.refl wc2 _, hs.box, World.ownsRow_nil _ _ _ _⟩
        obtain ⟨i0, hi, hz0, hz1, hz2⟩ := info_parts Try.infoCrack
        have HL1 := Lib.hid hl1
        have HL2 := Lib.hid hl2
        clear hs hKn HM S10 HS HK hl1 hl2
        go_wp2_with fail
        go_loopw [7] (fun iv wr => ∃ (k : Nat) (sv : Value), k ≤ B.m ∧ iv = .int .i64 k ∧ S2 wc2 g v1 v2 B.cr k sv wr) (fun iv _ => B.m - (intOf iv).toNat)
        case atStart => exact ⟨0, _, Nat.zero_le _, rfl, S20.out⟩
        case round =>
          obtain ⟨k, sv, hk, rfl, hs⟩ := hrel
          have HS := Lib.hid hs
          have hb3 : wr.cell? ⟨w.heap.size, 3, none⟩ = some (.slice B.K B.m B.d) := (HV2.out.b.grown hs.gr (by simp; have := HG1.out; omega)).cell 3
          clear hs S20
          have hm4 := HM4.out
          by_cases hlt : k < B.m
          · obtain ⟨b, off, hKe, hb, hc0, hc1, hc2, hc3, hc4, hc5⟩ := Cracks.at_ (Reads.grown HK2.out HS.out.gr (fun hm q o e => by simp; exact fun e2 => HKN.out q o e hm e2.symm)) hlt
            rw [hKe] at hb3
            clear hKe
            have HSN := Lib.hid (split_snoc B.cr k (by rw [Hlen.out]; exact hlt))
            generalize B.cr.getD k Crack.zero = y at *
            have HA2 := Lib.hid ((HS.out.alloc (.cells #[.int .i64 y.cl, .int .i64 y.ch, .int .i64 y.fl, .int .i64 y.fh, .int .i64 y.tl, .int .i64 y.th] 111)).alloc (.cells #[.int .i64 y.cl, .int .i64 y.ch, .int .i64 y.fl, .int .i64 y.fl, .int .i64 y.th, .int .i64 y.th] 111))
            have hg2 : (wr.alloc (.cells #[.int .i64 y.cl, .int .i64 y.ch, .int .i64 y.fl, .int .i64 y.fh, .int .i64 y.tl, .int .i64 y.th] 111)).cell? ⟨g, 2, none⟩ = some sv := (HS.out.alloc _).box.cell 2
            have Hnews := Lib.hid (cell_six_new (wr.alloc (.cells #[.int .i64 y.cl, .int .i64 y.ch, .int .i64 y.fl, .int .i64 y.fh, .int .i64 y.tl, .int .i64 y.th] 111)) (.int .i64 y.cl) (.int .i64 y.ch) (.int .i64 y.fl) (.int .i64 y.fl) (.int .i64 y.th) (.int .i64 y.th) 111 (g := wr.heap.size + 1) (by simp))
            go_wp2_with (at_builtin; refine wpList_append_own _ rfl _ _ 23 rfl wc2.heap.size 111 i0 (.agg #[.int .i64 0, .int .i64 0, .int .i64 0, .int .i64 0, .int .i64 0, .int .i64 0]) 6 48 Try.underlying23 hi hz0 hz1 hz2 rfl (by decide) _ _ _ rfl HA2.out.os ⟨wr.heap.size + 1, 0, none⟩ 1 1 [.int .i64 y.cl, .int .i64 y.ch, .int .i64 y.fl, .int .i64 y.fl, .int .i64 y.th, .int .i64 y.th] rfl rfl Hnews.out ?c2 ?c3 ?c4 ?c5 ?_)
            case c2 => intro u hu; simp only [List.mem_cons, List.not_mem_nil, or_false] at hu; rcases hu with rfl | rfl | rfl | rfl | rfl | rfl <;> rfl
            case c3 => unfold maxLen; omega
            case c4 => omega
            case c5 => exact HA2.out.gr.size
            intro v' w4 hown4 hgrow _
            obtain ⟨gv, cv, rfl⟩ := own_form hown4 (Nat.succ_pos k)
            have hown5 : Hid (w4.ownsRow wc2.heap.size 111 6 (.slice (some ⟨gv, 0, none⟩) (k + 1) cv) (k + 1) (flat6 ((B.cr.map splitOf).take (k + 1)))) := by unfold Hid; rw [HSN.out]; exact hown4
            have HN2 := Lib.hid (HA2.out.appended hgrow hown5.out)
            have gg := HA2.out.box.grown hgrow (own_blk_ne HA2.out.os HA2.out.box (by decide))
            have g6 := gg.cell 2
            have f6 := gg.frozen 2
            clear hown4 hgrow gg hg2 hc0 hc1 hc2 hc3 hc4 hc5
            go_wp2
            go_roundw
            case rel => exact ⟨k + 1, _, by omega, by go_num, HN2.out⟩
            case measure => simp [intOf]; omega
          · obtain rfl : k = B.m := by omega
            have hs := HS.out
            have hos := hs.os
            rw [List.take_of_length_le (by rw [List.length_map, Hlen.out]; exact Nat.le_refl _)] at hos
            have h1 := HS1.out
            obtain ⟨g1, k1, rfl⟩ := own_form h1.o1 HPN.out
            obtain ⟨g2, k2, rfl⟩ := own_form h1.o2 HPN.out
            obtain ⟨SA, sc, rfl⟩ := own_slice hos
            have o1 := h1.o1.kept hs.gr (.inr (own_blk_ne h1.o1 h1.box (by decide)))
            have o2 := h1.o2.kept hs.gr (.inr (own_blk_ne h1.o2 h1.box (by decide)))
            have hz : Blk wr (w.heap.size + 1) 46 z3 := HV2.out.z.grown hs.gr (by simp; have := HG1.out; omega)
            have Hg : Hid (Blk wr g 46 #[.slice (some ⟨g1, 0, none⟩) B.n k1, .slice (some ⟨g2, 0, none⟩) B.n k2, .slice SA B.m sc]) := hs.box
            have Hr := Lib.hid hz
            have HF := Lib.hid (own_setRow o1 hz (by decide) #[.slice (some ⟨g1, 0, none⟩) B.n k1, .slice (some ⟨g2, 0, none⟩) B.n k2, .slice SA B.m sc])
            have HF2 := Lib.hid (own_setRow o2 hz (by decide) #[.slice (some ⟨g1, 0, none⟩) B.n k1, .slice (some ⟨g2, 0, none⟩) B.n k2, .slice SA B.m sc])
            have HF3 := Lib.hid (own_setRow hos hz (by decide) #[.slice (some ⟨g1, 0, none⟩) B.n k1, .slice (some ⟨g2, 0, none⟩) B.n k2, .slice SA B.m sc])
            have HB : Hid (Below w.heap.size w wr) := HV2.out.bel.grown hs.gr (by have := HV2.out.bel.size; omega) (fun q hq => by simp at hq; have := HG1.out; omega)
            have hn30 := HO.out.n2
            rw [HL1.out] at HF
            rw [HL2.out] at HF2
            clear hs hos h1 o1 o2 hz HS HS1
            go_wp2_with (first | (refine wpList_load_row rfl 46 _ rfl g rfl 46 _ _ _ Hg.out Try.underlying46 rfl (by kernel_rfl) ?_) | (refine wpList_store_row rfl 46 _ _ rfl (w.heap.size + 1) _ rfl rfl 46 _ Hr.out (by kernel_rfl) rfl (by kernel_rfl) ?_))
            exact bodyPost_ret (results_c rfl _ _ _ _ _ _ _ rfl (Hr.out.setRow _) Try.underlying46 (by kernel_rfl)) rfl ⟨some ⟨g1, 0, none⟩, some ⟨g2, 0, none⟩, SA, k1, k2, sc, rfl, ⟨ints_of_own HF.out, ints_of_own HF2.out, (reads_of_own HF3.out).r, by show B.n ≤ 1000; omega, by show B.m ≤ 1000; omega⟩, below_setR HB.out (by omega) _⟩
end Go.Proofs.Ytiflhimmieflpaa
