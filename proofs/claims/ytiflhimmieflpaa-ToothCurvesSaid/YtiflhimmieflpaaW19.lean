/- Walks: Most, and what all functions of the package's face begin with. -/
import Derived.Test.YtiflhimmieflpaaW11
import Derived.Test.YtiflhimmieflpaaW18
namespace Go.Proofs.Ytiflhimmieflpaa
open Go.RowKit Go.Maps

/-- A blade as an argument. -/
structure Bl where
  A : Option Addr
  A' : Option Addr
  K : Option Addr
  n : Nat
  c : Nat
  n' : Nat
  c' : Nat
  m : Nat
  d : Nat
  bend : Int
  bot : List (Int × Int)
  top : List (Int × Int)
  cr : List Crack
/-- A saw as an argument. -/
structure Sw where
  long : Int
  wide : Int
  kerf : Int
  across : Int
def Bl.val (B : Bl) : Value := .agg #[.slice B.A B.n B.c, .slice B.A' B.n' B.c', .int .i64 B.bend, .slice B.K B.m B.d]
def Sw.val (s : Sw) : Value := .agg #[.int .i64 s.long, .int .i64 s.wide, .int .i64 s.kerf, .int .i64 s.across]
structure Bl.At (B : Bl) (w : World) : Prop where
  hb : Pairs w B.A B.n B.bot
  ht : Pairs w B.A' B.n' B.top
  hk : Cracks w B.K B.m B.cr
  n1 : B.n ≤ maxLen
  n2 : B.n' ≤ maxLen
  n3 : B.m ≤ maxLen
theorem Bl.At.below {B : Bl} {w W : World} (h : B.At w) (hb : Below w.heap.size w W) : B.At W := ⟨h.hb.below hb, h.ht.below hb, h.hk.below hb, h.n1, h.n2, h.n3⟩
def Bl.err (B : Bl) (s : Sw) : Int := readyErr B.n B.n' B.m B.bend B.bot B.top B.cr s.long s.wide s.kerf s.across
def Bl.worst (B : Bl) (s : Sw) : Sawing := worstL s.long s.wide s.kerf s.across (bentL B.bot B.bend) (bentL B.top B.bend) B.cr
def Bl.curved (B : Bl) (g cap g' cap' : Nat) : Value := .agg #[.slice B.A B.n B.c, .slice B.A' B.n' B.c', .int .i64 B.bend, .slice B.K B.m B.d, .slice (some ⟨g, 0, none⟩) B.n cap, .slice (some ⟨g', 0, none⟩) B.n cap']

structure Sw.Ok (s : Sw) : Prop where
  l1 : 1 ≤ s.long
  l2 : s.long ≤ 30
  w1 : 1 ≤ s.wide
  w2 : s.wide ≤ 300
  k1 : 0 ≤ s.kerf
  k2 : s.kerf ≤ 50
  a1 : 0 ≤ s.across
  a2 : s.across ≤ 50
structure Bl.Ok (B : Bl) : Prop where
  n1 : 1 ≤ B.n
  n2 : B.n ≤ 30
  nn : B.n' = B.n
  m4 : B.m ≤ 4
  b0 : 0 ≤ B.bend
  b3 : B.bend ≤ 300
  bot : ∀ s ∈ B.bot, InR s
  top : ∀ s ∈ B.top, InR s
  cr : ∀ k ∈ B.cr, 0 ≤ k.th ∧ k.th ≤ 300
theorem sawOk_parts {s : Sw} (h : sawOk s.long s.wide s.kerf s.across = true) : s.Ok := by
  simp only [sawOk, within, Bool.and_eq_true, List.all_eq_true, decide_eq_true_eq, List.mem_cons, List.not_mem_nil, or_false, forall_eq, forall_eq_or_imp] at h
  obtain ⟨⟨h1, h2⟩, h3, h4⟩ := h
  exact ⟨h1.1, h1.2, h2.1, h2.2, h3.1, h3.2, h4.1, h4.2⟩
theorem curveErr_ok {B : Bl} (h : curveErr B.n B.n' B.m B.bend B.bot B.top B.cr = 0) : B.Ok := by
  unfold curveErr at h
  split at h
  · omega
  split at h
  · omega
  split at h
  · omega
  split at h
  · omega
  split at h
  · omega
  rename_i e1 e2 e3 e4 e5
  have e4' : edgesOk B.bend B.bot B.top = true := by simpa using e4
  obtain ⟨q1, q2, q3⟩ := edgesOk_in e4'
  simp [within] at e2
  refine ⟨by omega, by omega, by omega, by omega, q1.1, q1.2, fun s hs => (q2 s hs).1, fun s hs => (q3 s hs).1, fun k hk => ?_⟩
  simp only [Bool.not_eq_true, List.any_eq_false] at e5
  have := e5 k hk
  simp only [crackOk, validS, Bool.not_eq_false', Bool.and_eq_true, List.all_eq_true, decide_eq_true_eq, List.mem_cons, List.not_mem_nil, or_false, forall_eq, forall_eq_or_imp] at this
  omega
theorem err_ok {B : Bl} {s : Sw} (h : B.err s = 0) : curveErr B.n B.n' B.m B.bend B.bot B.top B.cr = 0 ∧ B.Ok ∧ s.Ok := by
  unfold Bl.err readyErr at h
  split at h
  · rename_i e; exact absurd h e
  split at h
  · omega
  · rename_i e1 e2
    have e1' : curveErr B.n B.n' B.m B.bend B.bot B.top B.cr = 0 := by simpa using e1
    exact ⟨e1', curveErr_ok e1', sawOk_parts (by simpa using e2)⟩
theorem worst_bounds {B : Bl} {s : Sw} (h : B.Ok) (hs : s.Ok) : SawBounds (B.worst s) := by
  refine ⟨hs.l1, hs.l2, hs.w1, hs.w2, hs.k1, hs.k2, hs.a1, hs.a2, fun v hv => ?_, fun v hv => ?_, fun k hk => ?_⟩
  · obtain ⟨p, hp, rfl⟩ := List.mem_map.1 hv
    have := bentL_in h.bot h.b0 p hp
    exact ⟨this.2.2.1, this.2.2.2⟩
  · obtain ⟨p, hp, rfl⟩ := List.mem_map.1 hv
    have := bentL_in h.top h.b0 p hp
    exact ⟨this.1, this.2.1⟩
  · obtain ⟨p, hp, rfl⟩ := List.mem_map.1 hk
    exact h.cr p hp

def ReadyTop (w : World) (B : Bl) (s : Sw) (e : Ending) (w' : World) : Prop :=
  Below w.heap.size w w' ∧ ((B.err s ≠ 0 ∧ e = .returned (.tuple #[zeroCurved, .int .i64 (B.err s)])) ∨
    (B.err s = 0 ∧ ∃ g cap g' cap', e = .returned (.tuple #[B.curved g cap g' cap', .int .i64 0]) ∧ Pairs w' (some ⟨g, 0, none⟩) B.n (bentL B.bot B.bend) ∧ Pairs w' (some ⟨g', 0, none⟩) B.n (bentL B.top B.bend) ∧ w.heap.size ≤ g ∧ w.heap.size ≤ g'))
theorem ready_top (B : Bl) (s : Sw) (w : World) (h : B.At w) : Calls Try.prog 64 #[B.val, s.val] w (ReadyTop w B s) :=
  (ready_any B.A B.A' B.K B.n B.c B.n' B.c' B.m B.d B.bend B.bot B.top B.cr s.long s.wide s.kerf s.across w h.hb h.ht h.hk h.n1 h.n2 h.n3).mono (fun _ _ h => h)

/-- What worst answers, with the addresses spelled out. -/
def WorstTop (w : World) (n m : Nat) (s : Sawing) (e : Ending) (w' : World) : Prop :=
  Below w.heap.size w w' ∧ ∃ b o b' o' c c' K d, e = .returned (sawVal s ⟨b, o, none⟩ ⟨b', o', none⟩ n c c' K m d) ∧ SawAt w' s ⟨b, o, none⟩ ⟨b', o', none⟩ n K m ∧ n ≤ c ∧ n ≤ c' ∧ c ≤ maxLen
theorem worst_top (B : Bl) (s : Sw) (g cap g' cap' : Nat) (w : World) (hB : B.Ok) (h : Pairs w (some ⟨g, 0, none⟩) B.n (bentL B.bot B.bend)) (h' : Pairs w (some ⟨g', 0, none⟩) B.n (bentL B.top B.bend)) (hk : Cracks w B.K B.m B.cr) :
    Calls Try.prog 66 #[B.curved g cap g' cap', s.val] w (WorstTop w B.n B.m (B.worst s)) := by
  unfold Bl.curved
  rw [hB.nn]
  refine (worst_any B.A B.A' B.K B.c B.c' B.m B.d g 0 g' 0 B.n cap cap' B.bend s.long s.wide s.kerf s.across (bentL B.bot B.bend) (bentL B.top B.bend) B.cr w h h' hk (by have := hB.n1; omega) hB.n2 hB.m4).mono ?_
  rintro e w' ⟨hb, ⟨b, o, so⟩, ⟨b', o', so'⟩, c, c', K, d, rfl, hs, hc, hc', rfl, rfl⟩
  exact ⟨hb, b, o, b', o', c, c', K, d, rfl, hs, hc.1, hc'.1, hc.2⟩

def MostRes (w : World) (B : Bl) (s : Sw) (e : Ending) (w' : World) : Prop :=
  Below w.heap.size w w' ∧ ((B.err s ≠ 0 ∧ e = .returned (.tuple #[.slice none 0 0, .int .i64 (B.err s)])) ∨
    (B.err s = 0 ∧ ∃ v, e = .returned (.tuple #[v, .int .i64 0]) ∧ w'.ownsRow w.heap.size 39 2 v (layoutL (B.worst s) B.n).length (flat2 (layoutL (B.worst s) B.n))))

set_option maxRecDepth 100000 in
set_option maxHeartbeats 2000000 in
theorem Most_any (B : Bl) (s : Sw) (w : World) (h : B.At w) : Calls Try.prog 34 #[B.val, s.val] w (MostRes w B s) := by
  have E0 : Hid (Below w.heap.size w ((w.alloc (.cells #[.slice B.A B.n B.c, .slice B.A' B.n' B.c', .int .i64 B.bend, .slice B.K B.m B.d] 25)).alloc (.cells #[.int .i64 s.long, .int .i64 s.wide, .int .i64 s.kerf, .int .i64 s.across] 37))) := below_alloc' (below_self _ _) _
  have S0 := Lib.hid (Blk.new (w.alloc (.cells #[.slice B.A B.n B.c, .slice B.A' B.n' B.c', .int .i64 B.bend, .slice B.K B.m B.d] 25)) 37 #[.int .i64 s.long, .int .i64 s.wide, .int .i64 s.kerf, .int .i64 s.across] (g := w.heap.size + 1) (by simp))
  have HC := Lib.hid (ready_top B s _ (h.below E0.out))
  have HK := Lib.hid h
  clear h
  unfold Bl.val Sw.val at *
  go_enter Try.func34, Try.ntmps34
  go_wp2_with fail
  refine HC.out.mono ?_
  rintro e w2 ⟨hb2, ⟨herr, rfl⟩ | ⟨hok, g, cap, g', cap', rfl, P, P', -⟩⟩
  · have B2 := Lib.hid (below_then E0.out hb2)
    have Herr := Lib.hid herr
    have hz : (B.err s == 0) = false := by simpa using herr
    have hz2 : (B.err s != 0) = true := by simpa using herr
    clear hb2 herr HC
    unfold zeroCurved
    go_wp2
    go_ret2
    exact ⟨below_alloc' B2.out _, .inl ⟨Herr.out, rfl⟩⟩
  · have B2 := Lib.hid (below_then E0.out hb2)
    have S2 := Lib.hid (blk_keep hb2 S0.out)
    have Hok := Lib.hid (err_ok hok)
    have hP := Lib.hid P
    have hP' := Lib.hid P'
    have s2 := S2.out.cell
    have hz := S2.out.lt
    have HWT := Lib.hid (fun W (hb : Below w2.heap.size w2 W) => worst_top B s g cap g' cap' W Hok.out.2.1 (hP.out.below hb) (hP'.out.below hb) (HK.out.below (below_then B2.out hb)).hk)
    have HLT := Lib.hid (fun b o b' o' c c' K d W hs hc hc' hm => layout_any (B.worst s) b o b' o' B.n c c' K B.m d W hs hc hc' hm (worst_bounds Hok.out.2.1 Hok.out.2.2) Hok.out.2.1.n2 Hok.out.2.1.m4)
    have Hok0 := Lib.hid hok
    clear hb2 hok P P' HC
    unfold Bl.curved Sw.val at HWT
    unfold Bl.curved
    go_wp2_with fail
    refine (HWT.out _ (below_self _ _)).mono ?_
    rintro e w3 ⟨hb3, b, o, b', o', c, c', K, d, rfl, hs, hc, hc', hm⟩
    have B3 := Lib.hid (below_then (below_alloc' B2.out _) hb3)
    have HL3 := Lib.hid (HLT.out b o b' o' c c' K d _ hs hc hc' hm)
    clear hb3 hs hc hc' hm HWT HLT s2 hz
    go_wp2_with fail
    refine HL3.out.mono ?_
    rintro e w4 ⟨v, rfl, hown, hb4⟩
    have HO := Lib.hid (own_base hown B3.out.size)
    have B4 := Lib.hid (below_then B3.out hb4)
    clear hown hb4
    go_wp2
    go_ret2
    exact ⟨B4.out, .inr ⟨Hok0.out, v, rfl, HO.out⟩⟩
end Go.Proofs.Ytiflhimmieflpaa
