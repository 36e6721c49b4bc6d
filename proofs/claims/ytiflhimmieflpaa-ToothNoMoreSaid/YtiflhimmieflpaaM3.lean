/- Merged: W18, W19, W20, W21, W22, W23, W24. -/
import Derived.Test.YtiflhimmieflpaaM2
import Derived.StillTailTactics
import Derived.ArgAppend
import Derived.Lib.SliceRun

/- Walks: layout. -/
namespace Go.Proofs.Ytiflhimmieflpaa
open Go.RowKit Go.Maps

def colPlaces (s : Sawing) (n x : Nat) : List (Int × Int) := (LL s (n + 1 - s.long.toNat) x).map fun y => ((x : Int), y)
def layoutGo (s : Sawing) (n : Nat) : Nat → Nat → List (Int × Int)
  | 0, _ => []
  | f + 1, x => if x < n then (if bn s n x = 0 ∨ (bn s n x : Int) + aheadAt s n n (x + stepN s) < aheadAt s n n x then layoutGo s n f (x + 1) else colPlaces s n x ++ layoutGo s n f (x + stepN s)) else []
def layoutL (s : Sawing) (n : Nat) : List (Int × Int) := layoutGo s n (n + 1) 0
theorem layoutGo_end {s : Sawing} {n f x : Nat} (h : ¬ x < n) : layoutGo s n f x = [] := by
  cases f with
  | zero => rfl
  | succ f => rw [layoutGo, if_neg h]
theorem layoutGo_skip {s : Sawing} {n f x : Nat} (h : x < n) (hc : bn s n x = 0 ∨ (bn s n x : Int) + aheadAt s n n (x + stepN s) < aheadAt s n n x) : layoutGo s n (f + 1) x = layoutGo s n f (x + 1) := by
  rw [layoutGo, if_pos h, if_pos hc]
theorem layoutGo_take {s : Sawing} {n f x : Nat} (h : x < n) (hc : ¬ (bn s n x = 0 ∨ (bn s n x : Int) + aheadAt s n n (x + stepN s) < aheadAt s n n x)) : layoutGo s n (f + 1) x = colPlaces s n x ++ layoutGo s n f (x + stepN s) := by
  rw [layoutGo, if_pos h, if_neg hc]
def LayoutRes (w : World) (L : List (Int × Int)) (e : Ending) (w' : World) : Prop := ∃ v, e = .returned v ∧ w'.ownsRow w.heap.size 39 2 v L.length (flat2 L) ∧ Below w.heap.size w w'

theorem flat2_append (xs ys : List (Int × Int)) : flat2 (xs ++ ys) = flat2 xs ++ flat2 ys := by simp [flat2, List.flatMap_append]
theorem cell_two_at (w : World) (x y : Value) (t : TypeId) : ∀ j u, [x, y][j]? = some u → (w.alloc (.cells #[x, y] t)).cell? ((⟨w.heap.size, 0, none⟩ : Addr).add j) = some u := by
  intro j u hj
  rw [addr_add, Nat.zero_add, (Blk.new w t #[x, y] rfl).cell]
  simpa using hj

set_option maxRecDepth 100000 in
set_option maxHeartbeats 8000000 in
theorem layout_any (s : Sawing) (b o b' o' n c c' : Nat) (K : Option Addr) (m d : Nat) (w : World) (h : SawAt w s ⟨b, o, none⟩ ⟨b', o', none⟩ n K m) (hc : n ≤ c) (hc' : n ≤ c') (hm : c ≤ maxLen) (hs : SawBounds s) (hn : n ≤ 30) (hm4 : m ≤ 4) :
    Calls Try.prog 72 #[sawVal s ⟨b, o, none⟩ ⟨b', o', none⟩ n c c' K m d] w (LayoutRes w (layoutL s n)) := by
  obtain ⟨i0, hi, hz0, hz1, hz2⟩ := info_parts Try.infoPlace
  obtain ⟨l, hl⟩ := Int.eq_ofNat_of_zero_le (show 0 ≤ s.long by have := hs.l1; omega)
  obtain ⟨a, ha⟩ := Int.eq_ofNat_of_zero_le hs.a1
  have hst : stepN s = l + a := by unfold stepN; rw [hl, ha]; simp
  have Hst := Lib.hid hst
  have l1 := hs.l1
  have l2 := hs.l2
  have a2 := hs.a2
  rw [hl] at l1 l2
  rw [ha] at a2
  have HBN : Hid (∀ x, (LL s (n + 1 - s.long.toNat) x).length = bn s n x) := fun x => rfl
  have HW := Lib.hid (fun W (hb : Below w.heap.size w W) => blocks_any s b o b' o' n c c' K m d W (h.below hb) hc hc' hm hs hn hm4)
  have HA := Lib.hid (fun W bm base D V hmap => ahead_any s b o b' o' n c c' K m d bm base D V W hs hn hmap)
  have HAI := Lib.hid (fun i => aheadAt_in s n 302 (bn_le s n) n i)
  have HL : Hid (layoutL s n = layoutGo s n (n + 1) 0) := rfl
  unfold sawVal at HW HA ⊢
  unfold AheadRes at HA
  simp only [hst, ← Nat.add_assoc] at HA
  rw [hl, ha] at HW ⊢
  simp only [hl, ha] at HA
  have B1 := Lib.hid (below_self w (.cells #[.int .i64 l, .int .i64 s.wide, .int .i64 s.kerf, .int .i64 a, .slice (some ⟨b, o, none⟩) n c, .slice (some ⟨b', o', none⟩) n c', .slice K m d] 120))
  have X0 : Hid (Box7 (w.alloc (.cells #[.int .i64 l, .int .i64 s.wide, .int .i64 s.kerf, .int .i64 a, .slice (some ⟨b, o, none⟩) n c, .slice (some ⟨b', o', none⟩) n c', .slice K m d] 120)) w.heap.size (.int .i64 l) (.int .i64 s.wide) (.int .i64 s.kerf) (.int .i64 a) (.slice (some ⟨b, o, none⟩) n c) (.slice (some ⟨b', o', none⟩) n c') (.slice K m d)) := Blk.new w _ _ rfl
  clear h hc hc' hm hs hst
  go_enter Try.func72, Try.ntmps72
  go_wp2_with fail
  refine (HW.out _ B1.out).mono ?_
  rintro e w1 ⟨bm, D, V, rfl, hmap, hb1⟩
  have HM1 := Lib.hid hmap
  have HB1 := Lib.hid (below_then B1.out hb1)
  have X1 := Lib.hid (blk_keep hb1 X0.out)
  have x1 := X1.out.cell
  clear hmap hb1
  go_wp2_with fail
  refine (HA.out _ _ _ _ _ (by simpa only [hl, Int.toNat_natCast] using HM1.out)).mono ?_
  rintro e w2 ⟨g, rfl, hrow, hb2⟩
  obtain ⟨base, hM⟩ : ∃ base, BlkMap w2 base bm s (n + 1 - (l : Int).toNat) D V := ⟨_, HM1.out.below hb2⟩
  rw [← hl] at hM
  have HM := Lib.hid hM
  clear hM
  have HB2 := Lib.hid (below_then HB1.out hb2)
  have X2 := Lib.hid (blk_keep hb2 X1.out)
  have HR := Lib.hid hrow
  clear hrow hb2 x1 hl ha X1 HB1 HM1 X0 B1 HW HA
  go_wp2_with fail
  go_loopw [5, 6] (fun v i wr => ∃ (acc : List (Int × Int)) (x f : Nat), i = .int .i64 x ∧ wr.ownsRow w2.heap.size 39 2 v acc.length (flat2 acc) ∧ Below w2.heap.size w2 wr ∧ acc ++ layoutGo s n f x = layoutL s n ∧ n < x + f ∧ acc.length ≤ 302 * x) (fun _ i _ => n - (intOf i).toNat)
  case atStart => exact ⟨[], 0, n + 1, rfl, World.ownsRow_nil _ _ _ _, Below.refl _ _, by rw [HL.out]; rfl, by omega, by simp⟩
  case round =>
    obtain ⟨acc, x, f, rfl, hown, hbel, hgo, hf, hacc⟩ := hrel
    have Hgo := Lib.hid hgo
    have Hown := Lib.hid hown
    have Hbel := Lib.hid hbel
    have hcell := (blk_keep hbel X2.out).cell
    clear hgo hown hbel HL
    by_cases hlt : x < n
    · obtain ⟨f, rfl⟩ : ∃ f', f = f' + 1 := ⟨f - 1, by omega⟩
      have q1 := (Hbel.out.cell (p := ⟨g, x, none⟩) HR.out.lt).trans (HR.out.cell (i := x) (by omega))
      have q2 := (Hbel.out.cell (p := ⟨g, x + l + a, none⟩) HR.out.lt).trans (HR.out.cell (i := x + l + a) (by omega))
      have hA1 := HAI.out x
      have hA2 := HAI.out (x + l + a)
      have hB1 := bn_le s n x
      have hj30 : 302 * n ≤ 9060 := by omega
      have HGS := Lib.hid (layoutGo_skip (s := s) (n := n) (f := f) (x := x) hlt)
      have HGT := Lib.hid (layoutGo_take (s := s) (n := n) (f := f) (x := x) hlt)
      rw [Hst.out, ← Nat.add_assoc] at HGS HGT
      have hrow := HM.out.row x
      rw [HBN.out] at hrow
      obtain ⟨VA, vc, hV⟩ := own_slice hrow
      have hlk := fun q => look_of (HM.out.below Hbel.out) (show (wr.drewN q).heap = wr.heap from rfl) x (by omega)
      rw [hV] at hlk
      rw [hV] at hrow
      have HLL : Hid ((LL s (n + 1 - s.long.toNat) x).length = bn s n x) := rfl
      have HCP : Hid (colPlaces s n x = (LL s (n + 1 - s.long.toNat) x).map fun y => ((x : Int), y)) := rfl
      generalize LL s (n + 1 - s.long.toNat) x = ys at *
      generalize bn s n x = L at *
      generalize aheadAt s n n x = A1 at *
      generalize aheadAt s n n (x + l + a) = A2 at *
      have t1 : 0 ≤ A1 := hA1.1
      have t2 : A1 ≤ 10000 := by omega
      have t3 : 0 ≤ A2 := hA2.1
      have t4 : A2 ≤ 10000 := by omega
      clear hA1 hA2 hj30 hV
      have Hrow := Lib.hid hrow
      clear hrow
      have k2 : IntKind.i64.wrap ((x : Int) + (l : Int)) = (x : Int) + (l : Int) := IntWalk.i64_in _ (by omega)
      have k3 : IntKind.i64.wrap ((x : Int) + (l : Int) + (a : Int)) = (x : Int) + (l : Int) + (a : Int) := IntWalk.i64_in _ (by omega)
      have k4 : IntKind.i64.wrap ((L : Int) + A2) = (L : Int) + A2 := IntWalk.i64_in _ (by omega)
      have k6 : ((x : Int) + (l : Int) + (a : Int)).toNat = x + l + a := by omega
      have k8 : 0 ≤ (x : Int) + (l : Int) + (a : Int) := by omega
      have k10 : (x : Int) + (l : Int) + (a : Int) < (n : Int) + (l : Int) + (a : Int) := by omega
      have k11 : (x : Int) < (n : Int) + (l : Int) + (a : Int) := by omega
      by_cases hL0 : L = 0
      · have HG := Lib.hid (HGS.out (.inl hL0))
        subst hL0
        go_wp2_with fail
        go_quiet (fail)
        go_wp2
        go_roundw
        case rel => exact ⟨acc, x + 1, f, by go_num, Hown.out, below_drewN Hbel.out _, by rw [← HG.out]; exact Hgo.out, by omega, by omega⟩
        case measure => simp [intOf]; omega
      · have hL1 : ((L : Int) == 0) = false := by simpa using hL0
        by_cases hAB : (L : Int) + A2 < A1
        · have HG := Lib.hid (HGS.out (.inr hAB))
          go_wp2_with fail
          go_quiet (fail)
          go_wp2
          go_roundw
          case rel => exact ⟨acc, x + 1, f, by go_num, Hown.out, below_drewN Hbel.out _, by rw [← HG.out]; exact Hgo.out, by omega, by omega⟩
          case measure => simp [intOf]; omega
        · have hAB' : decide ((L : Int) + A2 < A1) = false := by simpa using hAB
          have HG := Lib.hid (HGT.out (by rintro (h | h) <;> omega))
          obtain ⟨vg, vcap, hform⟩ := own_form Hrow.out (by omega)
          obtain ⟨rfl, rfl⟩ : VA = some ⟨vg, 0, none⟩ ∧ vc = vcap := by simpa using hform
          have HI : Hid (Ints w2 (some ⟨vg, 0, none⟩) L ys) := ints_of_own Hrow.out
          clear hform
          go_wp2_with fail
          go_quiet (fail)
          have hlk2 := hlk nq
          clear q1 q2 hlk hcell
          have Hown0 : Hid ((wr.drewN nq).ownsRow w2.heap.size 39 2 u5 acc.length (flat2 acc)) := Hown.out
          have Hbel0 : Hid (Below w2.heap.size w2 (wr.drewN nq)) := below_drewN Hbel.out _
          generalize wr.drewN nq = wo at *
          go_wp2_with fail
          go_loopw [5, 56] (fun v i wi => ∃ k : Nat, k ≤ L ∧ i = .int .i64 k ∧ wi.ownsRow w2.heap.size 39 2 v (acc.length + k) (flat2 (acc ++ (ys.take k).map fun y => ((x : Int), y))) ∧ Below w2.heap.size w2 wi) (fun _ i _ => L - (intOf i).toNat)
          case atStart => exact ⟨0, Nat.zero_le _, rfl, by simpa using Hown0.out, Hbel0.out⟩
          case round =>
            obtain ⟨k, hk, rfl, hown3, hbel3⟩ := hrel
            have Hown3 := Lib.hid hown3
            have Hbel3 := Lib.hid hbel3
            clear hown3 hbel3
            by_cases hkl : k < L
            · obtain ⟨vb, vo, hvb, hvlt, hce⟩ := (HI.out.below Hbel3.out).at_ hkl
              obtain ⟨hvb1, hvb2⟩ : vg = vb ∧ vo = 0 := by simpa [eq_comm] using hvb
              subst hvb1 hvb2
              rw [Nat.zero_add] at hce
              have HS : Hid (flat2 (acc ++ (ys.take (k + 1)).map fun y => ((x : Int), y)) = flat2 (acc ++ (ys.take k).map fun y => ((x : Int), y)) ++ [.int .i64 x, .int .i64 (ys.getD k 0)]) := by
                unfold Hid
                rw [take_map_succ (fun y => ((x : Int), y)) ys k 0 (by rw [HLL.out]; exact hkl), ← List.append_assoc, flat2_append]
                rfl
              generalize ys.getD k 0 = y at *
              have Hnew := Lib.hid (cell_two_at wr (.int .i64 x) (.int .i64 y) 39)
              have hsz := Hbel3.out.size
              clear hvb
              go_wp2_with (at_builtin; refine wpList_append_own _ rfl _ _ 54 rfl w2.heap.size 39 i0 (.agg #[.int .i64 0, .int .i64 0]) 2 16 Try.underlying54 hi hz0 hz1 hz2 rfl (by decide) _ _ _ rfl (Hown3.out.alloc _) ⟨wr.heap.size, 0, none⟩ 1 1 [.int .i64 x, .int .i64 y] rfl rfl Hnew.out ?c2 ?c3 ?c4 ?c5 ?_)
              case c2 => intro u hu; simp only [List.mem_cons, List.not_mem_nil, or_false] at hu; rcases hu with rfl | rfl <;> rfl
              case c3 => unfold maxLen; omega
              case c4 => omega
              case c5 => simp; omega
              intro v' w4 hown4 hgrow _
              have B4 := Lib.hid ((Hbel3.out.alloc hsz _).grown hgrow (by simp; omega) (fun q hq => (Hown3.out.lt q hq).1))
              have hown5 : Hid (w4.ownsRow w2.heap.size 39 2 v' (acc.length + (k + 1)) (flat2 (acc ++ (ys.take (k + 1)).map fun y => ((x : Int), y)))) := by
                unfold Hid; rw [HS.out, ← Nat.add_assoc]; simpa only [List.map_take] using hown4
              clear hown4 hgrow
              go_wp2
              go_roundw
              case rel => exact ⟨k + 1, by omega, by go_num, hown5.out, B4.out⟩
              case measure => simp [intOf]; omega
            · obtain rfl : k = L := by omega
              have HE2 : Hid (acc ++ (ys.take k).map (fun y => ((x : Int), y)) = acc ++ colPlaces s n x) := by
                unfold Hid; rw [HCP.out, List.take_of_length_le (by rw [HLL.out]; exact Nat.le_refl _)]
              rw [HE2.out] at Hown3
              have Hlen : Hid ((acc ++ colPlaces s n x).length = acc.length + k) := by
                unfold Hid; rw [HCP.out, List.length_append, List.length_map, HLL.out]
              go_wp2
              go_roundw
              case rel => exact ⟨acc ++ colPlaces s n x, x + l + a, f, by go_num, by rw [Hlen.out]; exact Hown3.out, Hbel3.out, by rw [List.append_assoc, ← HG.out]; exact Hgo.out, by omega, by rw [Hlen.out]; omega⟩
              case measure => simp [intOf]; omega
    · have hE : layoutGo s n f x = [] := layoutGo_end hlt
      have HE : Hid (acc = layoutL s n) := by unfold Hid; rw [← Hgo.out, hE, List.append_nil]
      clear hE
      go_wp2
      go_ret
      exact ⟨_, rfl, by rw [← HE.out]; exact own_base Hown.out HB2.out.size, below_then HB2.out Hbel.out⟩
end Go.Proofs.Ytiflhimmieflpaa

/- Walks: Most, and what all functions of the package's face begin with. -/
namespace Go.Proofs.Ytiflhimmieflpaa
open Go.RowKit Go.Maps

/-- A blade as an argument. -/
structure Bl where
  A : Option Addr
  A' : Option Addr
  K : Option Addr
  n : Nat
  c : Nat
  n' : Nat
  c' : Nat
  m : Nat
  d : Nat
  bend : Int
  bot : List (Int × Int)
  top : List (Int × Int)
  cr : List Crack
/-- A saw as an argument. -/
structure Sw where
  long : Int
  wide : Int
  kerf : Int
  across : Int
def Bl.val (B : Bl) : Value := .agg #[.slice B.A B.n B.c, .slice B.A' B.n' B.c', .int .i64 B.bend, .slice B.K B.m B.d]
def Sw.val (s : Sw) : Value := .agg #[.int .i64 s.long, .int .i64 s.wide, .int .i64 s.kerf, .int .i64 s.across]
structure Bl.At (B : Bl) (w : World) : Prop where
  hb : Pairs w B.A B.n B.bot
  ht : Pairs w B.A' B.n' B.top
  hk : Cracks w B.K B.m B.cr
  n1 : B.n ≤ maxLen
  n2 : B.n' ≤ maxLen
  n3 : B.m ≤ maxLen
theorem Bl.At.below {B : Bl} {w W : World} (h : B.At w) (hb : Below w.heap.size w W) : B.At W := ⟨h.hb.below hb, h.ht.below hb, h.hk.below hb, h.n1, h.n2, h.n3⟩
def Bl.err (B : Bl) (s : Sw) : Int := readyErr B.n B.n' B.m B.bend B.bot B.top B.cr s.long s.wide s.kerf s.across
def Bl.worst (B : Bl) (s : Sw) : Sawing := worstL s.long s.wide s.kerf s.across (bentL B.bot B.bend) (bentL B.top B.bend) B.cr
def Bl.curved (B : Bl) (g cap g' cap' : Nat) : Value := .agg #[.slice B.A B.n B.c, .slice B.A' B.n' B.c', .int .i64 B.bend, .slice B.K B.m B.d, .slice (some ⟨g, 0, none⟩) B.n cap, .slice (some ⟨g', 0, none⟩) B.n cap']

structure Sw.Ok (s : Sw) : Prop where
  l1 : 1 ≤ s.long
  l2 : s.long ≤ 30
  w1 : 1 ≤ s.wide
  w2 : s.wide ≤ 300
  k1 : 0 ≤ s.kerf
  k2 : s.kerf ≤ 50
  a1 : 0 ≤ s.across
  a2 : s.across ≤ 50
structure Bl.Ok (B : Bl) : Prop where
  n1 : 1 ≤ B.n
  n2 : B.n ≤ 30
  nn : B.n' = B.n
  m4 : B.m ≤ 4
  b0 : 0 ≤ B.bend
  b3 : B.bend ≤ 300
  bot : ∀ s ∈ B.bot, InR s
  top : ∀ s ∈ B.top, InR s
  cr : ∀ k ∈ B.cr, 0 ≤ k.th ∧ k.th ≤ 300
theorem sawOk_parts {s : Sw} (h : sawOk s.long s.wide s.kerf s.across = true) : s.Ok := by
  simp only [sawOk, within, Bool.and_eq_true, List.all_eq_true, decide_eq_true_eq, List.mem_cons, List.not_mem_nil, or_false, forall_eq, forall_eq_or_imp] at h
  obtain ⟨⟨h1, h2⟩, h3, h4⟩ := h
  exact ⟨h1.1, h1.2, h2.1, h2.2, h3.1, h3.2, h4.1, h4.2⟩
theorem curveErr_ok {B : Bl} (h : curveErr B.n B.n' B.m B.bend B.bot B.top B.cr = 0) : B.Ok := by
  unfold curveErr at h
  split at h
  · omega
  split at h
  · omega
  split at h
  · omega
  split at h
  · omega
  split at h
  · omega
  rename_i e1 e2 e3 e4 e5
  have e4' : edgesOk B.bend B.bot B.top = true := by simpa using e4
  obtain ⟨q1, q2, q3⟩ := edgesOk_in e4'
  simp [within] at e2
  refine ⟨by omega, by omega, by omega, by omega, q1.1, q1.2, fun s hs => (q2 s hs).1, fun s hs => (q3 s hs).1, fun k hk => ?_⟩
  simp only [Bool.not_eq_true, List.any_eq_false] at e5
  have := e5 k hk
  simp only [crackOk, validS, Bool.not_eq_false', Bool.and_eq_true, List.all_eq_true, decide_eq_true_eq, List.mem_cons, List.not_mem_nil, or_false, forall_eq, forall_eq_or_imp] at this
  omega
theorem err_ok {B : Bl} {s : Sw} (h : B.err s = 0) : curveErr B.n B.n' B.m B.bend B.bot B.top B.cr = 0 ∧ B.Ok ∧ s.Ok := by
  unfold Bl.err readyErr at h
  split at h
  · rename_i e; exact absurd h e
  split at h
  · omega
  · rename_i e1 e2
    have e1' : curveErr B.n B.n' B.m B.bend B.bot B.top B.cr = 0 := by simpa using e1
    exact ⟨e1', curveErr_ok e1', sawOk_parts (by simpa using e2)⟩
theorem worst_bounds {B : Bl} {s : Sw} (h : B.Ok) (hs : s.Ok) : SawBounds (B.worst s) := by
  refine ⟨hs.l1, hs.l2, hs.w1, hs.w2, hs.k1, hs.k2, hs.a1, hs.a2, fun v hv => ?_, fun v hv => ?_, fun k hk => ?_⟩
  · obtain ⟨p, hp, rfl⟩ := List.mem_map.1 hv
    have := bentL_in h.bot h.b0 p hp
    exact ⟨this.2.2.1, this.2.2.2⟩
  · obtain ⟨p, hp, rfl⟩ := List.mem_map.1 hv
    have := bentL_in h.top h.b0 p hp
    exact ⟨this.1, this.2.1⟩
  · obtain ⟨p, hp, rfl⟩ := List.mem_map.1 hk
    exact h.cr p hp

def ReadyTop (w : World) (B : Bl) (s : Sw) (e : Ending) (w' : World) : Prop :=
  Below w.heap.size w w' ∧ ((B.err s ≠ 0 ∧ e = .returned (.tuple #[zeroCurved, .int .i64 (B.err s)])) ∨
    (B.err s = 0 ∧ ∃ g cap g' cap', e = .returned (.tuple #[B.curved g cap g' cap', .int .i64 0]) ∧ Pairs w' (some ⟨g, 0, none⟩) B.n (bentL B.bot B.bend) ∧ Pairs w' (some ⟨g', 0, none⟩) B.n (bentL B.top B.bend) ∧ w.heap.size ≤ g ∧ w.heap.size ≤ g'))
theorem ready_top (B : Bl) (s : Sw) (w : World) (h : B.At w) : Calls Try.prog 64 #[B.val, s.val] w (ReadyTop w B s) :=
  (ready_any B.A B.A' B.K B.n B.c B.n' B.c' B.m B.d B.bend B.bot B.top B.cr s.long s.wide s.kerf s.across w h.hb h.ht h.hk h.n1 h.n2 h.n3).mono (fun _ _ h => h)

/-- What worst answers, with the addresses spelled out. -/
def WorstTop (w : World) (n m : Nat) (s : Sawing) (e : Ending) (w' : World) : Prop :=
  Below w.heap.size w w' ∧ ∃ b o b' o' c c' K d, e = .returned (sawVal s ⟨b, o, none⟩ ⟨b', o', none⟩ n c c' K m d) ∧ SawAt w' s ⟨b, o, none⟩ ⟨b', o', none⟩ n K m ∧ n ≤ c ∧ n ≤ c' ∧ c ≤ maxLen
theorem worst_top (B : Bl) (s : Sw) (g cap g' cap' : Nat) (w : World) (hB : B.Ok) (h : Pairs w (some ⟨g, 0, none⟩) B.n (bentL B.bot B.bend)) (h' : Pairs w (some ⟨g', 0, none⟩) B.n (bentL B.top B.bend)) (hk : Cracks w B.K B.m B.cr) :
    Calls Try.prog 66 #[B.curved g cap g' cap', s.val] w (WorstTop w B.n B.m (B.worst s)) := by
  unfold Bl.curved
  rw [hB.nn]
  refine (worst_any B.A B.A' B.K B.c B.c' B.m B.d g 0 g' 0 B.n cap cap' B.bend s.long s.wide s.kerf s.across (bentL B.bot B.bend) (bentL B.top B.bend) B.cr w h h' hk (by have := hB.n1; omega) hB.n2 hB.m4).mono ?_
  rintro e w' ⟨hb, ⟨b, o, so⟩, ⟨b', o', so'⟩, c, c', K, d, rfl, hs, hc, hc', rfl, rfl⟩
  exact ⟨hb, b, o, b', o', c, c', K, d, rfl, hs, hc.1, hc'.1, hc.2⟩

def MostRes (w : World) (B : Bl) (s : Sw) (e : Ending) (w' : World) : Prop :=
  Below w.heap.size w w' ∧ ((B.err s ≠ 0 ∧ e = .returned (.tuple #[.slice none 0 0, .int .i64 (B.err s)])) ∨
    (B.err s = 0 ∧ ∃ v, e = .returned (.tuple #[v, .int .i64 0]) ∧ w'.ownsRow w.heap.size 39 2 v (layoutL (B.worst s) B.n).length (flat2 (layoutL (B.worst s) B.n))))

set_option maxRecDepth 100000 in
set_option maxHeartbeats 2000000 in
theorem Most_any (B : Bl) (s : Sw) (w : World) (h : B.At w) : Calls Try.prog 34 #[B.val, s.val] w (MostRes w B s) := by
  have E0 : Hid (Below w.heap.size w ((w.alloc (.cells #[.slice B.A B.n B.c, .slice B.A' B.n' B.c', .int .i64 B.bend, .slice B.K B.m B.d] 25)).alloc (.cells #[.int .i64 s.long, .int .i64 s.wide, .int .i64 s.kerf, .int .i64 s.across] 37))) := below_alloc' (below_self _ _) _
  have S0 := Lib.hid (Blk.new (w.alloc (.cells #[.slice B.A B.n B.c, .slice B.A' B.n' B.c', .int .i64 B.bend, .slice B.K B.m B.d] 25)) 37 #[.int .i64 s.long, .int .i64 s.wide, .int .i64 s.kerf, .int .i64 s.across] (g := w.heap.size + 1) (by simp))
  have HC := Lib.hid (ready_top B s _ (h.below E0.out))
  have HK := Lib.hid h
  clear h
  unfold Bl.val Sw.val at *
  go_enter Try.func34, Try.ntmps34
  go_wp2_with fail
  refine HC.out.mono ?_
  rintro e w2 ⟨hb2, ⟨herr, rfl⟩ | ⟨hok, g, cap, g', cap', rfl, P, P', -⟩⟩
  · have B2 := Lib.hid (below_then E0.out hb2)
    have Herr := Lib.hid herr
    have hz : (B.err s == 0) = false := by simpa using herr
    have hz2 : (B.err s != 0) = true := by simpa using herr
    clear hb2 herr HC
    unfold zeroCurved
    go_wp2
    go_ret2
    exact ⟨below_alloc' B2.out _, .inl ⟨Herr.out, rfl⟩⟩
  · have B2 := Lib.hid (below_then E0.out hb2)
    have S2 := Lib.hid (blk_keep hb2 S0.out)
    have Hok := Lib.hid (err_ok hok)
    have hP := Lib.hid P
    have hP' := Lib.hid P'
    have s2 := S2.out.cell
    have hz := S2.out.lt
    have HWT := Lib.hid (fun W (hb : Below w2.heap.size w2 W) => worst_top B s g cap g' cap' W Hok.out.2.1 (hP.out.below hb) (hP'.out.below hb) (HK.out.below (below_then B2.out hb)).hk)
    have HLT := Lib.hid (fun b o b' o' c c' K d W hs hc hc' hm => layout_any (B.worst s) b o b' o' B.n c c' K B.m d W hs hc hc' hm (worst_bounds Hok.out.2.1 Hok.out.2.2) Hok.out.2.1.n2 Hok.out.2.1.m4)
    have Hok0 := Lib.hid hok
    clear hb2 hok P P' HC
    unfold Bl.curved Sw.val at HWT
    unfold Bl.curved
    go_wp2_with fail
    refine (HWT.out _ (below_self _ _)).mono ?_
    rintro e w3 ⟨hb3, b, o, b', o', c, c', K, d, rfl, hs, hc, hc', hm⟩
    have B3 := Lib.hid (below_then (below_alloc' B2.out _) hb3)
    have HL3 := Lib.hid (HLT.out b o b' o' c c' K d _ hs hc hc' hm)
    clear hb3 hs hc hc' hm HWT HLT s2 hz
    go_wp2_with fail
    refine HL3.out.mono ?_
    rintro e w4 ⟨v, rfl, hown, hb4⟩
    have HO := Lib.hid (own_base hown B3.out.size)
    have B4 := Lib.hid (below_then B3.out hb4)
    clear hown hb4
    go_wp2
    go_ret2
    exact ⟨B4.out, .inr ⟨Hok0.out, v, rfl, HO.out⟩⟩
end Go.Proofs.Ytiflhimmieflpaa

/- Walks: slices.Index, holds. -/
namespace Go.Proofs.Ytiflhimmieflpaa
open Go.RowKit Go.Maps

theorem Index_any (A : Option Addr) (n c : Nat) (x : Int) (xs : List Int) (w : World) (h : Ints w A n xs) (hn : n ≤ maxLen) :
    Calls Try.prog 80 #[.slice A n c, .int .i64 x] w fun e w' => e = .returned (.int .i64 (idx (fun y => x == y) xs)) ∧ w = w' := by
  unfold maxLen at hn
  have hl := h.len
  generalize hp : (fun y => x == y) = p
  have hpk : ∀ k, (x == k) = p k := fun k => by rw [← hp]
  have Hpk := Lib.hid hpk
  clear hp hpk
  go_enter Try.func80, Try.ntmps80
  go_wp2
  go_loop [8] (fun i => ∃ k : Nat, k ≤ n ∧ i = .int .i64 k ∧ noneOf p (xs.take k) = true) (fun i => n - (intOf i).toNat)
  case atStart => exact ⟨0, Nat.zero_le _, rfl, rfl⟩
  case round =>
    obtain ⟨k, hk, rfl, hin⟩ := hrel
    by_cases hlt : k < n
    · obtain ⟨b, off, rfl, hb, hc0⟩ := h.at_ hlt
      have H := Lib.hid (noneOf_succ (p := p) 0 (xs := xs) (k := k) (by omega))
      have Hin := Lib.hid hin
      have Hit := Lib.hid (idx_hit (p := p) 0 (xs := xs) (k := k) (by omega) hin)
      clear hin hl
      generalize xs.getD k 0 = y at *
      cases hq : p y
      · have hxy : (x == y) = false := (Hpk.out y).trans hq
        go_wp2
        go_round
        case rel => exact ⟨k + 1, by omega, by go_num, by rw [H.out, Hin.out, hq]; rfl⟩
        case measure => simp [intOf]; omega
      · have hxy : (x == y) = true := (Hpk.out y).trans hq
        go_wp2
        go_ret
        exact ⟨ret_int (Hit.out hq).symm, rfl⟩
    · have he : idx p xs = -1 := idx_none (by rw [← hin, List.take_of_length_le (by omega)])
      clear hin
      have He := Lib.hid he
      clear he
      go_wp2
      go_ret
      exact ⟨ret_int He.out.symm, rfl⟩

theorem noneOf_no {α : Type} {p : α → Bool} {xs : List α} {k : Nat} (z : α) (hk : k < xs.length) (hp : p (xs.getD k z) = true) : noneOf p xs = false := by
  have hx : xs.getD k z = xs[k] := by simp [hk, List.getD]
  rw [hx] at hp
  unfold noneOf
  rw [List.all_eq_false]
  exact ⟨xs[k], List.getElem_mem hk, by simp [hp]⟩
def placeOk (n long : Int) (p : Int × Int) : Bool := within 0 (n - long) [p.1] && within 0 300 [p.2]
def holdsB (n long : Int) (ps : List (Int × Int)) : Bool := noneOf (fun p => !placeOk n long p) ps

set_option maxRecDepth 100000 in
set_option maxHeartbeats 2000000 in
theorem holds_any (B : Bl) (s : Sw) (g cap g' cap' : Nat) (A : Option Addr) (m c : Nat) (ps : List (Int × Int)) (w : World) (hB : B.Ok) (hs : s.Ok) (h : Pairs w A m ps) (hm : m ≤ maxLen) :
    Calls Try.prog 65 #[B.curved g cap g' cap', s.val, .slice A m c] w fun e w' => e = .returned (.bool (holdsB B.n s.long ps)) ∧ Below w.heap.size w w' := by
  unfold maxLen at hm
  have l1 := hs.l1
  have l2 := hs.l2
  have n2 := hB.n2
  have n1 := hB.n1
  have hl := h.len
  have HD : Hid (holdsB B.n s.long ps = noneOf (fun p => !placeOk B.n s.long p) ps) := rfl
  have HPK : Hid (∀ p, placeOk B.n s.long p = (within 0 (B.n - s.long) [p.1] && within 0 300 [p.2])) := fun p => rfl
  have k1 : IntKind.i64.wrap ((B.n : Int) - s.long) = (B.n : Int) - s.long := IntWalk.i64_in _ (by omega)
  have E0 : Hid (Below w.heap.size w ((w.alloc (.cells #[.slice B.A B.n B.c, .slice B.A' B.n' B.c', .int .i64 B.bend, .slice B.K B.m B.d, .slice (some ⟨g, 0, none⟩) B.n cap, .slice (some ⟨g', 0, none⟩) B.n cap'] 106)).alloc (.cells #[.int .i64 s.long, .int .i64 s.wide, .int .i64 s.kerf, .int .i64 s.across] 37))) := below_alloc' (below_self _ _) _
  have S0 := Lib.hid (Blk.new (w.alloc (.cells #[.slice B.A B.n B.c, .slice B.A' B.n' B.c', .int .i64 B.bend, .slice B.K B.m B.d, .slice (some ⟨g, 0, none⟩) B.n cap, .slice (some ⟨g', 0, none⟩) B.n cap'] 106)) 37 #[.int .i64 s.long, .int .i64 s.wide, .int .i64 s.kerf, .int .i64 s.across] (g := w.heap.size + 1) (by simp))
  have C0 := Lib.hid ((Blk.new w 106 #[.slice B.A B.n B.c, .slice B.A' B.n' B.c', .int .i64 B.bend, .slice B.K B.m B.d, .slice (some ⟨g, 0, none⟩) B.n cap, .slice (some ⟨g', 0, none⟩) B.n cap'] (g := w.heap.size) rfl).alloc (.cells #[.int .i64 s.long, .int .i64 s.wide, .int .i64 s.kerf, .int .i64 s.across] 37))
  clear hB hs
  unfold Bl.curved Sw.val
  go_enter Try.func65, Try.ntmps65
  go_wp2
  go_loopw [11] (fun i wr => ∃ k : Nat, k ≤ m ∧ i = .int .i64 k ∧ noneOf (fun p => !placeOk B.n s.long p) (ps.take k) = true ∧ Below w.heap.size w wr ∧ Blk wr w.heap.size 106 #[.slice B.A B.n B.c, .slice B.A' B.n' B.c', .int .i64 B.bend, .slice B.K B.m B.d, .slice (some ⟨g, 0, none⟩) B.n cap, .slice (some ⟨g', 0, none⟩) B.n cap'] ∧ Blk wr (w.heap.size + 1) 37 #[.int .i64 s.long, .int .i64 s.wide, .int .i64 s.kerf, .int .i64 s.across]) (fun i _ => m - (intOf i).toNat)
  case atStart => exact ⟨0, Nat.zero_le _, rfl, rfl, E0.out, C0.out, S0.out⟩
  case round =>
    obtain ⟨k, hk, rfl, hin, hbel, hC, hS⟩ := hrel
    have Hbel := Lib.hid hbel
    have HC := Lib.hid hC
    have HS := Lib.hid hS
    have hc1 := hC.cell
    have hs1 := hS.cell
    have z1 := hS.lt
    have z0 := hC.lt
    by_cases hlt : k < m
    · obtain ⟨b, off, rfl, hb, q0, q1⟩ := (h.below hbel).at_ hlt
      have H := Lib.hid (noneOf_succ (p := fun p => !placeOk B.n s.long p) (0, 0) (xs := ps) (k := k) (by omega))
      have Hin := Lib.hid hin
      have Hno := Lib.hid (noneOf_no (p := fun p => !placeOk B.n s.long p) (0, 0) (xs := ps) (k := k) (by omega))
      have B1 := Lib.hid (below_alloc' (below_alloc' hbel (.cells #[.int .i64 (ps.getD k (0, 0)).1, .int .i64 (ps.getD k (0, 0)).2] 39)) (.cells #[.int .i64 (ps.getD k (0, 0)).1] 3))
      have C1 := Lib.hid ((hC.alloc (.cells #[.int .i64 (ps.getD k (0, 0)).1, .int .i64 (ps.getD k (0, 0)).2] 39)).alloc (.cells #[.int .i64 (ps.getD k (0, 0)).1] 3))
      have S1 := Lib.hid ((hS.alloc (.cells #[.int .i64 (ps.getD k (0, 0)).1, .int .i64 (ps.getD k (0, 0)).2] 39)).alloc (.cells #[.int .i64 (ps.getD k (0, 0)).1] 3))
      clear hin hl hbel hC hS C0 S0 E0 HC HS
      generalize ps.getD k (0, 0) = y at *
      have HY := HPK.out y
      cases e1 : within 0 ((B.n : Int) - s.long) [y.1]
      · have HN : Hid (holdsB B.n s.long ps = false) := by
          unfold Hid; rw [HD.out]; exact Hno.out (by rw [HY, e1]; rfl)
        clear HD HY Hno
        go_wp2_with (go_at_call 88; refine (within1 _ _ _ _ _ _ (by simp)).mono ?_; rintro e w' ⟨rfl, rfl⟩)
        go_ret
        exact ⟨ret_bool HN.out.symm, B1.out⟩
      · cases e2 : within 0 300 [y.2]
        · have HN : Hid (holdsB B.n s.long ps = false) := by
            unfold Hid; rw [HD.out]; exact Hno.out (by rw [HY, e1, e2]; rfl)
          clear HD HY Hno
          go_wp2_with (go_at_call 88; refine (within1 _ _ _ _ _ _ (by simp)).mono ?_; rintro e w' ⟨rfl, rfl⟩)
          go_ret
          exact ⟨ret_bool HN.out.symm, below_alloc' B1.out _⟩
        · have HN : Hid (placeOk B.n s.long y = true) := by unfold Hid; rw [HY, e1, e2]; rfl
          clear HD HY Hno
          go_wp2_with (go_at_call 88; refine (within1 _ _ _ _ _ _ (by simp)).mono ?_; rintro e w' ⟨rfl, rfl⟩)
          go_roundw
          case rel => exact ⟨k + 1, by omega, by go_num, by rw [H.out, Hin.out, HN.out]; rfl, below_alloc' B1.out _, C1.out.alloc _, S1.out.alloc _⟩
          case measure => simp [intOf]; omega
    · have he : Hid (holdsB B.n s.long ps = true) := by unfold Hid; rw [HD.out, ← hin, List.take_of_length_le (by omega)]
      clear hin
      go_wp2
      go_ret
      exact ⟨ret_bool he.out.symm, Hbel.out⟩
end Go.Proofs.Ytiflhimmieflpaa

/- Walks: Block. -/
namespace Go.Proofs.Ytiflhimmieflpaa
open Go.RowKit Go.Maps

def BlockTop (w : World) (B : Bl) (s : Sw) (x : Int) (e : Ending) (w' : World) : Prop :=
  Below w.heap.size w w' ∧ ((B.err s ≠ 0 ∧ e = .returned (.tuple #[.slice none 0 0, .int .i64 (B.err s)])) ∨
    (B.err s = 0 ∧ holdsB B.n s.long [(x, 0)] = false ∧ e = .returned (.tuple #[.slice none 0 0, .int .i64 2])) ∨
    (B.err s = 0 ∧ holdsB B.n s.long [(x, 0)] = true ∧ ∃ v, e = .returned (.tuple #[v, .int .i64 0]) ∧ w'.ownsRow w.heap.size 3 1 v (blockL (B.worst s) x.toNat).length ((blockL (B.worst s) x.toNat).map (Value.int .i64))))
theorem holds_in {n : Nat} {long x : Int} (h : holdsB n long [(x, 0)] = true) : 0 ≤ x ∧ x + long ≤ n := by
  simp only [holdsB, noneOf, placeOk, within, List.all_cons, List.all_nil, Bool.and_true, Bool.not_not, Bool.and_eq_true, decide_eq_true_eq] at h
  omega

set_option maxRecDepth 100000 in
set_option maxHeartbeats 2000000 in
theorem Block_any (B : Bl) (s : Sw) (x : Int) (w : World) (h : B.At w) : Calls Try.prog 31 #[B.val, s.val, .int .i64 x] w (BlockTop w B s x) := by
  have E0 : Hid (Below w.heap.size w ((w.alloc (.cells #[.slice B.A B.n B.c, .slice B.A' B.n' B.c', .int .i64 B.bend, .slice B.K B.m B.d] 25)).alloc (.cells #[.int .i64 s.long, .int .i64 s.wide, .int .i64 s.kerf, .int .i64 s.across] 37))) := below_alloc' (below_self _ _) _
  have S0 := Lib.hid (Blk.new (w.alloc (.cells #[.slice B.A B.n B.c, .slice B.A' B.n' B.c', .int .i64 B.bend, .slice B.K B.m B.d] 25)) 37 #[.int .i64 s.long, .int .i64 s.wide, .int .i64 s.kerf, .int .i64 s.across] (g := w.heap.size + 1) (by simp))
  have HC := Lib.hid (ready_top B s _ (h.below E0.out))
  have HK := Lib.hid h
  clear h
  unfold Bl.val Sw.val at *
  go_enter Try.func31, Try.ntmps31
  go_wp2_with fail
  refine HC.out.mono ?_
  rintro e w2 ⟨hb2, ⟨herr, rfl⟩ | ⟨hok, g, cap, g', cap', rfl, P, P', -⟩⟩
  · have B2 := Lib.hid (below_then E0.out hb2)
    have Herr := Lib.hid herr
    have hz : (B.err s == 0) = false := by simpa using herr
    have hz2 : (B.err s != 0) = true := by simpa using herr
    clear hb2 herr HC
    unfold zeroCurved
    go_wp2
    go_ret2
    exact ⟨below_alloc' B2.out _, .inl ⟨Herr.out, rfl⟩⟩
  · have B2 := Lib.hid (below_then E0.out hb2)
    have S2 := Lib.hid (blk_keep hb2 S0.out)
    have Hok := Lib.hid (err_ok hok)
    have hP := Lib.hid P
    have hP' := Lib.hid P'
    have s2 := S2.out.cell
    have hz := S2.out.lt
    have HWT := Lib.hid (fun W (hb : Below w2.heap.size w2 W) => worst_top B s g cap g' cap' W Hok.out.2.1 (hP.out.below hb) (hP'.out.below hb) (HK.out.below (below_then B2.out hb)).hk)
    have HLT := Lib.hid (fun b o b' o' c c' K d (k : Nat) W hs hc hc' hm hx => block_any (B.worst s) b o b' o' B.n c c' K B.m d k W hs hc hc' hm (worst_bounds Hok.out.2.1 Hok.out.2.2) hx Hok.out.2.1.n2 Hok.out.2.1.m4)
    have Hok0 := Lib.hid hok
    have E3 := Lib.hid ((below_self w2 (.cells #[.slice B.A B.n B.c, .slice B.A' B.n' B.c', .int .i64 B.bend, .slice B.K B.m B.d, .slice (some ⟨g, 0, none⟩) B.n cap, .slice (some ⟨g', 0, none⟩) B.n cap'] 106)).alloc (by simp) (.cells #[.int .i64 x, .int .i64 0] 39))
    have C3 := Lib.hid ((Blk.new w2 106 #[.slice B.A B.n B.c, .slice B.A' B.n' B.c', .int .i64 B.bend, .slice B.K B.m B.d, .slice (some ⟨g, 0, none⟩) B.n cap, .slice (some ⟨g', 0, none⟩) B.n cap'] (g := w2.heap.size) rfl).alloc (.cells #[.int .i64 x, .int .i64 0] 39))
    have S3 := Lib.hid ((S2.out.alloc (.cells #[.slice B.A B.n B.c, .slice B.A' B.n' B.c', .int .i64 B.bend, .slice B.K B.m B.d, .slice (some ⟨g, 0, none⟩) B.n cap, .slice (some ⟨g', 0, none⟩) B.n cap'] 106)).alloc (.cells #[.int .i64 x, .int .i64 0] 39))
    have HH := Lib.hid (holds_any B s g cap g' cap' _ 1 1 [(x, 0)] _ Hok.out.2.1 Hok.out.2.2 (pairs_new1 (w2.alloc (.cells #[.slice B.A B.n B.c, .slice B.A' B.n' B.c', .int .i64 B.bend, .slice B.K B.m B.d, .slice (some ⟨g, 0, none⟩) B.n cap, .slice (some ⟨g', 0, none⟩) B.n cap'] 106)) x 0 39 (g := w2.heap.size + 1) (by simp)) (by decide))
    clear hb2 hok P P' HC
    unfold Bl.curved Sw.val at HWT HH
    unfold Bl.curved
    go_wp2_with fail
    refine HH.out.mono ?_
    rintro e w3 ⟨rfl, hb3⟩
    have B3 := Lib.hid (E3.out.trans (hb3.mono E3.out.size))
    have C3' := Lib.hid (blk_keep hb3 C3.out)
    have S3' := Lib.hid (blk_keep hb3 S3.out)
    have c3 := C3'.out.cell
    have s3 := S3'.out.cell
    clear hb3 HH E3 C3 S3 s2 hz
    cases hx : holdsB B.n s.long [(x, 0)]
    · have Hx := Lib.hid hx
      clear hx
      go_wp2
      go_ret2
      exact ⟨below_then B2.out B3.out, .inr (.inl ⟨Hok0.out, Hx.out, rfl⟩)⟩
    · have Hx := Lib.hid hx
      obtain ⟨k, rfl⟩ := Int.eq_ofNat_of_zero_le (holds_in hx).1
      have hxl := Lib.hid (holds_in hx).2
      clear hx
      go_wp2_with fail
      refine (HWT.out _ B3.out).mono ?_
      rintro e w4 ⟨hb4, b, o, b', o', c, c', K, d, rfl, hs, hc, hc', hm⟩
      have B4 := Lib.hid (below_then (below_then B2.out B3.out) hb4)
      have HL3 := Lib.hid (HLT.out b o b' o' c c' K d k _ hs hc hc' hm hxl.out)
      clear hb4 hs hc hc' hm HWT HLT c3 s3 hxl
      go_wp2_with fail
      refine HL3.out.mono ?_
      rintro e w5 ⟨v, rfl, hown, hb5⟩
      have HO := Lib.hid (own_base hown B4.out.size)
      have B5 := Lib.hid (below_then B4.out hb5)
      clear hown hb5
      go_wp2
      go_ret2
      exact ⟨B5.out, .inr (.inr ⟨Hok0.out, Hx.out, v, rfl, HO.out⟩)⟩
end Go.Proofs.Ytiflhimmieflpaa

/- Walks: Bound. -/
namespace Go.Proofs.Ytiflhimmieflpaa
open Go.RowKit Go.Maps

/-- The sums of the first k columns, by classes. -/
def sumsAt (s : Sawing) (n l : Nat) : Nat → Nat → Int
  | 0, _ => 0
  | k + 1, c => if c = k % l then sumsAt s n l k c + (bn s n k : Int) else sumsAt s n l k c
def sumsL (s : Sawing) (n l : Nat) : List Int := (List.range l).map (sumsAt s n l n)
theorem sumsAt_in (s : Sawing) (n l k c : Nat) : 0 ≤ sumsAt s n l k c ∧ sumsAt s n l k c ≤ (302 * k : Nat) := by
  induction k with
  | zero => simp [sumsAt]
  | succ k ih =>
    have := bn_le s n k
    rw [sumsAt]
    split <;> omega
def Sw.one (s : Sw) : Sw := ⟨1, s.wide, s.kerf, 0⟩
theorem Sw.Ok.one {s : Sw} (h : s.Ok) : s.one.Ok := ⟨by simp [Sw.one], by simp [Sw.one], h.w1, h.w2, h.k1, h.k2, by simp [Sw.one], by simp [Sw.one]⟩
def boundL (B : Bl) (s : Sw) : Int := minTo (sumsL (B.worst s.one) B.n s.long.toNat) (s.long.toNat - 1)
def classL (B : Bl) (s : Sw) : Int := idx (fun y => boundL B s == y) (sumsL (B.worst s.one) B.n s.long.toNat)
theorem ints_of_row {w : World} {g l : Nat} {t : TypeId} {f : Nat → Int} (h : w.rowIs g t l (fun i => .int .i64 (f i))) : Ints w (some ⟨g, 0, none⟩) l ((List.range l).map f) := by
  refine ⟨by simp, fun _ => ⟨g, 0, rfl, h.lt, fun j u hu => ?_⟩⟩
  rw [Nat.zero_add]
  rw [List.getElem?_map, List.getElem?_map] at hu
  by_cases hj : j < l
  · rw [List.getElem?_range hj] at hu
    simp only [Option.map_some, Option.some.injEq] at hu
    rw [← hu]
    exact h.cell hj
  · rw [List.getElem?_eq_none (by simpa using hj)] at hu
    simp at hu

def BoundRes (w : World) (B : Bl) (s : Sw) (e : Ending) (w' : World) : Prop :=
  Below w.heap.size w w' ∧ ((B.err s ≠ 0 ∧ e = .returned (.tuple #[.int .i64 0, .int .i64 0, .int .i64 (B.err s)])) ∨
    (B.err s = 0 ∧ e = .returned (.tuple #[.int .i64 (boundL B s), .int .i64 (classL B s), .int .i64 0])))

set_option maxRecDepth 100000 in
set_option maxHeartbeats 4000000 in
theorem Bound_any (B : Bl) (s : Sw) (w : World) (h : B.At w) : Calls Try.prog 40 #[B.val, s.val] w (BoundRes w B s) := by
  have E0 : Hid (Below w.heap.size w ((w.alloc (.cells #[.slice B.A B.n B.c, .slice B.A' B.n' B.c', .int .i64 B.bend, .slice B.K B.m B.d] 25)).alloc (.cells #[.int .i64 s.long, .int .i64 s.wide, .int .i64 s.kerf, .int .i64 s.across] 37))) := below_alloc' (below_self _ _) _
  have S0 := Lib.hid (Blk.new (w.alloc (.cells #[.slice B.A B.n B.c, .slice B.A' B.n' B.c', .int .i64 B.bend, .slice B.K B.m B.d] 25)) 37 #[.int .i64 s.long, .int .i64 s.wide, .int .i64 s.kerf, .int .i64 s.across] (g := w.heap.size + 1) (by simp))
  have HC := Lib.hid (ready_top B s _ (h.below E0.out))
  have HK := Lib.hid h
  have HBD : Hid (boundL B s = minTo (sumsL (B.worst s.one) B.n s.long.toNat) (s.long.toNat - 1)) := rfl
  have HCL : Hid (classL B s = idx (fun y => boundL B s == y) (sumsL (B.worst s.one) B.n s.long.toNat)) := rfl
  clear h
  unfold Bl.val Sw.val at *
  go_enter Try.func40, Try.ntmps40
  go_wp2_with fail
  refine HC.out.mono ?_
  rintro e w2 ⟨hb2, ⟨herr, rfl⟩ | ⟨hok, g, cap, g', cap', rfl, P, P', -⟩⟩
  · have B2 := Lib.hid (below_then E0.out hb2)
    have Herr := Lib.hid herr
    have hz : (B.err s == 0) = false := by simpa using herr
    have hz2 : (B.err s != 0) = true := by simpa using herr
    clear hb2 herr HC HBD HCL
    unfold zeroCurved
    go_wp2
    go_ret3
    exact ⟨below_alloc' B2.out _, .inl ⟨Herr.out, rfl⟩⟩
  · have B2 := Lib.hid (below_then E0.out hb2)
    have S2 := Lib.hid (blk_keep hb2 S0.out)
    have Hok := Lib.hid (err_ok hok)
    have hP := Lib.hid P
    have hP' := Lib.hid P'
    have s2 := S2.out.cell
    have hz := S2.out.lt
    have HWT := Lib.hid (fun W (hb : Below w2.heap.size w2 W) => worst_top B s.one g cap g' cap' W Hok.out.2.1 (hP.out.below hb) (hP'.out.below hb) (HK.out.below (below_then B2.out hb)).hk)
    have HLT := Lib.hid (fun b o b' o' c c' K d W hs hc hc' hm => blocks_any (B.worst s.one) b o b' o' B.n c c' K B.m d W hs hc hc' hm (worst_bounds Hok.out.2.1 Hok.out.2.2.one) Hok.out.2.1.n2 Hok.out.2.1.m4)
    have Hok0 := Lib.hid hok
    have C2 := Lib.hid (Blk.new w2 106 #[.slice B.A B.n B.c, .slice B.A' B.n' B.c', .int .i64 B.bend, .slice B.K B.m B.d, .slice (some ⟨g, 0, none⟩) B.n cap, .slice (some ⟨g', 0, none⟩) B.n cap'] (g := w2.heap.size) rfl)
    have S2' := Lib.hid (S2.out.alloc (.cells #[.slice B.A B.n B.c, .slice B.A' B.n' B.c', .int .i64 B.bend, .slice B.K B.m B.d, .slice (some ⟨g, 0, none⟩) B.n cap, .slice (some ⟨g', 0, none⟩) B.n cap'] 106))
    clear hb2 hok P P' HC
    unfold Bl.curved Sw.val Sw.one at HWT
    unfold Sw.one at HLT
    unfold Bl.curved
    go_wp2_with fail
    refine (HWT.out _ (below_self _ _)).mono ?_
    rintro e w3 ⟨hb3, b, o, b', o', c, c', K, d, rfl, hs, hc, hc', hm⟩
    have B3 := Lib.hid (below_then (below_alloc' B2.out _) hb3)
    have HL3 := Lib.hid (HLT.out b o b' o' c c' K d _ hs hc hc' hm)
    have C3 := Lib.hid (blk_keep hb3 C2.out)
    have S3 := Lib.hid (blk_keep hb3 S2'.out)
    clear hb3 hs hc hc' hm HWT HLT s2 hz C2 S2 S2'
    go_wp2_with fail
    refine HL3.out.mono ?_
    rintro e w4 ⟨bm, D, V, rfl, hmap, hb4⟩
    have B4 := Lib.hid (below_then B3.out hb4)
    have C4 := Lib.hid (blk_keep hb4 C3.out)
    have S4 := Lib.hid (blk_keep hb4 S3.out)
    have HM := Lib.hid hmap
    have s4 := S4.out.cell
    have z4 := S4.out.lt
    have c4 := C4.out.cell
    have y4 := C4.out.lt
    clear hb4 hmap C3 S3 HL3
    obtain ⟨l, hl⟩ := Int.eq_ofNat_of_zero_le (show 0 ≤ s.long by have := Hok.out.2.2.l1; omega)
    have hl1 := Hok.out.2.2.l1
    have hl2 := Hok.out.2.2.l2
    have hn1 := Hok.out.2.1.n1
    have hn2 := Hok.out.2.1.n2
    rw [hl] at s4 S4 HBD HCL hl1 hl2
    simp only [hl]
    clear hl
    have hmk := fun W => run_make_row' (P := Try.prog) 44 3 (.int .i64 0) 8 Try.underlying44 Try.infoInt rfl .i64 .i64 l (by omega) (by omega) W
    go_wp2_with fail
    clear hmk
    have R0 := (World.rowIs_made w4 (.int .i64 0) l 3).congr (g := fun i => .int .i64 (sumsAt (B.worst s.one) B.n l 0 i)) (fun i _ => by simp [sumsAt])
    have HSA := Lib.hid (sumsAt_in (B.worst s.one) B.n l)
    have HSU : Hid (∀ k c, sumsAt (B.worst s.one) B.n l (k + 1) c = if c = k % l then sumsAt (B.worst s.one) B.n l k c + (bn (B.worst s.one) B.n k : Int) else sumsAt (B.worst s.one) B.n l k c) := fun k c => rfl
    have HBN : Hid (∀ k, (LL (B.worst s.one) (B.n + 1 - (B.worst s.one).long.toNat) k).length = bn (B.worst s.one) B.n k) := fun k => rfl
    have HBL := Lib.hid (bn_le (B.worst s.one) B.n)
    replace HM : Hid (BlkMap w4 _ bm (B.worst s.one) (B.n + 1 - (B.worst s.one).long.toNat) D V) := HM
    generalize B.worst s.one = s1 at *
    go_loopw [34] (fun i wr => ∃ k : Nat, k ≤ B.n ∧ i = .int .i64 k ∧ wr.rowIs w4.heap.size 3 l (fun i => .int .i64 (sumsAt s1 B.n l k i)) ∧ Below w4.heap.size w4 wr) (fun i _ => B.n - (intOf i).toNat)
    case atStart => exact ⟨0, Nat.zero_le _, rfl, by simpa using R0, (Below.refl _ _).alloc (Nat.le_refl _) _⟩
    case round =>
      obtain ⟨k, hk, rfl, R, hbel⟩ := hrel
      have HR := Lib.hid R
      have Hbel := Lib.hid hbel
      have s5 := (blk_keep hbel S4.out).cell
      clear R hbel R0 s4 c4 z4 y4
      by_cases hlt : k < B.n
      · have hml : k % l < l := Nat.mod_lt _ (by omega)
        have hse := HSA.out k (k % l)
        have hsu := Lib.hid (HSU.out k)
        have q1 := HR.out.cell (i := k % l) hml
        have q2 := HR.out.frozen (k % l)
        obtain ⟨VA, vc, hV⟩ := own_slice (HM.out.row k)
        have hlk := fun (W : World) (hW : W.heap = wr.heap) => look_of (HM.out.below Hbel.out) hW k (by omega)
        rw [hV, HBN.out] at hlk
        have hbl := HBL.out k
        clear hV
        generalize bn s1 B.n k = L at *
        have k1 : (k : Int).tmod (l : Int) = ((k % l : Nat) : Int) := by rw [Int.tmod_eq_emod_of_nonneg (by omega)]; rfl
        have k2 : ((l : Int) == 0) = false := by simp; omega
        have k5 : ¬ l = 0 := by omega
        have k6 : (k : Int) % (l : Int) = ((k % l : Nat) : Int) := rfl
        have k7 : ¬ (l : Int) = 0 := by omega
        have k3 : IntKind.i64.wrap (((k % l : Nat) : Int)) = ((k % l : Nat) : Int) := IntWalk.i64_in _ (by omega)
        generalize hs0 : sumsAt s1 B.n l k (k % l) = z0 at q1 hse
        have Hs0 := Lib.hid hs0
        clear hs0
        have k4 : IntKind.i64.wrap (z0 + (L : Int)) = z0 + (L : Int) := IntWalk.i64_in _ (by omega)
        generalize k % l = r at *
        replace hlk := hlk wr.drew rfl
        go_wp2_with fail
        go_still_tail 13, (by kernel_rfl)
        clear k1 k2 k3 k4 k5 k6 k7 hlk s5
        change wpList _ _ _ _ _ wr.drew
        have HN : Hid (((wr.setCell ⟨w4.heap.size, r, none⟩ (.int .i64 (z0 + (L : Int)))).drew).rowIs w4.heap.size 3 l (fun q => .int .i64 (sumsAt s1 B.n l (k + 1) q))) := by
          refine ((HR.out.set r _).congr (fun q _ => ?_)).drew
          rw [hsu.out q]
          by_cases e : q = r
          · subst e; rw [if_pos rfl, if_pos rfl, Hs0.out]
          · rw [if_neg e, if_neg e]
        have HB2 := Lib.hid ((Hbel.out.setCell (p := ⟨w4.heap.size, r, none⟩) (Nat.le_refl _) (.int .i64 (z0 + (L : Int)))).drew)
        generalize z0 + (L : Int) = z at *
        go_wp2
        go_roundw
        case rel => exact ⟨k + 1, by omega, by go_num, HN.out, HB2.out⟩
        case measure => simp [intOf] <;> omega
      · obtain rfl : k = B.n := by omega
        have HI : Hid (Ints wr (some ⟨w4.heap.size, 0, none⟩) l (sumsL s1 B.n l)) := ints_of_row HR.out
        have HMn := Lib.hid (Min_any (some ⟨w4.heap.size, 0, none⟩) l l (sumsL s1 B.n l) wr HI.out (by omega) (by unfold maxLen; omega))
        have HIx := Lib.hid (fun x => Index_any (some ⟨w4.heap.size, 0, none⟩) l l x (sumsL s1 B.n l) wr HI.out (by unfold maxLen; omega))
        have BE := Lib.hid (B4.out.trans (Hbel.out.mono B4.out.size))
        rw [Int.toNat_natCast] at HBD HCL
        rw [← HBD.out] at HMn
        replace HIx := Lib.hid (HIx.out (boundL B s))
        rw [← HCL.out] at HIx
        clear hl1 hl2 HBD HCL
        go_wp2_with fail
        refine HMn.out.mono ?_
        rintro e w5 ⟨rfl, rfl⟩
        go_wp2_with fail
        refine HIx.out.mono ?_
        rintro e w6 ⟨rfl, rfl⟩
        go_wp2
        go_ret3
        exact ⟨BE.out, .inr ⟨Hok0.out, rfl⟩⟩
end Go.Proofs.Ytiflhimmieflpaa

/- Walks: slices.Delete of cracks. -/
namespace Go.Proofs.Ytiflhimmieflpaa
open Go.RowKit Go.Maps

theorem own_blk {w : World} {base : Nat} {e : TypeId} {size n cap g : Nat} {xs : List Value} (h : w.ownsRow base e size (.slice (some ⟨g, 0, none⟩) n cap) n xs) : ∃ cs : Array Value, Blk w g e cs ∧ n ≤ cap ∧ cs.size = cap * size ∧ cs.toList.take xs.length = xs ∧ xs.length = n * size ∧ base ≤ g := by
  obtain ⟨hl, ⟨hv, _⟩ | ⟨g', cap', cur, hv, hbase, hb, h1, h2, h3, h4⟩⟩ := h
  · simp at hv
  · simp only [Value.slice.injEq, Option.some.injEq, Addr.mk.injEq, and_true, true_and] at hv
    obtain ⟨rfl, rfl⟩ := hv
    exact ⟨cur, hb, h1, h3, by rw [hl]; exact h4, hl, hbase⟩
theorem run_clear_one (P : Program) (w : World) (t e ty : TypeId) (z : Value) (zs : List Value) (ht : P.underlying t = some (.slice e)) (hv : ∀ w, (zeroValue e).run P w = .ok z w) (hz : (Builtin.zeroCells z.cells 1).toList = zs) (h1 : ∀ v ∈ zs, v.oneCell' = true) (b o c : Nat)
    (hc : ∀ j, j < zs.length → (w.cell? ⟨b, o + j, none⟩).isSome = true) (hf : ∀ j, j < zs.length → w.frozen? ⟨b, o + j, none⟩ = false) :
    (Builtin.clear_ #[t] ty #[.slice (some ⟨b, o, none⟩) 1 c]).run P w = .ok (.tuple #[]) (w.setCells b o zs) := by
  have hst := run_storeCells_cells (P := P) b o zs 0 w (by simpa using hc) (by simpa using hf) h1
  simp only [Nat.add_zero] at hst
  simp [Builtin.clear_, run_underlying ht, hv, hz, hst]
theorem Try.zeroCrackRun (W : World) : (zeroValue 111).run Try.prog W = .ok (.agg #[.int .i64 0, .int .i64 0, .int .i64 0, .int .i64 0, .int .i64 0, .int .i64 0]) W := by kernel_rfl

theorem zeroCells_crack : (Builtin.zeroCells (Value.agg #[.int .i64 0, .int .i64 0, .int .i64 0, .int .i64 0, .int .i64 0, .int .i64 0]).cells 1).toList = [.int .i64 0, .int .i64 0, .int .i64 0, .int .i64 0, .int .i64 0, .int .i64 0] := by kernel_rfl
theorem flat6_take (cr : List Crack) (k : Nat) : flat6 (cr.take k) = (flat6 cr).take (k * 6) := by
  unfold flat6
  induction cr generalizing k with
  | nil => simp
  | cons a r ih =>
    cases k with
    | zero => simp
    | succ k =>
      rw [List.take_succ_cons, List.flatMap_cons, List.flatMap_cons, ih, List.take_append, List.take_of_length_le (l := a.cells) (by simp [Crack.cells]; omega)]
      rw [show (k + 1) * 6 - a.cells.length = k * 6 from by simp [Crack.cells]; omega]
theorem flat6_drop (cr : List Crack) (k : Nat) : flat6 (cr.drop k) = (flat6 cr).drop (k * 6) := by
  unfold flat6
  induction cr generalizing k with
  | nil => simp
  | cons a r ih =>
    cases k with
    | zero => simp
    | succ k =>
      rw [List.drop_succ_cons, List.flatMap_cons, ih, List.drop_append, List.drop_of_length_le (l := a.cells) (by simp [Crack.cells]; omega)]
      rw [show (k + 1) * 6 - a.cells.length = k * 6 from by simp [Crack.cells]; omega]
      rfl
theorem flat6_append (xs ys : List Crack) : flat6 (xs ++ ys) = flat6 xs ++ flat6 ys := by simp [flat6, List.flatMap_append]
theorem below_setCells' {B : Nat} {a : World} (b : Nat) (hb : B ≤ b) : ∀ (vs : List Value) (o : Nat) {w : World}, Below B a w → Below B a (w.setCells b o vs)
  | [], _, _, h => h
  | v :: r, o, _, h => below_setCells' b hb r (o + 1) (h.setCell (p := ⟨b, o, none⟩) hb v)
theorem some_setCells (b : Nat) : ∀ (vs : List Value) (o : Nat) (w : World) (x : Addr), (w.cell? x).isSome = true → ((w.setCells b o vs).cell? x).isSome = true
  | [], _, _, _, h => h
  | v :: r, o, w, x, h => by
    refine some_setCells b r (o + 1) _ x ?_
    by_cases e : x = ⟨b, o, none⟩
    · subst e
      obtain ⟨u, hu⟩ := Option.isSome_iff_exists.1 h
      rw [World.cell?_setCell_same _ _ _ hu]
      rfl
    · rw [World.cell?_setCell_other _ _ _ _ (fun e' => e e'.symm)]
      exact h
theorem cs_at {cs : Array Value} {xs : List Value} (h : cs.toList.take xs.length = xs) (j : Nat) (hj : j < xs.length) : cs[j]? = xs[j]? := by
  rw [← h, List.getElem?_take_of_lt hj]
  simp
theorem del_mem {W : World} {g k p : Nat} {t : TypeId} {cr : List Crack} {cs : Array Value} (hB : Blk W g t cs) (hs : (p + 1) * 6 ≤ cs.size) (ht : cs.toList.take (flat6 cr).length = flat6 cr) (hl : (flat6 cr).length = (p + 1) * 6) (hk : k < p + 1) (zs : List Value) :
    Cracks ((W.setCells g (k * 6) ((flat6 cr).drop ((k + 1) * 6))).setCells g (p * 6) zs) (some ⟨g, 0, none⟩) p (cr.eraseIdx k) := by
  have hc : ∀ j, j < (p + 1) * 6 → (W.cell? ⟨g, j, none⟩).isSome = true := fun j hj => by
    rw [hB.cell j, Array.getElem?_eq_getElem (by omega)]; rfl
  have hf : flat6 (cr.eraseIdx k) = (flat6 cr).take (k * 6) ++ (flat6 cr).drop ((k + 1) * 6) := by
    rw [List.eraseIdx_eq_take_drop_succ, flat6_append, flat6_take, flat6_drop]
  have hlen : (flat6 (cr.eraseIdx k)).length = p * 6 := by
    rw [hf, List.length_append, List.length_take, List.length_drop, hl]; omega
  refine ⟨hlen, fun _ => ⟨g, 0, rfl, ?_, fun j u hu => ?_⟩⟩
  · have h0 := some_setCells g zs (p * 6) _ ⟨g, 0, none⟩ (some_setCells g ((flat6 cr).drop ((k + 1) * 6)) (k * 6) W ⟨g, 0, none⟩ (hc 0 (by omega)))
    obtain ⟨v, hv⟩ := Option.isSome_iff_exists.1 h0
    exact lt_of_cell hv
  · have hj : j < p * 6 := by
      rw [← hlen]
      rcases Nat.lt_or_ge j (flat6 (cr.eraseIdx k)).length with h | h
      · exact h
      · rw [List.getElem?_eq_none h] at hu; simp at hu
    rw [Nat.zero_add, World.cell?_setCells_out _ _ _ _ _ (fun _ _ => .inl hj)]
    rw [hf] at hu
    by_cases hjk : j < k * 6
    · rw [World.cell?_setCells_out _ _ _ _ _ (fun _ _ => .inl hjk), hB.cell j, cs_at ht j (by omega)]
      rwa [List.getElem?_append_left (by rw [List.length_take]; omega), List.getElem?_take_of_lt hjk] at hu
    · obtain ⟨i, rfl⟩ : ∃ i, j = k * 6 + i := ⟨j - k * 6, by omega⟩
      have hi : i < ((flat6 cr).drop ((k + 1) * 6)).length := by rw [List.length_drop, hl]; omega
      rw [World.cell?_setCells_in g _ _ _ (fun q hq => hc _ (by rw [List.length_drop, hl] at hq; omega)) i hi]
      rw [List.getElem?_append_right (by rw [List.length_take]; omega)] at hu
      rw [show k * 6 + i - ((flat6 cr).take (k * 6)).length = i from by rw [List.length_take]; omega, List.getElem?_eq_getElem hi] at hu
      exact hu

def DeleteRes (base g m cap : Nat) (cr : List Crack) (k : Nat) (w : World) (e : Ending) (w' : World) : Prop :=
  e = .returned (.slice (some ⟨g, 0, none⟩) m cap) ∧ Cracks w' (some ⟨g, 0, none⟩) m (cr.eraseIdx k) ∧ Below base w w'

set_option maxRecDepth 100000 in
set_option maxHeartbeats 2000000 in
theorem Delete_any (base g p cap k : Nat) (cr : List Crack) (w : World) (h : w.ownsRow base 111 6 (.slice (some ⟨g, 0, none⟩) (p + 1) cap) (p + 1) (flat6 cr)) (hk : k < p + 1) (hm : p ≤ 3) :
    Calls Try.prog 107 #[.slice (some ⟨g, 0, none⟩) (p + 1) cap, .int .i64 k, .int .i64 ((k : Int) + 1)] w (DeleteRes base g p cap cr k w) := by
  obtain ⟨i0, hi, hz0, hz1, hz2⟩ := info_parts Try.infoCrack
  obtain ⟨cs, hB, h1, h2, h3, h4, h5⟩ := own_blk h
  have hsz : (p + 1) * 6 ≤ cs.size := by rw [h2]; exact Nat.mul_le_mul_right _ h1
  have HD : Hid (Cracks ((w.drew.setCells g (k * 6) ((flat6 cr).drop ((k + 1) * 6))).setCells g (p * 6) [.int .i64 0, .int .i64 0, .int .i64 0, .int .i64 0, .int .i64 0, .int .i64 0]) (some ⟨g, 0, none⟩) p (cr.eraseIdx k)) := del_mem (W := w.drew) hB hsz h3 h4 hk _
  have HBl : Hid (Below base w ((w.drew.setCells g (k * 6) ((flat6 cr).drop ((k + 1) * 6))).setCells g (p * 6) [.int .i64 0, .int .i64 0, .int .i64 0, .int .i64 0, .int .i64 0, .int .i64 0])) := below_setCells' g h5 _ _ (below_setCells' g h5 _ _ (Below.drew (Below.refl _ _)))
  have HS : Hid (∀ j, j < (p + 1) * 6 → (w.drew.cell? ⟨g, j, none⟩).isSome = true ∧ w.drew.frozen? ⟨g, j, none⟩ = false) := fun j hj => ⟨by
    have := hB.cell j
    rw [Array.getElem?_eq_getElem (by omega)] at this
    change (w.cell? ⟨g, j, none⟩).isSome = true
    rw [this]; rfl, hB.frozen j⟩
  have HCl : Hid (∀ ty c, (Builtin.clear_ #[23] ty #[.slice (some ⟨g, p * 6, none⟩) 1 c]).run Try.prog (w.drew.setCells g (k * 6) ((flat6 cr).drop ((k + 1) * 6))) = .ok (.tuple #[]) ((w.drew.setCells g (k * 6) ((flat6 cr).drop ((k + 1) * 6))).setCells g (p * 6) [.int .i64 0, .int .i64 0, .int .i64 0, .int .i64 0, .int .i64 0, .int .i64 0])) := fun ty c =>
    run_clear_one Try.prog _ 23 111 ty _ _ Try.underlying23 Try.zeroCrackRun zeroCells_crack (by intro v hv; simp only [List.mem_cons, List.not_mem_nil, or_false] at hv; rcases hv with rfl | rfl | rfl | rfl | rfl | rfl <;> rfl) g (p * 6) c (fun j hj => some_setCells _ _ _ _ _ (HS.out _ (by simp at hj; omega)).1) (fun j hj => by rw [World.frozen?_setCells]; exact (HS.out _ (by simp at hj; omega)).2)
  have Hl := Lib.hid h4
  have Hlen : Hid (∀ j, j < (flat6 cr).length → (flat6 cr)[j]? = w.drew.cell? ⟨g, j, none⟩) := fun j hj => ((hB.cell j).trans (cs_at h3 j hj)).symm
  have H1 := Lib.hid h1
  clear h hB h2 h3 h4 h5 hsz h1
  have f1 : k ≤ cap := by have := H1.out; omega
  have f2 : (k : Int) ≤ (cap : Int) := by omega
  have f3 : k + 1 ≤ p + 1 := by omega
  have f4 : (k : Int) + 1 ≤ ((p + 1 : Nat) : Int) := by omega
  have f5 : ((k : Int) + 1).toNat = k + 1 := by omega
  have f6 : (0 : Int) ≤ (k : Int) + 1 := by omega
  have f7 : p + 1 ≤ cap := H1.out
  have f8 : (p : Int) + 1 ≤ (cap : Int) := by omega
  have f9 : k ≤ p := by omega
  have f10 : (k : Int) + 1 ≤ (p : Int) + 1 := by omega
  obtain ⟨q, hq, hqk⟩ : ∃ q, (if cap = k + 1 then some (⟨g, 0, none⟩ : Addr) else some ⟨g, (k + 1) * 6, none⟩) = some ⟨g, q, none⟩ ∧ (k < p → q = (k + 1) * 6) := by
    by_cases e : cap = k + 1
    · exact ⟨0, by rw [if_pos e], fun h => by omega⟩
    · exact ⟨_, by rw [if_neg e], fun _ => rfl⟩
  have Hq := Lib.hid hq
  have Hqk := Lib.hid hqk
  clear hq hqk
  go_enter Try.func107, Try.ntmps107
  go_wp2_with fail
  go_still_tail 6, (by kernel_rfl)
  change wpList _ _ _ _ _ w.drew
  rw [Hq.out]
  refine wpList_append_arg _ rfl _ _ 23 rfl 111 i0 (.agg #[.int .i64 0, .int .i64 0, .int .i64 0, .int .i64 0, .int .i64 0, .int .i64 0]) 6 48 Try.underlying23 hi hz0 hz1 hz2 rfl (by decide) g 0 k cap ((flat6 cr).take (k * 6)) rfl ?c1 ?c2 ⟨g, q, none⟩ (p - k) (cap - (k + 1)) ((flat6 cr).drop ((k + 1) * 6)) rfl ?c3 ?c4 ?c5 ?c6 ?c7 ?c8 ?c9 ?c10
  case c1 => rw [List.length_take, Hl.out]; omega
  case c2 =>
    intro j u hj
    have hlt : j < k * 6 := by
      rcases Nat.lt_or_ge j (k * 6) with h | h
      · exact h
      · rw [List.getElem?_eq_none (by rw [List.length_take]; omega)] at hj; simp at hj
    rw [List.getElem?_take_of_lt hlt, Hlen.out j (by rw [Hl.out]; omega)] at hj
    rw [Nat.zero_add]; exact hj
  case c3 => rw [List.length_drop, Hl.out]; omega
  case c4 =>
    intro j u hj
    have hlt : j < (p - k) * 6 := by
      rcases Nat.lt_or_ge j ((p - k) * 6) with h | h
      · exact h
      · rw [List.getElem?_eq_none (by rw [List.length_drop, Hl.out]; omega)] at hj; simp at hj
    have e := Hqk.out (by omega)
    subst e
    rw [List.getElem?_drop, Hlen.out _ (by rw [Hl.out]; omega)] at hj
    rw [addr_add]; exact hj
  case c5 => intro u hu; exact flat6_oneCell cr u (List.mem_of_mem_drop hu)
  case c6 => intro _ j hj; exact HS.out _ (by rw [List.length_drop, Hl.out] at hj; omega)
  case c7 => unfold maxLen; omega
  case c8 => omega
  case c10 => intro h; omega
  case c9 =>
    intro _
    have e1 : k + (p - k) = p := by omega
    rw [e1, Nat.zero_add]
    generalize hW : w.drew.setCells g (k * 6) ((flat6 cr).drop ((k + 1) * 6)) = W at *
    clear hW e1 Hq Hqk Hlen Hl HS
    have hcl := HCl.out
    have f11 : ¬ cap = p := by omega
    have f12 : p ≤ cap := by omega
    have f13 : (p : Int) ≤ (p : Int) + 1 := by omega
    go_wp2_with fail
    go_ret
    exact ⟨rfl, HD.out, HBl.out⟩
end Go.Proofs.Ytiflhimmieflpaa

/- Walks: without. -/
namespace Go.Proofs.Ytiflhimmieflpaa
open Go.RowKit Go.Maps

theorem Reads.setCell_far {w : World} {size n g off : Nat} {xs : List Value} (h : Reads w size (some ⟨g, off, none⟩) n xs) {p : Addr} (hp : p.block ≠ g) (u : Value) : Reads (w.setCell p u) size (some ⟨g, off, none⟩) n xs := by
  refine ⟨h.1, fun hn => ?_⟩
  obtain ⟨b, o, e, hb, hc⟩ := h.2 hn
  simp only [Option.some.injEq, Addr.mk.injEq, and_true] at e
  obtain ⟨rfl, rfl⟩ := e
  exact ⟨g, off, rfl, by simpa using hb, fun j v hv => (World.cell?_setCell_other _ _ _ _ (fun e => hp (by rw [e]))).trans (hc j v hv)⟩
theorem Reads.setRow_far {w : World} {size n g off r : Nat} {xs : List Value} (h : Reads w size (some ⟨g, off, none⟩) n xs) (hp : r ≠ g) (cs : Array Value) : Reads (w.setRow r cs) size (some ⟨g, off, none⟩) n xs := by
  refine ⟨h.1, fun hn => ?_⟩
  obtain ⟨b, o, e, hb, hc⟩ := h.2 hn
  simp only [Option.some.injEq, Addr.mk.injEq, and_true] at e
  obtain ⟨rfl, rfl⟩ := e
  refine ⟨g, off, rfl, by simpa using hb, fun j v hv => ?_⟩
  rw [World.cell?_of_block (w := w) (setRow_other w r g cs (fun e => hp e.symm))]
  exact hc j v hv

def Bl.less (B : Bl) (k g cap : Nat) : Bl := ⟨B.A, B.A', some ⟨g, 0, none⟩, B.n, B.c, B.n', B.c', B.m - 1, cap, B.bend, B.bot, B.top, B.cr.eraseIdx k⟩
def WithoutRes (w : World) (B : Bl) (g cap g' cap' k : Nat) (e : Ending) (w' : World) : Prop :=
  ∃ q dq, e = .returned ((B.less k q dq).curved g cap g' cap') ∧ Cracks w' (some ⟨q, 0, none⟩) (B.m - 1) (B.cr.eraseIdx k) ∧ Below w.heap.size w w'

set_option maxRecDepth 100000 in
set_option maxHeartbeats 2000000 in
theorem without_any (B : Bl) (g cap g' cap' k : Nat) (w : World) (hk : k < B.m) (hm : B.m ≤ 4) (h : Cracks w B.K B.m B.cr) :
    Calls Try.prog 85 #[B.curved g cap g' cap', .int .i64 k] w (WithoutRes w B g cap g' cap' k) := by
  obtain ⟨A, A', K, n, c, n', c', m, d, bend, bot, top, cr⟩ := B
  unfold WithoutRes Bl.less Bl.curved
  dsimp only at hk hm h ⊢
  obtain ⟨p, rfl⟩ : ∃ p, m = p + 1 := ⟨m - 1, by omega⟩
  rw [Nat.add_sub_cancel]
  obtain ⟨kb, ko, rfl, hkb, _⟩ := h.at_ hk
  have B0 := Lib.hid (below_alloc' (below_self w (.cells #[.slice A n c, .slice A' n' c', .int .i64 bend, .slice (some ⟨kb, ko, none⟩) (p + 1) d, .slice (some ⟨g, 0, none⟩) n cap, .slice (some ⟨g', 0, none⟩) n cap'] 106)) (.cells zero6 106))
  have C0 := Lib.hid ((Blk.new w 106 #[.slice A n c, .slice A' n' c', .int .i64 bend, .slice (some ⟨kb, ko, none⟩) (p + 1) d, .slice (some ⟨g, 0, none⟩) n cap, .slice (some ⟨g', 0, none⟩) n cap'] (g := w.heap.size) rfl).alloc (.cells zero6 106))
  have R0 := Lib.hid (Blk.new (w.alloc (.cells #[.slice A n c, .slice A' n' c', .int .i64 bend, .slice (some ⟨kb, ko, none⟩) (p + 1) d, .slice (some ⟨g, 0, none⟩) n cap, .slice (some ⟨g', 0, none⟩) n cap'] 106)) 106 zero6 (g := w.heap.size + 1) (by simp))
  have HC := Lib.hid (cloneCrack_any kb ko (p + 1) d cr _ (h.below B0.out) (by omega) (by omega))
  have k1 : IntKind.i64.wrap ((k : Int) + 1) = (k : Int) + 1 := IntWalk.i64_in _ (by omega)
  clear h hkb
  go_enter Try.func85, Try.ntmps85
  go_wp2_with fail
  refine HC.out.mono ?_
  rintro e w2 ⟨q, dq, rfl, hown, hb2⟩
  obtain ⟨_, _, _, _, _, _, hq⟩ := own_blk hown
  have HDl := Lib.hid (Delete_any _ q p dq k cr w2 hown hk (by omega))
  have B2 := Lib.hid (below_then B0.out hb2)
  have C2 := Lib.hid (blk_keep hb2 C0.out)
  have R2 := Lib.hid (blk_keep hb2 R0.out)
  have Hq : Hid (w.heap.size + 1 < q) := by
    have := R0.out.lt; unfold Hid; omega
  have HB0 : Hid (w.heap.size + 1 < _) := R0.out.lt
  clear hown hq HC C0 R0
  go_wp2_with fail
  refine HDl.out.mono ?_
  rintro e w3 ⟨rfl, hcr, hb3⟩
  have hzz := HB0.out
  have B3 := Lib.hid (B2.out.trans (hb3.mono B0.out.size))
  have C3 := Lib.hid (C2.out.below hb3 (by omega))
  have R3 := Lib.hid (R2.out.below hb3 hzz)
  have c3 := C3.out.cell
  have f3 := C3.out.frozen 3
  have HCR := Lib.hid hcr
  have C4 : Hid (Blk (w3.setCell ⟨w.heap.size, 3, none⟩ (.slice (some ⟨q, 0, none⟩) p dq)) w.heap.size 106 #[.slice A n c, .slice A' n' c', .int .i64 bend, .slice (some ⟨q, 0, none⟩) p dq, .slice (some ⟨g, 0, none⟩) n cap, .slice (some ⟨g', 0, none⟩) n cap']) := C3.out.set_ 3 _
  have R4 := Lib.hid (R3.out.far (p := ⟨w.heap.size, 3, none⟩) (by simp) (.slice (some ⟨q, 0, none⟩) p dq))
  have B4 := Lib.hid (B3.out.setCell (p := ⟨w.heap.size, 3, none⟩) (Nat.le_refl _) (.slice (some ⟨q, 0, none⟩) p dq))
  have HCR4 := Lib.hid (Reads.setCell_far HCR.out (p := ⟨w.heap.size, 3, none⟩) (by have := Hq.out; simp; omega) (.slice (some ⟨q, 0, none⟩) p dq))
  clear hb3 hcr HDl hzz HB0
  go_wp2_with (refine wpList_store_row rfl 106 _ _ rfl (w.heap.size + 1) _ rfl rfl 106 _ R4.out (by kernel_rfl) rfl (by kernel_rfl) ?_)
  exact bodyPost_ret (results_c rfl _ _ _ _ _ _ _ rfl (R4.out.setRow _) Try.underlying106 (by kernel_rfl)) rfl ⟨q, dq, rfl, Reads.setRow_far HCR4.out (by have := Hq.out; omega) _, below_setR B4.out (by omega) _⟩
end Go.Proofs.Ytiflhimmieflpaa
