/- Walks: Check, Curve, ready. -/
import Derived.Test.YtiflhimmieflpaaW7
import Derived.Test.YtiflhimmieflpaaW10
namespace Go.Proofs.Ytiflhimmieflpaa
open Go.RowKit

abbrev zero6 : Array Value := #[.slice none 0 0, .slice none 0 0, .int .i64 0, .slice none 0 0, .slice none 0 0, .slice none 0 0]

set_option maxRecDepth 100000 in
set_option maxHeartbeats 2000000 in
theorem check_any (A A' K : Option Addr) (n c n' c' m d : Nat) (bend : Int) (bot top : List (Int × Int)) (cr : List Crack) (w : World) (h : Pairs w A n bot) (h' : Pairs w A' n' top) (hk : Cracks w K m cr) (hn : n ≤ maxLen) (hn' : n' ≤ maxLen) (hm : m ≤ maxLen) :
    Calls Try.prog 20 #[.agg #[.slice A n c, .slice A' n' c', .int .i64 bend, .slice K m d]] w fun e w' => e = .returned (.int .i64 (curveErr n n' m bend bot top cr)) ∧ Below w.heap.size w w' := by
  have B1 := below_self w (.cells #[.slice A n c, .slice A' n' c', .int .i64 bend, .slice K m d] 25)
  have HC := Lib.hid (curve_any A A' K n c n' c' m d bend bot top cr _ (h.below B1) (h'.below B1) (hk.below B1) hn hn' hm)
  generalize hE : curveErr n n' m bend bot top cr = E at *
  have HE := Lib.hid hE
  clear hE
  go_enter Try.func20, Try.ntmps20
  go_wp2_with fail
  refine HC.out.mono ?_
  rintro e w2 ⟨hb2, ⟨herr, rfl⟩ | ⟨hok, g, cap, g', cap', rfl, P, P'⟩⟩
  · have B2 := below_then B1 hb2
    rw [HE.out]
    clear hb2 herr HC
    unfold zeroCurved
    go_wp2
    go_ret
    exact ⟨rfl, below_alloc' B2 _⟩
  · have B2 := below_then B1 hb2
    rw [HE.out] at hok
    have Hok := Lib.hid hok
    clear hb2 HC hok
    go_wp2
    go_ret
    exact ⟨ret_int Hok.out.symm, below_alloc' B2 _⟩

def CurveOut (w : World) (n n' m : Nat) (bend : Int) (bot top : List (Int × Int)) (cr : List Crack) (e : Ending) (w' : World) : Prop :=
  Below w.heap.size w w' ∧ ((curveErr n n' m bend bot top cr ≠ 0 ∧ e = .returned (.tuple #[.slice none 0 0, .slice none 0 0, .int .i64 (curveErr n n' m bend bot top cr)])) ∨
    (curveErr n n' m bend bot top cr = 0 ∧ ∃ g cap g' cap', e = .returned (.tuple #[.slice (some ⟨g, 0, none⟩) n cap, .slice (some ⟨g', 0, none⟩) n cap', .int .i64 0]) ∧ Pairs w' (some ⟨g, 0, none⟩) n (bentL bot bend) ∧ Pairs w' (some ⟨g', 0, none⟩) n (bentL top bend)))

set_option maxRecDepth 100000 in
set_option maxHeartbeats 2000000 in
theorem Curve_any (A A' K : Option Addr) (n c n' c' m d : Nat) (bend : Int) (bot top : List (Int × Int)) (cr : List Crack) (w : World) (h : Pairs w A n bot) (h' : Pairs w A' n' top) (hk : Cracks w K m cr) (hn : n ≤ maxLen) (hn' : n' ≤ maxLen) (hm : m ≤ maxLen) :
    Calls Try.prog 21 #[.agg #[.slice A n c, .slice A' n' c', .int .i64 bend, .slice K m d]] w (CurveOut w n n' m bend bot top cr) := by
  have B1 := below_self w (.cells #[.slice A n c, .slice A' n' c', .int .i64 bend, .slice K m d] 25)
  have HC := Lib.hid (curve_any A A' K n c n' c' m d bend bot top cr _ (h.below B1) (h'.below B1) (hk.below B1) hn hn' hm)
  generalize hE : curveErr n n' m bend bot top cr = E at *
  have HE := Lib.hid hE
  clear hE
  go_enter Try.func21, Try.ntmps21
  go_wp2_with fail
  refine HC.out.mono ?_
  rintro e w2 ⟨hb2, ⟨herr, rfl⟩ | ⟨hok, g, cap, g', cap', rfl, P, P', -⟩⟩
  · have B2 := below_then B1 hb2
    have Herr := Lib.hid herr
    rw [HE.out]
    clear hb2 herr HC
    unfold zeroCurved
    go_wp2
    go_quiet (fail)
    go_wp2
    go_ret3
    exact ⟨below_drewN (below_alloc' B2 _) _, .inl ⟨Herr.out, by rw [HE.out]; rfl⟩⟩
  · have B2 := below_then B1 hb2
    have Hok := Lib.hid hok
    clear hb2 HC hok
    go_wp2
    go_quiet (fail)
    go_wp2
    go_ret3
    exact ⟨below_drewN (below_alloc' B2 _) _, .inr ⟨Hok.out, g, cap, g', cap', rfl, P.below (below_drewN (below_self _ _) _), P'.below (below_drewN (below_self _ _) _)⟩⟩

def sawOk (long wide kerf across : Int) : Bool := within 1 30 [long] && within 1 300 [wide] && within 0 50 [kerf, across]
def readyErr (n n' m : Nat) (bend : Int) (bot top : List (Int × Int)) (cr : List Crack) (long wide kerf across : Int) : Int :=
  if curveErr n n' m bend bot top cr ≠ 0 then curveErr n n' m bend bot top cr else if sawOk long wide kerf across = false then 3 else 0
def ReadyRes (w : World) (A A' K : Option Addr) (n c n' c' m d : Nat) (bend : Int) (bot top : List (Int × Int)) (cr : List Crack) (long wide kerf across : Int) (e : Ending) (w' : World) : Prop :=
  Below w.heap.size w w' ∧ ((readyErr n n' m bend bot top cr long wide kerf across ≠ 0 ∧ e = .returned (.tuple #[zeroCurved, .int .i64 (readyErr n n' m bend bot top cr long wide kerf across)])) ∨
    (readyErr n n' m bend bot top cr long wide kerf across = 0 ∧ ∃ g cap g' cap', e = .returned (.tuple #[.agg #[.slice A n c, .slice A' n' c', .int .i64 bend, .slice K m d, .slice (some ⟨g, 0, none⟩) n cap, .slice (some ⟨g', 0, none⟩) n cap'], .int .i64 0]) ∧
      Pairs w' (some ⟨g, 0, none⟩) n (bentL bot bend) ∧ Pairs w' (some ⟨g', 0, none⟩) n (bentL top bend) ∧ w.heap.size ≤ g ∧ w.heap.size ≤ g'))

structure ReadyEnv (w W : World) (saw : Array Value) : Prop where
  s : Blk W (w.heap.size + 1) 37 saw
  r : Blk W (w.heap.size + 2) 106 zero6
  bel : Below w.heap.size w W
theorem ReadyEnv.below {w W W' : World} {saw : Array Value} (h : ReadyEnv w W saw) (hb : Below W.heap.size W W') : ReadyEnv w W' saw := ⟨h.s.below hb h.s.lt, h.r.below hb h.r.lt, below_then h.bel hb⟩
theorem ReadyEnv.new (w : World) (bl saw : Array Value) : ReadyEnv w (((w.alloc (.cells bl 25)).alloc (.cells saw 37)).alloc (.cells zero6 106)) saw :=
  ⟨(Blk.new _ _ _ (by simp)).alloc _, Blk.new _ _ _ (by simp), (((Below.refl _ _).alloc (Nat.le_refl _) _).alloc (by simp) _).alloc (by simp <;> omega) _⟩

set_option maxRecDepth 100000 in
set_option maxHeartbeats 4000000 in
theorem ready_any (A A' K : Option Addr) (n c n' c' m d : Nat) (bend : Int) (bot top : List (Int × Int)) (cr : List Crack) (long wide kerf across : Int) (w : World) (h : Pairs w A n bot) (h' : Pairs w A' n' top) (hk : Cracks w K m cr) (hn : n ≤ maxLen) (hn' : n' ≤ maxLen) (hm : m ≤ maxLen) :
    Calls Try.prog 64 #[.agg #[.slice A n c, .slice A' n' c', .int .i64 bend, .slice K m d], .agg #[.int .i64 long, .int .i64 wide, .int .i64 kerf, .int .i64 across]] w (ReadyRes w A A' K n c n' c' m d bend bot top cr long wide kerf across) := by
  have E0 := ReadyEnv.new w #[.slice A n c, .slice A' n' c', .int .i64 bend, .slice K m d] #[.int .i64 long, .int .i64 wide, .int .i64 kerf, .int .i64 across]
  have HC := Lib.hid (curve_any A A' K n c n' c' m d bend bot top cr _ (h.below E0.bel) (h'.below E0.bel) (hk.below E0.bel) hn hn' hm)
  clear h h' hk hn hn' hm
  go_enter Try.func64, Try.ntmps64
  go_wp2_with fail
  refine HC.out.mono ?_
  rintro e w2 ⟨hb2, ⟨herr, rfl⟩ | ⟨hok, g, cap, g', cap', rfl, P, P', hg, hg'⟩⟩
  · have E2 := Lib.hid ((E0.below hb2).below (below_self w2 (.cells zero6 106)))
    have HR := Lib.hid (show readyErr n n' m bend bot top cr long wide kerf across = curveErr n n' m bend bot top cr by unfold readyErr; rw [if_pos herr])
    have HNZ := Lib.hid herr
    have hz1 : (curveErr n n' m bend bot top cr == 0) = false := by simpa using herr
    have hz2 : (curveErr n n' m bend bot top cr != 0) = true := by simpa using herr
    clear hb2 herr HC E0
    generalize curveErr n n' m bend bot top cr = E at *
    unfold zeroCurved
    go_wp2_with (refine wpList_store_row rfl 106 _ _ rfl (w.heap.size + 2) _ rfl rfl 106 _ E2.out.r (by kernel_rfl) rfl (by kernel_rfl) ?_)
    exact bodyPost_ret (results_ct rfl _ _ _ _ _ _ _ rfl (E2.out.r.setRow _) Try.underlying106 (by kernel_rfl)) rfl ⟨below_setR E2.out.bel (by omega) _, .inl ⟨by rw [HR.out]; exact HNZ.out, by rw [HR.out]; rfl⟩⟩
  · have E2 := Lib.hid ((E0.below hb2).below (below_self w2 (.cells #[.slice A n c, .slice A' n' c', .int .i64 bend, .slice K m d, .slice (some ⟨g, 0, none⟩) n cap, .slice (some ⟨g', 0, none⟩) n cap'] 106)))
    have P2 := Lib.hid (P.below (below_self w2 (.cells #[.slice A n c, .slice A' n' c', .int .i64 bend, .slice K m d, .slice (some ⟨g, 0, none⟩) n cap, .slice (some ⟨g', 0, none⟩) n cap'] 106)))
    have P2' := Lib.hid (P'.below (below_self w2 (.cells #[.slice A n c, .slice A' n' c', .int .i64 bend, .slice K m d, .slice (some ⟨g, 0, none⟩) n cap, .slice (some ⟨g', 0, none⟩) n cap'] 106)))
    have Hg : Hid (w.heap.size ≤ g ∧ w.heap.size ≤ g') := ⟨Nat.le_trans E0.bel.size hg, Nat.le_trans E0.bel.size hg'⟩
    have s2 := (E0.below hb2).s.cell
    have hz2 : w.heap.size + 2 < w2.heap.size := (E0.below hb2).r.lt
    have hz1 : w.heap.size + 1 < w2.heap.size := by omega
    have hz0 : w.heap.size < w2.heap.size := by omega
    have hze : w.heap.size ≤ w2.heap.size := by omega
    clear hb2 HC E0 P P' hg hg'
    have Hok := Lib.hid hok
    clear hok
    cases q1 : within 1 30 [long]
    · have HR := Lib.hid (show readyErr n n' m bend bot top cr long wide kerf across = 3 by simp [readyErr, sawOk, Hok.out, q1])
      have r1 := Lib.hid (E2.out.r.alloc (.cells #[.int .i64 long] 3))
      have l1 := Lib.hid (below_alloc' E2.out.bel (.cells #[.int .i64 long] 3))
      go_wp2_with (first | (go_at_call_of 88 (Value.int IntKind.i64 1); refine (within1 _ _ _ _ _ _ (by simp)).mono ?_; rintro e w' ⟨rfl, rfl⟩) | (refine wpList_store_row rfl 106 _ _ rfl (w.heap.size + 2) _ rfl rfl 106 _ r1.out (by kernel_rfl) rfl (by kernel_rfl) ?_))
      exact bodyPost_ret (results_ct rfl _ _ _ _ _ _ _ rfl (r1.out.setRow _) Try.underlying106 (by kernel_rfl)) rfl ⟨below_setR l1.out (by omega) _, .inl ⟨by rw [HR.out]; decide, by rw [HR.out]; rfl⟩⟩
    cases q2 : within 1 300 [wide]
    · have HR := Lib.hid (show readyErr n n' m bend bot top cr long wide kerf across = 3 by simp [readyErr, sawOk, Hok.out, q1, q2])
      have r1 := Lib.hid ((E2.out.r.alloc (.cells #[.int .i64 long] 3)).alloc (.cells #[.int .i64 wide] 3))
      have l1 := Lib.hid (below_alloc' (below_alloc' E2.out.bel (.cells #[.int .i64 long] 3)) (.cells #[.int .i64 wide] 3))
      go_wp2_with (first | (go_at_call_of 88 (Value.int IntKind.i64 1); refine (within1 _ _ _ _ _ _ (by simp)).mono ?_; rintro e w' ⟨rfl, rfl⟩) | (refine wpList_store_row rfl 106 _ _ rfl (w.heap.size + 2) _ rfl rfl 106 _ r1.out (by kernel_rfl) rfl (by kernel_rfl) ?_))
      exact bodyPost_ret (results_ct rfl _ _ _ _ _ _ _ rfl (r1.out.setRow _) Try.underlying106 (by kernel_rfl)) rfl ⟨below_setR l1.out (by omega) _, .inl ⟨by rw [HR.out]; decide, by rw [HR.out]; rfl⟩⟩
    have r1 := Lib.hid (((E2.out.r.alloc (.cells #[.int .i64 long] 3)).alloc (.cells #[.int .i64 wide] 3)).alloc (.cells #[.int .i64 kerf, .int .i64 across] 3))
    have l1 := Lib.hid (below_alloc' (below_alloc' (below_alloc' E2.out.bel (.cells #[.int .i64 long] 3)) (.cells #[.int .i64 wide] 3)) (.cells #[.int .i64 kerf, .int .i64 across] 3))
    cases q3 : within 0 50 [kerf, across]
    · have HR := Lib.hid (show readyErr n n' m bend bot top cr long wide kerf across = 3 by simp [readyErr, sawOk, Hok.out, q1, q2, q3])
      go_wp2_with (first | (go_at_call_of 88 (Value.int IntKind.i64 1); refine (within1 _ _ _ _ _ _ (by simp)).mono ?_; rintro e w' ⟨rfl, rfl⟩) | (go_at_call_of 88 (Value.int IntKind.i64 0); refine (within2 _ _ _ _ _ _ _ (by simp)).mono ?_; rintro e w' ⟨rfl, rfl⟩) | (refine wpList_store_row rfl 106 _ _ rfl (w.heap.size + 2) _ rfl rfl 106 _ r1.out (by kernel_rfl) rfl (by kernel_rfl) ?_))
      exact bodyPost_ret (results_ct rfl _ _ _ _ _ _ _ rfl (r1.out.setRow _) Try.underlying106 (by kernel_rfl)) rfl ⟨below_setR l1.out (by omega) _, .inl ⟨by rw [HR.out]; decide, by rw [HR.out]; rfl⟩⟩
    · have HR := Lib.hid (show readyErr n n' m bend bot top cr long wide kerf across = 0 by simp [readyErr, sawOk, Hok.out, q1, q2, q3])
      go_wp2_with (first | (go_at_call_of 88 (Value.int IntKind.i64 1); refine (within1 _ _ _ _ _ _ (by simp)).mono ?_; rintro e w' ⟨rfl, rfl⟩) | (go_at_call_of 88 (Value.int IntKind.i64 0); refine (within2 _ _ _ _ _ _ _ (by simp)).mono ?_; rintro e w' ⟨rfl, rfl⟩) | (refine wpList_store_row rfl 106 _ _ rfl (w.heap.size + 2) _ rfl rfl 106 _ r1.out (by kernel_rfl) rfl (by kernel_rfl) ?_))
      exact bodyPost_ret (results_ct rfl _ _ _ _ _ _ _ rfl (r1.out.setRow _) Try.underlying106 (by kernel_rfl)) rfl ⟨below_setR l1.out (by omega) _, .inr ⟨HR.out, g, cap, g', cap', rfl, (((P2.out.below (below_self _ _)).below (below_self _ _)).below (below_self _ _)).setRow_far r1.out (.inr ⟨rfl, rfl⟩) _, (((P2'.out.below (below_self _ _)).below (below_self _ _)).below (below_self _ _)).setRow_far r1.out (.inr ⟨rfl, rfl⟩) _, Hg.out⟩⟩
end Go.Proofs.Ytiflhimmieflpaa
