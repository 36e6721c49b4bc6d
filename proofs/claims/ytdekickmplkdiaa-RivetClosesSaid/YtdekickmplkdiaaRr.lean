/- Walks: the error of sticks, lowest terms, Balance. -/
import Derived.Test.YtdekickmplkdiaaRq
namespace Go.Proofs.Ytdekickmplkdiaa
open Go.RowKit

def stkOk (s : Stk) : Bool := validS 1 10000 [(s.wl, s.wh)] && validS 1 100 [(s.tl, s.th)] && within 0 5000 [s.pl]
set_option maxHeartbeats 1000000 in
theorem wrongStk_any (wl wh tl th pl : Int) (w : World) :
    Calls Try.prog 113 #[.agg #[.int .i64 wl, .int .i64 wh, .int .i64 tl, .int .i64 th, .int .i64 pl]] w
      fun e w' => e = .returned (.bool (!stkOk ⟨wl, wh, tl, th, pl⟩)) ∧ Below w.heap.size w w' := by
  have HE : Hid (stkOk ⟨wl, wh, tl, th, pl⟩ = (validS 1 10000 [(wl, wh)] && validS 1 100 [(tl, th)] && within 0 5000 [pl])) := rfl
  generalize stkOk ⟨wl, wh, tl, th, pl⟩ = r at *
  have G0 := Lib.hid (Blk.new w 106 #[.int .i64 wl, .int .i64 wh, .int .i64 tl, .int .i64 th, .int .i64 pl] rfl)
  have B0 := Lib.hid (below_self w (.cells #[.int .i64 wl, .int .i64 wh, .int .i64 tl, .int .i64 th, .int .i64 pl] 106))
  have G1 := Lib.hid (G0.out.alloc (.cells #[.int .i64 wl, .int .i64 wh] 23))
  have B1 := Lib.hid (below_alloc' B0.out (.cells #[.int .i64 wl, .int .i64 wh] 23))
  cases q1 : validS 1 10000 [(wl, wh)]
  · go_enter Try.func113, Try.ntmps113
    go_wp2_with (go_at_call 76; refine (valid1 _ _ _ _ _ _ _ (by simp)).mono ?_; rintro e w' ⟨rfl, hb⟩)
    go_ret
    exact ⟨ret_bool (by rw [HE.out, q1]; rfl), B1.out.trans (hb.mono (by simp <;> omega))⟩
  cases q2 : validS 1 100 [(tl, th)]
  · go_enter Try.func113, Try.ntmps113
    go_wp2_with fail
    refine (valid1 _ _ _ _ _ _ _ (by simp)).mono ?_
    rintro e w2 ⟨rfl, hb2⟩
    have G2 := Lib.hid (G1.out.below hb2 (by simp <;> omega))
    have B2 := Lib.hid (B1.out.trans (hb2.mono (by simp <;> omega)))
    have g2 := stk_get G2.out
    have hz2 : w.heap.size < w2.heap.size := G2.out.lt
    clear hb2
    go_wp2_with (go_at_call 76; refine (valid1 _ _ _ _ _ _ _ (by simp)).mono ?_; rintro e w' ⟨rfl, hb⟩)
    go_ret
    exact ⟨ret_bool (by rw [HE.out, q1, q2]; rfl), (below_alloc' B2.out _).trans (hb.mono (by omega))⟩
  · go_enter Try.func113, Try.ntmps113
    go_wp2_with fail
    refine (valid1 _ _ _ _ _ _ _ (by simp)).mono ?_
    rintro e w2 ⟨rfl, hb2⟩
    have G2 := Lib.hid (G1.out.below hb2 (by simp <;> omega))
    have B2 := Lib.hid (B1.out.trans (hb2.mono (by simp <;> omega)))
    have g2 := stk_get G2.out
    have hz2 : w.heap.size < w2.heap.size := G2.out.lt
    clear hb2
    go_wp2_with fail
    refine (valid1 _ _ _ _ _ _ _ (by simp)).mono ?_
    rintro e w3 ⟨rfl, hb3⟩
    have G3 := Lib.hid ((G2.out.alloc (.cells #[.int .i64 tl, .int .i64 th] 23)).below hb3 (by omega))
    have B3 := Lib.hid ((below_alloc' B2.out (.cells #[.int .i64 tl, .int .i64 th] 23)).trans (hb3.mono (by omega)))
    have g3 := stk_get G3.out
    clear hb3 g2
    go_wp2_with (go_at_call 73; refine (within1 _ _ _ _ _ _ (by simp)).mono ?_; rintro e w' ⟨rfl, rfl⟩)
    go_ret
    exact ⟨ret_bool (by rw [HE.out, q1, q2]; rfl), below_alloc' B3.out _⟩

set_option maxHeartbeats 1000000 in
theorem indexStk_any (A : Option Addr) (n c : Nat) (xs : List Stk) (w : World) (h : Stks w A n xs) (hn : n ≤ maxLen) :
    Calls Try.prog 122 #[.slice A n c, .func (.func 113) #[] #[]] w
      fun e w' => e = .returned (.int .i64 (idx (fun g => !stkOk g) xs)) ∧ Below w.heap.size w w' := by
  unfold maxLen at hn
  have hl := h.len
  generalize hpp : (fun g : Stk => !stkOk g) = p
  have hcall : ∀ (k : Stk) W, Calls Try.prog 113 #[.agg #[.int .i64 k.wl, .int .i64 k.wh, .int .i64 k.tl, .int .i64 k.th, .int .i64 k.pl]] W fun e w' => e = .returned (.bool (p k)) ∧ Below W.heap.size W w' := fun k W => by
    rw [← hpp]; exact wrongStk_any k.wl k.wh k.tl k.th k.pl W
  clear hpp
  have Hcall := Lib.hid hcall
  clear hcall
  go_enter Try.func122, Try.ntmps122
  go_wp2
  go_loopw [8] (fun i wr => ∃ k : Nat, k ≤ n ∧ i = .int .i64 k ∧ noneOf p (xs.take k) = true ∧ Below w.heap.size w wr) (fun i _ => n - (intOf i).toNat)
  case atStart => exact ⟨0, Nat.zero_le _, rfl, rfl, Below.refl _ _⟩
  case round =>
    obtain ⟨k, hk, rfl, hin, hbel⟩ := hrel
    by_cases hlt : k < n
    · obtain ⟨bb, off, rfl, hb, hc0, hc1, hc2, hc3, hc4⟩ := (h.below hbel).at_ hlt
      have H := Lib.hid (noneOf_succ (p := p) Stk.zero (xs := xs) (k := k) (by omega))
      have Hin := Lib.hid hin
      have Hit := Lib.hid (idx_hit (p := p) Stk.zero (xs := xs) (k := k) (by omega) hin)
      clear hin hl
      generalize xs.getD k Stk.zero = y at *
      have C := Lib.hid (Hcall.out y wr)
      cases hq : p y
      · go_wp2_with (go_at_call 113; refine C.out.mono ?_; rintro e w2 ⟨rfl, hb2⟩)
        go_roundw
        case rel => exact ⟨k + 1, by omega, by go_num, by rw [H.out, Hin.out, hq]; rfl, hbel.trans (hb2.mono hbel.size)⟩
        case measure => simp [intOf]; omega
      · go_wp2_with (go_at_call 113; refine C.out.mono ?_; rintro e w2 ⟨rfl, hb2⟩)
        go_ret
        exact ⟨ret_int (Hit.out hq).symm, hbel.trans (hb2.mono hbel.size)⟩
    · have he : idx p xs = -1 := idx_none (by rw [← hin, List.take_of_length_le (by omega)])
      clear hin
      have He := Lib.hid he
      clear he
      go_wp2
      go_ret
      exact ⟨ret_int He.out.symm, hbel⟩
theorem containsStk_any (A : Option Addr) (n c : Nat) (xs : List Stk) (w : World) (h : Stks w A n xs) (hn : n ≤ maxLen) :
    Calls Try.prog 114 #[.slice A n c, .func (.func 113) #[] #[]] w
      fun e w' => e = .returned (.bool (xs.any (fun g => !stkOk g))) ∧ Below w.heap.size w w' := by
  have C := Lib.hid (indexStk_any A n c xs w h hn)
  have HE := Lib.hid (idx_any (p := (fun g => !stkOk g)) (xs := xs))
  generalize (xs.any (fun g => !stkOk g)) = r at *
  generalize idx (fun g => !stkOk g) xs = i at *
  go_enter Try.func114, Try.ntmps114
  go_wp2_with (go_at_call 122; refine C.out.mono ?_; rintro e w2 ⟨rfl, hb2⟩)
  go_ret
  exact ⟨ret_bool HE.out, hb2⟩
def stkErr (l : List Stk) : Int := if 12 < l.length then 5 else if l.any (fun g => !stkOk g) = true then 2 else 0
set_option maxHeartbeats 1000000 in
theorem sticksError_any (l : List Stk) (A : Option Addr) (n c : Nat) (w : World) (h : Stks w A n l) (hn : n ≤ maxLen) :
    Calls Try.prog 85 #[.slice A n c] w fun e w' => e = .returned (.int .i64 (stkErr l)) ∧ Below w.heap.size w w' := by
  have hl := h.len
  have HE : Hid (stkErr l = if 12 < n then 5 else if l.any (fun g => !stkOk g) = true then 2 else 0) := by unfold Hid stkErr; rw [hl]
  have C := Lib.hid (containsStk_any A n c l w h hn)
  unfold maxLen at hn
  clear h hl
  generalize stkErr l = r at *
  by_cases h6 : 12 < n
  · go_enter Try.func85, Try.ntmps85
    go_wp2
    go_ret
    exact ⟨ret_int (by rw [HE.out]; simp [h6]), Below.refl _ _⟩
  cases q2 : l.any (fun g => !stkOk g)
  · rw [q2] at C HE
    go_enter Try.func85, Try.ntmps85
    go_wp2_with (go_at_call 114; refine C.out.mono ?_; rintro e w3 ⟨rfl, hb3⟩)
    go_ret
    exact ⟨ret_int (by rw [HE.out]; simp [h6]), hb3⟩
  · rw [q2] at C HE
    go_enter Try.func85, Try.ntmps85
    go_wp2_with (go_at_call 114; refine C.out.mono ?_; rintro e w3 ⟨rfl, hb3⟩)
    go_ret
    exact ⟨ret_int (by rw [HE.out]; simp [h6]), hb3⟩
theorem stkB_of {l : List Stk} (h : stkErr l = 0) : StkB l := by
  unfold stkErr at h
  split at h
  · omega
  rename_i h2
  split at h
  · omega
  rename_i h3
  refine ⟨by omega, fun s hs => ?_⟩
  have h4 : stkOk s = true := by
    cases hq : stkOk s
    · exact absurd (List.any_eq_true.2 ⟨s, hs, by rw [hq]; rfl⟩) h3
    · rfl
  simp [stkOk, validS, within] at h4
  omega

theorem rat2_get {W : World} {g : Nat} {x0 x1 : Value} (h : Blk W g 77 #[x0, x1]) : W.cell? ⟨g, 0, none⟩ = some x0 ∧ W.cell? ⟨g, 1, none⟩ = some x1 := ⟨h.cell 0, h.cell 1⟩
/-- A ratio in lowest terms. -/
def lowL (p q : Nat) : Int × Int := (((p / Nat.gcd p q : Nat) : Int), ((q / Nat.gcd p q : Nat) : Int))
set_option maxRecDepth 100000 in
set_option maxHeartbeats 1000000 in
theorem lowest_any (p q : Nat) (w : World) (hp : p ≤ 1000000000) (hq1 : 1 ≤ q) (hq : q ≤ 1000000000) :
    Calls Try.prog 89 #[.agg #[.int .i64 p, .int .i64 q]] w fun e w' => e = .returned (.agg #[.int .i64 (lowL p q).1, .int .i64 (lowL p q).2]) ∧ Below w.heap.size w w' := by
  have E0 := Lib.hid (Env2.start w 77 77 #[.int .i64 p, .int .i64 q] #[.int .i64 0, .int .i64 0])
  have HO : Hid (lowL p q = (((p / Nat.gcd p q : Nat) : Int), ((q / Nat.gcd p q : Nat) : Int))) := rfl
  generalize lowL p q = r at *
  have HG0 := Lib.hid (show Nat.gcd q p = Nat.gcd p q from Nat.gcd_comm _ _)
  have HG1 := Lib.hid (show 1 ≤ Nat.gcd p q from Nat.gcd_pos_of_pos_right _ hq1)
  have HG2 := Lib.hid (show Nat.gcd p q ≤ q from Nat.gcd_le_right _ hq1)
  generalize Nat.gcd p q = g at *
  have hn0 : (0 : Int) ≤ (p : Int) := by omega
  have hn1 : (0 : Int) ≤ (q : Int) := by omega
  go_enter Try.func89, Try.ntmps89
  go_wp2
  go_quiet (fail)
  go_wp2_with fail
  go_loopw [3, 4] (fun x y wr => ∃ a b m : Nat, x = .int .i64 a ∧ y = .int .i64 b ∧ Nat.gcd a b = g ∧ a ≤ 1000000000 ∧ b ≤ 1000000000 ∧ Env2 w wr 77 77 #[.int .i64 p, .int .i64 q] #[.int .i64 0, .int .i64 0]) (fun _ y _ => (intOf y).toNat)
  case atStart => exact ⟨q, p, 0, rfl, rfl, HG0.out, by omega, by omega, ⟨E0.out.p, E0.out.q, below_drewN E0.out.bel _⟩⟩
  case round =>
    obtain ⟨a, b, m, rfl, rfl, hg, ha, hb, hE⟩ := hrel
    have HGG := Lib.hid hg
    have E1 := Lib.hid hE
    clear hg hE
    by_cases hz : b = 0
    · subst hz
      have hag : Hid (a = g) := by have := HGG.out; rw [Nat.gcd_zero_right] at this; exact this
      have hg1 := HG1.out
      have hg2 := HG2.out
      have hag' := hag.out
      have ha0 : ¬ (a : Int) = 0 := by omega
      have ha1 : ((a : Int) = 0) = False := by simpa using ha0
      have ha2 : ((a : Int) == 0) = false := by simpa using ha0
      have ha3 : (a = 0) = False := by simp; omega
      have ha4 : (a == 0) = false := by simp; omega
      have ha5 : ¬ a = 0 := by omega
      have r1 := rat_get E1.out.q
      obtain ⟨d1, hd1⟩ : ∃ d, d = p / g := ⟨_, rfl⟩
      obtain ⟨d2, hd2⟩ : ∃ d, d = q / g := ⟨_, rfl⟩
      have t1 : (p : Int).tdiv (a : Int) = (d1 : Int) := by rw [Int.tdiv_eq_ediv_of_nonneg hn0, hag', hd1]; rfl
      have t2 : (q : Int).tdiv (a : Int) = (d2 : Int) := by rw [Int.tdiv_eq_ediv_of_nonneg hn1, hag', hd2]; rfl
      have b1 : d1 ≤ p := by rw [hd1]; exact Nat.div_le_self p g
      have b2 : d2 ≤ q := by rw [hd2]; exact Nat.div_le_self q g
      have w1 : IntKind.i64.wrap (d1 : Int) = (d1 : Int) := IntWalk.i64_in _ (by omega)
      have w2 : IntKind.i64.wrap (d2 : Int) = (d2 : Int) := IntWalk.i64_in _ (by omega)
      have hr := Lib.hid (show r = ((d1 : Int), (d2 : Int)) from by rw [hd1, hd2]; exact HO.out)
      clear hag' b1 b2 hg1 hg2 hd1 hd2
      have E1d := Lib.hid E1.out.drewd
      go_wp2_with fail
      have p1 := rat2_get E1d.out.p
      have r1d := rat_get E1d.out.q
      go_still_tail 9, (by kernel_rfl)
      change wpList _ _ _ _ _ wr.drew
      generalize wr.drew = w2 at *
      go_wp2
      exact bodyPost_ret (results_c rfl _ _ _ (w.heap.size + 1) _ _ _ rfl ((E1d.out.q.set_ 0 _).set_ 1 _) Try.underlying77 (by kernel_rfl)) rfl ⟨by rw [hr.out]; rfl, (E1d.out.bel.setCell (p := ⟨w.heap.size + 1, 0, none⟩) (by simp) _).setCell (p := ⟨w.heap.size + 1, 1, none⟩) (by simp) _⟩
    · have hb0 : ¬ (b : Int) = 0 := by omega
      have hb1 : ((b : Int) = 0) = False := by simpa using hb0
      have hb2 : ((b : Int) == 0) = false := by simpa using hb0
      have t1 : (a : Int).tmod (b : Int) = ((a % b : Nat) : Int) := by rw [Int.tmod_eq_emod_of_nonneg (by omega)]; rfl
      have hlt : a % b < b := Nat.mod_lt _ (by omega)
      have w1 : IntKind.i64.wrap ((a % b : Nat) : Int) = ((a % b : Nat) : Int) := IntWalk.i64_in _ (by omega)
      have hgg : Hid (Nat.gcd b (a % b) = g) := by unfold Hid; rw [← HGG.out, Nat.gcd_comm a b]; exact (Nat.gcd_rec b a).symm ▸ (by rw [Nat.gcd_comm])
      generalize a % b = z at *
      go_wp2
      go_quiet (fail)
      go_wp2_with fail
      go_roundw
      case rel => exact ⟨b, z, 0, rfl, rfl, hgg.out, by omega, by omega, ⟨E1.out.p, E1.out.q, below_drewN E1.out.bel _⟩⟩
      case measure => simp [intOf]; omega
end Go.Proofs.Ytdekickmplkdiaa
