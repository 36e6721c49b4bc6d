/- Walks: the reference's Lowest, Balance. -/
import Derived.Test.YtpbepipnfpgoiaaUc
import Derived.Test.YtpbepipnfpgoiaaUf
import Derived.Test.YtpbepipnfpgoiaaHd
namespace Go.Proofs.Ytpbepipnfpgoiaa
open Go.RowKit

structure Env1 (w W : World) (t : TypeId) (c : Array Value) : Prop where
  p : Blk W w.heap.size t c
  bel : Below w.heap.size w W
theorem Env1.below {w W W' : World} {t : TypeId} {c : Array Value} (h : Env1 w W t c) (hb : Below W.heap.size W W') : Env1 w W' t c := ⟨blk_keep hb h.p, below_then h.bel hb⟩
theorem Env1.drewd {w W : World} {t : TypeId} {c : Array Value} (h : Env1 w W t c) : Env1 w W.drew t c := ⟨h.p, h.bel.drew⟩
theorem Env1.drewdN {w W : World} {t : TypeId} {c : Array Value} (h : Env1 w W t c) (k : Nat) : Env1 w (W.drewN k) t c := ⟨h.p, below_drewN h.bel k⟩
theorem Env1.start (w : World) (t : TypeId) (c : Array Value) : Env1 w (w.alloc (.cells c t)) t c := ⟨Blk.new w _ _ rfl, below_self w _⟩

set_option maxRecDepth 100000 in
set_option maxHeartbeats 1000000 in
theorem RefLowest_any (p q : Nat) (w : World) (hp : p ≤ 1000000000) (hq1 : 1 ≤ q) (hq : q ≤ 1000000000) :
    Calls Try.prog 91 #[.int .i64 p, .int .i64 q] w fun e w' => e = .returned (.agg #[.int .i64 (lowL p q).1, .int .i64 (lowL p q).2]) ∧ Below w.heap.size w w' := by
  have E0 := Lib.hid (Env1.start w 77 #[.int .i64 0, .int .i64 0])
  have HO : Hid (lowL p q = (((p / Nat.gcd p q : Nat) : Int), ((q / Nat.gcd p q : Nat) : Int))) := rfl
  generalize lowL p q = r at *
  have HG0 := Lib.hid (show Nat.gcd p q = Nat.gcd p q from rfl)
  have HG1 := Lib.hid (show 1 ≤ Nat.gcd p q from Nat.gcd_pos_of_pos_right _ hq1)
  have HG2 := Lib.hid (show Nat.gcd p q ≤ q from Nat.gcd_le_right _ hq1)
  obtain ⟨g, hg⟩ : ∃ g, g = Nat.gcd p q := ⟨_, rfl⟩
  have HGG0 := Lib.hid hg.symm
  rw [← hg] at HO HG1 HG2
  clear hg HG0
  have hn0 : (0 : Int) ≤ (p : Int) := by omega
  have hn1 : (0 : Int) ≤ (q : Int) := by omega
  go_enter Try.func91, Try.ntmps91
  go_wp2_with fail
  go_loopw [5, 6] (fun x y wr => ∃ a b m : Nat, x = .int .i64 a ∧ y = .int .i64 b ∧ Nat.gcd a b = g ∧ a ≤ 1000000000 ∧ b ≤ 1000000000 ∧ Env1 w wr 77 #[.int .i64 0, .int .i64 0]) (fun _ y _ => (intOf y).toNat)
  case atStart => exact ⟨p, q, 0, rfl, rfl, HGG0.out, by omega, by omega, E0.out⟩
  case round =>
    obtain ⟨a, b, m, rfl, rfl, hg, ha, hb, hE⟩ := hrel
    have HGG := Lib.hid hg
    have E1 := Lib.hid hE
    clear hg hE
    by_cases hz : b = 0
    · subst hz
      have hag : Hid (a = g) := by have := HGG.out; rw [Nat.gcd_zero_right] at this; exact this
      have hg1 := HG1.out
      have hg2 := HG2.out
      have hag' := hag.out
      have ha0 : ¬ (a : Int) = 0 := by omega
      have ha1 : ((a : Int) = 0) = False := by simpa using ha0
      have ha2 : ((a : Int) == 0) = false := by simpa using ha0
      have ha3 : (a = 0) = False := by simp; omega
      have ha4 : (a == 0) = false := by simp; omega
      have ha5 : ¬ a = 0 := by omega
      obtain ⟨d1, hd1⟩ : ∃ d, d = p / g := ⟨_, rfl⟩
      obtain ⟨d2, hd2⟩ : ∃ d, d = q / g := ⟨_, rfl⟩
      have t1 : (p : Int).tdiv (a : Int) = (d1 : Int) := by rw [Int.tdiv_eq_ediv_of_nonneg hn0, hag', hd1]; rfl
      have t2 : (q : Int).tdiv (a : Int) = (d2 : Int) := by rw [Int.tdiv_eq_ediv_of_nonneg hn1, hag', hd2]; rfl
      have b1 : d1 ≤ p := by rw [hd1]; exact Nat.div_le_self p g
      have b2 : d2 ≤ q := by rw [hd2]; exact Nat.div_le_self q g
      have w1 : IntKind.i64.wrap (d1 : Int) = (d1 : Int) := IntWalk.i64_in _ (by omega)
      have w2 : IntKind.i64.wrap (d2 : Int) = (d2 : Int) := IntWalk.i64_in _ (by omega)
      have hr := Lib.hid (show r = ((d1 : Int), (d2 : Int)) from by rw [hd1, hd2]; exact HO.out)
      clear hag' b1 b2 hg1 hg2 hd1 hd2
      have E1d := Lib.hid E1.out.drewd
      go_wp2_with fail
      have r1d := rat_get E1d.out.p
      go_still_tail 7, (by kernel_rfl)
      change wpList _ _ _ _ _ wr.drew
      generalize wr.drew = w2 at *
      go_wp2
      exact bodyPost_ret (results_c rfl _ _ _ w.heap.size _ _ _ rfl ((E1d.out.p.set_ 0 _).set_ 1 _) Try.underlying77 (by kernel_rfl)) rfl ⟨by rw [hr.out]; rfl, (E1d.out.bel.setCell (p := ⟨w.heap.size, 0, none⟩) (Nat.le_refl _) _).setCell (p := ⟨w.heap.size, 1, none⟩) (Nat.le_refl _) _⟩
    · have hb0 : ¬ (b : Int) = 0 := by omega
      have hb1 : ((b : Int) = 0) = False := by simpa using hb0
      have hb2 : ((b : Int) == 0) = false := by simpa using hb0
      have t1 : (a : Int).tmod (b : Int) = ((a % b : Nat) : Int) := by rw [Int.tmod_eq_emod_of_nonneg (by omega)]; rfl
      have hlt : a % b < b := Nat.mod_lt _ (by omega)
      have w1 : IntKind.i64.wrap ((a % b : Nat) : Int) = ((a % b : Nat) : Int) := IntWalk.i64_in _ (by omega)
      have hgg : Hid (Nat.gcd b (a % b) = g) := by unfold Hid; rw [← HGG.out, Nat.gcd_comm a b]; exact (Nat.gcd_rec b a).symm ▸ (by rw [Nat.gcd_comm])
      generalize a % b = z at *
      go_wp2
      go_quiet (fail)
      go_wp2_with fail
      go_roundw
      case rel => exact ⟨b, z, 0, rfl, rfl, hgg.out, by omega, by omega, E1.out.drewdN _⟩
      case measure => simp [intOf]; omega

theorem i64_and1 (n : Int) : bits .and .i64 n 1 = n % 2 := by
  have h1 : (BitVec.ofInt 64 1).toNat = 2 ^ 1 - 1 := by decide
  have key : (BitVec.ofInt 64 n &&& BitVec.ofInt 64 1).toNat = (n % ((2 ^ 64 : Nat) : Int)).toNat % 2 ^ 1 := by
    rw [BitVec.toNat_and, BitVec.toNat_ofInt, h1, Nat.and_two_pow_sub_one_eq_mod]
  show IntKind.i64.wrap ((BitVec.ofInt 64 n &&& BitVec.ofInt 64 1).toNat : Nat) = n % 2
  rw [key, IntKind.wrap_i64]
  omega
theorem bit_of (T k : Nat) : bits .and .i64 ((T : Int) / 2 ^ k) 1 = if T.testBit k = true then 1 else 0 := by
  rw [i64_and1, Nat.testBit_eq_decide_div_mod_eq]
  have hd : ((T : Int) / 2 ^ k % 2) = ((T / 2 ^ k % 2 : Nat) : Int) := by simp
  rw [hd]
  have h2 : T / 2 ^ k % 2 = 0 ∨ T / 2 ^ k % 2 = 1 := by omega
  rcases h2 with h2 | h2 <;> rw [h2] <;> rfl

/-- What Balance's own boxes hold. -/
structure EnvB (w W : World) (c1 c2 c3 c4 : Array Value) : Prop where
  e : Env2 w W 77 77 c1 c2
  r : Blk W (w.heap.size + 2) 77 c3
  s : Blk W (w.heap.size + 3) 77 c4
theorem EnvB.below {w W W' : World} {c1 c2 c3 c4 : Array Value} (h : EnvB w W c1 c2 c3 c4) (hb : Below W.heap.size W W') : EnvB w W' c1 c2 c3 c4 := ⟨h.e.below hb, blk_keep hb h.r, blk_keep hb h.s⟩
theorem EnvB.drewd {w W : World} {c1 c2 c3 c4 : Array Value} (h : EnvB w W c1 c2 c3 c4) : EnvB w W.drew c1 c2 c3 c4 := ⟨h.e.drewd, h.r, h.s⟩
theorem EnvB.putR {w W : World} {c1 c2 c4 : Array Value} {a b : Value} (h : EnvB w W c1 c2 #[a, b] c4) (a' b' : Value) : EnvB w ((W.setCell ⟨w.heap.size + 2, 0, none⟩ a').setCell ⟨w.heap.size + 2, 1, none⟩ b') c1 c2 #[a', b'] c4 :=
  ⟨(h.e.set (by omega) 0 a').set (by omega) 1 b', (h.r.set_ 0 a').set_ 1 b', (h.s.far (p := ⟨w.heap.size + 2, 0, none⟩) (by simp) a').far (p := ⟨w.heap.size + 2, 1, none⟩) (by simp) b'⟩
theorem EnvB.putS {w W : World} {c1 c2 c3 : Array Value} {a b : Value} (h : EnvB w W c1 c2 c3 #[a, b]) (a' b' : Value) : EnvB w ((W.setCell ⟨w.heap.size + 3, 0, none⟩ a').setCell ⟨w.heap.size + 3, 1, none⟩ b') c1 c2 c3 #[a', b'] :=
  ⟨(h.e.set (by omega) 0 a').set (by omega) 1 b', (h.r.far (p := ⟨w.heap.size + 3, 0, none⟩) (by simp) a').far (p := ⟨w.heap.size + 3, 1, none⟩) (by simp) b', (h.s.set_ 0 a').set_ 1 b'⟩
theorem EnvB.start (w : World) : EnvB w ((((w.alloc (.cells #[.int .i64 0, .int .i64 0] 77)).alloc (.cells #[.int .i64 0, .int .i64 0] 77)).alloc (.cells #[.int .i64 0, .int .i64 0] 77)).alloc (.cells #[.int .i64 0, .int .i64 0] 77)) #[.int .i64 0, .int .i64 0] #[.int .i64 0, .int .i64 0] #[.int .i64 0, .int .i64 0] #[.int .i64 0, .int .i64 0] :=
  ⟨((Env2.start w _ _ _ _).alloc _).alloc _, (Blk.new _ _ _ (by simp)).alloc _, Blk.new _ _ _ (by simp)⟩
theorem EnvB.setP {w W : World} {c2 c3 c4 : Array Value} {a b : Value} (h : EnvB w W #[a, b] c2 c3 c4) (a' b' : Value) : EnvB w ((W.setCell ⟨w.heap.size, 0, none⟩ a').setCell ⟨w.heap.size, 1, none⟩ b') #[a', b'] c2 c3 c4 :=
  ⟨⟨(h.e.p.set_ 0 a').set_ 1 b', (h.e.q.far (p := ⟨w.heap.size, 0, none⟩) (by simp) a').far (p := ⟨w.heap.size, 1, none⟩) (by simp) b', (h.e.bel.setCell (p := ⟨w.heap.size, 0, none⟩) (Nat.le_refl _) a').setCell (p := ⟨w.heap.size, 1, none⟩) (Nat.le_refl _) b'⟩,
   (h.r.far (p := ⟨w.heap.size, 0, none⟩) (by simp) a').far (p := ⟨w.heap.size, 1, none⟩) (by simp) b', (h.s.far (p := ⟨w.heap.size, 0, none⟩) (by simp) a').far (p := ⟨w.heap.size, 1, none⟩) (by simp) b'⟩
theorem EnvB.setQ {w W : World} {c1 c3 c4 : Array Value} {a b : Value} (h : EnvB w W c1 #[a, b] c3 c4) (a' b' : Value) : EnvB w ((W.setCell ⟨w.heap.size + 1, 0, none⟩ a').setCell ⟨w.heap.size + 1, 1, none⟩ b') c1 #[a', b'] c3 c4 :=
  ⟨h.e.putQ a' b', (h.r.far (p := ⟨w.heap.size + 1, 0, none⟩) (by simp) a').far (p := ⟨w.heap.size + 1, 1, none⟩) (by simp) b', (h.s.far (p := ⟨w.heap.size + 1, 0, none⟩) (by simp) a').far (p := ⟨w.heap.size + 1, 1, none⟩) (by simp) b'⟩
theorem EnvB.all {w W : World} {a b c d x y z t : Value} (h : EnvB w W #[x, y] #[z, t] #[a, b] #[c, d]) : (W.cell? ⟨w.heap.size, 0, none⟩ = some x ∧ W.cell? ⟨w.heap.size, 1, none⟩ = some y ∧ W.frozen? ⟨w.heap.size, 0, none⟩ = false ∧ W.frozen? ⟨w.heap.size, 1, none⟩ = false) ∧
    (W.cell? ⟨w.heap.size + 1, 0, none⟩ = some z ∧ W.cell? ⟨w.heap.size + 1, 1, none⟩ = some t ∧ W.frozen? ⟨w.heap.size + 1, 0, none⟩ = false ∧ W.frozen? ⟨w.heap.size + 1, 1, none⟩ = false) ∧
    (W.cell? ⟨w.heap.size + 2, 0, none⟩ = some a ∧ W.cell? ⟨w.heap.size + 2, 1, none⟩ = some b ∧ W.frozen? ⟨w.heap.size + 2, 0, none⟩ = false ∧ W.frozen? ⟨w.heap.size + 2, 1, none⟩ = false) ∧
    (W.cell? ⟨w.heap.size + 3, 0, none⟩ = some c ∧ W.cell? ⟨w.heap.size + 3, 1, none⟩ = some d ∧ W.frozen? ⟨w.heap.size + 3, 0, none⟩ = false ∧ W.frozen? ⟨w.heap.size + 3, 1, none⟩ = false) :=
  ⟨⟨h.e.p.cell 0, h.e.p.cell 1, h.e.p.frozen 0, h.e.p.frozen 1⟩, ⟨h.e.q.cell 0, h.e.q.cell 1, h.e.q.frozen 0, h.e.q.frozen 1⟩, ⟨h.r.cell 0, h.r.cell 1, h.r.frozen 0, h.r.frozen 1⟩, ⟨h.s.cell 0, h.s.cell 1, h.s.frozen 0, h.s.frozen 1⟩⟩
theorem EnvB.get {w W : World} {a b c d : Value} {c1 c2 : Array Value} (h : EnvB w W c1 c2 #[a, b] #[c, d]) : W.cell? ⟨w.heap.size + 2, 0, none⟩ = some a ∧ W.cell? ⟨w.heap.size + 2, 1, none⟩ = some b ∧ W.cell? ⟨w.heap.size + 3, 0, none⟩ = some c ∧ W.cell? ⟨w.heap.size + 3, 1, none⟩ = some d := ⟨h.r.cell 0, h.r.cell 1, h.s.cell 0, h.s.cell 1⟩

theorem getD_mem {l : List Stk} {k : Nat} (hk : k < l.length) : l.getD k Stk.zero ∈ l := by
  have e : l.getD k Stk.zero = l[k] := by simp [List.getD, hk]
  rw [e]; exact List.getElem_mem hk
theorem sumC_bd {l : List Stk} (h : StkB l) (T : Nat) (k : Nat) (hk : k ≤ l.length) : 0 ≤ numC (wT T l) l k ∧ numC (wT T l) l k ≤ k * 50000000 ∧ 0 ≤ denC (wT T l) k ∧ denC (wT T l) k ≤ k * 10000 := by
  induction k with
  | zero => simp [numC, denC]
  | succ k ih =>
    have ih := ih (by omega)
    have h1 := wT_bd h T k (by omega)
    have h2 := h.s _ (getD_mem (show k < l.length by omega))
    have h3 := mul_bd (x := wT T l k) (X := 10000) (y := (l.getD k Stk.zero).pl) (Y := 5000) (by omega) (by omega) (by omega) (by omega)
    simp only [numC, denC]
    omega
theorem ext_zero (u : Bool) (l : List Stk) {T : Nat} (h : T = 0) : Ext u l (T + 1) (ratT l T) :=
  ⟨⟨T, Nat.lt_succ_self _, rfl⟩, fun j hj => by rw [show j = T by omega]; exact before_refl _ _⟩
theorem ext_keep {u : Bool} {l : List Stk} {T : Nat} {r : Int × Int} (h : Ext u l T r) (hb : before u r (ratT l T)) : Ext u l (T + 1) r := by
  obtain ⟨⟨j, hj, hr⟩, ha⟩ := h
  refine ⟨⟨j, by omega, hr⟩, fun i hi => ?_⟩
  rcases Nat.lt_or_ge i T with h1 | h1
  · exact ha i h1
  · obtain rfl : i = T := by omega
    exact hb
theorem ext_new {u : Bool} {l : List Stk} (hs : StkB l) (h0 : 0 < l.length) {T : Nat} {r : Int × Int} (h : Ext u l T r) (hb : before u (ratT l T) r) : Ext u l (T + 1) (ratT l T) := by
  obtain ⟨⟨j, hj, hr⟩, ha⟩ := h
  refine ⟨⟨T, by omega, rfl⟩, fun i hi => ?_⟩
  rcases Nat.lt_or_ge i T with h1 | h1
  · exact before_trans (ratT_pos hs h0 _) (by rw [hr]; exact ratT_pos hs h0 _) (ratT_pos hs h0 _) hb (ha i h1)
  · obtain rfl : i = T := by omega
    exact before_refl _ _

theorem EnvB.rowP {w W : World} {c1 c2 c3 c4 : Array Value} (h : EnvB w W c1 c2 c3 c4) (c : Array Value) : EnvB w (W.setRow w.heap.size c) c c2 c3 c4 :=
  ⟨⟨h.e.p.setRow _, h.e.q.setRow_far (Nat.succ_ne_self _) _, below_setR h.e.bel (Nat.le_refl _) _⟩, h.r.setRow_far (by omega) _, h.s.setRow_far (by omega) _⟩
theorem EnvB.rowQ {w W : World} {c1 c2 c3 c4 : Array Value} (h : EnvB w W c1 c2 c3 c4) (c : Array Value) : EnvB w (W.setRow (w.heap.size + 1) c) c1 c c3 c4 :=
  ⟨⟨h.e.p.setRow_far (by omega) _, h.e.q.setRow _, below_setR h.e.bel (Nat.le_succ _) _⟩, h.r.setRow_far (by omega) _, h.s.setRow_far (by omega) _⟩
def SBal (w : World) (a b c d : Int) (W : World) : Prop := W.cell? ⟨w.heap.size + 2, 0, none⟩ = some (.int .i64 a) ∧ W.cell? ⟨w.heap.size + 2, 1, none⟩ = some (.int .i64 b) ∧ W.cell? ⟨w.heap.size + 3, 0, none⟩ = some (.int .i64 c) ∧ W.cell? ⟨w.heap.size + 3, 1, none⟩ = some (.int .i64 d)
theorem ratT_bd {l : List Stk} (hs : StkB l) (T : Nat) : (0 ≤ (ratT l T).1 ∧ (ratT l T).1 ≤ 600000000) ∧ (0 ≤ (ratT l T).2 ∧ (ratT l T).2 ≤ 120000) := by
  have := sumC_bd hs T l.length (Nat.le_refl _)
  have hn := hs.n
  unfold ratT
  simp only
  omega
theorem ext_bd {u : Bool} {l : List Stk} (hs : StkB l) (h0 : 0 < l.length) {T : Nat} {a b : Int} (h : Ext u l T (a, b)) : (0 ≤ a ∧ a ≤ 600000000) ∧ (1 ≤ b ∧ b ≤ 120000) := by
  obtain ⟨j, _, hr⟩ := h.is
  have := ratT_bd hs j
  have hp := ratT_pos hs h0 j
  rw [← hr] at this hp
  simp only at this hp
  omega
theorem ext_low {l : List Stk} (hs : StkB l) (h0 : 0 < l.length) {T : Nat} {a b c d : Int} (e : T = 2 ^ l.length) (h : Ext false l T (a, b) ∧ Ext true l T (c, d)) : lowR (a, b) = lowR (balL false l) ∧ lowR (c, d) = lowR (balL true l) := by
  subst e
  obtain ⟨e1, p1, q1⟩ := ext_bal hs h0 h.1
  obtain ⟨e2, p2, q2⟩ := ext_bal hs h0 h.2
  have b1 := ext_bd hs h0 h.1
  have b2 := ext_bd hs h0 h.2
  have c1 := bal_bd hs h0 false
  have c2 := bal_bd hs h0 true
  exact ⟨lowR_eq b1.1.1 c1.1 p1 q1 e1, lowR_eq b2.1.1 c2.1 p2 q2 e2⟩
theorem RefLowR_any (r : Int × Int) (w : World) (h : 0 ≤ r.1 ∧ r.1 ≤ 1000000000 ∧ 1 ≤ r.2 ∧ r.2 ≤ 1000000000) :
    Calls Try.prog 91 #[.int .i64 r.1, .int .i64 r.2] w fun e w' => e = .returned (.agg #[.int .i64 (lowR r).1, .int .i64 (lowR r).2]) ∧ Below w.heap.size w w' := by
  have := RefLowest_any r.1.toNat r.2.toNat w (by omega) (by omega) (by omega)
  rw [Int.toNat_of_nonneg h.1, Int.toNat_of_nonneg (by omega)] at this
  exact this

set_option maxRecDepth 100000 in
set_option maxHeartbeats 4000000 in
theorem RefBalance_any (l : List Stk) (A : Option Addr) (n c : Nat) (w : World) (hs : StkB l) (h : Stks w A n l) (h0 : 0 < n) :
    Calls Try.prog 47 #[.slice A n c] w fun e w' => e = .returned (.tuple #[.agg #[.int .i64 (lowR (balL false l)).1, .int .i64 (lowR (balL false l)).2], .agg #[.int .i64 (lowR (balL true l)).1, .int .i64 (lowR (balL true l)).2]]) ∧ Below w.heap.size w w' := by
  have hl := h.len
  have hn := hs.n
  rw [hl] at hn
  have HG := Lib.hid h
  have Hl := Lib.hid hl
  have E0 := Lib.hid (EnvB.start w)
  clear h hl
  obtain ⟨M, hM⟩ : ∃ M, M = 2 ^ n := ⟨_, rfl⟩
  have HM := Lib.hid hM
  have hM1 : 1 ≤ M := by rw [hM]; exact Nat.one_le_two_pow
  have hM2 : M ≤ 4096 := by rw [hM]; exact Nat.pow_le_pow_right (n := 2) (by omega) hn
  have hsh : wrap64 ((2 : Int) ^ n) = (M : Int) := by
    have e : ((2 : Int) ^ n) = (M : Int) := by rw [hM]; simp
    rw [e]
    exact IntWalk.wrap64_in _ ⟨by omega, by omega⟩
  clear hM
  go_enter Try.func47, Try.ntmps47
  go_wp2
  go_loopw [6] (fun s wr => ∃ (T : Nat) (a b c d : Int), T ≤ M ∧ s = .int .i64 T ∧ (0 < T → Ext false l T (a, b) ∧ Ext true l T (c, d)) ∧ EnvB w wr #[.int .i64 0, .int .i64 0] #[.int .i64 0, .int .i64 0] #[.int .i64 a, .int .i64 b] #[.int .i64 c, .int .i64 d]) (fun s _ => M - (intOf s).toNat)
  case atStart => exact ⟨0, 0, 0, 0, 0, Nat.zero_le _, rfl, fun h => absurd h (by omega), E0.out⟩
  case round =>
    obtain ⟨T, a, b, c, d, hT, rfl, hx, hE⟩ := hrel
    have HX := Lib.hid hx
    have E1 := Lib.hid hE
    clear hx hE
    have HAB := Lib.hid (fun (h : 0 < T) => And.intro (ext_bd hs (by have := Hl.out; omega) (HX.out h).1).1 (And.intro (ext_bd hs (by have := Hl.out; omega) (HX.out h).1).2 (ext_bd hs (by have := Hl.out; omega) (HX.out h).2)))
    have HFIN := Lib.hid (fun (h : Ext false l T (a, b) ∧ Ext true l T (c, d)) (e : T = 2 ^ n) => ext_low hs (by have := Hl.out; omega) (by rw [e, ← Hl.out]) h)
    by_cases hlt : T < M
    · have HB := Lib.hid (fun k => bit_of T k)
      go_wp2_with fail
      clear hsh
      have HC0 : Hid ((0 : Int) = numC (wT T l) l 0 ∧ (0 : Int) = denC (wT T l) 0) := ⟨rfl, rfl⟩
      have HC1 := Lib.hid (fun k => show numC (wT T l) l (k + 1) = numC (wT T l) l k + wT T l k * (l.getD k Stk.zero).pl ∧ denC (wT T l) (k + 1) = denC (wT T l) k + wT T l k from ⟨rfl, rfl⟩)
      have HW := Lib.hid (fun k => show wT T l k = if T.testBit k = true then (l.getD k Stk.zero).wh else (l.getD k Stk.zero).wl from rfl)
      have HBD := Lib.hid (fun k (hk : k ≤ n) => sumC_bd hs T k (by have := Hl.out; omega))
      have HSD := Lib.hid (fun k (hk : k < n) => hs.s _ (getD_mem (show k < l.length by have := Hl.out; omega)))
      have HEX0 := Lib.hid (fun (h : T = 0) => ext_zero false l h)
      have HEX1 := Lib.hid (fun (h : T = 0) => ext_zero true l h)
      have HRT : Hid (ratT l T = (numC (wT T l) l n, denC (wT T l) n)) := by unfold Hid ratT; rw [Hl.out]
      generalize hnum : numC (wT T l) l = num at *
      generalize hden : denC (wT T l) = den at *
      clear hnum hden
      generalize wT T l = wt at *
      have C1 := HC0.out
      go_loop [7, 8, 9] (fun x y i => ∃ k : Nat, k ≤ n ∧ i = .int .i64 k ∧ x = .int .i64 (num k) ∧ y = .int .i64 (den k)) (fun _ _ i => n - (intOf i).toNat)
      case atStart => exact ⟨0, Nat.zero_le _, rfl, by rw [← C1.1], by rw [← C1.2]⟩
      case round =>
        clear C1
        obtain ⟨k, hk, rfl, rfl, rfl⟩ := hrel
        by_cases hkl : k < n
        · obtain ⟨bb, off, rfl, hcells⟩ := HG.out.held hkl
          obtain ⟨c0, c1, c2, c3, c4⟩ := hcells _ E1.out.e.bel
          have hb := HB.out k
          have hc1 := Lib.hid (HC1.out k)
          have hbd := HBD.out k hk
          have hsd := HSD.out k hkl
          have hwk := Lib.hid (HW.out k)
          clear hcells
          generalize l.getD k Stk.zero = y at *
          obtain ⟨wl, wh, tl, th, pl⟩ := y
          simp only at c0 c1 c2 c3 c4 hsd hc1 hwk
          have hpl := mul_bd (x := wh) (X := 10000) (y := pl) (Y := 5000) (by omega) (by omega) (by omega) (by omega)
          have hpl2 := mul_bd (x := wl) (X := 10000) (y := pl) (Y := 5000) (by omega) (by omega) (by omega) (by omega)
          by_cases ht : T.testBit k = true
          · rw [if_pos ht] at hb hwk
            clear ht
            go_wp2
            go_round
            case rel => exact ⟨k + 1, by omega, by go_num, by rw [hc1.out.1, hwk.out], by rw [hc1.out.2, hwk.out]⟩
            case measure => simp [intOf]; omega
          · rw [if_neg ht] at hb hwk
            clear ht
            go_wp2
            go_round
            case rel => exact ⟨k + 1, by omega, by go_num, by rw [hc1.out.1, hwk.out], by rw [hc1.out.2, hwk.out]⟩
            case measure => simp [intOf]; omega
        · obtain rfl : k = n := by omega
          have hbd := HBD.out k (Nat.le_refl _)
          have hab := HAB.out
          have p1 := E1.out.all
          have HE0 := Lib.hid HEX0.out
          have HE1 := Lib.hid HEX1.out
          rw [HRT.out] at HE0 HE1
          have HK0 := Lib.hid (fun (h : 0 < T) (hb : before false (a, b) (ratT l T)) => ext_keep (HX.out h).1 hb)
          have HK1 := Lib.hid (fun (h : 0 < T) (hb : before true (c, d) (ratT l T)) => ext_keep (HX.out h).2 hb)
          have HL0 := Lib.hid (fun (h : 0 < T) (hb : before false (ratT l T) (a, b)) => ext_new hs (by have := Hl.out; omega) (HX.out h).1 hb)
          have HL1 := Lib.hid (fun (h : 0 < T) (hb : before true (ratT l T) (c, d)) => ext_new hs (by have := Hl.out; omega) (HX.out h).2 hb)
          rw [HRT.out] at HK0 HK1 HL0 HL1
          have hN : 0 ≤ num k ∧ num k ≤ 600000000 := by omega
          have hD : 0 ≤ den k ∧ den k ≤ 120000 := by omega
          clear HRT HEX0 HEX1 hbd
          generalize num k = N at *
          generalize den k = D at *
          by_cases h00 : T = 0
          · have t1 : ((T : Int) == 0) = true := by simp [h00]
            have E3 := Lib.hid ((E1.out.putR (.int .i64 N) (.int .i64 D)).putS (.int .i64 N) (.int .i64 D))
            have H0 := Lib.hid (HE0.out h00)
            have H1 := Lib.hid (HE1.out h00)
            clear hab HE0 HE1 HK0 HK1 HL0 HL1 h00
            go_wp2
            go_roundw
            case rel => exact ⟨T + 1, _, _, _, _, by omega, by go_num, fun _ => ⟨H0.out, H1.out⟩, E3.out⟩
            case measure => simp [intOf]; omega
          · have t1 : ((T : Int) == 0) = false := by simp; omega
            have hp : 0 < T := by omega
            obtain ⟨ha, hb, hc, hd⟩ := hab hp
            have m1 := mul_bd (x := N) (X := 600000000) (y := b) (Y := 120000) (by omega) (by omega) (by omega) (by omega)
            have m2 := mul_bd (x := a) (X := 600000000) (y := D) (Y := 120000) (by omega) (by omega) (by omega) (by omega)
            have m3 := mul_bd (x := N) (X := 600000000) (y := d) (Y := 120000) (by omega) (by omega) (by omega) (by omega)
            have m4 := mul_bd (x := c) (X := 600000000) (y := D) (Y := 120000) (by omega) (by omega) (by omega) (by omega)
            clear hab HE0 HE1 h00
            by_cases h1 : N * b < a * D
            · have H0 := Lib.hid (HL0.out hp (show N * b ≤ a * D by omega))
              have E2 := Lib.hid (E1.out.putR (.int .i64 N) (.int .i64 D))
              by_cases h2 : c * D < N * d
              · have H1 := Lib.hid (HL1.out hp (show c * D ≤ N * d by omega))
                have E3 := Lib.hid (E2.out.putS (.int .i64 N) (.int .i64 D))
                clear HK0 HK1 HL0 HL1
                go_wp2
                go_roundw
                case rel => exact ⟨T + 1, _, _, _, _, by omega, by go_num, fun _ => ⟨H0.out, H1.out⟩, E3.out⟩
                case measure => simp [intOf]; omega
              · have H1 := Lib.hid (HK1.out hp (show N * d ≤ c * D by omega))
                clear HK0 HK1 HL0 HL1
                go_wp2
                go_roundw
                case rel => exact ⟨T + 1, _, _, _, _, by omega, by go_num, fun _ => ⟨H0.out, H1.out⟩, E2.out⟩
                case measure => simp [intOf]; omega
            · have H0 := Lib.hid (HK0.out hp (show a * D ≤ N * b by omega))
              by_cases h2 : c * D < N * d
              · have H1 := Lib.hid (HL1.out hp (show c * D ≤ N * d by omega))
                have E3 := Lib.hid (E1.out.putS (.int .i64 N) (.int .i64 D))
                clear HK0 HK1 HL0 HL1
                go_wp2
                go_roundw
                case rel => exact ⟨T + 1, _, _, _, _, by omega, by go_num, fun _ => ⟨H0.out, H1.out⟩, E3.out⟩
                case measure => simp [intOf]; omega
              · have H1 := Lib.hid (HK1.out hp (show N * d ≤ c * D by omega))
                clear HK0 HK1 HL0 HL1
                go_wp2
                go_roundw
                case rel => exact ⟨T + 1, _, _, _, _, by omega, by go_num, fun _ => ⟨H0.out, H1.out⟩, E1.out⟩
                case measure => simp [intOf]; omega
    · obtain rfl : T = M := by omega
      have hab := HAB.out (by omega)
      have HF := Lib.hid (HFIN.out (HX.out (by omega)) HM.out)
      have HL0 := Lib.hid (fun W => RefLowR_any (a, b) W (by simp only; omega))
      have HL1 := Lib.hid (fun W => RefLowR_any (c, d) W (by simp only; omega))
      rw [HF.out.1] at HL0
      rw [HF.out.2] at HL1
      have E2 := Lib.hid E1.out.drewd
      clear hab HF HX HFIN
      generalize hr1 : lowR (balL false l) = r1 at HL0
      generalize hr2 : lowR (balL true l) = r2 at HL1
      obtain ⟨x1, y1⟩ := r1
      obtain ⟨x2, y2⟩ := r2
      have HR1 := Lib.hid hr1
      have HR2 := Lib.hid hr2
      clear hr1 hr2
      simp only at HL0 HL1
      go_wp2_with fail
      have D1 : Hid (EnvB w wr.drew _ _ _ _) := Lib.hid E1.out.drewd
      have S1 : SBal w a b c d wr.drew := D1.out.get
      refine wp_region_held_drew (S := SBal w a b c d) (by kernel_rfl) S1 (fun _ => ?_)
      generalize wr.drew = wd at *
      refine heldTake (i := 0) 89 (v := ?va0) rfl (by kernel_rfl) (by kernel_rfl) (by kernel_rfl) (by kernel_rfl) (fun _ _ _ h => h) (Or.inl ⟨by rfl, ?ya0⟩) (by assumption) ?ra0
      case ya0 => (intro w hSw; obtain ⟨g0, g1, g2, g3⟩ := hSw; go_simp; try with_reducible rfl)
      refine heldTake (i := 1) 90 (v := ?va1) rfl (by kernel_rfl) (by kernel_rfl) (by kernel_rfl) (by kernel_rfl) (fun _ _ _ h => h) (Or.inl ⟨by rfl, ?ya1⟩) (by assumption) ?ra1
      case ya1 => (intro w hSw; obtain ⟨g0, g1, g2, g3⟩ := hSw; go_simp; try with_reducible rfl)
      refine heldTake (i := 2) 91 (v := ?va2) rfl (by kernel_rfl) (by kernel_rfl) (by kernel_rfl) (by kernel_rfl) (fun _ _ _ h => h) (Or.inl ⟨by rfl, ?ya2⟩) (by assumption) ?ra2
      case ya2 => (intro w hSw; obtain ⟨g0, g1, g2, g3⟩ := hSw; go_simp; try with_reducible rfl)
      refine heldTake (i := 3) 92 (v := ?va3) rfl (by kernel_rfl) (by kernel_rfl) (by kernel_rfl) (by kernel_rfl) (fun _ _ _ h => h) (Or.inl ⟨by rfl, ?ya3⟩) (by assumption) ?ra3
      case ya3 => (intro w hSw; obtain ⟨g0, g1, g2, g3⟩ := hSw; go_simp; try with_reducible rfl)
      refine heldTake (i := 5) 94 (v := ?va5) rfl (by kernel_rfl) (by kernel_rfl) (by kernel_rfl) (by kernel_rfl) (fun _ _ _ h => h) (Or.inl ⟨by rfl, ?ya5⟩) (by assumption) ?ra5
      case ya5 => (intro w hSw; obtain ⟨g0, g1, g2, g3⟩ := hSw; go_simp; try with_reducible rfl)
      refine heldTake (i := 6) 95 (v := ?va6) rfl (by kernel_rfl) (by kernel_rfl) (by kernel_rfl) (by kernel_rfl) (fun _ _ _ h => h) (Or.inl ⟨by rfl, ?ya6⟩) (by assumption) ?ra6
      case ya6 => (intro w hSw; obtain ⟨g0, g1, g2, g3⟩ := hSw; go_simp; try with_reducible rfl)
      refine heldTake (i := 7) 96 (v := ?va7) rfl (by kernel_rfl) (by kernel_rfl) (by kernel_rfl) (by kernel_rfl) (fun _ _ _ h => h) (Or.inl ⟨by rfl, ?ya7⟩) (by assumption) ?ra7
      case ya7 => (intro w hSw; obtain ⟨g0, g1, g2, g3⟩ := hSw; go_simp; try with_reducible rfl)
      refine heldTake (i := 8) 97 (v := ?va8) rfl (by kernel_rfl) (by kernel_rfl) (by kernel_rfl) (by kernel_rfl) (fun _ _ _ h => h) (Or.inl ⟨by rfl, ?ya8⟩) (by assumption) ?ra8
      case ya8 => (intro w hSw; obtain ⟨g0, g1, g2, g3⟩ := hSw; go_simp; try with_reducible rfl)
      simp only [Act.put, List.setIfInBounds_toArray, List.set_cons_zero, List.set_cons_succ]
      refine wpAnyH_ready (rs := [4]) (by kernel_rfl) (by simp) ?_
      refine AllReadyH.cons rfl (fun K4 hK4 => ?_) AllReadyH.nil
      go_simp
      refine (HL0.out _).mono ?_
      rintro e Wa ⟨rfl, bWa⟩
      have D2 := Lib.hid (D1.out.below bWa)
      clear bWa
      refine hK4.out _ _ D2.out.get (fun _ => ?_)
      refine wpAnyH_ready (rs := [9]) (by kernel_rfl) (by simp) ?_
      refine AllReadyH.cons rfl (fun K9 hK9 => ?_) AllReadyH.nil
      go_simp
      refine (HL1.out _).mono ?_
      rintro e Wb ⟨rfl, bWb⟩
      have D3 := Lib.hid (D2.out.below bWb)
      clear bWb
      refine hK9.out _ _ D3.out.get (fun _ => ?_)
      refine wpAnyH_ready (rs := [10]) (by kernel_rfl) (by simp) ?_
      refine AllReadyH.cons rfl (fun K10 hK10 => ?_) AllReadyH.nil
      rw [if_pos (by rfl)]
      refine wp_store_rowN rfl _ _ _ rfl _ _ rfl rfl _ _ D3.out.e.p (by kernel_rfl) rfl (ones2c _ _) ?_
      have D4 := Lib.hid (D3.out.rowP #[.int .i64 x1, .int .i64 y1])
      refine hK10.out _ _ D4.out.get (fun _ => ?_)
      refine wpAnyH_ready (rs := [11]) (by kernel_rfl) (by simp) ?_
      refine AllReadyH.cons rfl (fun K11 hK11 => ?_) AllReadyH.nil
      rw [if_pos (by rfl)]
      refine wp_store_rowN rfl _ _ _ rfl _ _ rfl rfl _ _ D4.out.e.q (by kernel_rfl) rfl (ones2c _ _) ?_
      have D5 := Lib.hid (D4.out.rowQ #[.int .i64 x2, .int .i64 y2])
      refine hK11.out _ _ D5.out.get (fun _ => ?_)
      refine wpAnyH_done (by kernel_rfl) ?_ _
      go_wp2_with fail
      exact bodyPost_ret (results_cc rfl _ _ _ w.heap.size (w.heap.size + 1) _ _ _ _ _ _ rfl D5.out.e.p Try.underlying77 (by kernel_rfl) rfl D5.out.e.q Try.underlying77 (by kernel_rfl)) rfl ⟨by rw [HR1.out, HR2.out], D5.out.e.bel⟩
end Go.Proofs.Ytpbepipnfpgoiaa
