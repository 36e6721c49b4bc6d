/- Walks: the ends, parts, sum, angles. -/
import Derived.Test.YtdekickmplkdiaaRb
import Derived.IntWalk
namespace Go.Proofs.Ytdekickmplkdiaa
open Go.RowKit

theorem mul_bd {x y X Y : Int} (h1 : 0 ≤ x) (h2 : x ≤ X) (h3 : 0 ≤ y) (h4 : y ≤ Y) : 0 ≤ x * y ∧ x * y ≤ X * Y := ⟨Int.mul_nonneg h1 h3, Int.mul_le_mul h2 h4 h3 (by omega)⟩

/-- Two boxes of the call's own. -/
structure Env2 (w W : World) (t1 t2 : TypeId) (c1 c2 : Array Value) : Prop where
  p : Blk W w.heap.size t1 c1
  q : Blk W (w.heap.size + 1) t2 c2
  bel : Below w.heap.size w W
section
variable {w W W' : World} {t1 t2 : TypeId} {c1 c2 : Array Value}
theorem Env2.below (h : Env2 w W t1 t2 c1 c2) (hb : Below W.heap.size W W') : Env2 w W' t1 t2 c1 c2 := ⟨blk_keep hb h.p, blk_keep hb h.q, below_then h.bel hb⟩
theorem Env2.alloc (h : Env2 w W t1 t2 c1 c2) (o : Obj) : Env2 w (W.alloc o) t1 t2 c1 c2 := h.below (below_self W o)
theorem Env2.drewd (h : Env2 w W t1 t2 c1 c2) : Env2 w W.drew t1 t2 c1 c2 := ⟨h.p, h.q, h.bel.drew⟩
theorem Env2.allocd (h : Env2 w W.drew t1 t2 c1 c2) (o : Obj) : Env2 w (W.alloc o).drew t1 t2 c1 c2 := Env2.alloc (W := W.drew) h o
theorem Env2.start (w : World) (t1 t2 : TypeId) (c1 c2 : Array Value) : Env2 w ((w.alloc (.cells c1 t1)).alloc (.cells c2 t2)) t1 t2 c1 c2 :=
  ⟨(Blk.new w _ _ rfl).alloc _, Blk.new _ _ _ (by simp), ((Below.refl _ _).alloc (Nat.le_refl _) _).alloc (by simp) _⟩
theorem Env2.grown (h : Env2 w W t1 t2 c1 c2) {base n size : Nat} {e : TypeId} {v : Value} {xs : List Value} (ho : W.ownsRow base e size v n xs) (h1 : e ≠ t1) (h2 : e ≠ t2) (hb : w.heap.size ≤ base) (hg : W.grownBy W' v.ownBlock) : Env2 w W' t1 t2 c1 c2 :=
  ⟨h.p.grown hg (own_blk_ne ho h.p h1), h.q.grown hg (own_blk_ne ho h.q h2), h.bel.grown hg h.bel.size (fun k e => Nat.le_trans hb (ho.lt k e.symm.symm).1)⟩
end

def lowV : Value := .func (.func 99) #[] #[]
def highV : Value := .func (.func 100) #[] #[]
def pickV : Bool → Value
  | false => .func (.func 101) #[] #[]
  | true => .func (.func 106) #[] #[]
def endA : Bool → Array Value
  | false => #[.func (.func 99) #[] #[], .func (.func 100) #[] #[], .func (.func 101) #[] #[]]
  | true => #[.func (.func 100) #[] #[], .func (.func 99) #[] #[], .func (.func 106) #[] #[]]
def ris (u : Bool) (l h : Int) : Int := bif u then h else l
def fal (u : Bool) (l h : Int) : Int := bif u then l else h

theorem low_any (l h : Int) (w : World) : Calls Try.prog 99 #[.agg #[.int .i64 l, .int .i64 h]] w fun e w' => e = .returned (.int .i64 l) ∧ Below w.heap.size w w' := by
  go_enter Try.func99, Try.ntmps99
  go_wp2
  go_ret
  exact ⟨rfl, below_self w _⟩
theorem high_any (l h : Int) (w : World) : Calls Try.prog 100 #[.agg #[.int .i64 l, .int .i64 h]] w fun e w' => e = .returned (.int .i64 h) ∧ Below w.heap.size w w' := by
  go_enter Try.func100, Try.ntmps100
  go_wp2
  go_ret
  exact ⟨rfl, below_self w _⟩
theorem leastEnd_any (w : World) : Calls Try.prog 69 #[] w fun e w' => e = .returned (.agg (endA false)) ∧ Below w.heap.size w w' := by
  have H := Lib.hid (Blk.new w 117 #[Value.nilFunc, Value.nilFunc, Value.nilFunc] rfl)
  have B := Lib.hid (below_self w (.cells #[Value.nilFunc, Value.nilFunc, Value.nilFunc] 117))
  unfold endA
  go_enter Try.func69, Try.ntmps69
  go_wp2_with (refine wpList_store_row rfl 117 _ _ rfl w.heap.size _ rfl rfl 117 _ H.out (by kernel_rfl) rfl (by kernel_rfl) ?_)
  exact bodyPost_ret (results_c rfl _ _ _ _ _ _ _ rfl (H.out.setRow _) Try.underlying117 (by kernel_rfl)) rfl ⟨rfl, below_setR B.out (by omega) _⟩
theorem mostEnd_any (w : World) : Calls Try.prog 71 #[] w fun e w' => e = .returned (.agg (endA true)) ∧ Below w.heap.size w w' := by
  have H := Lib.hid (Blk.new w 117 #[Value.nilFunc, Value.nilFunc, Value.nilFunc] rfl)
  have B := Lib.hid (below_self w (.cells #[Value.nilFunc, Value.nilFunc, Value.nilFunc] 117))
  unfold endA
  go_enter Try.func71, Try.ntmps71
  go_wp2_with (refine wpList_store_row rfl 117 _ _ rfl w.heap.size _ rfl rfl 117 _ H.out (by kernel_rfl) rfl (by kernel_rfl) ?_)
  exact bodyPost_ret (results_c rfl _ _ _ _ _ _ _ rfl (H.out.setRow _) Try.underlying117 (by kernel_rfl)) rfl ⟨rfl, below_setR B.out (by omega) _⟩
theorem sum_take (xs : List Int) (k : Nat) (hk : k < xs.length) : (xs.take (k + 1)).sum = (xs.take k).sum + xs.getD k 0 := by
  rw [List.take_succ_eq_append_getElem hk, List.sum_append]; simp [List.getD, hk]
theorem sum_bd (xs : List Int) (hb : ∀ v ∈ xs, 0 ≤ v ∧ v ≤ 1000000000) : 0 ≤ xs.sum ∧ xs.sum ≤ xs.length * 1000000000 := by
  induction xs with
  | nil => simp
  | cons a r ih =>
    have h1 := hb a (by simp)
    have h2 := ih (fun v hv => hb v (by simp [hv]))
    simp only [List.sum_cons, List.length_cons]; omega
set_option maxHeartbeats 400000 in
theorem sum_any (A : Option Addr) (n c : Nat) (xs : List Int) (w : World) (h : Ints w A n xs) (hn : n ≤ 1000000) (hb : ∀ v ∈ xs, 0 ≤ v ∧ v ≤ 1000000000) :
    Calls Try.prog 103 #[.slice A n c] w fun e w' => e = .returned (.int .i64 xs.sum) ∧ w' = w := by
  have hl := h.len
  have HB := Lib.hid (fun k => sum_bd (xs.take k) (fun v hv => hb v (List.mem_of_mem_take hv)))
  have HV : Hid (∀ k, k < n → 0 ≤ xs.getD k 0 ∧ xs.getD k 0 ≤ 1000000000) := fun k hk => by
    have e : xs.getD k 0 = xs[k]'(by omega) := by simp [List.getD, show k < xs.length from by omega]
    rw [e]; exact hb _ (List.getElem_mem _)
  clear hb
  have Hl := Lib.hid hl
  clear hl
  go_enter Try.func103, Try.ntmps103
  go_wp2
  go_loop [3, 8] (fun s i => ∃ k : Nat, k ≤ n ∧ i = .int .i64 k ∧ s = .int .i64 (xs.take k).sum) (fun _ i => n - (intOf i).toNat)
  case atStart => exact ⟨0, Nat.zero_le _, rfl, rfl⟩
  case round =>
    obtain ⟨k, hk, rfl, rfl⟩ := hrel
    by_cases hlt : k < n
    · obtain ⟨b, off, rfl, hbb, hc⟩ := h.at_ hlt
      have H := Lib.hid (sum_take xs k (by rw [Hl.out]; exact hlt))
      have h1 := HB.out k
      have h2 := HV.out k hlt
      have h3 : (xs.take k).length ≤ k := List.length_take_le _ _
      generalize (xs.take k).sum = s at *
      generalize xs.getD k 0 = y at *
      go_wp2
      go_round
      case rel => exact ⟨k + 1, by omega, by go_num, by rw [H.out]⟩
      case measure => simp [intOf]; omega
    · have he := Lib.hid (show xs.take k = xs from List.take_of_length_le (by rw [Hl.out]; omega))
      go_wp2
      go_ret
      exact ⟨ret_int (by rw [he.out]), rfl⟩
end Go.Proofs.Ytdekickmplkdiaa
