/- Walks: Collect and Sorted of ints, greatest. -/
import Derived.Test.YtdekickmplkdiaaRv
import Derived.Test.YtdekickmplkdiaaRf
import Derived.Lib.OwnBridge
namespace Go.Proofs.Ytdekickmplkdiaa
open Go.RowKit Go.Sort

def sortL (zs : List Int) : List Int := zs.mergeSort fun x y => decide (x ≤ y)
theorem sortL_length (zs : List Int) : (sortL zs).length = zs.length := List.length_mergeSort zs
theorem below_grow (w : World) (os : Array Obj) : Below w.heap.size w (grow w os) := ⟨rfl, rfl, rfl, by simp [grow], fun i hi => by simp [grow, Array.getElem?_append_left hi]⟩
theorem own_sorted {w : World} {base g n cap q : Nat} {t : TypeId} {zs : List Int} {os : Array Obj} (h : w.ownsRow base t 1 (.slice (some ⟨g, 0, none⟩) n cap) n (zs.map (Value.int .i64))) :
    (grow (putRow (Value.int .i64) (Sort.ahead w q) g 0 (sortL zs).toArray) os).ownsRow base t 1 (.slice (some ⟨g, 0, none⟩) n cap) n ((sortL zs).map (Value.int .i64)) := by
  have hl : zs.length = n := by simpa using h.1
  have := Lib.ownsRow_putRow (q := q) (k := n) (ys := sortL zs) h (by rw [sortL_length, hl]) (Nat.le_refl _)
  rw [List.take_of_length_le (by rw [sortL_length, hl]; exact Nat.le_refl _)] at this
  exact ownsRow_below this (below_grow _ os)
theorem below_sorted {w0 w : World} {g q : Nat} {d : Array Int} {os : Array Obj} (h : Below w0.heap.size w0 w) (hg : w0.heap.size ≤ g) : Below w0.heap.size w0 (grow (putRow (Value.int .i64) (Sort.ahead w q) g 0 d) os) :=
  below_then (Lib.below_putRow h hg) (below_grow _ os)
theorem Values_any (A : Option Addr) (n c : Nat) (w : World) : Calls Try.prog 120 #[.slice A n c] w fun e w' => e = .returned (.func (.func 125) #[] #[.pointer (some ⟨w.heap.size, 0, none⟩)]) ∧ w' = w.alloc (.cells #[.slice A n c] 54) := by
  have hmf : ∀ (fn : Fn) (first cap : Array Value) (w : World), (Instr.makeFunc fn first cap).run Try.prog w = .ok (.func fn first cap) w := fun _ _ _ _ => rfl
  go_enter Try.func120, Try.ntmps120
  go_wp2
  go_ret
  exact ⟨rfl, rfl⟩
def CollRes (w : World) (m : Nat) (zs : List Int) (e : Ending) (w' : World) : Prop := ∃ v, e = .returned v ∧ w'.ownsRow w.heap.size 3 1 v m (zs.map (Value.int .i64)) ∧ Below w.heap.size w w'
set_option maxHeartbeats 400000 in
theorem Collect_any (Bs : Nat) (A : Option Addr) (m cap : Nat) (zs : List Int) (hm : m ≤ 1000000) (w : World) (hBs : Bs < w.heap.size) (hcB : w.cell? ⟨Bs, 0, none⟩ = some (.slice A m cap)) (hI : Ints w A m zs) :
    Calls Try.prog 123 #[.func (.func 125) #[] #[.pointer (some ⟨Bs, 0, none⟩)]] w (CollRes w m zs) := by
  have C : Hid (Calls Try.prog 128 #[.slice none 0 0, .func (.func 125) #[] #[.pointer (some ⟨Bs, 0, none⟩)]] w (CollRes w m zs)) := callsIn_wide.1 (appendSeq_in Fence.wide 3 trivial trivial rfl (Nat.le_refl _) Bs A m cap zs hm w hBs hcB hI)
  clear hI hcB
  go_enter Try.func123, Try.ntmps123
  go_wp2_with fail
  refine C.out.mono ?_
  rintro e w1 ⟨v, rfl, ho, hb⟩
  have O := Lib.hid ho
  have B := Lib.hid hb
  clear ho hb
  go_wp2
  go_ret
  exact ⟨v, rfl, O.out, B.out⟩
set_option maxHeartbeats 400000 in
theorem Sorted_any (Bs : Nat) (A : Option Addr) (m cap : Nat) (zs : List Int) (hm : m ≤ 1000000) (w : World) (hBs : Bs < w.heap.size) (hcB : w.cell? ⟨Bs, 0, none⟩ = some (.slice A m cap)) (hI : Ints w A m zs) :
    Calls Try.prog 119 #[.func (.func 125) #[] #[.pointer (some ⟨Bs, 0, none⟩)]] w (CollRes w m (sortL zs)) := by
  have C := Lib.hid (Collect_any Bs A m cap zs hm w hBs hcB hI)
  have hl := hI.len
  have Hl := Lib.hid hl
  clear hI hcB
  go_enter Try.func119, Try.ntmps119
  go_wp2_with fail
  refine C.out.mono ?_
  rintro e w1 ⟨v, rfl, ho, hb⟩
  have B := Lib.hid hb
  rcases Nat.eq_zero_or_pos m with hz | hp
  · subst hz
    have hzs : zs = [] := List.eq_nil_of_length_eq_zero hl
    subst hzs
    obtain ⟨A', c', rfl⟩ := own_slice ho
    have O := Lib.hid ho
    have S := Lib.hid (slices_Sort_int_none A' c' w1)
    clear ho hb hl
    go_wp2_with (go_at_call 124; refine S.out.mono ?_; rintro e w2 ⟨rfl, hw2⟩; rw [hw2]; clear hw2)
    go_ret
    exact ⟨_, rfl, by simpa [sortL] using O.out, B.out⟩
  · obtain ⟨g, c', rfl⟩ := own_form ho hp
    have O := Lib.hid ho
    have hg := ho.lt g rfl
    have hH : Holds (Value.int .i64) w1 g 0 zs.toArray := by
      obtain ⟨g', c2, e, _, _, _, _, _, hH⟩ := Lib.holds_of_ownsRow ho (by simp)
      simp only [Value.slice.injEq, Option.some.injEq, Addr.mk.injEq, and_true, true_and] at e
      rw [e.1]; exact hH
    have S := slices_Sort_int g 0 c' zs w1 hH hg.2 (by omega)
    rw [hl] at S
    have S := Lib.hid S
    have hg1 := Lib.hid hg.1
    clear ho hb hl hH hg
    go_wp2_with fail
    refine S.out.mono ?_
    rintro e w2 ⟨rfl, q, os, hw2⟩
    have O2 : Hid (w2.ownsRow w.heap.size 3 1 (.slice (some ⟨g, 0, none⟩) m c') m ((sortL zs).map (Value.int .i64))) := by unfold Hid; rw [hw2]; exact own_sorted O.out
    have B2 : Hid (Below w.heap.size w w2) := by unfold Hid; rw [hw2]; exact below_sorted B.out hg1.out
    clear hw2
    go_wp2
    go_ret
    exact ⟨_, rfl, O2.out, B2.out⟩

/-- So many of the greatest. -/
def greatL (zs : List Int) (m : Nat) : List Int := (sortL zs).drop (zs.length - m)
def GreatRes (w : World) (L : List Int) (e : Ending) (w' : World) : Prop := ∃ A c, e = .returned (.slice A L.length c) ∧ Ints w' A L.length L ∧ Below w.heap.size w w'
theorem ints_drop {w : World} {b off n k : Nat} {xs : List Int} (h : Ints w (some ⟨b, off, none⟩) n xs) (hk : k ≤ n) : Ints w (some ⟨b, off + k, none⟩) (n - k) (xs.drop k) := by
  have hl := h.len
  refine ⟨by simp [hl], fun hp => ⟨b, off + k, rfl, ?_, fun j u hj => ?_⟩⟩
  · obtain ⟨b', o', e, hb, _⟩ := h.2 (by omega)
    simp only [Option.some.injEq, Addr.mk.injEq, and_true] at e
    rw [e.1]; exact hb
  · obtain ⟨b', o', e, hb, hc⟩ := h.2 (by omega)
    simp only [Option.some.injEq, Addr.mk.injEq, and_true] at e
    obtain ⟨rfl, rfl⟩ := e
    rw [Nat.add_assoc]
    exact hc (k + j) u (by simpa [List.getElem?_drop] using hj)
theorem ints_none (w : World) (A : Option Addr) : Ints w A 0 [] := ⟨rfl, fun h => absurd h (by omega)⟩
set_option maxRecDepth 100000 in
set_option maxHeartbeats 1000000 in
theorem greatest_any (zs : List Int) (A : Option Addr) (n c m : Nat) (w : World) (h : Ints w A n zs) (hn : n ≤ 1000) (hm : m ≤ 1000) :
    Calls Try.prog 110 #[.slice A n c, .int .i64 m] w (GreatRes w (greatL zs m)) := by
  have hl := h.len
  have bs := below_self w (.cells #[.slice A n c] 54)
  have B0 := Lib.hid bs
  have V := Lib.hid (Values_any A n c w)
  have S := Lib.hid (Sorted_any w.heap.size A n c zs (by omega) (w.alloc (.cells #[.slice A n c] 54)) (by simp) (by simp) (h.below bs))
  have hL : (greatL zs m).length = n - (n - m) := by unfold greatL; rw [List.length_drop, sortL_length, hl]
  have HL := Lib.hid (show greatL zs m = (sortL zs).drop (n - m) from by unfold greatL; rw [hl])
  have Hlen := Lib.hid hL
  have Hs := Lib.hid (show (sortL zs).length = n from by rw [sortL_length, hl])
  clear h bs hl hL
  generalize greatL zs m = L at *
  generalize sortL zs = ys at *
  obtain ⟨k, hk⟩ : ∃ k, k = n - m := ⟨_, rfl⟩
  have hmax : max (0 : Int) ((n : Int) - (m : Int)) = (k : Int) := by omega
  have hkn : k ≤ n := by omega
  rw [← hk] at HL Hlen
  clear hk
  have hknI : (k : Int) ≤ (n : Int) := by omega
  have hk0 : (0 : Int) ≤ (k : Int) := by omega
  have Hmax := Lib.hid hmax
  clear hmax
  go_enter Try.func110, Try.ntmps110
  go_wp2_with fail
  refine V.out.mono ?_
  rintro e w1 ⟨rfl, hw1⟩
  rw [hw1]
  clear hw1
  go_wp2_with fail
  refine S.out.mono ?_
  rintro e w2 ⟨v, rfl, ho, hb⟩
  obtain ⟨A2, c2, hv, hi⟩ := own_ints ho
  subst hv
  have hcap := own_cap ho
  have I2 := Lib.hid hi
  have B2 := Lib.hid (below_then B0.out hb)
  clear ho hb hi
  unfold maxLen at hcap
  have hmax := Hmax.out
  by_cases hkc : k = c2
  · have hn0 : n - k = 0 := by omega
    have Hn0 := Lib.hid hn0
    clear hn0
    subst hkc
    go_wp2
    go_ret
    exact ⟨_, _, by rw [Hlen.out, Hn0.out]; rfl, by rw [Hlen.out, HL.out, Hn0.out, List.drop_eq_nil_of_le (by have := Hs.out; have := Hn0.out; omega)]; exact ints_none _ _, B2.out⟩
  · cases A2 with
    | none =>
      have hn0 : n = 0 := by
        rcases Nat.eq_zero_or_pos n with h | h
        · exact h
        · obtain ⟨b, off, e, _⟩ := I2.out.2 h
          simp at e
      have Hn0 := Lib.hid (show n - k = 0 by omega)
      clear hn0
      go_wp2
      go_ret
      exact ⟨_, _, by rw [Hlen.out]; rfl, by rw [Hlen.out, HL.out, Hn0.out, List.drop_eq_nil_of_le (by have := Hs.out; have := Hn0.out; omega)]; exact ints_none _ _, B2.out⟩
    | some ad =>
      go_wp2
      go_ret
      refine ⟨_, _, by rw [Hlen.out]; rfl, ?_, B2.out⟩
      rw [Hlen.out, HL.out]
      rcases Nat.eq_zero_or_pos (n - k) with h | h
      · rw [h, List.drop_eq_nil_of_le (by have := Hs.out; omega)]
        exact ints_none _ _
      · obtain ⟨b, off, e, hb, hc⟩ := I2.out.2 (by omega)
        simp only [Option.some.injEq] at e
        subst e
        simp only [addr_add]
        exact ints_drop I2.out hkn
end Go.Proofs.Ytdekickmplkdiaa
