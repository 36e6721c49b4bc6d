/- Walks: the reference's Turned. -/
import Derived.Test.YtiflhimmieflpaaW33
import Derived.Test.YtiflhimmieflpaaRcur
namespace Go.Proofs.Ytiflhimmieflpaa
open Go.RowKit Go.Maps

theorem reverse_take_snoc (xs : List (Int × Int)) (k y : Nat) (hk : k + y + 1 = xs.length) : xs.reverse.take (k + 1) = xs.reverse.take k ++ [xs.getD y (0, 0)] := by
  have h1 : k < xs.reverse.length := by simp; omega
  have h2 := getD_reverse xs k (by omega)
  rw [show xs.length - 1 - k = y from by omega] at h2
  have e : xs.reverse[k] = xs.reverse.getD k (0, 0) := by rw [List.getD, List.getElem?_eq_getElem h1]; rfl
  rw [List.take_succ_eq_append_getElem h1, e, h2]
theorem own_empty (w : World) (e : TypeId) (size : Nat) {g : Nat} (hg : g = w.heap.size) : (w.alloc (.cells #[] e)).ownsRow w.heap.size e size (.slice (some ⟨g, 0, none⟩) 0 0) 0 [] := by
  subst hg
  exact ⟨by simp, .inr ⟨w.heap.size, 0, #[], rfl, Nat.le_refl _, heap_alloc_new w _, Nat.le_refl _, by simp, by simp, by simp⟩⟩
def OwnPairs (w : World) (xs : List (Int × Int)) (e : Ending) (w' : World) : Prop := ∃ v, e = .returned v ∧ w'.ownsRow w.heap.size 98 2 v xs.length (flat2 xs) ∧ Below w.heap.size w w'

set_option maxRecDepth 100000 in
set_option maxHeartbeats 1000000 in
theorem Turned_any (A : Option Addr) (n c : Nat) (xs : List (Int × Int)) (w : World) (h : Pairs w A n xs) (hn : n ≤ 1000) :
    Calls Try.prog 63 #[.slice A n c] w (OwnPairs w xs.reverse) := by
  obtain ⟨i0, hi, hz0, hz1, hz2⟩ := info_parts Try.infoSpan
  have hl := h.len
  have HL : Hid (xs.reverse.length = n) := by unfold Hid; simp [hl]
  have HT := Lib.hid (fun k y (hk : k + y + 1 = n) => reverse_take_snoc xs k y (by omega))
  have HTn : Hid (xs.reverse.take n = xs.reverse) := by unfold Hid; rw [List.take_of_length_le (by simp [hl])]
  have H := Lib.hid h
  have O0 := Lib.hid (own_empty w 98 2 (g := w.heap.size) rfl)
  have B0 := Lib.hid (below_self w (.cells #[] 98))
  clear h hl
  go_enter Try.func63, Try.ntmps63
  go_wp2_with fail
  go_loopw [3, 4] (fun v i wr => ∃ (k : Nat) (x : Int), k ≤ n ∧ i = .int .i64 x ∧ x = (n : Int) - 1 - k ∧ wr.ownsRow w.heap.size 98 2 v k (flat2 (xs.reverse.take k)) ∧ Below w.heap.size w wr) (fun _ i _ => (intOf i + 1).toNat)
  case atStart => exact ⟨0, _, Nat.zero_le _, rfl, by omega, O0.out, B0.out⟩
  case round =>
    obtain ⟨k, x, hk, rfl, hx, hown, hbel⟩ := hrel
    have Hown := Lib.hid hown
    have Hbel := Lib.hid hbel
    by_cases hge : 0 ≤ x
    · obtain ⟨y, rfl⟩ := Int.eq_ofNat_of_zero_le hge
      have hky : k + y + 1 = n := by omega
      have Hx := Lib.hid hx
      have Ht := Lib.hid (HT.out k y hky)
      have hyn : y < n := by omega
      obtain ⟨b, off, hA, hb, q0, q1⟩ := (H.out.below hbel).at_ hyn
      subst hA
      have hsz := hbel.size
      have Hky := Lib.hid hky
      have hkn : k < n := by omega
      clear hx hown hbel hky HT
      generalize hp : xs.getD y (0, 0) = p at *
      have Hp := Lib.hid hp
      clear hp
      obtain ⟨p1, p2⟩ := p
      simp only at q0 q1
      have Hnew := Lib.hid (cell_two_at wr (.int .i64 p1) (.int .i64 p2) 98)
      go_wp2_with (at_builtin; refine wpList_append_own _ rfl _ _ 22 rfl w.heap.size 98 i0 (.agg #[.int .i64 0, .int .i64 0]) 2 16 Try.underlying22 hi hz0 hz1 hz2 rfl (by decide) _ _ _ rfl (Hown.out.alloc _) ⟨wr.heap.size, 0, none⟩ 1 1 [.int .i64 p1, .int .i64 p2] rfl rfl Hnew.out ?c2 ?c3 ?c4 ?c5 ?_)
      case c2 => intro u hu; simp only [List.mem_cons, List.not_mem_nil, or_false] at hu; rcases hu with rfl | rfl <;> rfl
      case c3 => unfold maxLen; omega
      case c4 => omega
      case c5 => simp; omega
      intro v' w4 hown4 hgrow _
      have B4 := Lib.hid ((Hbel.out.alloc hsz _).grown hgrow (by simp; omega) (fun q hq => (Hown.out.lt q hq).1))
      have hown5 : Hid (w4.ownsRow w.heap.size 98 2 v' (k + 1) (flat2 (xs.reverse.take (k + 1)))) := by
        unfold Hid; rw [Ht.out, flat2_append]; exact hown4
      clear hown4 hgrow
      go_wp2
      go_roundw
      case rel => exact ⟨k + 1, _, by omega, rfl, by have := Hky.out; omega, hown5.out, B4.out⟩
      case measure => simp [intOf]
    · obtain rfl : k = n := by omega
      clear hx hown hbel
      go_wp2
      go_ret
      exact ⟨_, rfl, by rw [HL.out]; have := Hown.out; rwa [HTn.out] at this, Hbel.out⟩
end Go.Proofs.Ytiflhimmieflpaa
