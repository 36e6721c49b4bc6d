/- Walks: slices.Delete of cracks. -/
import Derived.Test.YtiflhimmieflpaaW22
import Derived.ArgAppend
import Derived.Lib.SliceRun
namespace Go.Proofs.Ytiflhimmieflpaa
open Go.RowKit Go.Maps

theorem own_blk {w : World} {base : Nat} {e : TypeId} {size n cap g : Nat} {xs : List Value} (h : w.ownsRow base e size (.slice (some ⟨g, 0, none⟩) n cap) n xs) : ∃ cs : Array Value, Blk w g e cs ∧ n ≤ cap ∧ cs.size = cap * size ∧ cs.toList.take xs.length = xs ∧ xs.length = n * size ∧ base ≤ g := by
  obtain ⟨hl, ⟨hv, _⟩ | ⟨g', cap', cur, hv, hbase, hb, h1, h2, h3, h4⟩⟩ := h
  · simp at hv
  · simp only [Value.slice.injEq, Option.some.injEq, Addr.mk.injEq, and_true, true_and] at hv
    obtain ⟨rfl, rfl⟩ := hv
    exact ⟨cur, hb, h1, h3, by rw [hl]; exact h4, hl, hbase⟩
theorem run_clear_one (P : Program) (w : World) (t e ty : TypeId) (z : Value) (zs : List Value) (ht : P.underlying t = some (.slice e)) (hv : ∀ w, (zeroValue e).run P w = .ok z w) (hz : (Builtin.zeroCells z.cells 1).toList = zs) (h1 : ∀ v ∈ zs, v.oneCell' = true) (b o c : Nat)
    (hc : ∀ j, j < zs.length → (w.cell? ⟨b, o + j, none⟩).isSome = true) (hf : ∀ j, j < zs.length → w.frozen? ⟨b, o + j, none⟩ = false) :
    (Builtin.clear_ #[t] ty #[.slice (some ⟨b, o, none⟩) 1 c]).run P w = .ok (.tuple #[]) (w.setCells b o zs) := by
  have hst := run_storeCells_cells (P := P) b o zs 0 w (by simpa using hc) (by simpa using hf) h1
  simp only [Nat.add_zero] at hst
  simp [Builtin.clear_, run_underlying ht, hv, hz, hst]
theorem Try.zeroCrackRun (W : World) : (zeroValue 111).run Try.prog W = .ok (.agg #[.int .i64 0, .int .i64 0, .int .i64 0, .int .i64 0, .int .i64 0, .int .i64 0]) W := by kernel_rfl

theorem zeroCells_crack : (Builtin.zeroCells (Value.agg #[.int .i64 0, .int .i64 0, .int .i64 0, .int .i64 0, .int .i64 0, .int .i64 0]).cells 1).toList = [.int .i64 0, .int .i64 0, .int .i64 0, .int .i64 0, .int .i64 0, .int .i64 0] := by kernel_rfl
theorem flat6_take (cr : List Crack) (k : Nat) : flat6 (cr.take k) = (flat6 cr).take (k * 6) := by
  unfold flat6
  induction cr generalizing k with
  | nil => simp
  | cons a r ih =>
    cases k with
    | zero => simp
    | succ k =>
      rw [List.take_succ_cons, List.flatMap_cons, List.flatMap_cons, ih, List.take_append, List.take_of_length_le (l := a.cells) (by simp [Crack.cells]; omega)]
      rw [show (k + 1) * 6 - a.cells.length = k * 6 from by simp [Crack.cells]; omega]
theorem flat6_drop (cr : List Crack) (k : Nat) : flat6 (cr.drop k) = (flat6 cr).drop (k * 6) := by
  unfold flat6
  induction cr generalizing k with
  | nil => simp
  | cons a r ih =>
    cases k with
    | zero => simp
    | succ k =>
      rw [List.drop_succ_cons, List.flatMap_cons, ih, List.drop_append, List.drop_of_length_le (l := a.cells) (by simp [Crack.cells]; omega)]
      rw [show (k + 1) * 6 - a.cells.length = k * 6 from by simp [Crack.cells]; omega]
      rfl
theorem flat6_append (xs ys : List Crack) : flat6 (xs ++ ys) = flat6 xs ++ flat6 ys := by simp [flat6, List.flatMap_append]
theorem below_setCells' {B : Nat} {a : World} (b : Nat) (hb : B ≤ b) : ∀ (vs : List Value) (o : Nat) {w : World}, Below B a w → Below B a (w.setCells b o vs)
  | [], _, _, h => h
  | v :: r, o, _, h => below_setCells' b hb r (o + 1) (h.setCell (p := ⟨b, o, none⟩) hb v)
theorem some_setCells (b : Nat) : ∀ (vs : List Value) (o : Nat) (w : World) (x : Addr), (w.cell? x).isSome = true → ((w.setCells b o vs).cell? x).isSome = true
  | [], _, _, _, h => h
  | v :: r, o, w, x, h => by
    refine some_setCells b r (o + 1) _ x ?_
    by_cases e : x = ⟨b, o, none⟩
    · subst e
      obtain ⟨u, hu⟩ := Option.isSome_iff_exists.1 h
      rw [World.cell?_setCell_same _ _ _ hu]
      rfl
    · rw [World.cell?_setCell_other _ _ _ _ (fun e' => e e'.symm)]
      exact h
theorem cs_at {cs : Array Value} {xs : List Value} (h : cs.toList.take xs.length = xs) (j : Nat) (hj : j < xs.length) : cs[j]? = xs[j]? := by
  rw [← h, List.getElem?_take_of_lt hj]
  simp
theorem del_mem {W : World} {g k p : Nat} {t : TypeId} {cr : List Crack} {cs : Array Value} (hB : Blk W g t cs) (hs : (p + 1) * 6 ≤ cs.size) (ht : cs.toList.take (flat6 cr).length = flat6 cr) (hl : (flat6 cr).length = (p + 1) * 6) (hk : k < p + 1) (zs : List Value) :
    Cracks ((W.setCells g (k * 6) ((flat6 cr).drop ((k + 1) * 6))).setCells g (p * 6) zs) (some ⟨g, 0, none⟩) p (cr.eraseIdx k) := by
  have hc : ∀ j, j < (p + 1) * 6 → (W.cell? ⟨g, j, none⟩).isSome = true := fun j hj => by
    rw [hB.cell j, Array.getElem?_eq_getElem (by omega)]; rfl
  have hf : flat6 (cr.eraseIdx k) = (flat6 cr).take (k * 6) ++ (flat6 cr).drop ((k + 1) * 6) := by
    rw [List.eraseIdx_eq_take_drop_succ, flat6_append, flat6_take, flat6_drop]
  have hlen : (flat6 (cr.eraseIdx k)).length = p * 6 := by
    rw [hf, List.length_append, List.length_take, List.length_drop, hl]; omega
  refine ⟨hlen, fun _ => ⟨g, 0, rfl, ?_, fun j u hu => ?_⟩⟩
  · have h0 := some_setCells g zs (p * 6) _ ⟨g, 0, none⟩ (some_setCells g ((flat6 cr).drop ((k + 1) * 6)) (k * 6) W ⟨g, 0, none⟩ (hc 0 (by omega)))
    obtain ⟨v, hv⟩ := Option.isSome_iff_exists.1 h0
    exact lt_of_cell hv
  · have hj : j < p * 6 := by
      rw [← hlen]
      rcases Nat.lt_or_ge j (flat6 (cr.eraseIdx k)).length with h | h
      · exact h
      · rw [List.getElem?_eq_none h] at hu; simp at hu
    rw [Nat.zero_add, World.cell?_setCells_out _ _ _ _ _ (fun _ _ => .inl hj)]
    rw [hf] at hu
    by_cases hjk : j < k * 6
    · rw [World.cell?_setCells_out _ _ _ _ _ (fun _ _ => .inl hjk), hB.cell j, cs_at ht j (by omega)]
      rwa [List.getElem?_append_left (by rw [List.length_take]; omega), List.getElem?_take_of_lt hjk] at hu
    · obtain ⟨i, rfl⟩ : ∃ i, j = k * 6 + i := ⟨j - k * 6, by omega⟩
      have hi : i < ((flat6 cr).drop ((k + 1) * 6)).length := by rw [List.length_drop, hl]; omega
      rw [World.cell?_setCells_in g _ _ _ (fun q hq => hc _ (by rw [List.length_drop, hl] at hq; omega)) i hi]
      rw [List.getElem?_append_right (by rw [List.length_take]; omega)] at hu
      rw [show k * 6 + i - ((flat6 cr).take (k * 6)).length = i from by rw [List.length_take]; omega, List.getElem?_eq_getElem hi] at hu
      exact hu

def DeleteRes (base g m cap : Nat) (cr : List Crack) (k : Nat) (w : World) (e : Ending) (w' : World) : Prop :=
  e = .returned (.slice (some ⟨g, 0, none⟩) m cap) ∧ Cracks w' (some ⟨g, 0, none⟩) m (cr.eraseIdx k) ∧ Below base w w'

set_option maxRecDepth 100000 in
set_option maxHeartbeats 2000000 in
theorem Delete_any (base g p cap k : Nat) (cr : List Crack) (w : World) (h : w.ownsRow base 111 6 (.slice (some ⟨g, 0, none⟩) (p + 1) cap) (p + 1) (flat6 cr)) (hk : k < p + 1) (hm : p ≤ 3) :
    Calls Try.prog 107 #[.slice (some ⟨g, 0, none⟩) (p + 1) cap, .int .i64 k, .int .i64 ((k : Int) + 1)] w (DeleteRes base g p cap cr k w) := by
  obtain ⟨i0, hi, hz0, hz1, hz2⟩ := info_parts Try.infoCrack
  obtain ⟨cs, hB, h1, h2, h3, h4, h5⟩ := own_blk h
  have hsz : (p + 1) * 6 ≤ cs.size := by rw [h2]; exact Nat.mul_le_mul_right _ h1
  have HD : Hid (Cracks ((w.drew.setCells g (k * 6) ((flat6 cr).drop ((k + 1) * 6))).setCells g (p * 6) [.int .i64 0, .int .i64 0, .int .i64 0, .int .i64 0, .int .i64 0, .int .i64 0]) (some ⟨g, 0, none⟩) p (cr.eraseIdx k)) := del_mem (W := w.drew) hB hsz h3 h4 hk _
  have HBl : Hid (Below base w ((w.drew.setCells g (k * 6) ((flat6 cr).drop ((k + 1) * 6))).setCells g (p * 6) [.int .i64 0, .int .i64 0, .int .i64 0, .int .i64 0, .int .i64 0, .int .i64 0])) := below_setCells' g h5 _ _ (below_setCells' g h5 _ _ (Below.drew (Below.refl _ _)))
  have HS : Hid (∀ j, j < (p + 1) * 6 → (w.drew.cell? ⟨g, j, none⟩).isSome = true ∧ w.drew.frozen? ⟨g, j, none⟩ = false) := fun j hj => ⟨by
    have := hB.cell j
    rw [Array.getElem?_eq_getElem (by omega)] at this
    change (w.cell? ⟨g, j, none⟩).isSome = true
    rw [this]; rfl, hB.frozen j⟩
  have HCl : Hid (∀ ty c, (Builtin.clear_ #[23] ty #[.slice (some ⟨g, p * 6, none⟩) 1 c]).run Try.prog (w.drew.setCells g (k * 6) ((flat6 cr).drop ((k + 1) * 6))) = .ok (.tuple #[]) ((w.drew.setCells g (k * 6) ((flat6 cr).drop ((k + 1) * 6))).setCells g (p * 6) [.int .i64 0, .int .i64 0, .int .i64 0, .int .i64 0, .int .i64 0, .int .i64 0])) := fun ty c =>
    run_clear_one Try.prog _ 23 111 ty _ _ Try.underlying23 Try.zeroCrackRun zeroCells_crack (by intro v hv; simp only [List.mem_cons, List.not_mem_nil, or_false] at hv; rcases hv with rfl | rfl | rfl | rfl | rfl | rfl <;> rfl) g (p * 6) c (fun j hj => some_setCells _ _ _ _ _ (HS.out _ (by simp at hj; omega)).1) (fun j hj => by rw [World.frozen?_setCells]; exact (HS.out _ (by simp at hj; omega)).2)
  have Hl := Lib.hid h4
  have Hlen : Hid (∀ j, j < (flat6 cr).length → (flat6 cr)[j]? = w.drew.cell? ⟨g, j, none⟩) := fun j hj => ((hB.cell j).trans (cs_at h3 j hj)).symm
  have H1 := Lib.hid h1
  clear h hB h2 h3 h4 h5 hsz h1
  have f1 : k ≤ cap := by have := H1.out; omega
  have f2 : (k : Int) ≤ (cap : Int) := by omega
  have f3 : k + 1 ≤ p + 1 := by omega
  have f4 : (k : Int) + 1 ≤ ((p + 1 : Nat) : Int) := by omega
  have f5 : ((k : Int) + 1).toNat = k + 1 := by omega
  have f6 : (0 : Int) ≤ (k : Int) + 1 := by omega
  have f7 : p + 1 ≤ cap := H1.out
  have f8 : (p : Int) + 1 ≤ (cap : Int) := by omega
  have f9 : k ≤ p := by omega
  have f10 : (k : Int) + 1 ≤ (p : Int) + 1 := by omega
  obtain ⟨q, hq, hqk⟩ : ∃ q, (if cap = k + 1 then some (⟨g, 0, none⟩ : Addr) else some ⟨g, (k + 1) * 6, none⟩) = some ⟨g, q, none⟩ ∧ (k < p → q = (k + 1) * 6) := by
    by_cases e : cap = k + 1
    · exact ⟨0, by rw [if_pos e], fun h => by omega⟩
    · exact ⟨_, by rw [if_neg e], fun _ => rfl⟩
  have Hq := Lib.hid hq
  have Hqk := Lib.hid hqk
  clear hq hqk
  go_enter Try.func107, Try.ntmps107
  go_wp2_with fail
  go_still_tail 6, (by kernel_rfl)
  change wpList _ _ _ _ _ w.drew
  rw [Hq.out]
  refine wpList_append_arg _ rfl _ _ 23 rfl 111 i0 (.agg #[.int .i64 0, .int .i64 0, .int .i64 0, .int .i64 0, .int .i64 0, .int .i64 0]) 6 48 Try.underlying23 hi hz0 hz1 hz2 rfl (by decide) g 0 k cap ((flat6 cr).take (k * 6)) rfl ?c1 ?c2 ⟨g, q, none⟩ (p - k) (cap - (k + 1)) ((flat6 cr).drop ((k + 1) * 6)) rfl ?c3 ?c4 ?c5 ?c6 ?c7 ?c8 ?c9 ?c10
  case c1 => rw [List.length_take, Hl.out]; omega
  case c2 =>
    intro j u hj
    have hlt : j < k * 6 := by
      rcases Nat.lt_or_ge j (k * 6) with h | h
      · exact h
      · rw [List.getElem?_eq_none (by rw [List.length_take]; omega)] at hj; simp at hj
    rw [List.getElem?_take_of_lt hlt, Hlen.out j (by rw [Hl.out]; omega)] at hj
    rw [Nat.zero_add]; exact hj
  case c3 => rw [List.length_drop, Hl.out]; omega
  case c4 =>
    intro j u hj
    have hlt : j < (p - k) * 6 := by
      rcases Nat.lt_or_ge j ((p - k) * 6) with h | h
      · exact h
      · rw [List.getElem?_eq_none (by rw [List.length_drop, Hl.out]; omega)] at hj; simp at hj
    have e := Hqk.out (by omega)
    subst e
    rw [List.getElem?_drop, Hlen.out _ (by rw [Hl.out]; omega)] at hj
    rw [addr_add]; exact hj
  case c5 => intro u hu; exact flat6_oneCell cr u (List.mem_of_mem_drop hu)
  case c6 => intro _ j hj; exact HS.out _ (by rw [List.length_drop, Hl.out] at hj; omega)
  case c7 => unfold maxLen; omega
  case c8 => omega
  case c10 => intro h; omega
  case c9 =>
    intro _
    have e1 : k + (p - k) = p := by omega
    rw [e1, Nat.zero_add]
    generalize hW : w.drew.setCells g (k * 6) ((flat6 cr).drop ((k + 1) * 6)) = W at *
    clear hW e1 Hq Hqk Hlen Hl HS
    have hcl := HCl.out
    have f11 : ¬ cap = p := by omega
    have f12 : p ≤ cap := by omega
    have f13 : (p : Int) ≤ (p : Int) + 1 := by omega
    go_wp2_with fail
    go_ret
    exact ⟨rfl, HD.out, HBl.out⟩
end Go.Proofs.Ytiflhimmieflpaa
