/- Walks: slices.Clone over spans, cracks, ints. -/
import Derived.Test.YtiflhimmieflpaaW3
import Derived.Lib.LazyBuf
import Derived.Maps.AppendAt
namespace Go.Proofs.Ytiflhimmieflpaa
open Go.RowKit

theorem addr_add (b off j : Nat) : (⟨b, off, none⟩ : Addr).add j = ⟨b, off + j, none⟩ := by
  unfold Addr.add
  by_cases h : j = 0 <;> simp [h]
theorem ints_oneCell1 (xs : List Int) : ∀ u ∈ xs.map (Value.int .i64), u.oneCell' = true := by
  intro u hu
  simp only [List.mem_map] at hu
  obtain ⟨a, _, rfl⟩ := hu
  rfl
theorem flat2_oneCell (xs : List (Int × Int)) : ∀ u ∈ flat2 xs, u.oneCell' = true := by
  intro u hu
  simp only [flat2, List.mem_flatMap, List.mem_cons, List.not_mem_nil, or_false] at hu
  obtain ⟨a, _, h⟩ := hu
  rcases h with rfl | rfl <;> rfl
theorem flat6_oneCell (xs : List Crack) : ∀ u ∈ flat6 xs, u.oneCell' = true := by
  intro u hu
  simp only [flat6, Crack.cells, List.mem_flatMap, List.mem_cons, List.not_mem_nil, or_false] at hu
  obtain ⟨a, _, h⟩ := hu
  rcases h with rfl | rfl | rfl | rfl | rfl | rfl <;> rfl

theorem Try.infoInt : (Try.prog.info? 3).map (fun i => (i.zero, i.size, i.bytes)) = some (some (.int .i64 0), 1, 8) := by kernel_rfl
theorem Try.infoSpan : (Try.prog.info? 98).map (fun i => (i.zero, i.size, i.bytes)) = some (some (.agg #[.int .i64 0, .int .i64 0]), 2, 16) := by kernel_rfl
theorem Try.infoPlace : (Try.prog.info? 39).map (fun i => (i.zero, i.size, i.bytes)) = some (some (.agg #[.int .i64 0, .int .i64 0]), 2, 16) := by kernel_rfl
theorem Try.infoCrack : (Try.prog.info? 111).map (fun i => (i.zero, i.size, i.bytes)) = some (some (.agg #[.int .i64 0, .int .i64 0, .int .i64 0, .int .i64 0, .int .i64 0, .int .i64 0]), 6, 48) := by kernel_rfl
theorem Try.infoSplit : (Try.prog.info? 161).map (fun i => (i.zero, i.size, i.bytes)) = some (some (.agg #[.int .i64 0, .int .i64 0, .int .i64 0, .int .i64 0]), 4, 32) := by kernel_rfl

/-- What a clone is. -/
def Cloned (w : World) (t size n : Nat) (xs : List Value) (e : Ending) (w' : World) : Prop :=
  ∃ g cap, e = .returned (.slice (some ⟨g, 0, none⟩) n cap) ∧ w'.ownsRow w.heap.size t size (.slice (some ⟨g, 0, none⟩) n cap) n xs ∧ Below w.heap.size w w'

set_option maxRecDepth 100000 in
set_option maxHeartbeats 400000 in
theorem cloneSpan_any (b off n c : Nat) (xs : List (Int × Int)) (w : World) (h : Pairs w (some ⟨b, off, none⟩) n xs) (h0 : 0 < n) (hn : n ≤ 1000000) :
    Calls Try.prog 113 #[.slice (some ⟨b, off, none⟩) n c] w (Cloned w 98 2 n (flat2 xs)) := by
  obtain ⟨i0, hi, hz0, hz1, hz2⟩ := info_parts Try.infoSpan
  obtain ⟨b', off', hA, hb, hc⟩ := h.2 h0
  simp only [Option.some.injEq, Addr.mk.injEq, and_true] at hA
  obtain ⟨rfl, rfl⟩ := hA
  have hl := h.1
  have heq := fun w => Lib.run_eql_slice_nil (P := Try.prog) w 22 98 (some ⟨b, off, none⟩) n c 0 0 Try.underlying22
  have hm : n ≤ maxLen := by unfold maxLen; omega
  have hnews : ∀ j u, (flat2 xs)[j]? = some u → (w.alloc (.cells #[] 98)).cell? ((⟨b, off, none⟩ : Addr).add j) = some u := fun j u hj => by
    rw [addr_add, World.cell?_alloc_past _ _ _ hb]
    exact hc j u hj
  have hl' := Lib.hid hl
  have Hnews := Lib.hid hnews
  clear hl hnews hc h
  go_enter Try.func113, Try.ntmps113
  go_wp2_with (first
    | (at_builtin; refine wpList_append_own _ rfl _ _ 22 rfl w.heap.size 98 i0 (.agg #[.int .i64 0, .int .i64 0]) 2 16 Try.underlying22 hi hz0 hz1 hz2 rfl (by decide) _ _ _ rfl (World.ownsRow_lit w #[] 0 (Nat.le_refl _) (by decide) rfl) ⟨b, off, none⟩ n c (flat2 xs) rfl hl'.out Hnews.out ?c1 ?c2 ?c3 ?c4 ?_))
  case c1 => exact flat2_oneCell xs
  case c2 => simpa using hm
  case c3 => omega
  case c4 => simp
  intro v' w1 hown hgrow hnil
  have Hnil := Lib.hid hnil
  clear hnil
  go_wp2
  go_ret
  have hg : ∃ g cap, v' = .slice (some ⟨g, 0, none⟩) n cap := by
    rcases hown.2 with ⟨_, hz⟩ | ⟨g, cap, _, hv, _⟩
    · omega
    · exact ⟨g, cap, hv⟩
  obtain ⟨g, cap, rfl⟩ := hg
  exact ⟨g, cap, rfl, hown, ((Below.refl _ _).alloc (Nat.le_refl _) _).grown hgrow (by simp) (by rintro k hk; simp [Value.ownBlock] at hk; omega)⟩

set_option maxRecDepth 100000 in
set_option maxHeartbeats 400000 in
theorem cloneCrack_any (b off n c : Nat) (xs : List Crack) (w : World) (h : Cracks w (some ⟨b, off, none⟩) n xs) (h0 : 0 < n) (hn : n ≤ 1000000) :
    Calls Try.prog 108 #[.slice (some ⟨b, off, none⟩) n c] w (Cloned w 111 6 n (flat6 xs)) := by
  obtain ⟨i0, hi, hz0, hz1, hz2⟩ := info_parts Try.infoCrack
  obtain ⟨b', off', hA, hb, hc⟩ := h.2 h0
  simp only [Option.some.injEq, Addr.mk.injEq, and_true] at hA
  obtain ⟨rfl, rfl⟩ := hA
  have hl := h.1
  have heq := fun w => Lib.run_eql_slice_nil (P := Try.prog) w 23 111 (some ⟨b, off, none⟩) n c 0 0 Try.underlying23
  have hm : n ≤ maxLen := by unfold maxLen; omega
  have hnews : ∀ j u, (flat6 xs)[j]? = some u → (w.alloc (.cells #[] 111)).cell? ((⟨b, off, none⟩ : Addr).add j) = some u := fun j u hj => by
    rw [addr_add, World.cell?_alloc_past _ _ _ hb]
    exact hc j u hj
  have hl' := Lib.hid hl
  have Hnews := Lib.hid hnews
  clear hl hnews hc h
  go_enter Try.func108, Try.ntmps108
  go_wp2_with (first
    | (at_builtin; refine wpList_append_own _ rfl _ _ 23 rfl w.heap.size 111 i0 (.agg #[.int .i64 0, .int .i64 0, .int .i64 0, .int .i64 0, .int .i64 0, .int .i64 0]) 6 48 Try.underlying23 hi hz0 hz1 hz2 rfl (by decide) _ _ _ rfl (World.ownsRow_lit w #[] 0 (Nat.le_refl _) (by decide) rfl) ⟨b, off, none⟩ n c (flat6 xs) rfl hl'.out Hnews.out ?c1 ?c2 ?c3 ?c4 ?_))
  case c1 => exact flat6_oneCell xs
  case c2 => simpa using hm
  case c3 => omega
  case c4 => simp
  intro v' w1 hown hgrow hnil
  have Hnil := Lib.hid hnil
  clear hnil
  go_wp2
  go_ret
  have hg : ∃ g cap, v' = .slice (some ⟨g, 0, none⟩) n cap := by
    rcases hown.2 with ⟨_, hz⟩ | ⟨g, cap, _, hv, _⟩
    · omega
    · exact ⟨g, cap, hv⟩
  obtain ⟨g, cap, rfl⟩ := hg
  exact ⟨g, cap, rfl, hown, ((Below.refl _ _).alloc (Nat.le_refl _) _).grown hgrow (by simp) (by rintro k hk; simp [Value.ownBlock] at hk; omega)⟩
end Go.Proofs.Ytiflhimmieflpaa
