/- Walks: the copy of the law's sticks, with the row that it owns. -/
import Derived.Test.YtdekickmplkdiaaUe
namespace Go.Proofs.Ytdekickmplkdiaa
open Go.RowKit

theorem own_lessT {w : World} {b base n size : Nat} {e : TypeId} {v : Value} {xs : List Value} (h : w.ownsRow base e size v n xs) (hb : b ≤ base) : w.ownsRow b e size v n xs := by
  refine ⟨h.1, h.2.imp_right ?_⟩
  rintro ⟨g, cap, cur, h1, h2, h3⟩
  exact ⟨g, cap, cur, h1, Nat.le_trans hb h2, h3⟩
theorem run_append_copyT {P : Program} (w : World) (t ty : TypeId) (i : TypeInfo) (z : Value) (bytes : Nat) (ht : P.underlying t = some (.slice 106)) (hi : P.info? 106 = some i) (hz : i.zero = some z) (hs : i.size = 5) (hby : i.bytes = bytes) (hzs : z.cells.size = 5)
    (base g : Nat) (hg : base ≤ g) (hB : Blk w g 106 #[]) (A : Option Addr) (n c : Nat) (xs : List Stk) (hr : Stks w A n xs) (hn : n ≤ maxLen) (hb : n * bytes ≤ 140737488355328) (hbw : base ≤ w.heap.size) :
    ∃ A' c' w', (Builtin.append_ #[t, t] ty #[.slice (some ⟨g, 0, none⟩) 0 0, .slice A n c]).run P w = .ok (.slice A' n c') w' ∧ w'.ownsRow base 106 5 (.slice A' n c') n (flatT xs) ∧ Below w.heap.size w w' := by
  rcases Nat.eq_zero_or_pos n with rfl | hpos
  · have hx : xs = [] := List.eq_nil_of_length_eq_zero hr.len
    subst hx
    refine ⟨some ⟨g, 0, none⟩, 0, w, ?_, ⟨rfl, Or.inr ⟨g, 0, #[], rfl, hg, hB, Nat.le_refl _, Nat.zero_le _, rfl, rfl⟩⟩, Below.refl _ _⟩
    cases A with
    | none => simp [Builtin.append_, run_underlying ht, sizeOf, typeInfo, hi, Builtin.lenOf, Builtin.firstCells, storeCells]
    | some ad => simp [Builtin.append_, run_underlying ht, sizeOf, typeInfo, hi, Builtin.lenOf, Builtin.firstCells, storeCells, loadCells, loadCellsFrom]
  · obtain ⟨b, o, rfl, hlt, hc⟩ := hr.2 hpos
    obtain ⟨v', w', hrun, hown, hgr⟩ := run_append_arg_grows (P := P) w t ty 106 i z 5 bytes ht hi hz hs hby hzs (by decide) ⟨g, 0, none⟩ 0 0 [] (by simp) (by simp) ⟨b, o, none⟩ n c (flatT xs) hr.1 (fun j u hu => by rw [addr_add]; exact hc j u hu) (by omega) (by omega) (by rw [Nat.zero_add]; exact hb)
    simp only [Nat.zero_add, List.nil_append] at hown
    obtain ⟨g', c', rfl⟩ := own_form hown hpos
    exact ⟨_, _, w', hrun, own_lessT hown hbw, grown_none hgr⟩
theorem wpList_append_copyT {P : Program} {ops : Array Oper} {rest : List Oper} {o : Oper} {a : Act} {w : World} {Q : Exit → Act → World → Prop} (hgd : o.guard = none) (s x : Operand) (t : TypeId)
    (ho : o.op = .call { callee := .builtin .append, args := #[s, x], argTypes := #[t, t] })
    (i : TypeInfo) (z : Value) (bytes : Nat) (ht : P.underlying t = some (.slice 106)) (hi : P.info? 106 = some i) (hz : i.zero = some z) (hsz : i.size = 5) (hby : i.bytes = bytes) (hzs : z.cells.size = 5)
    (base g : Nat) (hbg : base ≤ g) (hB : Blk w g 106 #[]) (hs : a.eval s = .slice (some ⟨g, 0, none⟩) 0 0) (A : Option Addr) (n c : Nat) (hx : a.eval x = .slice A n c) (xs : List Stk) (hr : Stks w A n xs) (hn : n ≤ maxLen) (hb : n * bytes ≤ 140737488355328) (hbw : base ≤ w.heap.size)
    (h : ∀ A' c' w', w'.ownsRow base 106 5 (.slice A' n c') n (flatT xs) → Below w.heap.size w w' → wpList P ops Q rest (a.put o.dst (.slice A' n c')) w') : wpList P ops Q (o :: rest) a w := by
  refine wpList_plain hgd fun K hK => ?_
  obtain ⟨A', c', w', hrun, h1, h2⟩ := run_append_copyT (P := P) w t o.type i z bytes ht hi hz hsz hby hzs base g hbg hB A n c xs hr hn hb hbw
  unfold Oper.wp
  simp [execOp, ho, resolve, invoke, builtin, hs, hx, hrun, Result.andThen]
  exact hK _ _ (h A' c' w' h1 h2)
def OwnTRes (w : World) (l : List Stk) (n : Nat) (e : Ending) (w' : World) : Prop := ∃ A c, e = .returned (.slice A n c) ∧ w'.ownsRow w.heap.size 106 5 (.slice A n c) n (flatT l) ∧ Below w.heap.size w w'
set_option maxRecDepth 100000 in
set_option maxHeartbeats 1000000 in
theorem LawOwn_row (l : List Stk) (A : Option Addr) (n c : Nat) (w : World) (h : Stks w A n l) (hn : n ≤ 1000) :
    Calls Try.prog 39 #[.slice A n c] w (OwnTRes w l n) := by
  obtain ⟨i0, hi, hz0, hz1, hz2⟩ := info_parts Try.infoStk
  have B0 := Lib.hid (below_self w (.cells #[] 106))
  have NB := Lib.hid (Blk.new w 106 #[] (g := w.heap.size) rfl)
  have HG := Lib.hid (h.below B0.out)
  clear h
  go_enter Try.func39, Try.ntmps39
  go_wp2_with (at_builtin; refine wpList_append_copyT rfl _ _ 64 rfl i0 _ 40 Try.underlying64 hi hz0 hz1 hz2 rfl w.heap.size w.heap.size (Nat.le_refl _) NB.out (by rfl) A n c (by rfl) _ HG.out (by unfold maxLen; omega) (by omega) B0.out.size ?_; intro A' c' w2 hR hb; have R2 := Lib.hid hR; have B2 := Lib.hid (below_then B0.out hb); clear hR hb)
  go_ret
  exact ⟨A', c', rfl, R2.out, B2.out⟩
end Go.Proofs.Ytdekickmplkdiaa
