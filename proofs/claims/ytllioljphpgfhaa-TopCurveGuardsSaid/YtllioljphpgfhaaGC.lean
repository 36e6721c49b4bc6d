/- Walks: guardsError, Alike, and an example. -/
import Derived.Test.YtllioljphpgfhaaGB
namespace Go.Proofs.Ytllioljphpgfhaa
open Go.RowKit

set_option maxHeartbeats 1000000 in
theorem indexWrong_any (A : Option Addr) (n c : Nat) (xs : List Gd) (w : World) (h : Gds w A n xs) (hn : n ≤ maxLen) :
    Calls Try.prog 50 #[.slice A n c, .func (.func 32) #[] #[]] w
      fun e w' => e = .returned (.int .i64 (idx (wrongB) xs)) ∧ Below w.heap.size w w' := by
  unfold maxLen at hn
  have hl := h.len
  have Hcall := Lib.hid (fun (k : Nat) (_ : k < n) W (_ : Below w.heap.size w W) (hat : (xs.getD k Gd.zero).At W) => wrongGd_any (xs.getD k Gd.zero) W hat)
  generalize (wrongB) = p at *
  go_enter Try.func50, Try.ntmps50
  go_wp2
  go_loopw [8] (fun i wr => ∃ k : Nat, k ≤ n ∧ i = .int .i64 k ∧ noneOf p (xs.take k) = true ∧ Below w.heap.size w wr) (fun i _ => n - (intOf i).toNat)
  case atStart => exact ⟨0, Nat.zero_le _, rfl, rfl, Below.refl _ _⟩
  case round =>
    obtain ⟨k, hk, rfl, hin, hbel⟩ := hrel
    by_cases hlt : k < n
    · obtain ⟨bb, off, rfl, hb, hc0, hc1, hat⟩ := (h.below hbel).at_ hlt
      have H := Lib.hid (noneOf_succ (p := p) Gd.zero (xs := xs) (k := k) (by omega))
      have Hin := Lib.hid hin
      have Hit := Lib.hid (idx_hit (p := p) Gd.zero (xs := xs) (k := k) (by omega) hin)
      clear hin hl
      have C := Lib.hid (Hcall.out k hlt wr hbel hat)
      clear hat Hcall
      generalize xs.getD k Gd.zero = y at *
      obtain ⟨yw, yA, yn, yc, yx⟩ := y
      simp only [Gd.val] at *
      generalize hpy : p ⟨yw, yA, yn, yc, yx⟩ = q at *
      cases q
      · go_wp2_with (go_at_call 32; refine C.out.mono ?_; rintro e w2 ⟨rfl, hb2⟩)
        go_roundw
        case rel => exact ⟨k + 1, by omega, by go_num, by rw [H.out, Hin.out]; rfl, hbel.trans (hb2.mono hbel.size)⟩
        case measure => simp [intOf]; omega
      · go_wp2_with (go_at_call 32; refine C.out.mono ?_; rintro e w2 ⟨rfl, hb2⟩)
        go_ret
        exact ⟨ret_int (Hit.out (by simp)).symm, hbel.trans (hb2.mono hbel.size)⟩
    · have he : idx p xs = -1 := idx_none (by rw [← hin, List.take_of_length_le (by omega)])
      clear hin
      have He := Lib.hid he
      clear he
      go_wp2
      go_ret
      exact ⟨ret_int He.out.symm, hbel⟩
theorem containsWrong_any (A : Option Addr) (n c : Nat) (xs : List Gd) (w : World) (h : Gds w A n xs) (hn : n ≤ maxLen) :
    Calls Try.prog 33 #[.slice A n c, .func (.func 32) #[] #[]] w
      fun e w' => e = .returned (.bool (xs.any (wrongB))) ∧ Below w.heap.size w w' := by
  have C := Lib.hid (indexWrong_any A n c xs w h hn)
  have HE := Lib.hid (idx_any (p := (wrongB)) (xs := xs))
  generalize (xs.any (wrongB)) = r at *
  generalize idx (wrongB) xs = i at *
  go_enter Try.func33, Try.ntmps33
  go_wp2_with (go_at_call 50; refine C.out.mono ?_; rintro e w2 ⟨rfl, hb2⟩)
  go_ret
  exact ⟨ret_bool HE.out, hb2⟩

set_option maxHeartbeats 1000000 in
theorem indexOdd_any (B : Nat) (A : Option Addr) (n c : Nat) (xs : List Gd) (w : World) (h : Gds w A n xs) (hn : n ≤ maxLen) (hB : w.cell? ⟨B, 0, none⟩ = some (.slice A n c)) :
    Calls Try.prog 50 #[.slice A n c, .func (.func 31) #[] #[.pointer (some ⟨B, 0, none⟩)]] w
      fun e w' => e = .returned (.int .i64 (idx (oddB (xs.getD 0 Gd.zero).n) xs)) ∧ Below w.heap.size w w' := by
  unfold maxLen at hn
  have hl := h.len
  have Hcall : Hid (∀ (k : Nat), k < n → ∀ W : World, Below w.heap.size w W → (xs.getD k Gd.zero).At W → Calls Try.prog 31 #[(xs.getD k Gd.zero).val, .pointer (some ⟨B, 0, none⟩)] W fun e w' => e = .returned (.bool (oddB (xs.getD 0 Gd.zero).n (xs.getD k Gd.zero))) ∧ Below W.heap.size W w') := fun k hk W hb hat => by
    obtain ⟨b0, o0, rfl, -, -, h1, -⟩ := (h.below hb).at_ (k := 0) (by omega)
    rw [Nat.zero_mul, Nat.add_zero] at h1
    exact oddGd_any (xs.getD k Gd.zero) B b0 o0 n c (xs.getD 0 Gd.zero) W hat.2 ((hb.cell (p := ⟨B, 0, none⟩) (block_lt_of_cell hB)).trans hB) (by omega) h1
  generalize (oddB (xs.getD 0 Gd.zero).n) = p at *
  go_enter Try.func50, Try.ntmps50
  go_wp2
  go_loopw [8] (fun i wr => ∃ k : Nat, k ≤ n ∧ i = .int .i64 k ∧ noneOf p (xs.take k) = true ∧ Below w.heap.size w wr) (fun i _ => n - (intOf i).toNat)
  case atStart => exact ⟨0, Nat.zero_le _, rfl, rfl, Below.refl _ _⟩
  case round =>
    obtain ⟨k, hk, rfl, hin, hbel⟩ := hrel
    by_cases hlt : k < n
    · obtain ⟨bb, off, rfl, hb, hc0, hc1, hat⟩ := (h.below hbel).at_ hlt
      have H := Lib.hid (noneOf_succ (p := p) Gd.zero (xs := xs) (k := k) (by omega))
      have Hin := Lib.hid hin
      have Hit := Lib.hid (idx_hit (p := p) Gd.zero (xs := xs) (k := k) (by omega) hin)
      clear hin hl
      have C := Lib.hid (Hcall.out k hlt wr hbel hat)
      clear hat Hcall
      generalize xs.getD k Gd.zero = y at *
      obtain ⟨yw, yA, yn, yc, yx⟩ := y
      simp only [Gd.val] at *
      generalize hpy : p ⟨yw, yA, yn, yc, yx⟩ = q at *
      cases q
      · go_wp2_with (go_at_call 31; refine C.out.mono ?_; rintro e w2 ⟨rfl, hb2⟩)
        go_roundw
        case rel => exact ⟨k + 1, by omega, by go_num, by rw [H.out, Hin.out]; rfl, hbel.trans (hb2.mono hbel.size)⟩
        case measure => simp [intOf]; omega
      · go_wp2_with (go_at_call 31; refine C.out.mono ?_; rintro e w2 ⟨rfl, hb2⟩)
        go_ret
        exact ⟨ret_int (Hit.out (by simp)).symm, hbel.trans (hb2.mono hbel.size)⟩
    · have he : idx p xs = -1 := idx_none (by rw [← hin, List.take_of_length_le (by omega)])
      clear hin
      have He := Lib.hid he
      clear he
      go_wp2
      go_ret
      exact ⟨ret_int He.out.symm, hbel⟩
theorem containsOdd_any (B : Nat) (A : Option Addr) (n c : Nat) (xs : List Gd) (w : World) (h : Gds w A n xs) (hn : n ≤ maxLen) (hB : w.cell? ⟨B, 0, none⟩ = some (.slice A n c)) :
    Calls Try.prog 33 #[.slice A n c, .func (.func 31) #[] #[.pointer (some ⟨B, 0, none⟩)]] w
      fun e w' => e = .returned (.bool (xs.any (oddB (xs.getD 0 Gd.zero).n))) ∧ Below w.heap.size w w' := by
  have C := Lib.hid (indexOdd_any B A n c xs w h hn hB)
  have HE := Lib.hid (idx_any (p := (oddB (xs.getD 0 Gd.zero).n)) (xs := xs))
  generalize (xs.any (oddB (xs.getD 0 Gd.zero).n)) = r at *
  generalize idx (oddB (xs.getD 0 Gd.zero).n) xs = i at *
  go_enter Try.func33, Try.ntmps33
  go_wp2_with (go_at_call 50; refine C.out.mono ?_; rintro e w2 ⟨rfl, hb2⟩)
  go_ret
  exact ⟨ret_bool HE.out, hb2⟩

def guardsErr (gs : List Gd) (g : Gg) : Int := if gs.any (oddB (gs.getD 0 Gd.zero).n) = true then 4 else if gs.any wrongB = true then 2 else if ggOk g = false then 3 else 0

set_option maxRecDepth 100000 in
set_option maxHeartbeats 4000000 in
theorem guardsError_any (gs : List Gd) (g : Gg) (A : Option Addr) (n c : Nat) (w : World) (h : Gds w A n gs) (hn : n ≤ maxLen) :
    Calls Try.prog 15 #[g.val, .slice A n c] w fun e w' => e = .returned (.int .i64 (guardsErr gs g)) ∧ Below w.heap.size w w' := by
  have HO := Lib.hid (fun W B (hb : Below w.heap.size w W) (hB : W.cell? ⟨B, 0, none⟩ = some (.slice A n c)) => containsOdd_any B A n c gs W (h.below hb) hn hB)
  have HW := Lib.hid (fun W (hb : Below w.heap.size w W) => containsWrong_any A n c gs W (h.below hb) hn)
  have HE : Hid (guardsErr gs g = if gs.any (oddB (gs.getD 0 Gd.zero).n) = true then 4 else if gs.any wrongB = true then 2 else if ggOk g = false then 3 else 0) := rfl
  have HG : Hid (ggOk g = (within 0 100 [g.sc, g.ga] && (within 0 10000 [g.wt] && within 0 500 [g.cu]))) := rfl
  generalize gs.any (oddB (gs.getD 0 Gd.zero).n) = odd at *
  generalize gs.any wrongB = wrong at *
  generalize ggOk g = ok at *
  generalize guardsErr gs g = r at *
  clear h
  obtain ⟨sc, ga, wt, cu⟩ := g
  simp only [Gg.val] at *
  have B1 := Lib.hid (below_alloc' (below_self w (.cells #[.int .i64 sc, .int .i64 ga, .int .i64 wt, .int .i64 cu] 39)) (.cells #[.slice A n c] 83))
  have P1 := Lib.hid ((Blk.new w 39 #[.int .i64 sc, .int .i64 ga, .int .i64 wt, .int .i64 cu] (g := w.heap.size) rfl).alloc (.cells #[.slice A n c] 83))
  have P2 := Lib.hid (Blk.new (w.alloc (.cells #[.int .i64 sc, .int .i64 ga, .int .i64 wt, .int .i64 cu] 39)) 83 #[.slice A n c] (g := w.heap.size + 1) (by simp))
  go_enter Try.func15, Try.ntmps15
  go_wp2_with fail
  generalize hW1 : (w.alloc (.cells #[.int .i64 sc, .int .i64 ga, .int .i64 wt, .int .i64 cu] 39)).alloc (.cells #[.slice A n c] 83) = W1 at *
  refine (HO.out W1 _ B1.out (P2.out.cell 0)).mono ?_
  rintro e W2 ⟨rfl, b2⟩
  have B2 := Lib.hid (below_then B1.out b2)
  have p1 := Lib.hid (blk_keep b2 P1.out)
  have c2 := (blk_keep b2 P2.out).cell 0
  clear hW1 b2 P1 P2 B1 HO
  cases odd
  case true =>
    go_wp2_with fail
    go_ret
    exact ⟨ret_int (by rw [HE.out]; rfl), B2.out⟩
  go_wp2_with fail
  refine (HW.out W2 B2.out).mono ?_
  rintro e W3 ⟨rfl, b3⟩
  have B3 := Lib.hid (below_then B2.out b3)
  have P3 := Lib.hid (blk_keep b3 p1.out)
  clear b3 p1 c2 B2 HW
  cases wrong
  case true =>
    go_wp2_with fail
    go_ret
    exact ⟨ret_int (by rw [HE.out]; rfl), B3.out⟩
  have q3 := gg_get P3.out
  have qs := Lib.hid (fun (o : Obj) => gg_get (P3.out.alloc o))
  have R3 := Lib.hid (HE.out)
  cases x1 : within 0 100 [sc, ga]
  case false =>
    go_wp2_with fail
    refine (within2 _ _ _ _ _ _ _ rfl).mono ?_
    rintro e W4 ⟨rfl, rfl⟩
    rw [x1]
    go_wp2_with fail
    go_ret
    exact ⟨ret_int (by rw [HE.out, HG.out, x1]; rfl), below_alloc' B3.out _⟩
  cases x2 : within 0 10000 [wt]
  case false =>
    go_wp2_with fail
    refine (within2 _ _ _ _ _ _ _ rfl).mono ?_
    rintro e W4 ⟨rfl, rfl⟩
    rw [x1]
    have q4 := qs.out (.cells #[.int .i64 sc, .int .i64 ga] 3)
    have B4 := Lib.hid (below_alloc' B3.out (.cells #[.int .i64 sc, .int .i64 ga] 3))
    generalize W3.alloc (.cells #[.int .i64 sc, .int .i64 ga] 3) = W4 at *
    go_wp2_with fail
    refine (within1 _ _ _ _ _ _ rfl).mono ?_
    rintro e W5 ⟨rfl, rfl⟩
    rw [x2]
    go_wp2_with fail
    go_ret
    exact ⟨ret_int (by rw [HE.out, HG.out, x1, x2]; rfl), below_alloc' B4.out _⟩
  · go_wp2_with fail
    refine (within2 _ _ _ _ _ _ _ rfl).mono ?_
    rintro e W4 ⟨rfl, rfl⟩
    rw [x1]
    have q4 := qs.out (.cells #[.int .i64 sc, .int .i64 ga] 3)
    have P4 := Lib.hid (P3.out.alloc (.cells #[.int .i64 sc, .int .i64 ga] 3))
    have B4 := Lib.hid (below_alloc' B3.out (.cells #[.int .i64 sc, .int .i64 ga] 3))
    clear q3 qs
    generalize W3.alloc (.cells #[.int .i64 sc, .int .i64 ga] 3) = W4 at *
    go_wp2_with fail
    refine (within1 _ _ _ _ _ _ rfl).mono ?_
    rintro e W5 ⟨rfl, rfl⟩
    rw [x2]
    have q5 := gg_get (P4.out.alloc (.cells #[.int .i64 wt] 3))
    have B5 := Lib.hid (below_alloc' B4.out (.cells #[.int .i64 wt] 3))
    clear q4
    generalize W4.alloc (.cells #[.int .i64 wt] 3) = W5 at *
    cases x3 : within 0 500 [cu]
    · go_wp2_with fail
      refine (within1 _ _ _ _ _ _ rfl).mono ?_
      rintro e W6 ⟨rfl, rfl⟩
      rw [x3]
      go_wp2_with fail
      go_ret
      exact ⟨ret_int (by rw [HE.out, HG.out, x1, x2, x3]; rfl), below_alloc' B5.out _⟩
    · go_wp2_with fail
      refine (within1 _ _ _ _ _ _ rfl).mono ?_
      rintro e W6 ⟨rfl, rfl⟩
      rw [x3]
      go_wp2_with fail
      go_ret
      exact ⟨ret_int (by rw [HE.out, HG.out, x1, x2, x3]; rfl), below_alloc' B5.out _⟩
end Go.Proofs.Ytllioljphpgfhaa
