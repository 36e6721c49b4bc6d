/- Walks: whether a stick touches one of those before it. -/
import Derived.Test.YtiflhimmieflpaaW60
namespace Go.Proofs.Ytiflhimmieflpaa
open Go.RowKit Go.Maps

set_option maxHeartbeats 1000000 in
theorem touch1_any (S : Sawing) (b b' : Addr) (n0 c0 c0' : Nat) (K : Option Addr) (m d : Nat) (px py qx qy : Int) (Bw Bp : Nat) (w : World) (hs : SawBounds S) (h1 : SmallI px) (h2 : SmallI py) (h3 : SmallI qx) (h4 : SmallI qy)
    (hw : Blk w Bw 120 #[.int .i64 S.long, .int .i64 S.wide, .int .i64 S.kerf, .int .i64 S.across, .slice (some b) n0 c0, .slice (some b') n0 c0', .slice K m d]) (hp : Blk w Bp 39 #[.int .i64 px, .int .i64 py]) :
    Calls Try.prog 74 #[.agg #[.int .i64 qx, .int .i64 qy], .pointer (some ⟨Bw, 0, none⟩), .pointer (some ⟨Bp, 0, none⟩)] w fun e w' => e = .returned (.bool (!apartB ⟨S.long, S.wide, S.kerf, S.across⟩ px py qx qy)) ∧ Below w.heap.size w w' := by
  have B1 := Lib.hid (below_self w (.cells #[.int .i64 qx, .int .i64 qy] 39))
  have HC := Lib.hid (fun W => apart_any S b b' n0 c0 c0' K m d px py qx qy W hs h1 h2 h3 h4)
  have z := (hw.alloc (.cells #[.int .i64 qx, .int .i64 qy] 39)).cell
  have p := (hp.alloc (.cells #[.int .i64 qx, .int .i64 qy] 39)).cell
  unfold sawVal at HC
  clear hw hp hs h1 h2 h3 h4
  go_enter Try.func74, Try.ntmps74
  go_wp2_with fail
  refine (HC.out _).mono ?_
  rintro e w2 ⟨rfl, hb⟩
  have B2 := Lib.hid (below_then B1.out hb)
  clear hb z p
  go_wp2
  go_ret
  exact ⟨rfl, B2.out⟩

set_option maxHeartbeats 1000000 in
theorem indexTouch_any (S : Sawing) (b b' : Addr) (n0 c0 c0' : Nat) (K : Option Addr) (m d : Nat) (px py : Int) (Bw Bp : Nat) (A : Option Addr) (n c : Nat) (xs : List (Int × Int)) (w : World) (hs : SawBounds S) (h1 : SmallI px) (h2 : SmallI py) (hxs : ∀ q ∈ xs, SmallI q.1 ∧ SmallI q.2) (hw : Blk w Bw 120 #[.int .i64 S.long, .int .i64 S.wide, .int .i64 S.kerf, .int .i64 S.across, .slice (some b) n0 c0, .slice (some b') n0 c0', .slice K m d]) (hp : Blk w Bp 39 #[.int .i64 px, .int .i64 py])
    (h : Pairs w A n xs) (hn : n ≤ maxLen) :
    Calls Try.prog 104 #[.slice A n c, .func (.func 74) #[] #[.pointer (some ⟨Bw, 0, none⟩), .pointer (some ⟨Bp, 0, none⟩)]] w
      fun e w' => e = .returned (.int .i64 (idx (fun q : Int × Int => !apartB ⟨S.long, S.wide, S.kerf, S.across⟩ px py q.1 q.2) xs)) ∧ Below w.heap.size w w' := by
  unfold maxLen at hn
  have hl := h.len
  generalize hpp : (fun q : Int × Int => !apartB ⟨S.long, S.wide, S.kerf, S.across⟩ px py q.1 q.2) = p
  have hcall : ∀ (k : Int × Int) W, SmallI k.1 ∧ SmallI k.2 → Below w.heap.size w W → Calls Try.prog 74 #[.agg #[.int .i64 k.1, .int .i64 k.2], .pointer (some ⟨Bw, 0, none⟩), .pointer (some ⟨Bp, 0, none⟩)] W fun e w' => e = .returned (.bool (p k)) ∧ Below W.heap.size W w' := fun k W hk hb => by
    rw [← hpp]; exact touch1_any S b b' n0 c0 c0' K m d px py k.1 k.2 Bw Bp W hs h1 h2 hk.1 hk.2 (hw.below hb hw.lt) (hp.below hb hp.lt)
  clear hpp
  have hsm : ∀ k, k < xs.length → SmallI (xs.getD k (0, 0)).1 ∧ SmallI (xs.getD k (0, 0)).2 := fun k hk => by
    have e : xs.getD k (0, 0) = xs[k] := by simp [List.getD, hk]
    rw [e]; exact hxs _ (List.getElem_mem hk)
  have HSM := Lib.hid hsm
  clear hsm hw hp hxs
  have Hcall := Lib.hid hcall
  clear hcall
  go_enter Try.func104, Try.ntmps104
  go_wp2
  go_loopw [8] (fun i wr => ∃ k : Nat, k ≤ n ∧ i = .int .i64 k ∧ noneOf p (xs.take k) = true ∧ Below w.heap.size w wr) (fun i _ => n - (intOf i).toNat)
  case atStart => exact ⟨0, Nat.zero_le _, rfl, rfl, Below.refl _ _⟩
  case round =>
    obtain ⟨k, hk, rfl, hin, hbel⟩ := hrel
    by_cases hlt : k < n
    · obtain ⟨bb, off, rfl, hb, hc0, hc1⟩ := (h.below hbel).at_ hlt
      have hsx := HSM.out k (by omega)
      have H := Lib.hid (noneOf_succ (p := p) (0, 0) (xs := xs) (k := k) (by omega))
      have Hin := Lib.hid hin
      have Hit := Lib.hid (idx_hit (p := p) (0, 0) (xs := xs) (k := k) (by omega) hin)
      clear hin hl
      generalize xs.getD k (0, 0) = y at *
      have C := Lib.hid (Hcall.out y wr hsx hbel)
      cases hq : p y
      · go_wp2_with (go_at_call 74; refine C.out.mono ?_; rintro e w2 ⟨rfl, hb2⟩)
        go_roundw
        case rel => exact ⟨k + 1, by omega, by go_num, by rw [H.out, Hin.out, hq]; rfl, hbel.trans (hb2.mono hbel.size)⟩
        case measure => simp [intOf]; omega
      · go_wp2_with (go_at_call 74; refine C.out.mono ?_; rintro e w2 ⟨rfl, hb2⟩)
        go_ret
        exact ⟨ret_int (Hit.out hq).symm, hbel.trans (hb2.mono hbel.size)⟩
    · have he : idx p xs = -1 := idx_none (by rw [← hin, List.take_of_length_le (by omega)])
      clear hin
      have He := Lib.hid he
      clear he
      go_wp2
      go_ret
      exact ⟨ret_int He.out.symm, hbel⟩

theorem containsTouch_any (S : Sawing) (b b' : Addr) (n0 c0 c0' : Nat) (K : Option Addr) (m d : Nat) (px py : Int) (Bw Bp : Nat) (A : Option Addr) (n c : Nat) (xs : List (Int × Int)) (w : World) (hs : SawBounds S) (h1 : SmallI px) (h2 : SmallI py) (hxs : ∀ q ∈ xs, SmallI q.1 ∧ SmallI q.2) (hw : Blk w Bw 120 #[.int .i64 S.long, .int .i64 S.wide, .int .i64 S.kerf, .int .i64 S.across, .slice (some b) n0 c0, .slice (some b') n0 c0', .slice K m d]) (hp : Blk w Bp 39 #[.int .i64 px, .int .i64 py])
    (h : Pairs w A n xs) (hn : n ≤ maxLen) :
    Calls Try.prog 76 #[.slice A n c, .func (.func 74) #[] #[.pointer (some ⟨Bw, 0, none⟩), .pointer (some ⟨Bp, 0, none⟩)]] w
      fun e w' => e = .returned (.bool (xs.any (fun q : Int × Int => !apartB ⟨S.long, S.wide, S.kerf, S.across⟩ px py q.1 q.2))) ∧ Below w.heap.size w w' := by
  have C := Lib.hid (indexTouch_any S b b' n0 c0 c0' K m d px py Bw Bp A n c xs w hs h1 h2 hxs hw hp h hn)
  have HE := Lib.hid (idx_any (p := (fun q : Int × Int => !apartB ⟨S.long, S.wide, S.kerf, S.across⟩ px py q.1 q.2)) (xs := xs))
  generalize (xs.any (fun q : Int × Int => !apartB ⟨S.long, S.wide, S.kerf, S.across⟩ px py q.1 q.2)) = r at *
  generalize idx (fun q : Int × Int => !apartB ⟨S.long, S.wide, S.kerf, S.across⟩ px py q.1 q.2) xs = i at *
  go_enter Try.func76, Try.ntmps76
  go_wp2_with (go_at_call 104; refine C.out.mono ?_; rintro e w2 ⟨rfl, hb2⟩)
  go_ret
  exact ⟨ret_bool HE.out, hb2⟩
end Go.Proofs.Ytiflhimmieflpaa
