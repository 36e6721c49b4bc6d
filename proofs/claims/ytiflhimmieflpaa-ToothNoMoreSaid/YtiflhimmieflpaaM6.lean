/- Merged: W37, W38, W39, W40, W41. -/
import Derived.Test.YtiflhimmieflpaaM5
import Derived.Deep.OwnRows
import Derived.Lib.QuietBelow
import Derived.BigQuiet

/- Walks: the reference's Turned. -/
namespace Go.Proofs.Ytiflhimmieflpaa
open Go.RowKit Go.Maps

theorem reverse_take_snoc (xs : List (Int × Int)) (k y : Nat) (hk : k + y + 1 = xs.length) : xs.reverse.take (k + 1) = xs.reverse.take k ++ [xs.getD y (0, 0)] := by
  have h1 : k < xs.reverse.length := by simp; omega
  have h2 := getD_reverse xs k (by omega)
  rw [show xs.length - 1 - k = y from by omega] at h2
  have e : xs.reverse[k] = xs.reverse.getD k (0, 0) := by rw [List.getD, List.getElem?_eq_getElem h1]; rfl
  rw [List.take_succ_eq_append_getElem h1, e, h2]
theorem own_empty (w : World) (e : TypeId) (size : Nat) {g : Nat} (hg : g = w.heap.size) : (w.alloc (.cells #[] e)).ownsRow w.heap.size e size (.slice (some ⟨g, 0, none⟩) 0 0) 0 [] := by
  subst hg
  exact ⟨by simp, .inr ⟨w.heap.size, 0, #[], rfl, Nat.le_refl _, heap_alloc_new w _, Nat.le_refl _, by simp, by simp, by simp⟩⟩
def OwnPairs (w : World) (xs : List (Int × Int)) (e : Ending) (w' : World) : Prop := ∃ v, e = .returned v ∧ w'.ownsRow w.heap.size 98 2 v xs.length (flat2 xs) ∧ Below w.heap.size w w'

set_option maxRecDepth 100000 in
set_option maxHeartbeats 1000000 in
theorem Turned_any (A : Option Addr) (n c : Nat) (xs : List (Int × Int)) (w : World) (h : Pairs w A n xs) (hn : n ≤ 1000) :
    Calls Try.prog 63 #[.slice A n c] w (OwnPairs w xs.reverse) := by
  obtain ⟨i0, hi, hz0, hz1, hz2⟩ := info_parts Try.infoSpan
  have hl := h.len
  have HL : Hid (xs.reverse.length = n) := by unfold Hid; simp [hl]
  have HT := Lib.hid (fun k y (hk : k + y + 1 = n) => reverse_take_snoc xs k y (by omega))
  have HTn : Hid (xs.reverse.take n = xs.reverse) := by unfold Hid; rw [List.take_of_length_le (by simp [hl])]
  have H := Lib.hid h
  have O0 := Lib.hid (own_empty w 98 2 (g := w.heap.size) rfl)
  have B0 := Lib.hid (below_self w (.cells #[] 98))
  clear h hl
  go_enter Try.func63, Try.ntmps63
  go_wp2_with fail
  go_loopw [3, 4] (fun v i wr => ∃ (k : Nat) (x : Int), k ≤ n ∧ i = .int .i64 x ∧ x = (n : Int) - 1 - k ∧ wr.ownsRow w.heap.size 98 2 v k (flat2 (xs.reverse.take k)) ∧ Below w.heap.size w wr) (fun _ i _ => (intOf i + 1).toNat)
  case atStart => exact ⟨0, _, Nat.zero_le _, rfl, by omega, O0.out, B0.out⟩
  case round =>
    obtain ⟨k, x, hk, rfl, hx, hown, hbel⟩ := hrel
    have Hown := Lib.hid hown
    have Hbel := Lib.hid hbel
    by_cases hge : 0 ≤ x
    · obtain ⟨y, rfl⟩ := Int.eq_ofNat_of_zero_le hge
      have hky : k + y + 1 = n := by omega
      have Hx := Lib.hid hx
      have Ht := Lib.hid (HT.out k y hky)
      have hyn : y < n := by omega
      obtain ⟨b, off, hA, hb, q0, q1⟩ := (H.out.below hbel).at_ hyn
      subst hA
      have hsz := hbel.size
      have Hky := Lib.hid hky
      have hkn : k < n := by omega
      clear hx hown hbel hky HT
      generalize hp : xs.getD y (0, 0) = p at *
      have Hp := Lib.hid hp
      clear hp
      obtain ⟨p1, p2⟩ := p
      simp only at q0 q1
      have Hnew := Lib.hid (cell_two_at wr (.int .i64 p1) (.int .i64 p2) 98)
      go_wp2_with (at_builtin; refine wpList_append_own _ rfl _ _ 22 rfl w.heap.size 98 i0 (.agg #[.int .i64 0, .int .i64 0]) 2 16 Try.underlying22 hi hz0 hz1 hz2 rfl (by decide) _ _ _ rfl (Hown.out.alloc _) ⟨wr.heap.size, 0, none⟩ 1 1 [.int .i64 p1, .int .i64 p2] rfl rfl Hnew.out ?c2 ?c3 ?c4 ?c5 ?_)
      case c2 => intro u hu; simp only [List.mem_cons, List.not_mem_nil, or_false] at hu; rcases hu with rfl | rfl <;> rfl
      case c3 => unfold maxLen; omega
      case c4 => omega
      case c5 => simp; omega
      intro v' w4 hown4 hgrow _
      have B4 := Lib.hid ((Hbel.out.alloc hsz _).grown hgrow (by simp; omega) (fun q hq => (Hown.out.lt q hq).1))
      have hown5 : Hid (w4.ownsRow w.heap.size 98 2 v' (k + 1) (flat2 (xs.reverse.take (k + 1)))) := by
        unfold Hid; rw [Ht.out, flat2_append]; exact hown4
      clear hown4 hgrow
      go_wp2
      go_roundw
      case rel => exact ⟨k + 1, _, by omega, rfl, by have := Hky.out; omega, hown5.out, B4.out⟩
      case measure => simp [intOf]
    · obtain rfl : k = n := by omega
      clear hx hown hbel
      go_wp2
      go_ret
      exact ⟨_, rfl, by rw [HL.out]; have := Hown.out; rwa [HTn.out] at this, Hbel.out⟩
end Go.Proofs.Ytiflhimmieflpaa

/- Walks: the reference's Reach. -/
namespace Go.Proofs.Ytiflhimmieflpaa
open Go.RowKit Go.Maps

theorem Try.infoBool : (Try.prog.info? 4).map (fun i => (i.zero, i.size, i.bytes)) = some (some (.bool false), 1, 1) := by kernel_rfl
theorem Try.infoBools : (Try.prog.info? 115).map (fun i => (i.zero, i.size, i.bytes)) = some (some (.slice none 0 0), 1, 24) := by kernel_rfl
def rowV (g : Nat) : Value := .slice (some ⟨g, 0, none⟩) 301 301
/-- A list of rows of bools of the call's own: row i is block gs i, and holds R i. -/
structure RowsB (W : World) (base : Nat) (v : Value) (n : Nat) (R : Nat → Nat → Bool) (gs : List Nat) : Prop where
  len : gs.length = n
  own : W.ownsRow base 115 1 v n (gs.map rowV)
  rows : ∀ i, i < n → W.rowIs (gs.getD i 0) 4 301 (fun h => .bool (R i h))
theorem rowIs_below {w w' : World} {b n : Nat} {t : TypeId} {f : Nat → Value} (h : w.rowIs b t n f) (hb : Below w.heap.size w w') : w'.rowIs b t n f := h.of_block (hb.block b h.lt)
theorem RowsB.below {W W' : World} {base n : Nat} {v : Value} {R : Nat → Nat → Bool} {gs : List Nat} (h : RowsB W base v n R gs) (hb : Below W.heap.size W W') : RowsB W' base v n R gs :=
  ⟨h.len, ownsRow_below h.own hb, fun i hi => rowIs_below (h.rows i hi) hb⟩
theorem RowsB.at_ {W : World} {base n : Nat} {v : Value} {R : Nat → Nat → Bool} {gs : List Nat} (h : RowsB W base v n R gs) {i : Nat} (hi : i < n) :
    ∃ g cap b, v = .slice (some ⟨g, 0, none⟩) n cap ∧ W.cell? ⟨g, i, none⟩ = some (rowV b) ∧ ∀ k, k ≤ 300 → W.cell? ⟨b, k, none⟩ = some (.bool (R i k)) := by
  obtain ⟨g, cap, rfl⟩ := own_form h.own (by omega)
  refine ⟨g, cap, gs.getD i 0, rfl, ?_, fun k hk => (h.rows i hi).cell (by omega)⟩
  have hl : i < gs.length := by rw [h.len]; exact hi
  rw [h.own.cellAt i (by omega)]
  simp [hl, List.getD]
theorem own_row_ne {w : World} {base : Nat} {e t : TypeId} {size n m b : Nat} {v : Value} {xs : List Value} {f : Nat → Value} (h : w.ownsRow base e size v n xs) (hr : w.rowIs b t m f) (hne : e ≠ t) : v.ownBlock ≠ some b := by
  obtain ⟨c, hb, _⟩ := hr
  exact own_blk_ne h (show Blk w b t c from hb) hne
theorem RowsB.snoc {W W4 : World} {base n g : Nat} {v v' : Value} {R : Nat → Nat → Bool} {gs : List Nat} {o : Obj} (h : RowsB W base v n R gs) (hg : W.rowIs g 4 301 (fun h => .bool (R n h))) (hown : W4.ownsRow base 115 1 v' (n + 1) (gs.map rowV ++ [rowV g])) (hgr : (W.alloc o).grownBy W4 v.ownBlock) :
    RowsB W4 base v' (n + 1) R (gs ++ [g]) := by
  have keep : ∀ b f, W.rowIs b 4 301 f → W4.rowIs b 4 301 f := fun b f hb => by
    have hne := own_row_ne h.own hb (by decide)
    have ha := hb.alloc o
    exact ha.of_block (hgr.block b ha.lt (fun e => hne e.symm))
  refine ⟨by simp [h.len], by simpa using hown, fun i hi => ?_⟩
  by_cases e : i < n
  · have : (gs ++ [g]).getD i 0 = gs.getD i 0 := by simp [List.getD, List.getElem?_append, h.len, e]
    rw [this]; exact keep _ _ (h.rows i e)
  · obtain rfl : i = n := by omega
    have : (gs ++ [g]).getD i 0 = g := by simp [List.getD, h.len]
    rw [this]; exact keep _ _ hg
theorem cell_one_at (w : World) (x : Value) (t : TypeId) : ∀ j u, [x][j]? = some u → (w.alloc (.cells #[x] t)).cell? ((⟨w.heap.size, 0, none⟩ : Addr).add j) = some u := by
  intro j u hu
  match j, hu with
  | 0, hu => simp at hu; subst hu; rw [addr_add]; exact (Blk.new w t #[x] rfl).cell 0
def ReachRes (w : World) (xs : List (Int × Int)) (bend : Int) (e : Ending) (w' : World) : Prop := ∃ v gs, e = .returned v ∧ RowsB w' w.heap.size v xs.length (reachB xs bend) gs ∧ Below w.heap.size w w'
theorem own_slice0 {w : World} {base : Nat} {e : TypeId} {size n : Nat} {v : Value} {xs : List Value} (h : w.ownsRow base e size v n xs) : ∃ A c, v = .slice A n c := by
  rcases h.2 with ⟨hv, hn⟩ | ⟨g, cap, _, hv, _⟩
  · exact ⟨none, 0, by rw [hv, hn]⟩
  · exact ⟨_, cap, hv⟩

set_option maxRecDepth 100000 in
set_option maxHeartbeats 4000000 in
theorem Reach_any (A : Option Addr) (n c : Nat) (xs : List (Int × Int)) (bend : Int) (w : World) (h : Pairs w A n xs) (hn : n ≤ 1000) (hx : ∀ s ∈ xs, InR s) (b0 : 0 ≤ bend) (b3 : bend ≤ 300) :
    Calls Try.prog 62 #[.slice A n c, .int .i64 bend] w (ReachRes w xs bend) := by
  obtain ⟨i0, hi, hz0, hz1, hz2⟩ := info_parts Try.infoBools
  have hl := h.len
  have HL : Hid (xs.length = n) := hl
  have HX : Hid (∀ i, i < n → InR (xs.getD i (0, 0))) := fun i hi => by
    have : xs.getD i (0, 0) = xs[i]'(by omega) := by simp [List.getD, show i < xs.length by omega]
    rw [this]; exact hx _ (List.getElem_mem _)
  have H := Lib.hid h
  obtain ⟨FR, hFR⟩ : ∃ FR : Array Value, FR = madeCells #[.bool false] 301 := ⟨_, rfl⟩
  have hmk : ∀ W, (Instr.makeSlice 115 (.int .i64 301) (.int .i64 301)).run Try.prog W = .ok (.slice (some ⟨W.heap.size, 0, none⟩) 301 301) (W.alloc (.cells FR 4)) := fun W => by
    rw [hFR]; exact run_make_row' (P := Try.prog) 115 4 (.bool false) 1 Try.underlying115 Try.infoBool rfl .i64 .i64 301 (by omega) (by omega) W
  have HR0 : Hid (∀ W : World, (W.alloc (.cells FR 4)).rowIs W.heap.size 4 301 (fun _ => .bool false)) := fun W => by rw [hFR]; exact World.rowIs_made W _ _ _
  have O0 : Hid (RowsB (w.alloc (.cells #[] 115)) w.heap.size (.slice (some ⟨w.heap.size, 0, none⟩) 0 0) 0 (reachB xs bend) []) := ⟨rfl, own_empty w _ _ rfl, fun i hi => absurd hi (by omega)⟩
  have B0 := Lib.hid (below_self w (.cells #[] 115))
  clear h hl hx hFR
  go_enter Try.func62, Try.ntmps62
  go_wp2_with fail
  go_loopw [5, 6] (fun v i wr => ∃ (k : Nat) (gs : List Nat), k ≤ n ∧ i = .int .i64 k ∧ RowsB wr w.heap.size v k (reachB xs bend) gs ∧ Below w.heap.size w wr) (fun _ i _ => n - (intOf i).toNat)
  case atStart => exact ⟨0, [], Nat.zero_le _, rfl, O0.out, B0.out⟩
  case round =>
    obtain ⟨i, gs, hik, rfl, hrows, hbel⟩ := hrel
    have Hrows := Lib.hid hrows
    have Hbel := Lib.hid hbel
    by_cases hlt : i < n
    · obtain ⟨b, off, hA, hb, q0, q1⟩ := (H.out.below hbel).at_ hlt
      subst hA
      have hR := HX.out i hlt
      have Hlo := Lib.hid (fun (H h : Nat) (hH : (H : Int) = (xs.getD i (0, 0)).1) => rowTo_start (bend := bend) (h := h) hH)
      have Hhi := Lib.hid (fun (H h : Nat) (hH : (xs.getD i (0, 0)).2 < (H : Int)) => rowTo_end (bend := bend) (h := h) hH)
      have HS := Lib.hid (fun (H j : Nat) => rowTo_succ (xs := xs) (bend := bend) (i := i) (H := H) (j := j))
      have HI0 : Hid (∀ h : Nat, (xs.getD i (0, 0)).1 ≤ h → (h : Int) ≤ (xs.getD i (0, 0)).2 → inS (xs.getD i (0, 0)) h = true) := fun h a b => by unfold inS; rw [decide_eq_true a, decide_eq_true b]; rfl
      obtain ⟨r1, r2, r3, r4⟩ := hR
      generalize hp : xs.getD i (0, 0) = p at *
      have Hp := Lib.hid hp
      clear hp hrows hbel
      obtain ⟨lo, hi'⟩ := p
      simp only at q0 q1 r1 r2 r3 r4
      obtain ⟨l, rfl⟩ := Int.eq_ofNat_of_zero_le r1
      have c0 := fun (W : World) (hW : Below wr.heap.size wr W) => (hW.cell (p := ⟨b, off + i * 2, none⟩) hb).trans q0
      have c1 := fun (W : World) (hW : Below wr.heap.size wr W) => (hW.cell (p := ⟨b, off + i * 2 + 1, none⟩) hb).trans q1
      have C0 := Lib.hid c0
      have C1 := Lib.hid c1
      clear c0 c1
      have G0 := Lib.hid (HR0.out wr)
      have B1 := Lib.hid (below_self wr (.cells FR 4))
      go_wp2_with fail
      obtain ⟨wo, rfl⟩ : ∃ wo : World, wo = wr := ⟨_, rfl⟩
      have HN : Hid (∀ wz : World, wz.rowIs wo.heap.size 4 301 (fun j => .bool (reachB xs bend i j)) → Below wo.heap.size wo wz → RowsB wz w.heap.size u5 i (reachB xs bend) gs ∧ Below w.heap.size w wz) := fun wz _ hb => ⟨Hrows.out.below hb, below_then Hbel.out hb⟩
      by_cases hi0 : i = 0
      · have Hi0 := Lib.hid hi0
        have t0 : ((i : Int) == 0) = true := by simpa using hi0
        have t1 : ¬ (0 : Int) < (i : Int) := by omega
        clear hi0
        have HRS : Hid (∀ h : Nat, (l : Int) ≤ h → (h : Int) ≤ hi' → reachB xs bend i h = true) := fun h ha hb => by
          have e : reachB xs bend i h = inS (xs.getD i (0, 0)) h := by rw [Hi0.out]; rfl
          rw [e, Hp.out]; exact HI0.out h ha hb
        go_loopw [8] (fun hv wr => ∃ h : Nat, l ≤ h ∧ h ≤ 301 ∧ hv = .int .i64 h ∧ wr.rowIs wo.heap.size 4 301 (fun j => .bool (rowTo xs bend i h j)) ∧ Below wo.heap.size wo wr) (fun hv _ => (302 - intOf hv).toNat)
        case atStart => exact ⟨l, Nat.le_refl _, by omega, rfl, G0.out.congr (fun j _ => by rw [Hlo.out l j rfl]), B1.out⟩
        case round =>
          obtain ⟨h, hlh, hh, rfl, hrow, hbel2⟩ := hrel
          have Hrow := Lib.hid hrow
          have Hbel2 := Lib.hid hbel2
          have d0 := C0.out wr hbel2
          have d1 := C1.out wr hbel2
          by_cases hle : (h : Int) ≤ hi'
          · have hh3 : h < 301 := by omega
            have e1 := hrow.cell hh3
            have e2 := hrow.frozen h
            have R3 : Hid ((wr.setCell ⟨wo.heap.size, h, none⟩ (.bool true)).rowIs wo.heap.size 4 301 (fun j => .bool (rowTo xs bend i (h + 1) j))) := (hrow.set h (.bool true)).congr (fun j _ => by rw [HS.out, HRS.out h (by omega) hle]; by_cases e : j = h <;> simp [e])
            have B3 := Lib.hid (hbel2.setCell (p := ⟨wo.heap.size, h, none⟩) (Nat.le_refl _) (.bool true))
            clear hrow hbel2
            have hmx : (0 : Int) < (h : Int) - bend ∨ ¬ (0 : Int) < (h : Int) - bend := by omega
            rcases hmx with hmx | hmx
            all_goals
              go_wp2_with fail
              clear e1 e2 d0 d1
              generalize wr.setCell ⟨wo.heap.size, h, none⟩ (.bool true) = wx at *
              go_loopw [9] (fun _ wr => wr.rowIs wo.heap.size 4 301 (fun j => .bool (rowTo xs bend i (h + 1) j)) ∧ Below wo.heap.size wo wr) (fun _ _ => 0)
              case atStart => exact ⟨R3.out, B3.out⟩
              case round =>
                obtain ⟨hrow, hbel3⟩ := hrel
                have Hrow3 := Lib.hid hrow
                have Hbel3 := Lib.hid hbel3
                clear hrow hbel3
                go_wp2
                go_roundw
                case rel => exact ⟨h + 1, by omega, by omega, by go_num, Hrow3.out, Hbel3.out⟩
                case measure => simp [intOf]; omega
          · have HE : Hid (wr.rowIs wo.heap.size 4 301 (fun j => .bool (reachB xs bend i j))) := hrow.congr (fun j _ => by rw [Hhi.out h j (by omega)])
            have hN := HN.out wr HE.out Hbel2.out
            have Hown := Lib.hid hN.1.own
            have HNR := Lib.hid hN.1
            have HNB := Lib.hid hN.2
            have hsz := hN.2.size
            have Hnew := Lib.hid (cell_one_at wr (.slice (some ⟨wo.heap.size, 0, none⟩) 301 301) 115)
            clear hrow hbel2 hN
            go_wp2_with (at_builtin; refine wpList_append_own _ rfl _ _ 112 rfl w.heap.size 115 i0 (.slice none 0 0) 1 24 Try.underlying112 hi hz0 hz1 hz2 rfl (by decide) _ _ _ rfl (Hown.out.alloc _) ⟨wr.heap.size, 0, none⟩ 1 1 [.slice (some ⟨wo.heap.size, 0, none⟩) 301 301] rfl rfl Hnew.out ?c2 ?c3 ?c4 ?c5 ?_)
            case c2 => first | rfl | (intro u hu; simp only [List.mem_cons, List.not_mem_nil, or_false] at hu; subst hu; rfl)
            case c3 => unfold maxLen; omega
            case c4 => omega
            case c5 => first | omega | (simp; omega)
            intro v' w4 hown4 hgrow _
            have B4 := Lib.hid ((HNB.out.alloc hsz _).grown hgrow (by simp; omega) (fun q hq => (Hown.out.lt q hq).1))
            have R4 := Lib.hid (RowsB.snoc HNR.out HE.out hown4 hgrow)
            clear hown4 hgrow
            go_wp2
            go_roundw
            case rel => exact ⟨i + 1, _, by omega, by go_num, R4.out, B4.out⟩
            case measure => simp [intOf]; omega
      · obtain ⟨p, hpi⟩ : ∃ p, p + 1 = i := ⟨i - 1, by omega⟩
        have Hpi := Lib.hid hpi
        have hpin : p < i := by omega
        have t0 : ((i : Int) == 0) = false := by simpa using hi0
        have t1 : (0 : Int) < (i : Int) := by omega
        have k1 : IntKind.i64.wrap ((i : Int) - 1) = (i : Int) - 1 := IntWalk.i64_in _ (by omega)
        have k2 : ((i : Int) - 1).toNat = p := by omega
        have k3 : 0 ≤ (i : Int) - 1 := by omega
        have HRS : Hid (∀ h : Nat, (l : Int) ≤ h → (h : Int) ≤ hi' → reachB xs bend i h = anyTo xs bend p h 301) := fun h ha hb => by
          rw [← hpi, reach_succ, hpi, Hp.out, HI0.out h ha hb]; rfl
        clear hpi
        obtain ⟨og, ocap, ob, hu5, ho1, ho2⟩ := Hrows.out.at_ hpin
        subst hu5
        have O1 := Lib.hid (fun (W : World) (hW : Below wo.heap.size wo W) => (hW.cell (p := ⟨og, p, none⟩) (lt_of_cell ho1)).trans ho1)
        have O2 := Lib.hid (fun (W : World) (hW : Below wo.heap.size wo W) k (hk : k ≤ 300) => (hW.cell (p := ⟨ob, k, none⟩) (lt_of_cell (ho2 k hk))).trans (ho2 k hk))
        unfold rowV at O1
        clear ho1 ho2
        go_loopw [8] (fun hv wr => ∃ h : Nat, l ≤ h ∧ h ≤ 301 ∧ hv = .int .i64 h ∧ wr.rowIs wo.heap.size 4 301 (fun j => .bool (rowTo xs bend i h j)) ∧ Below wo.heap.size wo wr) (fun hv _ => (302 - intOf hv).toNat)
        case atStart => exact ⟨l, Nat.le_refl _, by omega, rfl, G0.out.congr (fun j _ => by rw [Hlo.out l j rfl]), B1.out⟩
        case round =>
          obtain ⟨h, hlh, hh, rfl, hrow, hbel2⟩ := hrel
          have Hrow := Lib.hid hrow
          have Hbel2 := Lib.hid hbel2
          have d0 := C0.out wr hbel2
          have d1 := C1.out wr hbel2
          by_cases hle : (h : Int) ≤ hi'
          · have hh3 : h < 301 := by omega
            have e1 := hrow.cell hh3
            have e2 := hrow.frozen h
            obtain ⟨k0, hk0⟩ : ∃ k0 : Nat, (k0 : Int) = max 0 ((h : Int) - bend) := ⟨(max 0 ((h : Int) - bend)).toNat, by omega⟩
            have R3 : Hid ((wr.setCell ⟨wo.heap.size, h, none⟩ (.bool false)).rowIs wo.heap.size 4 301 (fun j => if j = h then .bool (anyTo xs bend p h k0) else .bool (rowTo xs bend i h j))) := (hrow.set h (.bool false)).congr (fun j _ => by rw [anyTo_start hk0])
            have B3 := Lib.hid (hbel2.setCell (p := ⟨wo.heap.size, h, none⟩) (Nat.le_refl _) (.bool false))
            have Hk0 := Lib.hid hk0
            clear hrow hbel2 hk0
            have hmx : (0 : Int) < (h : Int) - bend ∨ ¬ (0 : Int) < (h : Int) - bend := by omega
            rcases hmx with hmx | hmx
            all_goals
              go_wp2_with fail
              clear e1 e2 d0 d1
              generalize wr.setCell ⟨wo.heap.size, h, none⟩ (.bool false) = wx at *
              go_loopw [9] (fun kv wr => ∃ k : Nat, k0 ≤ k ∧ k ≤ 301 ∧ kv = .int .i64 k ∧ wr.rowIs wo.heap.size 4 301 (fun j => if j = h then .bool (anyTo xs bend p h k) else .bool (rowTo xs bend i h j)) ∧ Below wo.heap.size wo wr) (fun kv _ => (302 - intOf kv).toNat)
              case atStart => exact ⟨k0, Nat.le_refl _, by have := Hk0.out; omega, by have := Hk0.out; congr 1; omega, R3.out, B3.out⟩
              case round =>
                obtain ⟨k, hk0k, hk3, rfl, hrow, hbel3⟩ := hrel
                have hklo : (h : Int) - bend ≤ k := by have := Hk0.out; omega
                have Hrow3 := Lib.hid hrow
                have Hbel3 := Lib.hid hbel3
                by_cases hke : (k : Int) ≤ (if (h : Int) + bend < 300 then (h : Int) + bend else 300)
                · have hk1 : k ≤ 300 := by split at hke <;> omega
                  have hk2 : (k : Int) ≤ h + bend := by split at hke <;> omega
                  have e1 : wr.cell? ⟨wo.heap.size, h, none⟩ = some (.bool (anyTo xs bend p h k)) := by have := hrow.cell hh3; simpa using this
                  have e2 := hrow.frozen h
                  have HAS : Hid (anyTo xs bend p h (k + 1) = (anyTo xs bend p h k || reachB xs bend p k)) := by unfold Hid; rw [anyTo_succ, near_in hklo hk2]; rfl
                  have HW : Hid (∀ v, anyTo xs bend p h (k + 1) = v → (wr.setCell ⟨wo.heap.size, h, none⟩ (.bool v)).rowIs wo.heap.size 4 301 (fun j => if j = h then .bool (anyTo xs bend p h (k + 1)) else .bool (rowTo xs bend i h j))) := fun v hv =>
                    (hrow.set h (.bool v)).congr (fun j _ => by rw [hv]; by_cases e : j = h <;> simp [e])
                  have HB := Lib.hid (fun v => hbel3.setCell (p := ⟨wo.heap.size, h, none⟩) (Nat.le_refl _) v)
                  have o1 := O1.out wr hbel3
                  have o2 := O2.out wr hbel3 k hk1
                  clear hrow hbel3
                  generalize anyTo xs bend p h k = a1 at *
                  generalize reachB xs bend p k = a3 at *
                  cases a1
                  · have HV : Hid (anyTo xs bend p h (k + 1) = a3) := by unfold Hid; rw [HAS.out]; rfl
                    go_wp2
                    go_roundw
                    case rel => exact ⟨k + 1, by omega, by omega, by go_num, HW.out _ HV.out, HB.out _⟩
                    case measure => simp [intOf]; omega
                  · have HV : Hid (anyTo xs bend p h (k + 1) = true) := by unfold Hid; rw [HAS.out]; rfl
                    clear o1 o2
                    go_wp2
                    go_roundw
                    case rel => exact ⟨k + 1, by omega, by omega, by go_num, HW.out _ HV.out, HB.out _⟩
                    case measure => simp [intOf]; omega
                · have hk2 : ¬ ((k : Int) ≤ min 300 ((h : Int) + bend)) := by split at hke <;> omega
                  have HE : Hid (wr.rowIs wo.heap.size 4 301 (fun j => .bool (rowTo xs bend i (h + 1) j))) := hrow.congr (fun j _ => by
                    rw [HS.out, HRS.out h (by omega) hle, ← anyTo_end hk3 hk2]
                    by_cases e : j = h <;> simp [e])
                  clear hrow hbel3 hk2
                  go_wp2
                  go_roundw
                  case rel => exact ⟨h + 1, by omega, by omega, by go_num, HE.out, Hbel3.out⟩
                  case measure => simp [intOf]; omega
          · have HE : Hid (wr.rowIs wo.heap.size 4 301 (fun j => .bool (reachB xs bend i j))) := hrow.congr (fun j _ => by rw [Hhi.out h j (by omega)])
            have hN := HN.out wr HE.out Hbel2.out
            have Hown := Lib.hid hN.1.own
            have HNR := Lib.hid hN.1
            have HNB := Lib.hid hN.2
            have hsz := hN.2.size
            have Hnew := Lib.hid (cell_one_at wr (.slice (some ⟨wo.heap.size, 0, none⟩) 301 301) 115)
            clear hrow hbel2 hN
            go_wp2_with (at_builtin; refine wpList_append_own _ rfl _ _ 112 rfl w.heap.size 115 i0 (.slice none 0 0) 1 24 Try.underlying112 hi hz0 hz1 hz2 rfl (by decide) _ _ _ rfl (Hown.out.alloc _) ⟨wr.heap.size, 0, none⟩ 1 1 [.slice (some ⟨wo.heap.size, 0, none⟩) 301 301] rfl rfl Hnew.out ?d2 ?d3 ?d4 ?d5 ?_)
            case d2 => first | rfl | (intro u hu; simp only [List.mem_cons, List.not_mem_nil, or_false] at hu; subst hu; rfl)
            case d3 => unfold maxLen; omega
            case d4 => omega
            case d5 => first | omega | (simp; omega)
            intro v' w4 hown4 hgrow _
            have B4 := Lib.hid ((HNB.out.alloc hsz _).grown hgrow (by simp; omega) (fun q hq => (Hown.out.lt q hq).1))
            have R4 := Lib.hid (RowsB.snoc HNR.out HE.out hown4 hgrow)
            clear hown4 hgrow
            go_wp2
            go_roundw
            case rel => exact ⟨i + 1, _, by omega, by go_num, R4.out, B4.out⟩
            case measure => simp [intOf]; omega
    · obtain rfl : i = n := by omega
      clear hrows hbel
      go_wp2
      go_ret
      exact ⟨_, gs, rfl, by rw [HL.out]; exact Hrows.out, Hbel.out⟩
end Go.Proofs.Ytiflhimmieflpaa

/- Walks: the reference's Curve. -/
namespace Go.Proofs.Ytiflhimmieflpaa
open Go.RowKit Go.Maps

theorem scan_succ (p : Nat → Bool) (h : Nat) : scanB p (h + 1) = if p h = true then (true, if (scanB p h).1 = true then (scanB p h).2.1 else (h : Int), (h : Int)) else scanB p h := rfl
def curTo (xs : List (Int × Int)) (bend : Int) (k : Nat) : List (Int × Int) := (List.range k).map fun i => (curB xs bend i).2
theorem curTo_succ (xs : List (Int × Int)) (bend : Int) (k : Nat) : curTo xs bend (k + 1) = curTo xs bend k ++ [(curB xs bend k).2] := by simp [curTo, List.range_succ]
theorem refCurve_all {xs : List (Int × Int)} {bend : Int} (h : ∀ i, i < xs.length → (curB xs bend i).1 = true) : refCurveL xs bend = curTo xs bend xs.length := by
  unfold refCurveL
  rw [if_pos (by rw [List.all_eq_true]; intro i hi; exact h i (List.mem_range.1 hi))]
  rfl
theorem refCurve_none {xs : List (Int × Int)} {bend : Int} {i : Nat} (hi : i < xs.length) (h : (curB xs bend i).1 = false) : refCurveL xs bend = [] := by
  unfold refCurveL
  rw [if_neg]
  intro hall
  rw [List.all_eq_true] at hall
  have := hall i (List.mem_range.2 hi)
  rw [h] at this
  cases this

theorem Turned_n (A : Option Addr) (n c : Nat) (xs : List (Int × Int)) (w : World) (h : Pairs w A n xs) (hn : n ≤ 1000) :
    Calls Try.prog 63 #[.slice A n c] w fun e w' => ∃ TA tc, e = .returned (.slice TA n tc) ∧ Pairs w' TA n xs.reverse ∧ Below w.heap.size w w' := by
  refine (Turned_any A n c xs w h hn).mono ?_
  rintro e w2 ⟨tv, rfl, hown, b2⟩
  have hl : xs.reverse.length = n := by rw [List.length_reverse, h.len]
  rw [hl] at hown
  obtain ⟨TA, tc, rfl⟩ := own_slice0 hown
  exact ⟨TA, tc, rfl, (reads_of_own hown).r, b2⟩
theorem Reach_n (A : Option Addr) (n c : Nat) (xs : List (Int × Int)) (bend : Int) (w : World) (h : Pairs w A n xs) (hn : n ≤ 1000) (hx : ∀ s ∈ xs, InR s) (b0 : 0 ≤ bend) (b3 : bend ≤ 300) :
    Calls Try.prog 62 #[.slice A n c, .int .i64 bend] w fun e w' => ∃ v gs, e = .returned v ∧ RowsB w' w.heap.size v n (reachB xs bend) gs ∧ Below w.heap.size w w' := by
  have hr := Reach_any A n c xs bend w h hn hx b0 b3
  unfold ReachRes at hr
  rw [h.len] at hr
  exact hr

set_option maxRecDepth 100000 in
set_option maxHeartbeats 4000000 in
theorem RefCurve_any (A : Option Addr) (n c : Nat) (xs : List (Int × Int)) (bend : Int) (w : World) (h : Pairs w A n xs) (hn : n ≤ 1000) (hx : ∀ s ∈ xs, InR s) (b0 : 0 ≤ bend) (b3 : bend ≤ 300) :
    Calls Try.prog 25 #[.slice A n c, .int .i64 bend] w (OwnPairs w (refCurveL xs bend)) := by
  obtain ⟨i0, hi, hz0, hz1, hz2⟩ := info_parts Try.infoSpan
  have hl := h.len
  have HL : Hid (xs.length = n) := hl
  have H := Lib.hid h
  have HXR : Hid (∀ s ∈ xs.reverse, InR s) := fun s hs => hx s (List.mem_reverse.1 hs)
  have HR1 := Lib.hid (Reach_n A n c xs bend w h hn hx b0 b3)
  have HT1 := Lib.hid (fun W (hb : Below w.heap.size w W) => Turned_n A n c xs W (h.below hb) hn)
  have HALL := Lib.hid (fun hh => refCurve_all (xs := xs) (bend := bend) hh)
  have HNONE := Lib.hid (fun i hi hh => refCurve_none (xs := xs) (bend := bend) (i := i) hi hh)
  rw [hl] at HALL HNONE
  clear h hl hx
  go_enter Try.func25, Try.ntmps25
  go_wp2_with fail
  refine HR1.out.mono ?_
  rintro e w1 ⟨lv, lgs, rfl, hrl, b1⟩
  have HT2 := Lib.hid (HT1.out w1 b1)
  have D1 := Lib.hid b1
  have HRL := Lib.hid hrl
  clear HT1 hrl b1 HR1
  go_wp2_with fail
  refine HT2.out.mono ?_
  rintro e w2 ⟨TA, tc, rfl, hP, b2⟩
  have D2 := Lib.hid (below_then D1.out b2)
  have HRL2 := Lib.hid (HRL.out.below b2)
  have HR2 := Lib.hid (Reach_n TA n tc xs.reverse bend w2 hP hn HXR.out b0 b3)
  clear hP b2 HT2 HRL D1
  go_wp2_with fail
  refine HR2.out.mono ?_
  rintro e w3 ⟨rv, rgs, rfl, hrr, b3'⟩
  have D3 := Lib.hid (below_then D2.out b3')
  have HRL := Lib.hid (HRL2.out.below b3')
  have HRR := Lib.hid hrr
  clear hrr b3' HR2 HRL2 D2
  have O0 := Lib.hid (own_empty w3 98 2 (g := w3.heap.size) rfl)
  have B0 := Lib.hid (below_self w3 (.cells #[] 98))
  go_wp2_with fail
  go_loopw [7, 8] (fun v i wr => ∃ k : Nat, k ≤ n ∧ i = .int .i64 k ∧ (∀ j, j < k → (curB xs bend j).1 = true) ∧ wr.ownsRow w3.heap.size 98 2 v k (flat2 (curTo xs bend k)) ∧ Below w3.heap.size w3 wr) (fun _ i _ => n - (intOf i).toNat)
  case atStart => exact ⟨0, Nat.zero_le _, rfl, fun j hj => absurd hj (by omega), O0.out, B0.out⟩
  case round =>
    obtain ⟨i, hik, rfl, hall, hown, hbel⟩ := hrel
    have Hall := Lib.hid hall
    have Hown := Lib.hid hown
    have Hbel := Lib.hid hbel
    obtain ⟨wo, rfl⟩ : ∃ wo : World, wo = wr := ⟨_, rfl⟩
    clear hall hown
    by_cases hlt : i < n
    · obtain ⟨q, hq⟩ : ∃ q, q + i + 1 = n := ⟨n - 1 - i, by omega⟩
      have hqn : q < n := by omega
      have HQ : Hid (n - 1 - i = q) := by unfold Hid; omega
      have k1 : ((n : Int) - 1 - (i : Int)).toNat = q := by omega
      have k2 : 0 ≤ (n : Int) - 1 - (i : Int) := by omega
      have k3 : (n : Int) - 1 - (i : Int) < n := by omega
      obtain ⟨lg, lcap, lb, hlv, l1, l2⟩ := (HRL.out.below hbel).at_ hlt
      obtain ⟨rg, rcap, rb, hrv, r1, r2⟩ := (HRR.out.below hbel).at_ hqn
      subst hlv hrv
      have L1 := Lib.hid (fun (W : World) (hW : Below wo.heap.size wo W) => (hW.cell (p := ⟨lg, i, none⟩) (lt_of_cell l1)).trans l1)
      have L2 := Lib.hid (fun (W : World) (hW : Below wo.heap.size wo W) k (hk : k ≤ 300) => (hW.cell (p := ⟨lb, k, none⟩) (lt_of_cell (l2 k hk))).trans (l2 k hk))
      have R1 := Lib.hid (fun (W : World) (hW : Below wo.heap.size wo W) => (hW.cell (p := ⟨rg, q, none⟩) (lt_of_cell r1)).trans r1)
      have R2 := Lib.hid (fun (W : World) (hW : Below wo.heap.size wo W) k (hk : k ≤ 300) => (hW.cell (p := ⟨rb, k, none⟩) (lt_of_cell (r2 k hk))).trans (r2 k hk))
      unfold rowV at L1 R1
      have G0 := Lib.hid (Blk.new wo 98 #[.int .i64 0, .int .i64 0] rfl)
      have G1 := Lib.hid (below_self wo (.cells #[.int .i64 0, .int .i64 0] 98))
      have HS := Lib.hid (fun k => scan_succ (bothB xs bend i) k)
      have HB : Hid (∀ k, bothB xs bend i k = (reachB xs bend i k && reachB xs.reverse bend q k)) := fun k => by unfold bothB; rw [HL.out, HQ.out]
      have Hq := Lib.hid hq
      clear hq l1 l2 r1 r2 hbel
      go_wp2_with fail
      go_loopw [10, 11] (fun f hv wr => ∃ h : Nat, h ≤ 301 ∧ hv = .int .i64 h ∧ f = .bool (scanB (bothB xs bend i) h).1 ∧ Blk wr wo.heap.size 98 #[.int .i64 (scanB (bothB xs bend i) h).2.1, .int .i64 (scanB (bothB xs bend i) h).2.2] ∧ Below wo.heap.size wo wr) (fun _ hv _ => (302 - intOf hv).toNat)
      case atStart => exact ⟨0, by omega, rfl, rfl, G0.out, G1.out⟩
      case round =>
        obtain ⟨h, hh, rfl, rfl, hblk, hbel2⟩ := hrel
        have Hbel2 := Lib.hid hbel2
        have Hblk := Lib.hid hblk
        by_cases hle : h < 301
        · have hle' : (h : Int) ≤ 300 := by omega
          have hs := Lib.hid (HS.out h)
          have hb := Lib.hid (HB.out h)
          have l1 := L1.out wr hbel2
          have l2 := L2.out wr hbel2 h (by omega)
          have r1 := R1.out wr hbel2
          have r2 := R2.out wr hbel2 h (by omega)
          generalize bothB xs bend i h = bb at *
          generalize reachB xs bend i h = a1 at *
          generalize reachB xs.reverse bend q h = a2 at *
          generalize hsc : scanB (bothB xs bend i) h = sc at *
          obtain ⟨f, lo, hi1⟩ := sc
          simp only at hblk
          have Hsc := Lib.hid hsc
          have s0 := hblk.cell 0
          have s1 := hblk.cell 1
          have f0 := hblk.frozen 0
          have f1 := hblk.frozen 1
          have X1 := Lib.hid (hblk.set_ 1 (.int .i64 h))
          have X2 := Lib.hid ((hblk.set_ 0 (.int .i64 h)).set_ 1 (.int .i64 h))
          have Y1 := Lib.hid (hbel2.setCell (p := ⟨wo.heap.size, 1, none⟩) (Nat.le_refl _) (.int .i64 h))
          have Y2 := Lib.hid ((hbel2.setCell (p := ⟨wo.heap.size, 0, none⟩) (Nat.le_refl _) (.int .i64 h)).setCell (p := ⟨wo.heap.size, 1, none⟩) (Nat.le_refl _) (.int .i64 h))
          clear hsc hblk hbel2
          cases a1
          · have HE : Hid (scanB (bothB xs bend i) (h + 1) = (f, lo, hi1)) := by unfold Hid; rw [hs.out, hb.out]; rfl
            clear r1 r2
            go_wp2
            go_roundw
            case rel => exact ⟨h + 1, by omega, by go_num, by rw [HE.out], by rw [HE.out]; exact Hblk.out, Hbel2.out⟩
            case measure => simp [intOf]; omega
          · cases a2
            · have HE : Hid (scanB (bothB xs bend i) (h + 1) = (f, lo, hi1)) := by unfold Hid; rw [hs.out, hb.out]; rfl
              go_wp2
              go_roundw
              case rel => exact ⟨h + 1, by omega, by go_num, by rw [HE.out], by rw [HE.out]; exact Hblk.out, Hbel2.out⟩
              case measure => simp [intOf]; omega
            · cases f
              · have HE : Hid (scanB (bothB xs bend i) (h + 1) = (true, (h : Int), (h : Int))) := by unfold Hid; rw [hs.out, hb.out]; rfl
                go_wp2
                go_roundw
                case rel => exact ⟨h + 1, by omega, by go_num, by rw [HE.out], by rw [HE.out]; exact X2.out, Y2.out⟩
                case measure => simp [intOf]; omega
              · have HE : Hid (scanB (bothB xs bend i) (h + 1) = (true, lo, (h : Int))) := by unfold Hid; rw [hs.out, hb.out]; rfl
                go_wp2
                go_roundw
                case rel => exact ⟨h + 1, by omega, by go_num, by rw [HE.out], by rw [HE.out]; exact X1.out, Y1.out⟩
                case measure => simp [intOf]; omega
        · obtain rfl : h = 301 := by omega
          have Hown2 := Lib.hid (ownsRow_below Hown.out hbel2)
          have Hbel4 := Lib.hid (below_then Hbel.out hbel2)
          have Hbel5 := Lib.hid (below_then D3.out Hbel4.out)
          have hsz := Hbel4.out.size
          have HC : Hid (curB xs bend i = scanB (bothB xs bend i) 301) := rfl
          have hle' : ¬ (301 : Int) ≤ 300 := by omega
          have HT := Lib.hid (curTo_succ xs bend i)
          generalize scanB (bothB xs bend i) 301 = sc at *
          obtain ⟨f, lo, hi1⟩ := sc
          simp only at hblk
          have Hblk := Lib.hid hblk
          have s0 := hblk.cell 0
          have s1 := hblk.cell 1
          clear hblk hbel2
          cases f
          · have HE := Lib.hid (HNONE.out i hlt (by rw [HC.out]))
            go_wp2
            go_ret
            exact ⟨_, rfl, by rw [HE.out]; exact World.ownsRow_nil _ _ _ _, Hbel5.out⟩
          · have Hnew := Lib.hid (cell_two_at wr (.int .i64 lo) (.int .i64 hi1) 98)
            go_wp2_with (at_builtin; refine wpList_append_own _ rfl _ _ 22 rfl w3.heap.size 98 i0 (.agg #[.int .i64 0, .int .i64 0]) 2 16 Try.underlying22 hi hz0 hz1 hz2 rfl (by decide) _ _ _ rfl (Hown2.out.alloc _) ⟨wr.heap.size, 0, none⟩ 1 1 [.int .i64 lo, .int .i64 hi1] rfl rfl Hnew.out ?c2 ?c3 ?c4 ?c5 ?_)
            case c2 => first | exact ⟨rfl, rfl⟩ | rfl | (intro u hu; simp only [List.mem_cons, List.not_mem_nil, or_false] at hu; rcases hu with rfl | rfl <;> rfl)
            case c3 => unfold maxLen; omega
            case c4 => omega
            case c5 => first | omega | (simp; omega)
            intro v' w4 hown4 hgrow _
            have B4 := Lib.hid ((Hbel4.out.alloc Hbel4.out.size _).grown hgrow (Nat.le_trans Hbel4.out.size (by simp)) (fun q hq => (Hown2.out.lt q hq).1))
            have hown5 : Hid (w4.ownsRow w3.heap.size 98 2 v' (i + 1) (flat2 (curTo xs bend (i + 1)))) := by
              unfold Hid; rw [HT.out, HC.out, flat2_append]; exact hown4
            have Hall2 : Hid (∀ j, j < i + 1 → (curB xs bend j).1 = true) := fun j hj => by
              by_cases e : j < i
              · exact Hall.out j e
              · obtain rfl : j = i := by omega
                rw [HC.out]
            clear hown4 hgrow
            go_wp2
            go_roundw
            case rel => exact ⟨i + 1, by omega, by go_num, Hall2.out, hown5.out, B4.out⟩
            case measure => simp [intOf]; omega
    · obtain rfl : i = n := by omega
      have HE := Lib.hid (HALL.out Hall.out)
      have HEL : Hid ((refCurveL xs bend).length = i) := by unfold Hid; rw [HE.out]; simp [curTo]
      clear hbel
      go_wp2
      go_ret
      exact ⟨_, rfl, by rw [HEL.out, HE.out]; exact own_base Hown.out D3.out.size, below_then D3.out Hbel.out⟩
end Go.Proofs.Ytiflhimmieflpaa

/- Walks: the reference's Check. -/
namespace Go.Proofs.Ytiflhimmieflpaa
open Go.RowKit Go.Maps Go.Sort

def colBad (s t : Int × Int) : Bool := !spanB s 0 300 || !spanB t 0 300 || decide (t.1 < s.2)
def colsBad (bot top : List (Int × Int)) (k : Nat) : Bool := (List.range k).any fun i => colBad (bot.getD i (0, 0)) (top.getD i (0, 0))
theorem colsBad_succ (bot top : List (Int × Int)) (k : Nat) : colsBad bot top (k + 1) = (colsBad bot top k || colBad (bot.getD k (0, 0)) (top.getD k (0, 0))) := by simp [colsBad, List.range_succ]
theorem colsBad_yes {bot top : List (Int × Int)} {k n : Nat} (hk : k < n) (h : colBad (bot.getD k (0, 0)) (top.getD k (0, 0)) = true) : colsBad bot top n = true := by
  unfold colsBad; rw [List.any_eq_true]; exact ⟨k, List.mem_range.2 hk, h⟩
def crBad (n : Int) (k : Crack) : Bool := !spanB (k.cl, k.ch) 0 (n - 1) || decide (4 < k.ch - k.cl) || !spanB (k.fl, k.fh) 0 300 || !spanB (k.tl, k.th) 0 300 || decide (k.tl < k.fh)
def cracksBad (n : Int) (cr : List Crack) (k : Nat) : Bool := (List.range k).any fun i => crBad n (cr.getD i Crack.zero)
theorem cracksBad_succ (n : Int) (cr : List Crack) (k : Nat) : cracksBad n cr (k + 1) = (cracksBad n cr k || crBad n (cr.getD k Crack.zero)) := by simp [cracksBad, List.range_succ]
theorem cracksBad_yes {n : Int} {cr : List Crack} {k m : Nat} (hk : k < m) (h : crBad n (cr.getD k Crack.zero) = true) : cracksBad n cr m = true := by
  unfold cracksBad; rw [List.any_eq_true]; exact ⟨k, List.mem_range.2 hk, h⟩
def refErr (n n' m : Nat) (bend : Int) (bot top : List (Int × Int)) (cr : List Crack) : Int :=
  if n ≠ n' then 4 else if inB n 1 30 = false then 4 else if 4 < m then 5 else if colsBad bot top n = true then 2 else if inB bend 0 300 = false then 2
  else if cracksBad n cr m = true then 2 else if (refCurveL bot bend).length = 0 then 9 else if (refCurveL top bend).length = 0 then 9 else 0

theorem spanB_in {s : Int × Int} {a b : Int} (h : spanB s a b = true) : a ≤ s.1 ∧ s.1 ≤ s.2 ∧ s.2 ≤ b := by
  simp only [spanB, inB, Bool.and_eq_true, decide_eq_true_eq] at h
  omega
theorem colsOk_in {bot top : List (Int × Int)} {n : Nat} (h : colsBad bot top n = false) (hb : bot.length = n) (ht : top.length = n) : (∀ s ∈ bot, InR s) ∧ (∀ s ∈ top, InR s) := by
  unfold colsBad at h
  rw [List.any_eq_false] at h
  have key : ∀ i, i < n → (spanB (bot.getD i (0, 0)) 0 300 = true ∧ spanB (top.getD i (0, 0)) 0 300 = true) := fun i hi => by
    have := h i (List.mem_range.2 hi)
    simp only [colBad, Bool.not_eq_true, Bool.or_eq_false_iff, Bool.not_eq_false'] at this
    exact this.1
  constructor
  · intro s hs
    obtain ⟨i, hi, rfl⟩ := List.mem_iff_getElem.1 hs
    have h1 := spanB_in (key i (by omega)).1
    have e : bot.getD i (0, 0) = bot[i] := by rw [List.getD, List.getElem?_eq_getElem hi]; rfl
    rw [e] at h1
    unfold InR; omega
  · intro s hs
    obtain ⟨i, hi, rfl⟩ := List.mem_iff_getElem.1 hs
    have h1 := spanB_in (key i (by omega)).2
    have e : top.getD i (0, 0) = top[i] := by rw [List.getD, List.getElem?_eq_getElem hi]; rfl
    rw [e] at h1
    unfold InR; omega

/-- A region that draws, whose callees leave what was there alone: one step. -/
theorem regrown_true {P : Program} {f : FuncId} {args : Array Value} {w : World} {d : Nat} {os : Array Obj} {v : Value}
    (h : ∀ W, Calls P f args W fun e w' => e = .returned v ∧ Below W.heap.size W w') : Calls P f args (grow (redrawn w d) os) fun e w'' => e = .returned v ∧ ∃ p : Regrown, w'' = grow (redrawn w p.d) p.os := Calls.regrown_of (h _)
theorem span_val {lo hi a b : Int} {r : Bool} (h : spanB (lo, hi) a b = r) (W : World) : Calls Try.prog 61 #[.agg #[.int .i64 lo, .int .i64 hi], .int .i64 a, .int .i64 b] W fun e w' => e = .returned (.bool r) ∧ Below W.heap.size W w' :=
  (RefSpan_any lo hi a b W).mono fun _ _ ⟨he, hb⟩ => ⟨by rw [he, h], hb⟩

set_option maxRecDepth 100000 in
set_option maxHeartbeats 4000000 in
theorem RefCheck_core (A A' K : Option Addr) (n c n' c' m d : Nat) (bend : Int) (bot top : List (Int × Int)) (cr : List Crack) (w : World) (h : Pairs w A n bot) (h' : Pairs w A' n' top) (hk : Cracks w K m cr) (hn : n ≤ 1000) (hn' : n' ≤ 1000) (hm : m ≤ 1000) :
    Calls Try.prog 22 #[.agg #[.slice A n c, .slice A' n' c', .int .i64 bend, .slice K m d]] w fun e w' => e = .returned (.int .i64 (refErr n n' m bend bot top cr)) ∧ Below w.heap.size w w' := by
  have HD : Hid (refErr n n' m bend bot top cr = if n ≠ n' then 4 else if inB n 1 30 = false then 4 else if 4 < m then 5 else if colsBad bot top n = true then 2 else if inB bend 0 300 = false then 2
    else if cracksBad n cr m = true then 2 else if (refCurveL bot bend).length = 0 then 9 else if (refCurveL top bend).length = 0 then 9 else 0) := rfl
  have B0 := Lib.hid (below_self w (.cells #[.slice A n c, .slice A' n' c', .int .i64 bend, .slice K m d] 25))
  have S0 := Lib.hid (Blk.new w 25 #[.slice A n c, .slice A' n' c', .int .i64 bend, .slice K m d] rfl)
  have HI := Lib.hid (fun a b c W => RefIn_any a b c W)
  have H1 := Lib.hid h
  have H2 := Lib.hid h'
  have H3 := Lib.hid hk
  clear h h' hk
  by_cases e1 : n = n'
  case neg =>
    have hd2 : ((n : Int) != (n' : Int)) = true := by simp; omega
    have HE : Hid (refErr n n' m bend bot top cr = 4) := by unfold Hid; rw [HD.out, if_pos e1]
    clear HD
    go_enter Try.func22, Try.ntmps22
    go_wp2
    go_ret
    exact ⟨ret_int HE.out.symm, B0.out⟩
  subst e1
  have hd2 : ((n : Int) != (n : Int)) = false := by simp
  cases e2 : inB n 1 30
  case false =>
    have HE : Hid (refErr n n m bend bot top cr = 4) := by unfold Hid; rw [HD.out, if_neg (by simp), if_pos e2]
    have HI2 := Lib.hid (fun W => HI.out n 1 30 W)
    rw [e2] at HI2
    clear HD e2
    go_enter Try.func22, Try.ntmps22
    go_wp2_with fail
    refine (HI2.out _).mono ?_
    rintro e w' ⟨rfl, rfl⟩
    go_wp2
    go_ret
    exact ⟨ret_int HE.out.symm, B0.out⟩
  have hn1 : 1 ≤ n ∧ n ≤ 30 := by simp only [inB, Bool.and_eq_true, decide_eq_true_eq] at e2; omega
  obtain ⟨hn1, hn30⟩ := hn1
  have HI2 := Lib.hid (fun W => HI.out n 1 30 W)
  rw [e2] at HI2
  by_cases e3 : 4 < m
  case pos =>
    have HE : Hid (refErr n n m bend bot top cr = 5) := by unfold Hid; rw [HD.out, if_neg (by simp), if_neg (by rw [e2]; simp), if_pos e3]
    clear HD e2
    go_enter Try.func22, Try.ntmps22
    go_wp2_with fail
    refine (HI2.out _).mono ?_
    rintro e w' ⟨rfl, rfl⟩
    go_wp2
    go_ret
    exact ⟨ret_int HE.out.symm, B0.out⟩
  have HD2 : Hid (refErr n n m bend bot top cr = if colsBad bot top n = true then 2 else if inB bend 0 300 = false then 2
    else if cracksBad n cr m = true then 2 else if (refCurveL bot bend).length = 0 then 9 else if (refCurveL top bend).length = 0 then 9 else 0) := by
    unfold Hid; rw [HD.out, if_neg (by simp), if_neg (by rw [e2]; simp), if_neg e3]
  have HCY := Lib.hid (fun k (hk : k < n) hh => colsBad_yes (bot := bot) (top := top) (k := k) (n := n) hk hh)
  have HCS := Lib.hid (fun k => colsBad_succ bot top k)
  clear HD e2
  go_enter Try.func22, Try.ntmps22
  go_wp2_with fail
  refine (HI2.out _).mono ?_
  rintro e w' ⟨rfl, rfl⟩
  go_wp2_with fail
  clear HI2
  go_loopw [3] (fun i wr => ∃ k : Nat, k ≤ n ∧ i = .int .i64 k ∧ colsBad bot top k = false ∧ Below (w.alloc (.cells #[.slice A n c, .slice A' n c', .int .i64 bend, .slice K m d] 25)).heap.size (w.alloc (.cells #[.slice A n c, .slice A' n c', .int .i64 bend, .slice K m d] 25)) wr) (fun i _ => n - (intOf i).toNat)
  case atStart => exact ⟨0, Nat.zero_le _, rfl, rfl, Below.refl _ _⟩
  case round =>
    obtain ⟨k, hk, rfl, hcb, hbel⟩ := hrel
    have Hcb := Lib.hid hcb
    have Hbel := Lib.hid hbel
    have S1 := Lib.hid (blk_keep hbel S0.out)
    have s1 := S1.out.cell
    clear hcb
    by_cases hlt : k < n
    · obtain ⟨b, off, hA, hb, q0, q1⟩ := (H1.out.below (below_then B0.out hbel)).at_ hlt
      obtain ⟨b', off', hA', hb', p0, p1⟩ := (H2.out.below (below_then B0.out hbel)).at_ hlt
      subst hA hA'
      have HY := Lib.hid (HCY.out k hlt)
      have HS := Lib.hid (HCS.out k)
      generalize bot.getD k (0, 0) = x at *
      generalize top.getD k (0, 0) = y at *
      obtain ⟨x1, x2⟩ := x
      obtain ⟨y1, y2⟩ := y
      simp only at q0 q1 p0 p1
      have HBad : Hid (colBad (x1, x2) (y1, y2) = (!spanB (x1, x2) 0 300 || !spanB (y1, y2) 0 300 || decide (y1 < x2))) := rfl
      have r0 := fun d os => cell_regrown q0 d os
      have r1 := fun d os => cell_regrown q1 d os
      have r2 := fun d os => cell_regrown p0 d os
      have r3 := fun d os => cell_regrown p1 d os
      have t0 := fun d os => cell_regrown (s1 0) d os
      have t1 := fun d os => cell_regrown (s1 1) d os
      cases hs1 : spanB (x1, x2) 0 300
      · have HV1 := Lib.hid (span_val hs1)
        have HE : Hid (refErr n n m bend bot top cr = 2) := by unfold Hid; rw [HD2.out, if_pos (HY.out (by rw [HBad.out, hs1]; rfl))]
        clear hs1 HD2 HCY HCS
        go_wp2_with fail
        refine wp_region_quiet_below (by kernel_rfl) (by kernel_rfl) ?_
        repeat (go_big_quiet_step (with_reducible exact regrown_true HV1.out))
        refine wpQuiet_nil ?_
        intro _ hw'
        obtain ⟨⟨dq, osq⟩, hw''⟩ := hw'
        subst hw''
        have B8 := Lib.hid (below_then Hbel.out (below_regrown wr dq osq))
        generalize grow (redrawn wr dq) osq = w8 at *
        clear r0 r1 r2 r3 t0 t1
        go_wp2
        go_ret
        exact ⟨ret_int HE.out.symm, below_then B0.out B8.out⟩
      · have HV1 := Lib.hid (span_val hs1)
        cases hs2 : spanB (y1, y2) 0 300
        · have HV2 := Lib.hid (span_val hs2)
          have HE : Hid (refErr n n m bend bot top cr = 2) := by unfold Hid; rw [HD2.out, if_pos (HY.out (by rw [HBad.out, hs1, hs2]; rfl))]
          clear hs1 hs2 HD2 HCY HCS
          go_wp2_with fail
          refine wp_region_quiet_below (by kernel_rfl) (by kernel_rfl) ?_
          repeat (go_big_quiet_step (first | with_reducible exact regrown_true HV1.out | with_reducible exact regrown_true HV2.out))
          refine wpQuiet_nil ?_
          intro _ hw'
          obtain ⟨⟨dq, osq⟩, hw''⟩ := hw'
          subst hw''
          have B8 := Lib.hid (below_then Hbel.out (below_regrown wr dq osq))
          generalize grow (redrawn wr dq) osq = w8 at *
          clear r0 r1 r2 r3 t0 t1
          go_wp2
          go_ret
          exact ⟨ret_int HE.out.symm, below_then B0.out B8.out⟩
        · have HV2 := Lib.hid (span_val hs2)
          by_cases hlt2 : y1 < x2
          · have HE : Hid (refErr n n m bend bot top cr = 2) := by unfold Hid; rw [HD2.out, if_pos (HY.out (by rw [HBad.out, hs1, hs2]; simp [hlt2]))]
            clear hs1 hs2 HD2 HCY HCS
            go_wp2_with fail
            refine wp_region_quiet_below (by kernel_rfl) (by kernel_rfl) ?_
            repeat (go_big_quiet_step (first | with_reducible exact regrown_true HV1.out | with_reducible exact regrown_true HV2.out))
            refine wpQuiet_nil ?_
            intro _ hw'
            obtain ⟨⟨dq, osq⟩, hw''⟩ := hw'
            subst hw''
            have B8 := Lib.hid (below_then Hbel.out (below_regrown wr dq osq))
            generalize grow (redrawn wr dq) osq = w8 at *
            clear r0 r1 r2 r3 t0 t1
            go_wp2
            go_ret
            exact ⟨ret_int HE.out.symm, below_then B0.out B8.out⟩
          · have HN : Hid (colsBad bot top (k + 1) = false) := by unfold Hid; rw [HS.out, Hcb.out, HBad.out, hs1, hs2]; simp [hlt2]
            have hd3 : decide (y1 < x2) = false := by simpa using hlt2
            clear hs1 hs2
            go_wp2_with fail
            refine wp_region_quiet_below (by kernel_rfl) (by kernel_rfl) ?_
            repeat (go_big_quiet_step (first | with_reducible exact regrown_true HV1.out | with_reducible exact regrown_true HV2.out))
            refine wpQuiet_nil ?_
            intro _ hw'
            obtain ⟨⟨dq, osq⟩, hw''⟩ := hw'
            subst hw''
            have B8 := Lib.hid (below_then Hbel.out (below_regrown wr dq osq))
            generalize grow (redrawn wr dq) osq = w8 at *
            clear r0 r1 r2 r3 t0 t1
            go_wp2
            go_roundw
            case rel => exact ⟨k + 1, by omega, by go_num, HN.out, B8.out⟩
            case measure => simp [intOf]; omega
    · obtain rfl : k = n := by omega
      obtain ⟨hxb, hxt⟩ := colsOk_in Hcb.out H1.out.len H2.out.len
      have HXB := Lib.hid hxb
      have HXT := Lib.hid hxt
      have HD3 : Hid (refErr k k m bend bot top cr = if inB bend 0 300 = false then 2
        else if cracksBad k cr m = true then 2 else if (refCurveL bot bend).length = 0 then 9 else if (refCurveL top bend).length = 0 then 9 else 0) := by
        unfold Hid; rw [HD2.out, if_neg (by rw [Hcb.out]; simp)]
      have D1 := Lib.hid (below_then B0.out Hbel.out)
      clear hbel hxb hxt HD2 HCY HCS Hcb Hbel S0 B0
      go_wp2_with fail
      refine (HI.out _ _ _ _).mono ?_
      rintro e w' ⟨rfl, rfl⟩
      cases hb : inB bend 0 300
      · have HE : Hid (refErr k k m bend bot top cr = 2) := by unfold Hid; rw [HD3.out, if_pos hb]
        clear HD3 hb
        go_wp2
        go_ret
        exact ⟨ret_int HE.out.symm, D1.out⟩
      have hbb : 0 ≤ bend ∧ bend ≤ 300 := by simp only [inB, Bool.and_eq_true, decide_eq_true_eq] at hb; omega
      obtain ⟨hb0, hb3⟩ := hbb
      have HD4 : Hid (refErr k k m bend bot top cr = if cracksBad k cr m = true then 2 else if (refCurveL bot bend).length = 0 then 9 else if (refCurveL top bend).length = 0 then 9 else 0) := by
        unfold Hid; rw [HD3.out, if_neg (by rw [hb]; simp)]
      have HCY := Lib.hid (fun j (hj : j < m) hh => cracksBad_yes (n := k) (cr := cr) (k := j) (m := m) hj hh)
      have HCS := Lib.hid (fun j => cracksBad_succ k cr j)
      clear HD3 hb
      go_wp2_with fail
      obtain ⟨wa, rfl⟩ : ∃ wa : World, wa = wr := ⟨_, rfl⟩
      clear s1
      go_loopw [4] (fun i wr => ∃ j : Nat, j ≤ m ∧ i = .int .i64 j ∧ cracksBad k cr j = false ∧ Below wa.heap.size wa wr) (fun i _ => m - (intOf i).toNat)
      case atStart => exact ⟨0, Nat.zero_le _, rfl, rfl, Below.refl _ _⟩
      case round =>
        obtain ⟨j, hj, rfl, hcb, hbel⟩ := hrel
        have Hcb := Lib.hid hcb
        have Hbel := Lib.hid hbel
        have S2 := Lib.hid (blk_keep hbel S1.out)
        have s2 := S2.out.cell
        clear hcb
        by_cases hlt : j < m
        · obtain ⟨b, off, hA, hbl, q0, q1, q2, q3, q4, q5⟩ := (H3.out.below (below_then D1.out hbel)).at_ hlt
          subst hA
          have HY := Lib.hid (HCY.out j hlt)
          have HS := Lib.hid (HCS.out j)
          generalize cr.getD j Crack.zero = x at *
          obtain ⟨cl, ch, fl, fh, tl, th⟩ := x
          simp only at q0 q1 q2 q3 q4 q5
          have HBad : Hid (crBad k ⟨cl, ch, fl, fh, tl, th⟩ = (!spanB (cl, ch) 0 ((k : Int) - 1) || decide (4 < ch - cl) || !spanB (fl, fh) 0 300 || !spanB (tl, th) 0 300 || decide (tl < fh))) := rfl
          have HN0 : Hid (∀ r, crBad k ⟨cl, ch, fl, fh, tl, th⟩ = r → cracksBad k cr (j + 1) = r) := fun r hr => by rw [HS.out, Hcb.out, hr]; simp
          have E1 := Lib.hid (below_alloc' (Hbel.out.mono (Nat.le_refl _)) (.cells #[.int .i64 cl, .int .i64 ch, .int .i64 fl, .int .i64 fh, .int .i64 tl, .int .i64 th] 111))
          have X1 := Lib.hid (Blk.new wr 111 #[.int .i64 cl, .int .i64 ch, .int .i64 fl, .int .i64 fh, .int .i64 tl, .int .i64 th] rfl)
          have S3 := Lib.hid (S2.out.alloc (.cells #[.int .i64 cl, .int .i64 ch, .int .i64 fl, .int .i64 fh, .int .i64 tl, .int .i64 th] 111))
          have hz := S2.out.lt
          clear hbel
          go_wp2_with fail
          clear s2 hz q0 q1 q2 q3 q4 q5
          cases hs1 : spanB (cl, ch) 0 ((k : Int) - 1)
          · refine (span_val hs1 _).mono ?_
            rintro e w4 ⟨rfl, b4⟩
            have B4 := Lib.hid (below_then E1.out b4)
            have X4 := Lib.hid (blk_keep b4 X1.out)
            have S4 := Lib.hid (blk_keep b4 S3.out)
            have x4 := X4.out.cell
            have s4 := S4.out.cell
            clear b4
            have HE : Hid (refErr k k m bend bot top cr = 2) := by unfold Hid; rw [HD4.out, if_pos (HY.out (by rw [HBad.out]; simp [hs1]))]
            clear HD4 HCY HCS
            go_wp2
            go_ret
            exact ⟨ret_int HE.out.symm, below_then D1.out B4.out⟩
          · have hcc := spanB_in hs1
            obtain ⟨g1, g2, g3⟩ := hcc
            simp only at g1 g2 g3
            refine (span_val hs1 _).mono ?_
            rintro e w4 ⟨rfl, b4⟩
            have B4 := Lib.hid (below_then E1.out b4)
            have X4 := Lib.hid (blk_keep b4 X1.out)
            have S4 := Lib.hid (blk_keep b4 S3.out)
            have x4 := X4.out.cell
            have s4 := S4.out.cell
            clear b4
            by_cases hw : 4 < ch - cl
            · have HE : Hid (refErr k k m bend bot top cr = 2) := by unfold Hid; rw [HD4.out, if_pos (HY.out (by rw [HBad.out]; simp [hs1, hw]))]
              clear HD4 HCY HCS
              go_wp2
              go_ret
              exact ⟨ret_int HE.out.symm, below_then D1.out B4.out⟩
            · have hwd : decide (4 < ch - cl) = false := by simpa using hw
              go_wp2_with fail
              cases hs2 : spanB (fl, fh) 0 300
              · refine (span_val hs2 _).mono ?_
                rintro e w5 ⟨rfl, b5⟩
                have B5 := Lib.hid (below_then B4.out b5)
                have X5 := Lib.hid (blk_keep b5 X4.out)
                have S5 := Lib.hid (blk_keep b5 S4.out)
                have x5 := X5.out.cell
                have s5 := S5.out.cell
                clear b5
                clear x4 s4
                have HE : Hid (refErr k k m bend bot top cr = 2) := by unfold Hid; rw [HD4.out, if_pos (HY.out (by rw [HBad.out]; simp [hs1, hwd, hs2]))]
                clear HD4 HCY HCS
                go_wp2
                go_ret
                exact ⟨ret_int HE.out.symm, below_then D1.out B5.out⟩
              · refine (span_val hs2 _).mono ?_
                rintro e w5 ⟨rfl, b5⟩
                have B5 := Lib.hid (below_then B4.out b5)
                have X5 := Lib.hid (blk_keep b5 X4.out)
                have S5 := Lib.hid (blk_keep b5 S4.out)
                have x5 := X5.out.cell
                have s5 := S5.out.cell
                clear b5
                clear x4 s4
                go_wp2_with fail
                cases hs3 : spanB (tl, th) 0 300
                · refine (span_val hs3 _).mono ?_
                  rintro e w6 ⟨rfl, b6⟩
                  have B6 := Lib.hid (below_then B5.out b6)
                  have X6 := Lib.hid (blk_keep b6 X5.out)
                  have S6 := Lib.hid (blk_keep b6 S5.out)
                  have x6 := X6.out.cell
                  have s6 := S6.out.cell
                  clear b6
                  clear x5 s5
                  have HE : Hid (refErr k k m bend bot top cr = 2) := by unfold Hid; rw [HD4.out, if_pos (HY.out (by rw [HBad.out]; simp [hs1, hwd, hs2, hs3]))]
                  clear HD4 HCY HCS
                  go_wp2
                  go_ret
                  exact ⟨ret_int HE.out.symm, below_then D1.out B6.out⟩
                · refine (span_val hs3 _).mono ?_
                  rintro e w6 ⟨rfl, b6⟩
                  have B6 := Lib.hid (below_then B5.out b6)
                  have X6 := Lib.hid (blk_keep b6 X5.out)
                  have S6 := Lib.hid (blk_keep b6 S5.out)
                  have x6 := X6.out.cell
                  have s6 := S6.out.cell
                  clear b6
                  clear x5 s5
                  by_cases hw2 : tl < fh
                  · have HE : Hid (refErr k k m bend bot top cr = 2) := by unfold Hid; rw [HD4.out, if_pos (HY.out (by rw [HBad.out]; simp [hs1, hwd, hs2, hs3, hw2]))]
                    clear HD4 HCY HCS
                    go_wp2
                    go_ret
                    exact ⟨ret_int HE.out.symm, below_then D1.out B6.out⟩
                  · have HN := Lib.hid (HN0.out false (by rw [HBad.out]; simp [hs1, hwd, hs2, hs3]; omega))
                    have hwd2 : decide (tl < fh) = false := by simpa using hw2
                    go_wp2
                    go_roundw
                    case rel => exact ⟨j + 1, by omega, by go_num, HN.out, B6.out⟩
                    case measure => simp [intOf]; omega
        · obtain rfl : j = m := by omega
          have HD5 : Hid (refErr k k j bend bot top cr = if (refCurveL bot bend).length = 0 then 9 else if (refCurveL top bend).length = 0 then 9 else 0) := by
            unfold Hid; rw [HD4.out, if_neg (by rw [Hcb.out]; simp)]
          have D2 := Lib.hid (below_then D1.out hbel)
          have HC1 := Lib.hid (RefCurve_any A k c bot bend wr (H1.out.below D2.out) hn HXB.out hb0 hb3)
          have HC2 := Lib.hid (fun W (hb : Below w.heap.size w W) => RefCurve_any A' k c' top bend W (H2.out.below hb) hn HXT.out hb0 hb3)
          clear hbel HD4 HCY HCS
          go_wp2_with fail
          refine HC1.out.mono ?_
          rintro e w4 ⟨v, rfl, hown, b4⟩
          obtain ⟨VA, vc, rfl⟩ := own_slice0 hown
          have B4 := Lib.hid (below_then D2.out b4)
          have S4 := Lib.hid (blk_keep b4 S2.out)
          have s4 := S4.out.cell
          have HC3 := Lib.hid (HC2.out _ B4.out)
          clear b4 hown HC1 HC2 s2
          by_cases hl1 : (refCurveL bot bend).length = 0
          · have HE : Hid (refErr k k j bend bot top cr = 9) := by unfold Hid; rw [HD5.out, if_pos hl1]
            have hl1' : (((refCurveL bot bend).length : Int) == 0) = true := by simp [hl1]
            generalize (refCurveL bot bend).length = L at *
            clear HD5 hl1
            go_wp2
            go_ret
            exact ⟨ret_int HE.out.symm, B4.out⟩
          · have HD6 : Hid (refErr k k j bend bot top cr = if (refCurveL top bend).length = 0 then 9 else 0) := by unfold Hid; rw [HD5.out, if_neg hl1]
            have hl1' : (((refCurveL bot bend).length : Int) == 0) = false := by simpa using hl1
            generalize (refCurveL bot bend).length = L at *
            clear HD5 hl1
            go_wp2_with fail
            refine HC3.out.mono ?_
            rintro e w5 ⟨v, rfl, hown, b5⟩
            obtain ⟨VB, vd, rfl⟩ := own_slice0 hown
            have B5 := Lib.hid (below_then B4.out b5)
            clear b5 hown HC3 s4
            by_cases hl2 : (refCurveL top bend).length = 0
            · have HE : Hid (refErr k k j bend bot top cr = 9) := by unfold Hid; rw [HD6.out, if_pos hl2]
              have hl2' : (((refCurveL top bend).length : Int) == 0) = true := by simp [hl2]
              generalize (refCurveL top bend).length = M at *
              clear HD6 hl2
              go_wp2
              go_ret
              exact ⟨ret_int HE.out.symm, B5.out⟩
            · have HE : Hid (refErr k k j bend bot top cr = 0) := by unfold Hid; rw [HD6.out, if_neg hl2]
              have hl2' : (((refCurveL top bend).length : Int) == 0) = false := by simpa using hl2
              generalize (refCurveL top bend).length = M at *
              clear HD6 hl2
              go_wp2
              go_ret
              exact ⟨ret_int HE.out.symm, B5.out⟩
end Go.Proofs.Ytiflhimmieflpaa

/- The reference's error of a blade is the program's; walks: large. -/
namespace Go.Proofs.Ytiflhimmieflpaa
open Go.RowKit Go.Maps

theorem inB_within (n a b : Int) : inB n a b = within a b [n] := by simp [inB, within]
theorem spanB_iff {s : Int × Int} {a b : Int} : spanB s a b = true ↔ a ≤ s.1 ∧ s.1 ≤ s.2 ∧ s.2 ≤ b := by
  simp only [spanB, inB, Bool.and_eq_true, decide_eq_true_eq]; omega
theorem validS_iff {xs : List (Int × Int)} {a b : Int} : validS a b xs = true ↔ ∀ i, i < xs.length → spanB (xs.getD i (0, 0)) a b = true := by
  unfold validS
  rw [List.all_eq_true]
  constructor
  · intro h i hi
    have e : xs.getD i (0, 0) = xs[i] := by rw [List.getD, List.getElem?_eq_getElem hi]; rfl
    have := h xs[i] (List.getElem_mem hi)
    simp only [Bool.and_eq_true, decide_eq_true_eq] at this
    rw [e, spanB_iff]; omega
  · intro h s hs
    obtain ⟨i, hi, rfl⟩ := List.mem_iff_getElem.1 hs
    have e : xs.getD i (0, 0) = xs[i] := by rw [List.getD, List.getElem?_eq_getElem hi]; rfl
    have := h i hi
    rw [e, spanB_iff] at this
    simp only [Bool.and_eq_true, decide_eq_true_eq]; omega
theorem edges_cols {bend : Int} {bot top : List (Int × Int)} {n : Nat} (hb : bot.length = n) (ht : top.length = n) : edgesOk bend bot top = true ↔ colsBad bot top n = false ∧ inB bend 0 300 = true := by
  unfold edgesOk colsBad
  rw [inB_within, List.any_eq_false]
  simp only [Bool.and_eq_true, validS_iff, below2, List.all_eq_true, decide_eq_true_eq, List.mem_range]
  rw [hb, ht]
  constructor
  · rintro ⟨⟨⟨h1, h2⟩, h3⟩, h4⟩
    refine ⟨fun i hi => ?_, h1⟩
    simp only [colBad, h2 i hi, h3 i hi, Bool.not_true, Bool.false_or, decide_eq_true_eq]
    have := h4 i hi
    omega
  · rintro ⟨h, h1⟩
    have key : ∀ i, i < n → spanB (bot.getD i (0, 0)) 0 300 = true ∧ spanB (top.getD i (0, 0)) 0 300 = true ∧ (bot.getD i (0, 0)).2 ≤ (top.getD i (0, 0)).1 := fun i hi => by
      have := h i hi
      simp only [colBad, Bool.not_eq_true, Bool.or_eq_false_iff, Bool.not_eq_false', decide_eq_false_iff_not] at this
      exact ⟨this.1.1, this.1.2, by omega⟩
    exact ⟨⟨⟨h1, fun i hi => (key i hi).1⟩, fun i hi => (key i hi).2.1⟩, fun i hi => (key i hi).2.2⟩
theorem crack_bad {n : Int} (k : Crack) : crBad n k = !crackOk n k := by
  have h : crBad n k = false ↔ crackOk n k = true := by
    simp only [crBad, crackOk, validS, List.all_cons, List.all_nil, Bool.and_true, Bool.or_eq_false_iff, Bool.not_eq_false', Bool.and_eq_true, decide_eq_true_eq, decide_eq_false_iff_not, spanB_iff]
    omega
  cases h1 : crBad n k <;> cases h2 : crackOk n k <;> simp_all
theorem cracks_any {n : Int} {cr : List Crack} {m : Nat} (hc : cr.length = m) : cracksBad n cr m = cr.any fun k => !crackOk n k := by
  rw [Bool.eq_iff_iff]
  unfold cracksBad
  rw [List.any_eq_true, List.any_eq_true]
  constructor
  · rintro ⟨i, hi, h⟩
    have hi' : i < cr.length := by rw [hc]; exact List.mem_range.1 hi
    have e : cr.getD i Crack.zero = cr[i] := by rw [List.getD, List.getElem?_eq_getElem hi']; rfl
    rw [e, crack_bad] at h
    exact ⟨cr[i], List.getElem_mem hi', h⟩
  · rintro ⟨s, hs, h⟩
    obtain ⟨i, hi, rfl⟩ := List.mem_iff_getElem.1 hs
    have e : cr.getD i Crack.zero = cr[i] := by rw [List.getD, List.getElem?_eq_getElem hi]; rfl
    exact ⟨i, List.mem_range.2 (by omega), by rw [e, crack_bad]; exact h⟩
theorem errs_eq {n n' m : Nat} {bend : Int} {bot top : List (Int × Int)} {cr : List Crack} (hb : bot.length = n) (ht : top.length = n') (hc : cr.length = m) : refErr n n' m bend bot top cr = curveErr n n' m bend bot top cr := by
  unfold refErr curveErr
  by_cases e1 : n = n'
  case neg => rw [if_pos e1, if_pos e1]
  subst e1
  rw [if_neg (show ¬ n ≠ n by simp), if_neg (show ¬ n ≠ n by simp), inB_within (n : Int) 1 30]
  by_cases e2 : within 1 30 [(n : Int)] = false
  · rw [if_pos e2, if_pos e2]
  rw [if_neg e2, if_neg e2]
  by_cases e3 : 4 < m
  · rw [if_pos e3, if_pos e3]
  rw [if_neg e3, if_neg e3, cracks_any hc]
  have he := edges_cols (bend := bend) hb ht
  by_cases e4 : edgesOk bend bot top = true
  case neg =>
    rw [if_pos (show edgesOk bend bot top = false by simpa using e4)]
    by_cases e5 : colsBad bot top n = true
    · rw [if_pos e5]
    · rw [if_neg e5, if_pos]
      cases h : inB bend 0 300 with
      | false => rfl
      | true => exact absurd (he.2 ⟨by simpa using e5, h⟩) e4
  have h2 := he.1 e4
  rw [if_neg (by rw [h2.1]; simp), if_neg (by rw [h2.2]; simp), if_neg (show ¬ edgesOk bend bot top = false by rw [e4]; simp)]
  by_cases e5 : (cr.any fun k => !crackOk n k) = true
  · rw [if_pos e5, if_pos e5]
  rw [if_neg e5, if_neg e5]
  have hin := edgesOk_in e4
  have hn1 : 0 < n := by simp [within] at e2; omega
  have r1 := refCurve_empty (xs := bot) (bend := bend) (fun s hs => (hin.2.1 s hs).1) hin.1.1 (by omega)
  have r2 := refCurve_empty (xs := top) (bend := bend) (fun s hs => (hin.2.2 s hs).1) hin.1.1 (by omega)
  by_cases e6 : bentOk bot bend = false
  · rw [if_pos e6, if_pos (r1.2 e6)]
  rw [if_neg e6, if_neg (fun h => e6 (r1.1 h))]
  by_cases e7 : bentOk top bend = false
  · rw [if_pos e7, if_pos (r2.2 e7)]
  · rw [if_neg e7, if_neg (fun h => e7 (r2.1 h))]
/-- The error of a blade. -/
def Bl.cerr (B : Bl) : Int := curveErr B.n B.n' B.m B.bend B.bot B.top B.cr
theorem RefCheck_any (B : Bl) (w : World) (h : B.At w) (hn : B.n ≤ 1000) (hn' : B.n' ≤ 1000) (hm : B.m ≤ 1000) : Calls Try.prog 22 #[B.val] w fun e w' => e = .returned (.int .i64 B.cerr) ∧ Below w.heap.size w w' := by
  have := RefCheck_core B.A B.A' B.K B.n B.c B.n' B.c' B.m B.d B.bend B.bot B.top B.cr w h.hb h.ht h.hk hn hn' hm
  rw [errs_eq h.hb.len h.ht.len h.hk.len] at this
  exact this

def largeB (n n' m : Nat) : Bool := decide (40 < n) || decide (40 < n') || decide (10 < m)
set_option maxHeartbeats 400000 in
theorem large_any (B : Bl) (w : World) : Calls Try.prog 17 #[B.val] w fun e w' => e = .returned (.bool (largeB B.n B.n' B.m)) ∧ Below w.heap.size w w' := by
  obtain ⟨A, A', K, n, c, n', c', m, d, bend, bot, top, cr⟩ := B
  unfold Bl.val
  simp only
  have HD : Hid (largeB n n' m = (decide (40 < n) || decide (40 < n') || decide (10 < m))) := rfl
  have B0 := Lib.hid (below_self w (.cells #[.slice A n c, .slice A' n' c', .int .i64 bend, .slice K m d] 25))
  by_cases h1 : 40 < n
  · have HE : Hid (largeB n n' m = true) := by unfold Hid; rw [HD.out]; simp [h1]
    go_enter Try.func17, Try.ntmps17
    go_wp2
    go_ret
    exact ⟨ret_bool HE.out.symm, B0.out⟩
  · by_cases h2 : 40 < n'
    · have HE : Hid (largeB n n' m = true) := by unfold Hid; rw [HD.out]; simp [h2]
      go_enter Try.func17, Try.ntmps17
      go_wp2
      go_ret
      exact ⟨ret_bool HE.out.symm, B0.out⟩
    · by_cases h3 : 10 < m
      · have HE : Hid (largeB n n' m = true) := by unfold Hid; rw [HD.out]; simp [h3]
        go_enter Try.func17, Try.ntmps17
        go_wp2
        go_ret
        exact ⟨ret_bool (by rw [HE.out]; simp; omega), B0.out⟩
      · have HE : Hid (largeB n n' m = false) := by unfold Hid; rw [HD.out]; simp [h1, h2, h3]
        go_enter Try.func17, Try.ntmps17
        go_wp2
        go_ret
        exact ⟨ret_bool (by rw [HE.out]; simp; omega), B0.out⟩
theorem large_no {B : Bl} (h : largeB B.n B.n' B.m = false) : B.n ≤ 40 ∧ B.n' ≤ 40 ∧ B.m ≤ 10 := by
  simp only [largeB, Bool.or_eq_false_iff, decide_eq_false_iff_not] at h
  omega
end Go.Proofs.Ytiflhimmieflpaa
