/- Walks: the reference's Reach. -/
import Derived.Test.YtiflhimmieflpaaW37
import Derived.Deep.OwnRows
namespace Go.Proofs.Ytiflhimmieflpaa
open Go.RowKit Go.Maps

theorem Try.infoBool : (Try.prog.info? 4).map (fun i => (i.zero, i.size, i.bytes)) = some (some (.bool false), 1, 1) := by kernel_rfl
theorem Try.infoBools : (Try.prog.info? 115).map (fun i => (i.zero, i.size, i.bytes)) = some (some (.slice none 0 0), 1, 24) := by kernel_rfl
def rowV (g : Nat) : Value := .slice (some ⟨g, 0, none⟩) 301 301
/-- A list of rows of bools of the call's own: row i is block gs i, and holds R i. -/
structure RowsB (W : World) (base : Nat) (v : Value) (n : Nat) (R : Nat → Nat → Bool) (gs : List Nat) : Prop where
  len : gs.length = n
  own : W.ownsRow base 115 1 v n (gs.map rowV)
  rows : ∀ i, i < n → W.rowIs (gs.getD i 0) 4 301 (fun h => .bool (R i h))
theorem rowIs_below {w w' : World} {b n : Nat} {t : TypeId} {f : Nat → Value} (h : w.rowIs b t n f) (hb : Below w.heap.size w w') : w'.rowIs b t n f := h.of_block (hb.block b h.lt)
theorem RowsB.below {W W' : World} {base n : Nat} {v : Value} {R : Nat → Nat → Bool} {gs : List Nat} (h : RowsB W base v n R gs) (hb : Below W.heap.size W W') : RowsB W' base v n R gs :=
  ⟨h.len, ownsRow_below h.own hb, fun i hi => rowIs_below (h.rows i hi) hb⟩
theorem RowsB.at_ {W : World} {base n : Nat} {v : Value} {R : Nat → Nat → Bool} {gs : List Nat} (h : RowsB W base v n R gs) {i : Nat} (hi : i < n) :
    ∃ g cap b, v = .slice (some ⟨g, 0, none⟩) n cap ∧ W.cell? ⟨g, i, none⟩ = some (rowV b) ∧ ∀ k, k ≤ 300 → W.cell? ⟨b, k, none⟩ = some (.bool (R i k)) := by
  obtain ⟨g, cap, rfl⟩ := own_form h.own (by omega)
  refine ⟨g, cap, gs.getD i 0, rfl, ?_, fun k hk => (h.rows i hi).cell (by omega)⟩
  have hl : i < gs.length := by rw [h.len]; exact hi
  rw [h.own.cellAt i (by omega)]
  simp [hl, List.getD]
theorem own_row_ne {w : World} {base : Nat} {e t : TypeId} {size n m b : Nat} {v : Value} {xs : List Value} {f : Nat → Value} (h : w.ownsRow base e size v n xs) (hr : w.rowIs b t m f) (hne : e ≠ t) : v.ownBlock ≠ some b := by
  obtain ⟨c, hb, _⟩ := hr
  exact own_blk_ne h (show Blk w b t c from hb) hne
theorem RowsB.snoc {W W4 : World} {base n g : Nat} {v v' : Value} {R : Nat → Nat → Bool} {gs : List Nat} {o : Obj} (h : RowsB W base v n R gs) (hg : W.rowIs g 4 301 (fun h => .bool (R n h))) (hown : W4.ownsRow base 115 1 v' (n + 1) (gs.map rowV ++ [rowV g])) (hgr : (W.alloc o).grownBy W4 v.ownBlock) :
    RowsB W4 base v' (n + 1) R (gs ++ [g]) := by
  have keep : ∀ b f, W.rowIs b 4 301 f → W4.rowIs b 4 301 f := fun b f hb => by
    have hne := own_row_ne h.own hb (by decide)
    have ha := hb.alloc o
    exact ha.of_block (hgr.block b ha.lt (fun e => hne e.symm))
  refine ⟨by simp [h.len], by simpa using hown, fun i hi => ?_⟩
  by_cases e : i < n
  · have : (gs ++ [g]).getD i 0 = gs.getD i 0 := by simp [List.getD, List.getElem?_append, h.len, e]
    rw [this]; exact keep _ _ (h.rows i e)
  · obtain rfl : i = n := by omega
    have : (gs ++ [g]).getD i 0 = g := by simp [List.getD, h.len]
    rw [this]; exact keep _ _ hg
theorem cell_one_at (w : World) (x : Value) (t : TypeId) : ∀ j u, [x][j]? = some u → (w.alloc (.cells #[x] t)).cell? ((⟨w.heap.size, 0, none⟩ : Addr).add j) = some u := by
  intro j u hu
  match j, hu with
  | 0, hu => simp at hu; subst hu; rw [addr_add]; exact (Blk.new w t #[x] rfl).cell 0
def ReachRes (w : World) (xs : List (Int × Int)) (bend : Int) (e : Ending) (w' : World) : Prop := ∃ v gs, e = .returned v ∧ RowsB w' w.heap.size v xs.length (reachB xs bend) gs ∧ Below w.heap.size w w'
theorem own_slice0 {w : World} {base : Nat} {e : TypeId} {size n : Nat} {v : Value} {xs : List Value} (h : w.ownsRow base e size v n xs) : ∃ A c, v = .slice A n c := by
  rcases h.2 with ⟨hv, hn⟩ | ⟨g, cap, _, hv, _⟩
  · exact ⟨none, 0, by rw [hv, hn]⟩
  · exact ⟨_, cap, hv⟩

set_option maxRecDepth 100000 in
set_option maxHeartbeats 4000000 in
theorem Reach_any (A : Option Addr) (n c : Nat) (xs : List (Int × Int)) (bend : Int) (w : World) (h : Pairs w A n xs) (hn : n ≤ 1000) (hx : ∀ s ∈ xs, InR s) (b0 : 0 ≤ bend) (b3 : bend ≤ 300) :
    Calls Try.prog 62 #[.slice A n c, .int .i64 bend] w (ReachRes w xs bend) := by
  obtain ⟨i0, hi, hz0, hz1, hz2⟩ := info_parts Try.infoBools
  have hl := h.len
  have HL : Hid (xs.length = n) := hl
  have HX : Hid (∀ i, i < n → InR (xs.getD i (0, 0))) := fun i hi => by
    have : xs.getD i (0, 0) = xs[i]'(by omega) := by simp [List.getD, show i < xs.length by omega]
    rw [this]; exact hx _ (List.getElem_mem _)
  have H := Lib.hid h
  obtain ⟨FR, hFR⟩ : ∃ FR : Array Value, FR = madeCells #[.bool false] 301 := ⟨_, rfl⟩
  have hmk : ∀ W, (Instr.makeSlice 115 (.int .i64 301) (.int .i64 301)).run Try.prog W = .ok (.slice (some ⟨W.heap.size, 0, none⟩) 301 301) (W.alloc (.cells FR 4)) := fun W => by
    rw [hFR]; exact run_make_row' (P := Try.prog) 115 4 (.bool false) 1 Try.underlying115 Try.infoBool rfl .i64 .i64 301 (by omega) (by omega) W
  have HR0 : Hid (∀ W : World, (W.alloc (.cells FR 4)).rowIs W.heap.size 4 301 (fun _ => .bool false)) := fun W => by rw [hFR]; exact World.rowIs_made W _ _ _
  have O0 : Hid (RowsB (w.alloc (.cells #[] 115)) w.heap.size (.slice (some ⟨w.heap.size, 0, none⟩) 0 0) 0 (reachB xs bend) []) := ⟨rfl, own_empty w _ _ rfl, fun i hi => absurd hi (by omega)⟩
  have B0 := Lib.hid (below_self w (.cells #[] 115))
  clear h hl hx hFR
  go_enter Try.func62, Try.ntmps62
  go_wp2_with fail
  go_loopw [5, 6] (fun v i wr => ∃ (k : Nat) (gs : List Nat), k ≤ n ∧ i = .int .i64 k ∧ RowsB wr w.heap.size v k (reachB xs bend) gs ∧ Below w.heap.size w wr) (fun _ i _ => n - (intOf i).toNat)
  case atStart => exact ⟨0, [], Nat.zero_le _, rfl, O0.out, B0.out⟩
  case round =>
    obtain ⟨i, gs, hik, rfl, hrows, hbel⟩ := hrel
    have Hrows := Lib.hid hrows
    have Hbel := Lib.hid hbel
    by_cases hlt : i < n
    · obtain ⟨b, off, hA, hb, q0, q1⟩ := (H.out.below hbel).at_ hlt
      subst hA
      have hR := HX.out i hlt
      have Hlo := Lib.hid (fun (H h : Nat) (hH : (H : Int) = (xs.getD i (0, 0)).1) => rowTo_start (bend := bend) (h := h) hH)
      have Hhi := Lib.hid (fun (H h : Nat) (hH : (xs.getD i (0, 0)).2 < (H : Int)) => rowTo_end (bend := bend) (h := h) hH)
      have HS := Lib.hid (fun (H j : Nat) => rowTo_succ (xs := xs) (bend := bend) (i := i) (H := H) (j := j))
      have HI0 : Hid (∀ h : Nat, (xs.getD i (0, 0)).1 ≤ h → (h : Int) ≤ (xs.getD i (0, 0)).2 → inS (xs.getD i (0, 0)) h = true) := fun h a b => by unfold inS; rw [decide_eq_true a, decide_eq_true b]; rfl
      obtain ⟨r1, r2, r3, r4⟩ := hR
      generalize hp : xs.getD i (0, 0) = p at *
      have Hp := Lib.hid hp
      clear hp hrows hbel
      obtain ⟨lo, hi'⟩ := p
      simp only at q0 q1 r1 r2 r3 r4
      obtain ⟨l, rfl⟩ := Int.eq_ofNat_of_zero_le r1
      have c0 := fun (W : World) (hW : Below wr.heap.size wr W) => (hW.cell (p := ⟨b, off + i * 2, none⟩) hb).trans q0
      have c1 := fun (W : World) (hW : Below wr.heap.size wr W) => (hW.cell (p := ⟨b, off + i * 2 + 1, none⟩) hb).trans q1
      have C0 := Lib.hid c0
      have C1 := Lib.hid c1
      clear c0 c1
      have G0 := Lib.hid (HR0.out wr)
      have B1 := Lib.hid (below_self wr (.cells FR 4))
      go_wp2_with fail
      obtain ⟨wo, rfl⟩ : ∃ wo : World, wo = wr := ⟨_, rfl⟩
      have HN : Hid (∀ wz : World, wz.rowIs wo.heap.size 4 301 (fun j => .bool (reachB xs bend i j)) → Below wo.heap.size wo wz → RowsB wz w.heap.size u5 i (reachB xs bend) gs ∧ Below w.heap.size w wz) := fun wz _ hb => ⟨Hrows.out.below hb, below_then Hbel.out hb⟩
      by_cases hi0 : i = 0
      · have Hi0 := Lib.hid hi0
        have t0 : ((i : Int) == 0) = true := by simpa using hi0
        have t1 : ¬ (0 : Int) < (i : Int) := by omega
        clear hi0
        have HRS : Hid (∀ h : Nat, (l : Int) ≤ h → (h : Int) ≤ hi' → reachB xs bend i h = true) := fun h ha hb => by
          have e : reachB xs bend i h = inS (xs.getD i (0, 0)) h := by rw [Hi0.out]; rfl
          rw [e, Hp.out]; exact HI0.out h ha hb
        go_loopw [8] (fun hv wr => ∃ h : Nat, l ≤ h ∧ h ≤ 301 ∧ hv = .int .i64 h ∧ wr.rowIs wo.heap.size 4 301 (fun j => .bool (rowTo xs bend i h j)) ∧ Below wo.heap.size wo wr) (fun hv _ => (302 - intOf hv).toNat)
        case atStart => exact ⟨l, Nat.le_refl _, by omega, rfl, G0.out.congr (fun j _ => by rw [Hlo.out l j rfl]), B1.out⟩
        case round =>
          obtain ⟨h, hlh, hh, rfl, hrow, hbel2⟩ := hrel
          have Hrow := Lib.hid hrow
          have Hbel2 := Lib.hid hbel2
          have d0 := C0.out wr hbel2
          have d1 := C1.out wr hbel2
          by_cases hle : (h : Int) ≤ hi'
          · have hh3 : h < 301 := by omega
            have e1 := hrow.cell hh3
            have e2 := hrow.frozen h
            have R3 : Hid ((wr.setCell ⟨wo.heap.size, h, none⟩ (.bool true)).rowIs wo.heap.size 4 301 (fun j => .bool (rowTo xs bend i (h + 1) j))) := (hrow.set h (.bool true)).congr (fun j _ => by rw [HS.out, HRS.out h (by omega) hle]; by_cases e : j = h <;> simp [e])
            have B3 := Lib.hid (hbel2.setCell (p := ⟨wo.heap.size, h, none⟩) (Nat.le_refl _) (.bool true))
            clear hrow hbel2
            have hmx : (0 : Int) < (h : Int) - bend ∨ ¬ (0 : Int) < (h : Int) - bend := by omega
            rcases hmx with hmx | hmx
            all_goals
              go_wp2_with fail
              clear e1 e2 d0 d1
              generalize wr.setCell ⟨wo.heap.size, h, none⟩ (.bool true) = wx at *
              go_loopw [9] (fun _ wr => wr.rowIs wo.heap.size 4 301 (fun j => .bool (rowTo xs bend i (h + 1) j)) ∧ Below wo.heap.size wo wr) (fun _ _ => 0)
              case atStart => exact ⟨R3.out, B3.out⟩
              case round =>
                obtain ⟨hrow, hbel3⟩ := hrel
                have Hrow3 := Lib.hid hrow
                have Hbel3 := Lib.hid hbel3
                clear hrow hbel3
                go_wp2
                go_roundw
                case rel => exact ⟨h + 1, by omega, by omega, by go_num, Hrow3.out, Hbel3.out⟩
                case measure => simp [intOf]; omega
          · have HE : Hid (wr.rowIs wo.heap.size 4 301 (fun j => .bool (reachB xs bend i j))) := hrow.congr (fun j _ => by rw [Hhi.out h j (by omega)])
            have hN := HN.out wr HE.out Hbel2.out
            have Hown := Lib.hid hN.1.own
            have HNR := Lib.hid hN.1
            have HNB := Lib.hid hN.2
            have hsz := hN.2.size
            have Hnew := Lib.hid (cell_one_at wr (.slice (some ⟨wo.heap.size, 0, none⟩) 301 301) 115)
            clear hrow hbel2 hN
            go_wp2_with (at_builtin; refine wpList_append_own _ rfl _ _ 112 rfl w.heap.size 115 i0 (.slice none 0 0) 1 24 Try.underlying112 hi hz0 hz1 hz2 rfl (by decide) _ _ _ rfl (Hown.out.alloc _) ⟨wr.heap.size, 0, none⟩ 1 1 [.slice (some ⟨wo.heap.size, 0, none⟩) 301 301] rfl rfl Hnew.out ?c2 ?c3 ?c4 ?c5 ?_)
            case c2 => first | rfl | (intro u hu; simp only [List.mem_cons, List.not_mem_nil, or_false] at hu; subst hu; rfl)
            case c3 => unfold maxLen; omega
            case c4 => omega
            case c5 => first | omega | (simp; omega)
            intro v' w4 hown4 hgrow _
            have B4 := Lib.hid ((HNB.out.alloc hsz _).grown hgrow (by simp; omega) (fun q hq => (Hown.out.lt q hq).1))
            have R4 := Lib.hid (RowsB.snoc HNR.out HE.out hown4 hgrow)
            clear hown4 hgrow
            go_wp2
            go_roundw
            case rel => exact ⟨i + 1, _, by omega, by go_num, R4.out, B4.out⟩
            case measure => simp [intOf]; omega
      · obtain ⟨p, hpi⟩ : ∃ p, p + 1 = i := ⟨i - 1, by omega⟩
        have Hpi := Lib.hid hpi
        have hpin : p < i := by omega
        have t0 : ((i : Int) == 0) = false := by simpa using hi0
        have t1 : (0 : Int) < (i : Int) := by omega
        have k1 : IntKind.i64.wrap ((i : Int) - 1) = (i : Int) - 1 := IntWalk.i64_in _ (by omega)
        have k2 : ((i : Int) - 1).toNat = p := by omega
        have k3 : 0 ≤ (i : Int) - 1 := by omega
        have HRS : Hid (∀ h : Nat, (l : Int) ≤ h → (h : Int) ≤ hi' → reachB xs bend i h = anyTo xs bend p h 301) := fun h ha hb => by
          rw [← hpi, reach_succ, hpi, Hp.out, HI0.out h ha hb]; rfl
        clear hpi
        obtain ⟨og, ocap, ob, hu5, ho1, ho2⟩ := Hrows.out.at_ hpin
        subst hu5
        have O1 := Lib.hid (fun (W : World) (hW : Below wo.heap.size wo W) => (hW.cell (p := ⟨og, p, none⟩) (lt_of_cell ho1)).trans ho1)
        have O2 := Lib.hid (fun (W : World) (hW : Below wo.heap.size wo W) k (hk : k ≤ 300) => (hW.cell (p := ⟨ob, k, none⟩) (lt_of_cell (ho2 k hk))).trans (ho2 k hk))
        unfold rowV at O1
        clear ho1 ho2
        go_loopw [8] (fun hv wr => ∃ h : Nat, l ≤ h ∧ h ≤ 301 ∧ hv = .int .i64 h ∧ wr.rowIs wo.heap.size 4 301 (fun j => .bool (rowTo xs bend i h j)) ∧ Below wo.heap.size wo wr) (fun hv _ => (302 - intOf hv).toNat)
        case atStart => exact ⟨l, Nat.le_refl _, by omega, rfl, G0.out.congr (fun j _ => by rw [Hlo.out l j rfl]), B1.out⟩
        case round =>
          obtain ⟨h, hlh, hh, rfl, hrow, hbel2⟩ := hrel
          have Hrow := Lib.hid hrow
          have Hbel2 := Lib.hid hbel2
          have d0 := C0.out wr hbel2
          have d1 := C1.out wr hbel2
          by_cases hle : (h : Int) ≤ hi'
          · have hh3 : h < 301 := by omega
            have e1 := hrow.cell hh3
            have e2 := hrow.frozen h
            obtain ⟨k0, hk0⟩ : ∃ k0 : Nat, (k0 : Int) = max 0 ((h : Int) - bend) := ⟨(max 0 ((h : Int) - bend)).toNat, by omega⟩
            have R3 : Hid ((wr.setCell ⟨wo.heap.size, h, none⟩ (.bool false)).rowIs wo.heap.size 4 301 (fun j => if j = h then .bool (anyTo xs bend p h k0) else .bool (rowTo xs bend i h j))) := (hrow.set h (.bool false)).congr (fun j _ => by rw [anyTo_start hk0])
            have B3 := Lib.hid (hbel2.setCell (p := ⟨wo.heap.size, h, none⟩) (Nat.le_refl _) (.bool false))
            have Hk0 := Lib.hid hk0
            clear hrow hbel2 hk0
            have hmx : (0 : Int) < (h : Int) - bend ∨ ¬ (0 : Int) < (h : Int) - bend := by omega
            rcases hmx with hmx | hmx
            all_goals
              go_wp2_with fail
              clear e1 e2 d0 d1
              generalize wr.setCell ⟨wo.heap.size, h, none⟩ (.bool false) = wx at *
              go_loopw [9] (fun kv wr => ∃ k : Nat, k0 ≤ k ∧ k ≤ 301 ∧ kv = .int .i64 k ∧ wr.rowIs wo.heap.size 4 301 (fun j => if j = h then .bool (anyTo xs bend p h k) else .bool (rowTo xs bend i h j)) ∧ Below wo.heap.size wo wr) (fun kv _ => (302 - intOf kv).toNat)
              case atStart => exact ⟨k0, Nat.le_refl _, by have := Hk0.out; omega, by have := Hk0.out; congr 1; omega, R3.out, B3.out⟩
              case round =>
                obtain ⟨k, hk0k, hk3, rfl, hrow, hbel3⟩ := hrel
                have hklo : (h : Int) - bend ≤ k := by have := Hk0.out; omega
                have Hrow3 := Lib.hid hrow
                have Hbel3 := Lib.hid hbel3
                by_cases hke : (k : Int) ≤ (if (h : Int) + bend < 300 then (h : Int) + bend else 300)
                · have hk1 : k ≤ 300 := by split at hke <;> omega
                  have hk2 : (k : Int) ≤ h + bend := by split at hke <;> omega
                  have e1 : wr.cell? ⟨wo.heap.size, h, none⟩ = some (.bool (anyTo xs bend p h k)) := by have := hrow.cell hh3; simpa using this
                  have e2 := hrow.frozen h
                  have HAS : Hid (anyTo xs bend p h (k + 1) = (anyTo xs bend p h k || reachB xs bend p k)) := by unfold Hid; rw [anyTo_succ, near_in hklo hk2]; rfl
                  have HW : Hid (∀ v, anyTo xs bend p h (k + 1) = v → (wr.setCell ⟨wo.heap.size, h, none⟩ (.bool v)).rowIs wo.heap.size 4 301 (fun j => if j = h then .bool (anyTo xs bend p h (k + 1)) else .bool (rowTo xs bend i h j))) := fun v hv =>
                    (hrow.set h (.bool v)).congr (fun j _ => by rw [hv]; by_cases e : j = h <;> simp [e])
                  have HB := Lib.hid (fun v => hbel3.setCell (p := ⟨wo.heap.size, h, none⟩) (Nat.le_refl _) v)
                  have o1 := O1.out wr hbel3
                  have o2 := O2.out wr hbel3 k hk1
                  clear hrow hbel3
                  generalize anyTo xs bend p h k = a1 at *
                  generalize reachB xs bend p k = a3 at *
                  cases a1
                  · have HV : Hid (anyTo xs bend p h (k + 1) = a3) := by unfold Hid; rw [HAS.out]; rfl
                    go_wp2
                    go_roundw
                    case rel => exact ⟨k + 1, by omega, by omega, by go_num, HW.out _ HV.out, HB.out _⟩
                    case measure => simp [intOf]; omega
                  · have HV : Hid (anyTo xs bend p h (k + 1) = true) := by unfold Hid; rw [HAS.out]; rfl
                    clear o1 o2
                    go_wp2
                    go_roundw
                    case rel => exact ⟨k + 1, by omega, by omega, by go_num, HW.out _ HV.out, HB.out _⟩
                    case measure => simp [intOf]; omega
                · have hk2 : ¬ ((k : Int) ≤ min 300 ((h : Int) + bend)) := by split at hke <;> omega
                  have HE : Hid (wr.rowIs wo.heap.size 4 301 (fun j => .bool (rowTo xs bend i (h + 1) j))) := hrow.congr (fun j _ => by
                    rw [HS.out, HRS.out h (by omega) hle, ← anyTo_end hk3 hk2]
                    by_cases e : j = h <;> simp [e])
                  clear hrow hbel3 hk2
                  go_wp2
                  go_roundw
                  case rel => exact ⟨h + 1, by omega, by omega, by go_num, HE.out, Hbel3.out⟩
                  case measure => simp [intOf]; omega
          · have HE : Hid (wr.rowIs wo.heap.size 4 301 (fun j => .bool (reachB xs bend i j))) := hrow.congr (fun j _ => by rw [Hhi.out h j (by omega)])
            have hN := HN.out wr HE.out Hbel2.out
            have Hown := Lib.hid hN.1.own
            have HNR := Lib.hid hN.1
            have HNB := Lib.hid hN.2
            have hsz := hN.2.size
            have Hnew := Lib.hid (cell_one_at wr (.slice (some ⟨wo.heap.size, 0, none⟩) 301 301) 115)
            clear hrow hbel2 hN
            go_wp2_with (at_builtin; refine wpList_append_own _ rfl _ _ 112 rfl w.heap.size 115 i0 (.slice none 0 0) 1 24 Try.underlying112 hi hz0 hz1 hz2 rfl (by decide) _ _ _ rfl (Hown.out.alloc _) ⟨wr.heap.size, 0, none⟩ 1 1 [.slice (some ⟨wo.heap.size, 0, none⟩) 301 301] rfl rfl Hnew.out ?d2 ?d3 ?d4 ?d5 ?_)
            case d2 => first | rfl | (intro u hu; simp only [List.mem_cons, List.not_mem_nil, or_false] at hu; subst hu; rfl)
            case d3 => unfold maxLen; omega
            case d4 => omega
            case d5 => first | omega | (simp; omega)
            intro v' w4 hown4 hgrow _
            have B4 := Lib.hid ((HNB.out.alloc hsz _).grown hgrow (by simp; omega) (fun q hq => (Hown.out.lt q hq).1))
            have R4 := Lib.hid (RowsB.snoc HNR.out HE.out hown4 hgrow)
            clear hown4 hgrow
            go_wp2
            go_roundw
            case rel => exact ⟨i + 1, _, by omega, by go_num, R4.out, B4.out⟩
            case measure => simp [intOf]; omega
    · obtain rfl : i = n := by omega
      clear hrows hbel
      go_wp2
      go_ret
      exact ⟨_, gs, rfl, by rw [HL.out]; exact Hrows.out, Hbel.out⟩
end Go.Proofs.Ytiflhimmieflpaa
