/- Walks: Costs. -/
import Derived.Test.YtiflhimmieflpaaW24
import Derived.Deep.RegionLaw
namespace Go.Proofs.Ytiflhimmieflpaa
open Go.RowKit Go.Maps

/-- An append onto a slice of the call's own, as one step of a region that draws. -/
theorem step_append_mine {P : Program} {ops : Array Oper} {o : Oper} {a : Act} {w : World} {K : Act → World → Prop} {Q : Exit → Act → World → Prop} {E : Prop}
    (hg : o.guard = none) (s x : Operand) (t : TypeId) (hop : o.op = Op.call { callee := Callee.builtin Builtin.append, args := #[s, x], argTypes := #[t, t] })
    (base : Nat) (e : TypeId) (i : TypeInfo) (z : Value) (size bytes : Nat) (h1 : P.underlying t = some (.slice e)) (h2 : P.info? e = some i) (h3 : i.zero = some z) (h4 : i.size = size) (h5 : i.bytes = bytes) (h6 : z.cells.size = size) (h7 : 0 < size)
    (v : Value) (n : Nat) (xs : List Value) (hs : a.eval s = v) (hown : w.ownsRow base e size v n xs)
    (ad : Addr) (m c : Nat) (news : List Value) (hx : a.eval x = .slice (some ad) m c) (hn : news.length = m * size) (hc : ∀ j u, news[j]? = some u → w.cell? (ad.add j) = some u) (h1c : ∀ u ∈ news, u.oneCell' = true)
    (b1 : n + m ≤ maxLen) (b2 : (n + m) * bytes ≤ 140737488355328) (b4 : base ≤ w.heap.size)
    (hK : ∀ v' w', w'.ownsRow base e size v' (n + m) (xs ++ news) → w.grownBy w' v.ownBlock → K (a.put o.dst v') w') :
    if Region.wanted o (yielded ops a.tmps) = true then Oper.wp P o a w K Q else E := by
  have hw : Region.wanted o (yielded ops a.tmps) = true := by simp [Region.wanted, hg]
  rw [if_pos hw]
  obtain ⟨v', w', hrun, r1, r2, _⟩ := run_append_own (P := P) w base t o.type e i z size bytes h1 h2 h3 h4 h5 h6 h7 v n xs hown ad m c news hn hc h1c b1 b2 b4
  unfold Oper.wp
  simp [execOp, hop, resolve, invoke, builtin, hs, hx, hrun, Result.andThen]
  exact hK v' w' r1 r2
def Bl.worstX (B : Bl) (s : Sw) (k : Nat) : Sawing := worstL s.long s.wide s.kerf s.across (bentL B.bot B.bend) (bentL B.top B.bend) (B.cr.eraseIdx k)
def costAt (B : Bl) (s : Sw) (k : Nat) : Int := countL (B.worstX s k) B.n - countL (B.worst s) B.n
def costsL (B : Bl) (s : Sw) : List Int := (List.range B.m).map (costAt B s)
theorem worstX_top (B : Bl) (s : Sw) (k q dq g cap g' cap' : Nat) (w : World) (hB : B.Ok) (h : Pairs w (some ⟨g, 0, none⟩) B.n (bentL B.bot B.bend)) (h' : Pairs w (some ⟨g', 0, none⟩) B.n (bentL B.top B.bend)) (hk : Cracks w (some ⟨q, 0, none⟩) (B.m - 1) (B.cr.eraseIdx k)) :
    Calls Try.prog 66 #[(B.less k q dq).curved g cap g' cap', s.val] w (WorstTop w B.n (B.m - 1) (B.worstX s k)) :=
  worst_top (B.less k q dq) s g cap g' cap' w ⟨hB.n1, hB.n2, hB.nn, Nat.le_trans (Nat.sub_le _ _) hB.m4, hB.b0, hB.b3, hB.bot, hB.top, fun c hc => hB.cr c (List.mem_of_mem_eraseIdx hc)⟩ h h' hk
def CostsRes (w : World) (B : Bl) (s : Sw) (e : Ending) (w' : World) : Prop :=
  Below w.heap.size w w' ∧ ((B.err s ≠ 0 ∧ e = .returned (.tuple #[.slice none 0 0, .int .i64 (B.err s)])) ∨
    (B.err s = 0 ∧ ∃ v, e = .returned (.tuple #[v, .int .i64 0]) ∧ w'.ownsRow w.heap.size 3 1 v B.m ((costsL B s).map (Value.int .i64))))
theorem countL_in (s : Sawing) (n : Nat) (hn : n ≤ 30) : 0 ≤ countL s n ∧ countL s n ≤ 9060 := by
  have h1 : countL s n = aheadAt s n n 0 := rfl
  have h2 := aheadAt_in s n 302 (bn_le s n) n 0
  rw [h1]
  omega
theorem Bl.Ok.less {B : Bl} (h : B.Ok) (k q dq : Nat) : (B.less k q dq).Ok :=
  ⟨h.n1, h.n2, h.nn, Nat.le_trans (Nat.sub_le _ _) h.m4, h.b0, h.b3, h.bot, h.top, fun c hc => h.cr c (List.mem_of_mem_eraseIdx hc)⟩
theorem count_top (B : Bl) (s : Sawing) (b o b' o' c c' : Nat) (K : Option Addr) (m d : Nat) (w : World) (hB : B.Ok) (hs : SawBounds s) (hm4 : m ≤ 4) (h : SawAt w s ⟨b, o, none⟩ ⟨b', o', none⟩ B.n K m) (hc : B.n ≤ c) (hc' : B.n ≤ c') (hm : c ≤ maxLen) :
    Calls Try.prog 83 #[sawVal s ⟨b, o, none⟩ ⟨b', o', none⟩ B.n c c' K m d] w fun e w' => e = .returned (.int .i64 (countL s B.n)) ∧ Below w.heap.size w w' :=
  count_any s b o b' o' B.n c c' K m d w h hc hc' hm hs hB.n2 hm4
theorem costs_succ (B : Bl) (s : Sw) (k : Nat) : ((List.range (k + 1)).map (costAt B s)).map (Value.int .i64) = ((List.range k).map (costAt B s)).map (Value.int .i64) ++ [.int .i64 (costAt B s k)] := by
  rw [List.range_succ, List.map_append, List.map_append]; rfl

set_option maxRecDepth 100000 in
set_option maxHeartbeats 4000000 in
theorem Costs_any (B : Bl) (s : Sw) (w : World) (h : B.At w) : Calls Try.prog 44 #[B.val, s.val] w (CostsRes w B s) := by
  obtain ⟨i0, hi, hz0, hz1, hz2⟩ := info_parts Try.infoInt
  have E0 : Hid (Below w.heap.size w ((w.alloc (.cells #[.slice B.A B.n B.c, .slice B.A' B.n' B.c', .int .i64 B.bend, .slice B.K B.m B.d] 25)).alloc (.cells #[.int .i64 s.long, .int .i64 s.wide, .int .i64 s.kerf, .int .i64 s.across] 37))) := below_alloc' (below_self _ _) _
  have S0 := Lib.hid (Blk.new (w.alloc (.cells #[.slice B.A B.n B.c, .slice B.A' B.n' B.c', .int .i64 B.bend, .slice B.K B.m B.d] 25)) 37 #[.int .i64 s.long, .int .i64 s.wide, .int .i64 s.kerf, .int .i64 s.across] (g := w.heap.size + 1) (by simp))
  have HC := Lib.hid (ready_top B s _ (h.below E0.out))
  have HK := Lib.hid h
  clear h
  unfold Bl.val Sw.val at *
  go_enter Try.func44, Try.ntmps44
  go_wp2_with fail
  refine HC.out.mono ?_
  rintro e w2 ⟨hb2, ⟨herr, rfl⟩ | ⟨hok, g, cap, g', cap', rfl, P, P', -⟩⟩
  · have B2 := Lib.hid (below_then E0.out hb2)
    have Herr := Lib.hid herr
    have hz : (B.err s == 0) = false := by simpa using herr
    have hz2 : (B.err s != 0) = true := by simpa using herr
    clear hb2 herr HC
    unfold zeroCurved
    go_wp2
    go_ret2
    exact ⟨below_alloc' B2.out _, .inl ⟨Herr.out, rfl⟩⟩
  · have B2 := Lib.hid (below_then E0.out hb2)
    have S2 := Lib.hid (blk_keep hb2 S0.out)
    have Hok := Lib.hid (err_ok hok)
    have hP := Lib.hid P
    have hP' := Lib.hid P'
    have s2 := S2.out.cell
    have hz := S2.out.lt
    have HWT := Lib.hid (fun W (hb : Below w2.heap.size w2 W) => worst_top B s g cap g' cap' W Hok.out.2.1 (hP.out.below hb) (hP'.out.below hb) (HK.out.below (below_then B2.out hb)).hk)
    have HLT := Lib.hid (fun b o b' o' c c' K d W => count_top B (B.worst s) b o b' o' c c' K B.m d W Hok.out.2.1 (worst_bounds Hok.out.2.1 Hok.out.2.2) Hok.out.2.1.m4)
    have HWO := Lib.hid (fun (k : Nat) W (hb : Below w2.heap.size w2 W) (hk : k < B.m) => without_any B g cap g' cap' k W hk Hok.out.2.1.m4 (HK.out.below (below_then B2.out hb)).hk)
    have HWX := Lib.hid (fun (k q dq : Nat) W (hb : Below w2.heap.size w2 W) (hcr : Cracks W (some ⟨q, 0, none⟩) (B.m - 1) (B.cr.eraseIdx k)) => worstX_top B s k q dq g cap g' cap' W Hok.out.2.1 (hP.out.below hb) (hP'.out.below hb) hcr)
    have HLX := Lib.hid (fun (k : Nat) b o b' o' c c' K d W => count_top B (B.worstX s k) b o b' o' c c' K (B.m - 1) d W Hok.out.2.1 (worst_bounds (Hok.out.2.1.less k 0 0) Hok.out.2.2) (Nat.le_trans (Nat.sub_le _ _) Hok.out.2.1.m4))
    have Hok0 := Lib.hid hok
    have C2 := Lib.hid (Blk.new w2 106 #[.slice B.A B.n B.c, .slice B.A' B.n' B.c', .int .i64 B.bend, .slice B.K B.m B.d, .slice (some ⟨g, 0, none⟩) B.n cap, .slice (some ⟨g', 0, none⟩) B.n cap'] (g := w2.heap.size) rfl)
    have S2' := Lib.hid (S2.out.alloc (.cells #[.slice B.A B.n B.c, .slice B.A' B.n' B.c', .int .i64 B.bend, .slice B.K B.m B.d, .slice (some ⟨g, 0, none⟩) B.n cap, .slice (some ⟨g', 0, none⟩) B.n cap'] 106))
    have hm4 := Hok.out.2.1.m4
    have HCI := Lib.hid (fun x => countL_in x B.n Hok.out.2.1.n2)
    clear hb2 hok P P' HC
    unfold Bl.curved Sw.val at HWT
    unfold Bl.curved at HWO
    unfold Sw.val at HWX
    unfold Bl.curved
    go_wp2_with fail
    refine (HWT.out _ (below_self _ _)).mono ?_
    rintro e w3 ⟨hb3, b, o, b', o', c, c', K, d, rfl, hs, hc, hc', hm⟩
    have B3 := Lib.hid (below_then (below_alloc' B2.out _) hb3)
    have G3 := Lib.hid (below_then (below_self w2 _) hb3)
    have HL3 := Lib.hid (HLT.out b o b' o' c c' K d _ hs hc hc' hm)
    have C3 := Lib.hid (blk_keep hb3 C2.out)
    have S3 := Lib.hid (blk_keep hb3 S2'.out)
    clear hb3 hs hc hc' hm HWT HLT s2 hz C2 S2 S2'
    go_wp2_with fail
    refine HL3.out.mono ?_
    rintro e w4 ⟨rfl, hb4⟩
    have B4 := Lib.hid (below_then B3.out hb4)
    have G4 := Lib.hid (below_then G3.out hb4)
    have C4 := Lib.hid (blk_keep hb4 C3.out)
    have S4 := Lib.hid (blk_keep hb4 S3.out)
    have c4 := C4.out.cell
    have HCA : Hid (∀ k, costAt B s k = countL (B.worstX s k) B.n - countL (B.worst s) B.n) := fun k => rfl
    have HCS := Lib.hid (costs_succ B s)
    have hn0 := HCI.out (B.worst s)
    clear hb4 C3 S3 HL3 G3 B3
    generalize countL (B.worst s) B.n = now at *
    go_wp2_with fail
    clear c4
    go_loopw [9, 28] (fun v i wr => ∃ k : Nat, k ≤ B.m ∧ i = .int .i64 k ∧ wr.ownsRow w4.heap.size 3 1 v k (((List.range k).map (costAt B s)).map (Value.int .i64)) ∧ Below w4.heap.size w4 wr) (fun _ i _ => B.m - (intOf i).toNat)
    case atStart => exact ⟨0, Nat.zero_le _, rfl, World.ownsRow_nil _ _ _ _, Below.refl _ _⟩
    case round =>
      obtain ⟨k, hk, rfl, hown, hbel⟩ := hrel
      have Hown := Lib.hid hown
      have Hbel := Lib.hid hbel
      have C5 := Lib.hid (blk_keep hbel C4.out)
      have S5 := Lib.hid (blk_keep hbel S4.out)
      have c5 := C5.out.cell
      have s5 := S5.out.cell
      have z5 := C5.out.lt
      have y5 := S5.out.lt
      clear hown hbel
      by_cases hlt : k < B.m
      · have hcx := HCI.out (B.worstX s k)
        have hca := Lib.hid (HCA.out k)
        have hcs := Lib.hid (HCS.out k)
        have k5 : IntKind.i64.wrap (countL (B.worstX s k) B.n - now) = countL (B.worstX s k) B.n - now := IntWalk.i64_in _ (by omega)
        have G5 := Lib.hid ((below_then G4.out Hbel.out).drew)
        have D5 := Lib.hid (Hbel.out.drew)
        have O5 : Hid (wr.drew.ownsRow w4.heap.size 3 1 u9 k (((List.range k).map (costAt B s)).map (Value.int .i64))) := Hown.out
        have S5d : Hid (Blk wr.drew (w.heap.size + 1) 37 #[.int .i64 s.long, .int .i64 s.wide, .int .i64 s.kerf, .int .i64 s.across]) := S5.out
        go_wp2_with fail
        go_region_law (first
          | (refine step_append_mine rfl (.tmp 31) (.tmp 40) 44 rfl w4.heap.size 3 i0 (.int .i64 0) 1 8 Try.underlying44 hi hz0 hz1 hz2 rfl (by decide) _ k _ (by simp [Act.eval]) (O8.out.alloc _) ⟨w7.heap.size, 0, none⟩ 1 1 [.int .i64 (countL (B.worstX s k) B.n - now)] (by simp [Act.eval]) rfl (cell_one_new _ _ _) (by intro u hu; simp only [List.mem_singleton] at hu; subst hu; rfl) (by unfold maxLen; omega) (by omega) (by have := D8.out.size; simp; omega) ?_; intro v' w8 hown8 hgrow; have O9 := Lib.hid hown8; have D9 := Lib.hid ((D8.out.alloc D8.out.size _).grown hgrow (by have := D8.out.size; simp; omega) (fun q hq => (O8.out.lt q hq).1)); clear hown8 hgrow)
          | (go_simp; go_at_call 85; refine (HWO.out k _ G5.out hlt).mono ?_; rintro e w5 ⟨q, dq, rfl, hcr, hb5⟩; have HCr := Lib.hid hcr; have s6 := (blk_keep hb5 S5d.out).cell; have G6 := Lib.hid (below_then G5.out hb5); have D6 := Lib.hid (D5.out.trans (hb5.mono D5.out.size)); have O6 := Lib.hid (ownsRow_below O5.out hb5); clear hcr hb5)
          | (go_simp; go_at_call 66; refine (HWX.out k q dq _ G6.out HCr.out).mono ?_; rintro e w6 ⟨hb6, bb, oo, bb', oo', cc, cc', KK, dd, rfl, hs, hc, hc', hm⟩; have HL6 := Lib.hid (HLX.out k bb oo bb' oo' cc cc' KK dd _ hs hc hc' hm); have D7 := Lib.hid (D6.out.trans (hb6.mono D6.out.size)); have O7 := Lib.hid (ownsRow_below O6.out hb6); clear hs hc hc' hm hb6)
          | (go_simp; go_at_call 83; refine HL6.out.mono ?_; rintro e w7 ⟨rfl, hb7⟩; have D8 := Lib.hid (D7.out.trans (hb7.mono D7.out.size)); have O8 := Lib.hid (ownsRow_below O7.out hb7); clear hb7))
        all_goals
          go_wp2
          go_roundw
          case rel => exact ⟨k + 1, by omega, by go_num, by rw [hcs.out, hca.out]; exact O9.out, D9.out⟩
          case measure => simp [intOf]; omega
      · obtain rfl : k = B.m := by omega
        go_wp2
        go_ret2
        exact ⟨below_then B4.out Hbel.out, .inr ⟨Hok0.out, _, rfl, own_base Hown.out B4.out.size⟩⟩
end Go.Proofs.Ytiflhimmieflpaa
