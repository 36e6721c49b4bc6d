/- Merged: W25, W26, W27, W28, W29, W30. -/
import Derived.Test.YtiflhimmieflpaaM3
import Derived.Deep.RegionLaw

/- Walks: Costs. -/
namespace Go.Proofs.Ytiflhimmieflpaa
open Go.RowKit Go.Maps

/-- An append onto a slice of the call's own, as one step of a region that draws. -/
theorem step_append_mine {P : Program} {ops : Array Oper} {o : Oper} {a : Act} {w : World} {K : Act → World → Prop} {Q : Exit → Act → World → Prop} {E : Prop}
    (hg : o.guard = none) (s x : Operand) (t : TypeId) (hop : o.op = Op.call { callee := Callee.builtin Builtin.append, args := #[s, x], argTypes := #[t, t] })
    (base : Nat) (e : TypeId) (i : TypeInfo) (z : Value) (size bytes : Nat) (h1 : P.underlying t = some (.slice e)) (h2 : P.info? e = some i) (h3 : i.zero = some z) (h4 : i.size = size) (h5 : i.bytes = bytes) (h6 : z.cells.size = size) (h7 : 0 < size)
    (v : Value) (n : Nat) (xs : List Value) (hs : a.eval s = v) (hown : w.ownsRow base e size v n xs)
    (ad : Addr) (m c : Nat) (news : List Value) (hx : a.eval x = .slice (some ad) m c) (hn : news.length = m * size) (hc : ∀ j u, news[j]? = some u → w.cell? (ad.add j) = some u) (h1c : ∀ u ∈ news, u.oneCell' = true)
    (b1 : n + m ≤ maxLen) (b2 : (n + m) * bytes ≤ 140737488355328) (b4 : base ≤ w.heap.size)
    (hK : ∀ v' w', w'.ownsRow base e size v' (n + m) (xs ++ news) → w.grownBy w' v.ownBlock → K (a.put o.dst v') w') :
    if Region.wanted o (yielded ops a.tmps) = true then Oper.wp P o a w K Q else E := by
  have hw : Region.wanted o (yielded ops a.tmps) = true := by simp [Region.wanted, hg]
  rw [if_pos hw]
  obtain ⟨v', w', hrun, r1, r2, _⟩ := run_append_own (P := P) w base t o.type e i z size bytes h1 h2 h3 h4 h5 h6 h7 v n xs hown ad m c news hn hc h1c b1 b2 b4
  unfold Oper.wp
  simp [execOp, hop, resolve, invoke, builtin, hs, hx, hrun, Result.andThen]
  exact hK v' w' r1 r2
def Bl.worstX (B : Bl) (s : Sw) (k : Nat) : Sawing := worstL s.long s.wide s.kerf s.across (bentL B.bot B.bend) (bentL B.top B.bend) (B.cr.eraseIdx k)
def costAt (B : Bl) (s : Sw) (k : Nat) : Int := countL (B.worstX s k) B.n - countL (B.worst s) B.n
def costsL (B : Bl) (s : Sw) : List Int := (List.range B.m).map (costAt B s)
theorem worstX_top (B : Bl) (s : Sw) (k q dq g cap g' cap' : Nat) (w : World) (hB : B.Ok) (h : Pairs w (some ⟨g, 0, none⟩) B.n (bentL B.bot B.bend)) (h' : Pairs w (some ⟨g', 0, none⟩) B.n (bentL B.top B.bend)) (hk : Cracks w (some ⟨q, 0, none⟩) (B.m - 1) (B.cr.eraseIdx k)) :
    Calls Try.prog 66 #[(B.less k q dq).curved g cap g' cap', s.val] w (WorstTop w B.n (B.m - 1) (B.worstX s k)) :=
  worst_top (B.less k q dq) s g cap g' cap' w ⟨hB.n1, hB.n2, hB.nn, Nat.le_trans (Nat.sub_le _ _) hB.m4, hB.b0, hB.b3, hB.bot, hB.top, fun c hc => hB.cr c (List.mem_of_mem_eraseIdx hc)⟩ h h' hk
def CostsRes (w : World) (B : Bl) (s : Sw) (e : Ending) (w' : World) : Prop :=
  Below w.heap.size w w' ∧ ((B.err s ≠ 0 ∧ e = .returned (.tuple #[.slice none 0 0, .int .i64 (B.err s)])) ∨
    (B.err s = 0 ∧ ∃ v, e = .returned (.tuple #[v, .int .i64 0]) ∧ w'.ownsRow w.heap.size 3 1 v B.m ((costsL B s).map (Value.int .i64))))
theorem countL_in (s : Sawing) (n : Nat) (hn : n ≤ 30) : 0 ≤ countL s n ∧ countL s n ≤ 9060 := by
  have h1 : countL s n = aheadAt s n n 0 := rfl
  have h2 := aheadAt_in s n 302 (bn_le s n) n 0
  rw [h1]
  omega
theorem Bl.Ok.less {B : Bl} (h : B.Ok) (k q dq : Nat) : (B.less k q dq).Ok :=
  ⟨h.n1, h.n2, h.nn, Nat.le_trans (Nat.sub_le _ _) h.m4, h.b0, h.b3, h.bot, h.top, fun c hc => h.cr c (List.mem_of_mem_eraseIdx hc)⟩
theorem count_top (B : Bl) (s : Sawing) (b o b' o' c c' : Nat) (K : Option Addr) (m d : Nat) (w : World) (hB : B.Ok) (hs : SawBounds s) (hm4 : m ≤ 4) (h : SawAt w s ⟨b, o, none⟩ ⟨b', o', none⟩ B.n K m) (hc : B.n ≤ c) (hc' : B.n ≤ c') (hm : c ≤ maxLen) :
    Calls Try.prog 83 #[sawVal s ⟨b, o, none⟩ ⟨b', o', none⟩ B.n c c' K m d] w fun e w' => e = .returned (.int .i64 (countL s B.n)) ∧ Below w.heap.size w w' :=
  count_any s b o b' o' B.n c c' K m d w h hc hc' hm hs hB.n2 hm4
theorem costs_succ (B : Bl) (s : Sw) (k : Nat) : ((List.range (k + 1)).map (costAt B s)).map (Value.int .i64) = ((List.range k).map (costAt B s)).map (Value.int .i64) ++ [.int .i64 (costAt B s k)] := by
  rw [List.range_succ, List.map_append, List.map_append]; rfl

set_option maxRecDepth 100000 in
set_option maxHeartbeats 4000000 in
theorem Costs_any (B : Bl) (s : Sw) (w : World) (h : B.At w) : Calls Try.prog 44 #[B.val, s.val] w (CostsRes w B s) := by
  obtain ⟨i0, hi, hz0, hz1, hz2⟩ := info_parts Try.infoInt
  have E0 : Hid (Below w.heap.size w ((w.alloc (.cells #[.slice B.A B.n B.c, .slice B.A' B.n' B.c', .int .i64 B.bend, .slice B.K B.m B.d] 25)).alloc (.cells #[.int .i64 s.long, .int .i64 s.wide, .int .i64 s.kerf, .int .i64 s.across] 37))) := below_alloc' (below_self _ _) _
  have S0 := Lib.hid (Blk.new (w.alloc (.cells #[.slice B.A B.n B.c, .slice B.A' B.n' B.c', .int .i64 B.bend, .slice B.K B.m B.d] 25)) 37 #[.int .i64 s.long, .int .i64 s.wide, .int .i64 s.kerf, .int .i64 s.across] (g := w.heap.size + 1) (by simp))
  have HC := Lib.hid (ready_top B s _ (h.below E0.out))
  have HK := Lib.hid h
  clear h
  unfold Bl.val Sw.val at *
  go_enter Try.func44, Try.ntmps44
  go_wp2_with fail
  refine HC.out.mono ?_
  rintro e w2 ⟨hb2, ⟨herr, rfl⟩ | ⟨hok, g, cap, g', cap', rfl, P, P', -⟩⟩
  · have B2 := Lib.hid (below_then E0.out hb2)
    have Herr := Lib.hid herr
    have hz : (B.err s == 0) = false := by simpa using herr
    have hz2 : (B.err s != 0) = true := by simpa using herr
    clear hb2 herr HC
    unfold zeroCurved
    go_wp2
    go_ret2
    exact ⟨below_alloc' B2.out _, .inl ⟨Herr.out, rfl⟩⟩
  · have B2 := Lib.hid (below_then E0.out hb2)
    have S2 := Lib.hid (blk_keep hb2 S0.out)
    have Hok := Lib.hid (err_ok hok)
    have hP := Lib.hid P
    have hP' := Lib.hid P'
    have s2 := S2.out.cell
    have hz := S2.out.lt
    have HWT := Lib.hid (fun W (hb : Below w2.heap.size w2 W) => worst_top B s g cap g' cap' W Hok.out.2.1 (hP.out.below hb) (hP'.out.below hb) (HK.out.below (below_then B2.out hb)).hk)
    have HLT := Lib.hid (fun b o b' o' c c' K d W => count_top B (B.worst s) b o b' o' c c' K B.m d W Hok.out.2.1 (worst_bounds Hok.out.2.1 Hok.out.2.2) Hok.out.2.1.m4)
    have HWO := Lib.hid (fun (k : Nat) W (hb : Below w2.heap.size w2 W) (hk : k < B.m) => without_any B g cap g' cap' k W hk Hok.out.2.1.m4 (HK.out.below (below_then B2.out hb)).hk)
    have HWX := Lib.hid (fun (k q dq : Nat) W (hb : Below w2.heap.size w2 W) (hcr : Cracks W (some ⟨q, 0, none⟩) (B.m - 1) (B.cr.eraseIdx k)) => worstX_top B s k q dq g cap g' cap' W Hok.out.2.1 (hP.out.below hb) (hP'.out.below hb) hcr)
    have HLX := Lib.hid (fun (k : Nat) b o b' o' c c' K d W => count_top B (B.worstX s k) b o b' o' c c' K (B.m - 1) d W Hok.out.2.1 (worst_bounds (Hok.out.2.1.less k 0 0) Hok.out.2.2) (Nat.le_trans (Nat.sub_le _ _) Hok.out.2.1.m4))
    have Hok0 := Lib.hid hok
    have C2 := Lib.hid (Blk.new w2 106 #[.slice B.A B.n B.c, .slice B.A' B.n' B.c', .int .i64 B.bend, .slice B.K B.m B.d, .slice (some ⟨g, 0, none⟩) B.n cap, .slice (some ⟨g', 0, none⟩) B.n cap'] (g := w2.heap.size) rfl)
    have S2' := Lib.hid (S2.out.alloc (.cells #[.slice B.A B.n B.c, .slice B.A' B.n' B.c', .int .i64 B.bend, .slice B.K B.m B.d, .slice (some ⟨g, 0, none⟩) B.n cap, .slice (some ⟨g', 0, none⟩) B.n cap'] 106))
    have hm4 := Hok.out.2.1.m4
    have HCI := Lib.hid (fun x => countL_in x B.n Hok.out.2.1.n2)
    clear hb2 hok P P' HC
    unfold Bl.curved Sw.val at HWT
    unfold Bl.curved at HWO
    unfold Sw.val at HWX
    unfold Bl.curved
    go_wp2_with fail
    refine (HWT.out _ (below_self _ _)).mono ?_
    rintro e w3 ⟨hb3, b, o, b', o', c, c', K, d, rfl, hs, hc, hc', hm⟩
    have B3 := Lib.hid (below_then (below_alloc' B2.out _) hb3)
    have G3 := Lib.hid (below_then (below_self w2 _) hb3)
    have HL3 := Lib.hid (HLT.out b o b' o' c c' K d _ hs hc hc' hm)
    have C3 := Lib.hid (blk_keep hb3 C2.out)
    have S3 := Lib.hid (blk_keep hb3 S2'.out)
    clear hb3 hs hc hc' hm HWT HLT s2 hz C2 S2 S2'
    go_wp2_with fail
    refine HL3.out.mono ?_
    rintro e w4 ⟨rfl, hb4⟩
    have B4 := Lib.hid (below_then B3.out hb4)
    have G4 := Lib.hid (below_then G3.out hb4)
    have C4 := Lib.hid (blk_keep hb4 C3.out)
    have S4 := Lib.hid (blk_keep hb4 S3.out)
    have c4 := C4.out.cell
    have HCA : Hid (∀ k, costAt B s k = countL (B.worstX s k) B.n - countL (B.worst s) B.n) := fun k => rfl
    have HCS := Lib.hid (costs_succ B s)
    have hn0 := HCI.out (B.worst s)
    clear hb4 C3 S3 HL3 G3 B3
    generalize countL (B.worst s) B.n = now at *
    go_wp2_with fail
    clear c4
    go_loopw [9, 28] (fun v i wr => ∃ k : Nat, k ≤ B.m ∧ i = .int .i64 k ∧ wr.ownsRow w4.heap.size 3 1 v k (((List.range k).map (costAt B s)).map (Value.int .i64)) ∧ Below w4.heap.size w4 wr) (fun _ i _ => B.m - (intOf i).toNat)
    case atStart => exact ⟨0, Nat.zero_le _, rfl, World.ownsRow_nil _ _ _ _, Below.refl _ _⟩
    case round =>
      obtain ⟨k, hk, rfl, hown, hbel⟩ := hrel
      have Hown := Lib.hid hown
      have Hbel := Lib.hid hbel
      have C5 := Lib.hid (blk_keep hbel C4.out)
      have S5 := Lib.hid (blk_keep hbel S4.out)
      have c5 := C5.out.cell
      have s5 := S5.out.cell
      have z5 := C5.out.lt
      have y5 := S5.out.lt
      clear hown hbel
      by_cases hlt : k < B.m
      · have hcx := HCI.out (B.worstX s k)
        have hca := Lib.hid (HCA.out k)
        have hcs := Lib.hid (HCS.out k)
        have k5 : IntKind.i64.wrap (countL (B.worstX s k) B.n - now) = countL (B.worstX s k) B.n - now := IntWalk.i64_in _ (by omega)
        have G5 := Lib.hid ((below_then G4.out Hbel.out).drew)
        have D5 := Lib.hid (Hbel.out.drew)
        have O5 : Hid (wr.drew.ownsRow w4.heap.size 3 1 u9 k (((List.range k).map (costAt B s)).map (Value.int .i64))) := Hown.out
        have S5d : Hid (Blk wr.drew (w.heap.size + 1) 37 #[.int .i64 s.long, .int .i64 s.wide, .int .i64 s.kerf, .int .i64 s.across]) := S5.out
        go_wp2_with fail
        go_region_law (first
          | (refine step_append_mine rfl (.tmp 31) (.tmp 40) 44 rfl w4.heap.size 3 i0 (.int .i64 0) 1 8 Try.underlying44 hi hz0 hz1 hz2 rfl (by decide) _ k _ (by simp [Act.eval]) (O8.out.alloc _) ⟨w7.heap.size, 0, none⟩ 1 1 [.int .i64 (countL (B.worstX s k) B.n - now)] (by simp [Act.eval]) rfl (cell_one_new _ _ _) (by intro u hu; simp only [List.mem_singleton] at hu; subst hu; rfl) (by unfold maxLen; omega) (by omega) (by have := D8.out.size; simp; omega) ?_; intro v' w8 hown8 hgrow; have O9 := Lib.hid hown8; have D9 := Lib.hid ((D8.out.alloc D8.out.size _).grown hgrow (by have := D8.out.size; simp; omega) (fun q hq => (O8.out.lt q hq).1)); clear hown8 hgrow)
          | (go_simp; go_at_call 85; refine (HWO.out k _ G5.out hlt).mono ?_; rintro e w5 ⟨q, dq, rfl, hcr, hb5⟩; have HCr := Lib.hid hcr; have s6 := (blk_keep hb5 S5d.out).cell; have G6 := Lib.hid (below_then G5.out hb5); have D6 := Lib.hid (D5.out.trans (hb5.mono D5.out.size)); have O6 := Lib.hid (ownsRow_below O5.out hb5); clear hcr hb5)
          | (go_simp; go_at_call 66; refine (HWX.out k q dq _ G6.out HCr.out).mono ?_; rintro e w6 ⟨hb6, bb, oo, bb', oo', cc, cc', KK, dd, rfl, hs, hc, hc', hm⟩; have HL6 := Lib.hid (HLX.out k bb oo bb' oo' cc cc' KK dd _ hs hc hc' hm); have D7 := Lib.hid (D6.out.trans (hb6.mono D6.out.size)); have O7 := Lib.hid (ownsRow_below O6.out hb6); clear hs hc hc' hm hb6)
          | (go_simp; go_at_call 83; refine HL6.out.mono ?_; rintro e w7 ⟨rfl, hb7⟩; have D8 := Lib.hid (D7.out.trans (hb7.mono D7.out.size)); have O8 := Lib.hid (ownsRow_below O7.out hb7); clear hb7))
        all_goals
          go_wp2
          go_roundw
          case rel => exact ⟨k + 1, by omega, by go_num, by rw [hcs.out, hca.out]; exact O9.out, D9.out⟩
          case measure => simp [intOf]; omega
      · obtain rfl : k = B.m := by omega
        go_wp2
        go_ret2
        exact ⟨below_then B4.out Hbel.out, .inr ⟨Hok0.out, _, rfl, own_base Hown.out B4.out.size⟩⟩
end Go.Proofs.Ytiflhimmieflpaa

/- Walks: sort.Search with Widest's closure. -/
namespace Go.Proofs.Ytiflhimmieflpaa
open Go.RowKit Go.Maps

def searchGo (p : Nat → Bool) : Nat → Nat → Nat → Nat
  | 0, i, _ => i
  | f + 1, i, j => if i < j then (if p ((i + j) / 2) = true then searchGo p f i ((i + j) / 2) else searchGo p f ((i + j) / 2 + 1) j) else i
def searchL (p : Nat → Bool) (n : Nat) : Nat := searchGo p n 0 n
theorem searchGo_end {p : Nat → Bool} {f i j : Nat} (h : ¬ i < j) : searchGo p f i j = i := by
  cases f with
  | zero => rfl
  | succ f => rw [searchGo, if_neg h]
theorem searchGo_yes {p : Nat → Bool} {f i j : Nat} (h : i < j) (hp : p ((i + j) / 2) = true) : searchGo p (f + 1) i j = searchGo p f i ((i + j) / 2) := by
  rw [searchGo, if_pos h, if_pos hp]
theorem searchGo_no {p : Nat → Bool} {f i j : Nat} (h : i < j) (hp : p ((i + j) / 2) = false) : searchGo p (f + 1) i j = searchGo p f ((i + j) / 2 + 1) j := by
  rw [searchGo, if_pos h, if_neg (by simp [hp])]

set_option maxRecDepth 100000 in
theorem Search_any (p : Nat → Bool) (n : Nat) (I : World → Prop) (q0 q1 q2 : Value) (w : World) (hn : n ≤ 1000) (h0 : I w)
    (hf : ∀ (h : Nat) W, h < n → I W → Calls Try.prog 90 #[.int .i64 h, q0, q1, q2] W fun e W' => e = .returned (.bool (p h)) ∧ I W') :
    Calls Try.prog 89 #[.int .i64 n, .func (.func 90) #[] #[q0, q1, q2]] w fun e w' => e = .returned (.int .i64 (searchL p n)) ∧ I w' := by
  have Hf := Lib.hid hf
  have H0 := Lib.hid h0
  have HL : Hid (searchGo p n 0 n = searchL p n) := rfl
  clear hf h0
  go_enter Try.func89, Try.ntmps89
  go_wp2
  go_loopw [5, 6] (fun u v wr => ∃ i j f : Nat, i ≤ j ∧ j ≤ n ∧ j ≤ i + f ∧ u = .int .i64 i ∧ v = .int .i64 j ∧ searchGo p f i j = searchL p n ∧ I wr) (fun u v _ => (intOf v - intOf u).toNat)
  case atStart => exact ⟨0, n, n, by omega, by omega, by omega, rfl, rfl, HL.out, H0.out⟩
  case round =>
    obtain ⟨i, j, f, hij, hjn, hjf, rfl, rfl, hgo, hI⟩ := hrel
    have Hgo := Lib.hid hgo
    have HI := Lib.hid hI
    clear hgo hI HL H0
    by_cases hlt : i < j
    · obtain ⟨f, rfl⟩ : ∃ f', f = f' + 1 := ⟨f - 1, by omega⟩
      have hh : (i + j) / 2 < n := by omega
      have hcast : (((i + j) / 2 : Nat) : Int) = ((i : Int) + (j : Int)) / 2 := by omega
      have HC := Hf.out ((i + j) / 2) wr hh HI.out
      rw [hcast] at HC
      replace HC := Lib.hid HC
      clear hcast
      have HY := Lib.hid (searchGo_yes (p := p) (f := f) hlt)
      have HN := Lib.hid (searchGo_no (p := p) (f := f) hlt)
      cases hp : p ((i + j) / 2)
      · rw [hp] at HC
        have HG := Lib.hid (HN.out hp)
        clear HY HN hp
        go_wp2_with fail
        refine HC.out.mono ?_
        rintro e w2 ⟨rfl, hI2⟩
        have HI2 := Lib.hid hI2
        clear hI2
        go_wp2
        go_roundw
        case rel => exact ⟨(i + j) / 2 + 1, j, f, by omega, hjn, by omega, by go_num, rfl, by rw [← HG.out]; exact Hgo.out, HI2.out⟩
        case measure => simp [intOf]; omega
      · rw [hp] at HC
        have HG := Lib.hid (HY.out hp)
        clear HY HN hp
        go_wp2_with fail
        refine HC.out.mono ?_
        rintro e w2 ⟨rfl, hI2⟩
        have HI2 := Lib.hid hI2
        clear hI2
        go_wp2
        go_roundw
        case rel => exact ⟨i, (i + j) / 2, f, by omega, by omega, by omega, rfl, by go_num, by rw [← HG.out]; exact Hgo.out, HI2.out⟩
        case measure => simp [intOf]; omega
    · have hE : searchGo p f i j = i := searchGo_end hlt
      have HE : Hid ((i : Int) = (searchL p n : Int)) := by unfold Hid; rw [← Hgo.out, hE]
      clear hE
      go_wp2
      go_ret
      exact ⟨ret_int HE.out, HI.out⟩
end Go.Proofs.Ytiflhimmieflpaa

/- Walks: Widest. -/
namespace Go.Proofs.Ytiflhimmieflpaa
open Go.RowKit Go.Maps

def Sw.width (s : Sw) (x : Int) : Sw := ⟨s.long, x, s.kerf, s.across⟩
theorem Sw.Ok.width {s : Sw} (h : s.Ok) {x : Int} (h1 : 1 ≤ x) (h2 : x ≤ 300) : (s.width x).Ok := ⟨h.l1, h.l2, h1, h2, h.k1, h.k2, h.a1, h.a2⟩
/-- Fewer sticks than were asked for, with k + 1 as the width. -/
def fewP (B : Bl) (s : Sw) (sticks : Int) (k : Nat) : Bool := decide (countL (B.worst (s.width ((k : Int) + 1))) B.n < sticks)
def widestL (B : Bl) (s : Sw) (sticks : Int) : Nat := searchL (fewP B s sticks) 300

/-- What the closure finds and leaves. -/
structure WEnv (w : World) (B : Bl) (s : Sw) (sticks : Int) (g cap g' cap' q : Nat) (W : World) : Prop where
  saw : ∃ wide, Blk W (w.heap.size + 1) 37 #[.int .i64 s.long, .int .i64 wide, .int .i64 s.kerf, .int .i64 s.across]
  cur : Blk W q 106 #[.slice B.A B.n B.c, .slice B.A' B.n' B.c', .int .i64 B.bend, .slice B.K B.m B.d, .slice (some ⟨g, 0, none⟩) B.n cap, .slice (some ⟨g', 0, none⟩) B.n cap']
  num : Blk W (w.heap.size + 2) 3 #[.int .i64 sticks]
  p : Pairs W (some ⟨g, 0, none⟩) B.n (bentL B.bot B.bend)
  p' : Pairs W (some ⟨g', 0, none⟩) B.n (bentL B.top B.bend)
  bel : Below w.heap.size w W
theorem WEnv.below {w W W' : World} {B : Bl} {s : Sw} {sticks : Int} {g cap g' cap' q : Nat} (h : WEnv w B s sticks g cap g' cap' q W) (hb : Below W.heap.size W W') : WEnv w B s sticks g cap g' cap' q W' :=
  ⟨h.saw.imp fun _ hx => blk_keep hb hx, blk_keep hb h.cur, blk_keep hb h.num, h.p.below hb, h.p'.below hb, below_then h.bel hb⟩

set_option maxRecDepth 100000 in
set_option maxHeartbeats 2000000 in
theorem widest1_any (B : Bl) (s : Sw) (sticks : Int) (g cap g' cap' q : Nat) (w : World) (hB : B.Ok) (hs : s.Ok) (hat : B.At w) (hq : w.heap.size + 2 < q) (hg : w.heap.size + 2 < g) (hg' : w.heap.size + 2 < g') (k : Nat) (W : World) (hk : k < 300) (h : WEnv w B s sticks g cap g' cap' q W) :
    Calls Try.prog 90 #[.int .i64 k, .pointer (some ⟨w.heap.size + 1, 0, none⟩), .pointer (some ⟨q, 0, none⟩), .pointer (some ⟨w.heap.size + 2, 0, none⟩)] W
      fun e W' => e = .returned (.bool (fewP B s sticks k)) ∧ WEnv w B s sticks g cap g' cap' q W' := by
  obtain ⟨wide, hsaw⟩ := h.saw
  have s0 := hsaw.cell
  have f0 := hsaw.frozen 1
  have hsw := hs.width (x := (k : Int) + 1) (by omega) (by omega)
  have hF : Hid (fewP B s sticks k = decide (countL (B.worst (s.width ((k : Int) + 1))) B.n < sticks)) := rfl
  have S1 : Hid (Blk (W.setCell ⟨w.heap.size + 1, 1, none⟩ (.int .i64 ((k : Int) + 1))) (w.heap.size + 1) 37 #[.int .i64 s.long, .int .i64 ((k : Int) + 1), .int .i64 s.kerf, .int .i64 s.across]) := hsaw.set_ 1 _
  have HE : Hid (WEnv w B s sticks g cap g' cap' q (W.setCell ⟨w.heap.size + 1, 1, none⟩ (.int .i64 ((k : Int) + 1))).drew) :=
    ⟨⟨_, S1.out⟩, h.cur.far (p := ⟨w.heap.size + 1, 1, none⟩) (by simp; omega) _, h.num.far (p := ⟨w.heap.size + 1, 1, none⟩) (by simp) _, Reads.setCell_far h.p (p := ⟨w.heap.size + 1, 1, none⟩) (by simp; omega) _, Reads.setCell_far h.p' (p := ⟨w.heap.size + 1, 1, none⟩) (by simp; omega) _, (h.bel.setCell (p := ⟨w.heap.size + 1, 1, none⟩) (by simp) _).drew⟩
  have HWT := Lib.hid (fun X (he : WEnv w B s sticks g cap g' cap' q X) => worst_top B (s.width ((k : Int) + 1)) g cap g' cap' X hB he.p he.p' (hat.below he.bel).hk)
  have HLT := Lib.hid (fun b o b' o' c c' K d X => count_top B (B.worst (s.width ((k : Int) + 1))) b o b' o' c c' K B.m d X hB (worst_bounds hB hsw) hB.m4)
  unfold Bl.curved Sw.val Sw.width at HWT
  unfold Sw.width at HLT hF
  have k1 : IntKind.i64.wrap ((k : Int) + 1) = (k : Int) + 1 := IntWalk.i64_in _ (by omega)
  clear hsaw h hsw hB hs hat hg hg' hq
  go_enter Try.func90, Try.ntmps90
  go_wp2_with fail
  clear s0 f0
  generalize W.setCell ⟨w.heap.size + 1, 1, none⟩ (.int .i64 ((k : Int) + 1)) = W1 at *
  have c1 := S1.out.cell
  have c2 := HE.out.cur.cell
  have c3 := HE.out.num.cell
  go_region_with (first
    | (go_at_call 66; refine (HWT.out _ HE.out).mono ?_; rintro e w6 ⟨hb6, bb, oo, bb', oo', cc, cc', KK, dd, rfl, hs, hc, hc', hm⟩; have HL6 := Lib.hid (HLT.out bb oo bb' oo' cc cc' KK dd _ hs hc hc' hm); have HE6 := Lib.hid (HE.out.below hb6); have c6 := HE6.out.num.cell; clear hs hc hc' hm hb6)
    | (go_at_call 83; refine HL6.out.mono ?_; rintro e w7 ⟨rfl, hb7⟩; have HE7 := Lib.hid (HE6.out.below hb7); have c7 := HE7.out.num.cell; clear hb7))
  all_goals go_wp2
  all_goals go_ret
  all_goals exact ⟨ret_bool hF.out.symm, HE7.out⟩
end Go.Proofs.Ytiflhimmieflpaa

/- Walks: Widest, the face. -/
namespace Go.Proofs.Ytiflhimmieflpaa
open Go.RowKit Go.Maps

def WidestRes (w : World) (B : Bl) (s : Sw) (sticks : Int) (e : Ending) (w' : World) : Prop :=
  Below w.heap.size w w' ∧ ((B.err s ≠ 0 ∧ e = .returned (.tuple #[.int .i64 0, .int .i64 (B.err s)])) ∨
    (B.err s = 0 ∧ within 1 400 [sticks] = false ∧ e = .returned (.tuple #[.int .i64 0, .int .i64 2])) ∨
    (B.err s = 0 ∧ within 1 400 [sticks] = true ∧ widestL B s sticks = 0 ∧ e = .returned (.tuple #[.int .i64 0, .int .i64 7])) ∨
    (B.err s = 0 ∧ within 1 400 [sticks] = true ∧ widestL B s sticks ≠ 0 ∧ e = .returned (.tuple #[.int .i64 (widestL B s sticks), .int .i64 0])))

set_option maxRecDepth 100000 in
set_option maxHeartbeats 2000000 in
theorem Widest_any (B : Bl) (s : Sw) (sticks : Int) (w : World) (h : B.At w) : Calls Try.prog 48 #[B.val, s.val, .int .i64 sticks] w (WidestRes w B s sticks) := by
  have hmf : ∀ (fn : Fn) (first cap : Array Value) (w : World), (Instr.makeFunc fn first cap).run Try.prog w = .ok (.func fn first cap) w := fun _ _ _ _ => rfl
  have E0 : Hid (Below w.heap.size w (((w.alloc (.cells #[.slice B.A B.n B.c, .slice B.A' B.n' B.c', .int .i64 B.bend, .slice B.K B.m B.d] 25)).alloc (.cells #[.int .i64 s.long, .int .i64 s.wide, .int .i64 s.kerf, .int .i64 s.across] 37)).alloc (.cells #[.int .i64 sticks] 3))) := below_alloc' (below_alloc' (below_self _ _) _) _
  have S0 := Lib.hid ((Blk.new (w.alloc (.cells #[.slice B.A B.n B.c, .slice B.A' B.n' B.c', .int .i64 B.bend, .slice B.K B.m B.d] 25)) 37 #[.int .i64 s.long, .int .i64 s.wide, .int .i64 s.kerf, .int .i64 s.across] (g := w.heap.size + 1) (by simp)).alloc (.cells #[.int .i64 sticks] 3))
  have N0 := Lib.hid (Blk.new ((w.alloc (.cells #[.slice B.A B.n B.c, .slice B.A' B.n' B.c', .int .i64 B.bend, .slice B.K B.m B.d] 25)).alloc (.cells #[.int .i64 s.long, .int .i64 s.wide, .int .i64 s.kerf, .int .i64 s.across] 37)) 3 #[.int .i64 sticks] (g := w.heap.size + 2) (by simp))
  have HC := Lib.hid (ready_top B s _ (h.below E0.out))
  have HK := Lib.hid h
  clear h
  unfold Bl.val Sw.val at *
  go_enter Try.func48, Try.ntmps48
  go_wp2_with fail
  refine HC.out.mono ?_
  rintro e w2 ⟨hb2, ⟨herr, rfl⟩ | ⟨hok, g, cap, g', cap', rfl, P, P', hg⟩⟩
  · have B2 := Lib.hid (below_then E0.out hb2)
    have Herr := Lib.hid herr
    have hz : (B.err s == 0) = false := by simpa using herr
    have hz2 : (B.err s != 0) = true := by simpa using herr
    clear hb2 herr HC
    unfold zeroCurved
    go_wp2
    go_ret2
    exact ⟨below_alloc' B2.out _, .inl ⟨Herr.out, rfl⟩⟩
  · have B2 := Lib.hid (below_then E0.out hb2)
    have S2 := Lib.hid (blk_keep hb2 S0.out)
    have N2 := Lib.hid (blk_keep hb2 N0.out)
    have n2 := N2.out.cell
    have z2 := N2.out.lt
    have Hok := Lib.hid (err_ok hok)
    have Hok0 := Lib.hid hok
    have Hg : Hid (w.heap.size + 2 < g ∧ w.heap.size + 2 < g') := by unfold Hid; simp at hg; omega
    have HE : Hid (WEnv w B s sticks g cap g' cap' w2.heap.size ((w2.alloc (.cells #[.slice B.A B.n B.c, .slice B.A' B.n' B.c', .int .i64 B.bend, .slice B.K B.m B.d, .slice (some ⟨g, 0, none⟩) B.n cap, .slice (some ⟨g', 0, none⟩) B.n cap'] 106)).alloc (.cells #[.int .i64 sticks] 3))) :=
      ⟨⟨_, (S2.out.alloc _).alloc _⟩, (Blk.new w2 _ _ rfl).alloc _, (N2.out.alloc _).alloc _, (P.below (below_self _ _)).below (below_self _ _), (P'.below (below_self _ _)).below (below_self _ _), below_alloc' (below_alloc' B2.out _) _⟩
    have HSE := Lib.hid (Search_any (fewP B s sticks) 300 (WEnv w B s sticks g cap g' cap' w2.heap.size) (.pointer (some ⟨w.heap.size + 1, 0, none⟩)) (.pointer (some ⟨w2.heap.size, 0, none⟩)) (.pointer (some ⟨w.heap.size + 2, 0, none⟩)) _ (by omega) HE.out
      (fun k W hk hI => widest1_any B s sticks g cap g' cap' w2.heap.size w Hok.out.2.1 Hok.out.2.2 HK.out z2 Hg.out.1 Hg.out.2 k W hk hI))
    have hWL : Hid (widestL B s sticks = searchL (fewP B s sticks) 300) := rfl
    clear hb2 hok P P' HC hg S0 N0 S2
    unfold Bl.curved
    cases hx : within 1 400 [sticks]
    · have Hx := Lib.hid hx
      clear HSE
      go_wp2_with (go_at_call 88; refine (within1 _ _ _ _ _ _ (by simp)).mono ?_; rintro e w' ⟨rfl, rfl⟩)
      go_ret2
      exact ⟨HE.out.bel, .inr (.inl ⟨Hok0.out, Hx.out, rfl⟩)⟩
    · have Hx := Lib.hid hx
      go_wp2_with (first | (go_at_call 88; refine (within1 _ _ _ _ _ _ (by simp)).mono ?_; rintro e w' ⟨rfl, rfl⟩) | (go_at_call 89; fail))
      refine HSE.out.mono ?_
      rintro e w5 ⟨rfl, hE5⟩
      have HE5 := Lib.hid hE5.bel
      rw [← hWL.out]
      clear hE5 HSE HE
      cases hv : widestL B s sticks with
      | zero =>
        have Hv := Lib.hid hv
        clear hv
        go_wp2
        go_ret2
        exact ⟨HE5.out, .inr (.inr (.inl ⟨Hok0.out, Hx.out, Hv.out, rfl⟩))⟩
      | succ v =>
        have Hv := Lib.hid hv
        have hv0 : (((v + 1 : Nat) : Int) == 0) = false := by simp; omega
        clear hv
        go_wp2
        go_ret2
        exact ⟨HE5.out, .inr (.inr (.inr ⟨Hok0.out, Hx.out, by rw [Hv.out]; omega, by rw [Hv.out]; rfl⟩))⟩
end Go.Proofs.Ytiflhimmieflpaa

/- Walks: ref.Ints; the law's span and saw. -/
namespace Go.Proofs.Ytiflhimmieflpaa
open Go.RowKit Go.Maps

def eqTo (xs ys : List Int) (k : Nat) : Bool := (List.range k).all fun i => xs.getD i 0 == ys.getD i 0
def intsB (n n' : Nat) (xs ys : List Int) : Bool := decide (n = n') && eqTo xs ys n
theorem eqTo_succ (xs ys : List Int) (k : Nat) : eqTo xs ys (k + 1) = (eqTo xs ys k && (xs.getD k 0 == ys.getD k 0)) := by
  simp [eqTo, List.range_succ]
theorem eqTo_no {xs ys : List Int} {k n : Nat} (hk : k < n) (h : (xs.getD k 0 == ys.getD k 0) = false) : eqTo xs ys n = false := by
  unfold eqTo
  rw [List.all_eq_false]
  exact ⟨k, List.mem_range.2 hk, by simp only [h]; decide⟩

set_option maxRecDepth 100000 in
theorem RefInts_any (A A' : Option Addr) (n n' c c' : Nat) (xs ys : List Int) (w : World) (h : Ints w A n xs) (h' : Ints w A' n' ys) (hn : n ≤ maxLen) :
    Calls Try.prog 32 #[.slice A n c, .slice A' n' c'] w fun e w' => e = .returned (.bool (intsB n n' xs ys)) ∧ Below w.heap.size w w' := by
  unfold maxLen at hn
  have HD : Hid (intsB n n' xs ys = (decide (n = n') && eqTo xs ys n)) := rfl
  by_cases hne : n = n'
  case neg =>
    have HF : Hid (intsB n n' xs ys = false) := by unfold Hid; rw [HD.out]; simp [hne]
    have hd2 : ((n : Int) != (n' : Int)) = true := by simp; omega
    have hd : (!((n : Int) == (n' : Int))) = true := by simp; omega
    go_enter Try.func32, Try.ntmps32
    go_wp2
    go_ret
    exact ⟨ret_bool HF.out.symm, Below.refl _ _⟩
  subst hne
  have HT : Hid (intsB n n xs ys = eqTo xs ys n) := by unfold Hid; rw [HD.out]; simp
  have H := Lib.hid h
  have H' := Lib.hid h'
  have hd2 : ((n : Int) != (n : Int)) = false := by simp
  have hd : ((n : Int) == (n : Int)) = true := by simp
  have HS := Lib.hid (eqTo_succ xs ys)
  have HO := Lib.hid (fun k (hk : k < n) => eqTo_no (xs := xs) (ys := ys) (k := k) (n := n) hk)
  have H0 : Hid (eqTo xs ys 0 = true) := rfl
  clear h h' HD
  go_enter Try.func32, Try.ntmps32
  go_wp2
  go_loopw [5] (fun i wr => ∃ k : Nat, k ≤ n ∧ i = .int .i64 k ∧ eqTo xs ys k = true ∧ Below w.heap.size w wr) (fun i _ => n - (intOf i).toNat)
  case atStart => exact ⟨0, Nat.zero_le _, rfl, H0.out, Below.refl _ _⟩
  case round =>
    obtain ⟨k, hk, rfl, hin, hbel⟩ := hrel
    have Hin := Lib.hid hin
    have Hbel := Lib.hid hbel
    clear hin
    by_cases hlt : k < n
    · obtain ⟨b, off, hA, hb, q0⟩ := (H.out.below hbel).at_ hlt
      obtain ⟨b', off', hA', hb', q1⟩ := (H'.out.below hbel).at_ hlt
      subst hA hA'
      have hs := Lib.hid (HS.out k)
      have ho := Lib.hid (HO.out k hlt)
      clear hbel
      generalize xs.getD k 0 = x at *
      generalize ys.getD k 0 = y at *
      cases hxy : (x == y)
      · have hxn : (x != y) = true := by simp [bne, hxy]
        have HF : Hid (intsB n n xs ys = false) := by unfold Hid; rw [HT.out]; exact ho.out hxy
        go_wp2_with fail
        go_quiet (fail)
        go_wp2
        go_ret
        exact ⟨ret_bool HF.out.symm, below_drewN Hbel.out _⟩
      · have hxn : (x != y) = false := by simp [bne, hxy]
        have HT2 : Hid (eqTo xs ys (k + 1) = true) := by unfold Hid; rw [hs.out, Hin.out, hxy]; rfl
        go_wp2_with fail
        go_quiet (fail)
        go_wp2
        go_roundw
        case rel => exact ⟨k + 1, by omega, by go_num, HT2.out, below_drewN Hbel.out _⟩
        case measure => simp [intOf]; omega
    · obtain rfl : k = n := by omega
      have HF : Hid (intsB k k xs ys = true) := by unfold Hid; rw [HT.out]; exact Hin.out
      go_wp2
      go_ret
      exact ⟨ret_bool HF.out.symm, Hbel.out⟩

theorem lawSpan_any (a b : Int) (w : World) : Calls Try.prog 57 #[.int .i64 a, .int .i64 b] w fun e w' => e = .returned (.agg #[.int .i64 a, .int .i64 b]) ∧ Below w.heap.size w w' := by
  have R := Lib.hid (Blk.new w 98 #[.int .i64 0, .int .i64 0] (g := w.heap.size) rfl)
  have B := Lib.hid (below_self w (.cells #[.int .i64 0, .int .i64 0] 98))
  go_enter Try.func57, Try.ntmps57
  go_wp2_with (refine wpList_store_row rfl 98 _ _ rfl w.heap.size _ rfl rfl 98 _ R.out (by kernel_rfl) rfl (by kernel_rfl) ?_)
  exact bodyPost_ret (results_c rfl _ _ _ _ _ _ _ rfl (R.out.setRow _) Try.underlying98 (by kernel_rfl)) rfl ⟨rfl, below_setR B.out (Nat.le_refl _) _⟩
theorem lawSaw_any (a : Int) (w : World) : Calls Try.prog 59 #[.int .i64 a] w fun e w' => e = .returned (.agg #[.int .i64 2, .int .i64 a, .int .i64 1, .int .i64 0]) ∧ Below w.heap.size w w' := by
  have R := Lib.hid (Blk.new w 37 #[.int .i64 0, .int .i64 0, .int .i64 0, .int .i64 0] (g := w.heap.size) rfl)
  have B := Lib.hid (below_self w (.cells #[.int .i64 0, .int .i64 0, .int .i64 0, .int .i64 0] 37))
  go_enter Try.func59, Try.ntmps59
  go_wp2_with (refine wpList_store_row rfl 37 _ _ rfl w.heap.size _ rfl rfl 37 _ R.out (by kernel_rfl) rfl (by kernel_rfl) ?_)
  exact bodyPost_ret (results_c rfl _ _ _ _ _ _ _ rfl (R.out.setRow _) Try.underlying37 (by kernel_rfl)) rfl ⟨rfl, below_setR B.out (Nat.le_refl _) _⟩
end Go.Proofs.Ytiflhimmieflpaa

/- Walks: the law's blade. -/
namespace Go.Proofs.Ytiflhimmieflpaa
open Go.RowKit Go.Maps

theorem reads_of_blk {W : World} {g size n : Nat} {t : TypeId} {cs : Array Value} {xs : List Value} (h : Blk W g t cs) (hx : cs.toList = xs) (hl : xs.length = n * size) : Reads W size (some ⟨g, 0, none⟩) n xs := by
  subst hx
  refine ⟨hl, fun _ => ⟨g, 0, rfl, h.lt, fun j u hu => ?_⟩⟩
  rw [Nat.zero_add, h.cell j]
  simpa using hu
def botX : List (Int × Int) := [(0, 2), (0, 0), (1, 4), (0, 0), (0, 1), (3, 3)]
def topX : List (Int × Int) := [(30, 30), (30, 30), (20, 22), (30, 30), (30, 30), (30, 30)]
def crX : List Crack := [⟨4, 5, 10, 11, 12, 14⟩]
theorem top_same : ∀ j, j ≠ 4 → j ≠ 5 → j < 12 → (flat2 (List.replicate 6 ((30 : Int), (30 : Int))))[j]? = (flat2 topX)[j]?
  | 0, _, _, _ => rfl
  | 1, _, _, _ => rfl
  | 2, _, _, _ => rfl
  | 3, _, _, _ => rfl
  | 4, h, _, _ => absurd rfl h
  | 5, _, h, _ => absurd rfl h
  | 6, _, _, _ => rfl
  | 7, _, _, _ => rfl
  | 8, _, _, _ => rfl
  | 9, _, _, _ => rfl
  | 10, _, _, _ => rfl
  | 11, _, _, _ => rfl
  | j + 12, _, _, h => by omega
theorem top_mem {X : World} {vg : Nat} {t : TypeId} {cs : Array Value} (h : Blk X vg t cs) (hs : 12 ≤ cs.size) (ht : cs.toList.take (flat2 (List.replicate 6 ((30 : Int), (30 : Int)))).length = flat2 (List.replicate 6 (30, 30))) :
    Pairs ((X.setCell ⟨vg, 4, none⟩ (.int .i64 20)).setCell ⟨vg, 5, none⟩ (.int .i64 22)) (some ⟨vg, 0, none⟩) 6 topX := by
  have h2 := (h.set_ 4 (.int .i64 20)).set_ 5 (.int .i64 22)
  refine ⟨rfl, fun _ => ⟨vg, 0, rfl, h2.lt, fun j u hu => ?_⟩⟩
  rw [Nat.zero_add, h2.cell j, ← hu]
  have hj : j < 12 := by
    rcases Nat.lt_or_ge j 12 with q | q
    · exact q
    · rw [List.getElem?_eq_none (show (flat2 topX).length ≤ j from q)] at hu; simp at hu
  by_cases e5 : j = 5
  · subst e5
    rw [Array.getElem?_setIfInBounds_self_of_lt (by simp; omega)]
    rfl
  · rw [Array.getElem?_setIfInBounds_ne (fun e => e5 e.symm)]
    by_cases e4 : j = 4
    · subst e4
      rw [Array.getElem?_setIfInBounds_self_of_lt (by omega)]
      rfl
    · rw [Array.getElem?_setIfInBounds_ne (fun e => e4 e.symm), cs_at ht j hj]
      exact top_same j e4 e5 hj
def BladeRes (w : World) (e : Ending) (w' : World) : Prop :=
  ∃ B : Bl, e = .returned B.val ∧ B.At w' ∧ B.n = 6 ∧ B.n' = 6 ∧ B.m = 1 ∧ B.bend = 10 ∧ B.bot = botX ∧ B.top = topX ∧ B.cr = crX ∧ Below w.heap.size w w'

set_option maxRecDepth 100000 in
set_option maxHeartbeats 4000000 in
theorem blade_any (w : World) : Calls Try.prog 58 #[] w (BladeRes w) := by
  obtain ⟨i0, hi, hz0, hz1, hz2⟩ := info_parts Try.infoSpan
  have R0 := Lib.hid (Blk.new w 25 #[.slice none 0 0, .slice none 0 0, .int .i64 0, .slice none 0 0] (g := w.heap.size) rfl)
  have B0 := Lib.hid (below_self w (.cells #[.slice none 0 0, .slice none 0 0, .int .i64 0, .slice none 0 0] 25))
  have HS := Lib.hid (fun a b W => lawSpan_any a b W)
  go_enter Try.func58, Try.ntmps58
  go_wp2_with fail
  refine (HS.out _ _ _).mono ?_
  rintro e w1 ⟨rfl, h1⟩
  have B1 := Lib.hid (below_then B0.out h1)
  have Z1 := Lib.hid (blk_keep h1 R0.out)
  clear h1
  go_wp2_with fail
  refine (HS.out _ _ _).mono ?_
  rintro e w2 ⟨rfl, h2⟩
  have B2 := Lib.hid (below_then B1.out h2)
  have Z2 := Lib.hid (blk_keep h2 Z1.out)
  clear h2
  go_wp2_with fail
  refine (HS.out _ _ _).mono ?_
  rintro e w3 ⟨rfl, h3⟩
  have B3 := Lib.hid (below_then B2.out h3)
  have Z3 := Lib.hid (blk_keep h3 Z2.out)
  clear h3
  go_wp2_with fail
  refine (HS.out _ _ _).mono ?_
  rintro e w4 ⟨rfl, h4⟩
  have B4 := Lib.hid (below_then B3.out h4)
  have Z4 := Lib.hid (blk_keep h4 Z3.out)
  clear h4
  go_wp2_with fail
  refine (HS.out _ _ _).mono ?_
  rintro e w5 ⟨rfl, h5⟩
  have B5 := Lib.hid (below_then B4.out h5)
  have Z5 := Lib.hid (blk_keep h5 Z4.out)
  clear h5
  go_wp2_with fail
  refine (HS.out _ _ _).mono ?_
  rintro e w6 ⟨rfl, h6⟩
  have B6 := Lib.hid (below_then B5.out h6)
  have Z6 := Lib.hid (blk_keep h6 Z5.out)
  clear h6
  have P6 : Hid (Pairs (w6.alloc (.cells #[.int .i64 0, .int .i64 2, .int .i64 0, .int .i64 0, .int .i64 1, .int .i64 4, .int .i64 0, .int .i64 0, .int .i64 0, .int .i64 1, .int .i64 3, .int .i64 3] 98)) (some ⟨w6.heap.size, 0, none⟩) 6 botX) := reads_of_blk (Blk.new w6 _ _ rfl) rfl rfl
  have Z6' := Lib.hid (Z6.out.alloc (.cells #[.int .i64 0, .int .i64 2, .int .i64 0, .int .i64 0, .int .i64 1, .int .i64 4, .int .i64 0, .int .i64 0, .int .i64 0, .int .i64 1, .int .i64 3, .int .i64 3] 98))
  have B6' := Lib.hid (below_alloc' B6.out (.cells #[.int .i64 0, .int .i64 2, .int .i64 0, .int .i64 0, .int .i64 1, .int .i64 4, .int .i64 0, .int .i64 0, .int .i64 0, .int .i64 1, .int .i64 3, .int .i64 3] 98))
  go_wp2_with fail
  refine (HS.out _ _ _).mono ?_
  rintro e w7 ⟨rfl, h7⟩
  have B7 := Lib.hid (below_then B6'.out h7)
  have Z7 := Lib.hid (blk_keep h7 Z6'.out)
  have P7 := Lib.hid (Reads.below P6.out h7)
  clear h7
  go_wp2_with fail
  refine (HS.out _ _ _).mono ?_
  rintro e w8 ⟨rfl, h8⟩
  have B8 := Lib.hid (below_then B7.out h8)
  have Z8 := Lib.hid (blk_keep h8 Z7.out)
  have P8 := Lib.hid (Reads.below P7.out h8)
  clear h8
  go_wp2_with fail
  refine (HS.out _ _ _).mono ?_
  rintro e w9 ⟨rfl, h9⟩
  have B9 := Lib.hid (below_then B8.out h9)
  have P9 := Lib.hid (Reads.below P8.out h9)
  have Z9 := Lib.hid (blk_keep h9 Z8.out)
  have Hgb := Lib.hid Z6.out.lt
  have Hgk := Lib.hid Z9.out.lt
  clear h9 B1 B2 B3 B4 B5 B6 B6' B7 B8 P6 P7 P8 Z1 Z2 Z3 Z4 Z5 Z6 Z6' Z7 Z8 R0 B0
  have PA := Lib.hid (Reads.below P9.out (below_self w9 (.cells #[.int .i64 4, .int .i64 5, .int .i64 10, .int .i64 11, .int .i64 12, .int .i64 14] 111)))
  have BA := Lib.hid (below_alloc' B9.out (.cells #[.int .i64 4, .int .i64 5, .int .i64 10, .int .i64 11, .int .i64 12, .int .i64 14] 111))
  have CA : Hid (Cracks (w9.alloc (.cells #[.int .i64 4, .int .i64 5, .int .i64 10, .int .i64 11, .int .i64 12, .int .i64 14] 111)) (some ⟨w9.heap.size, 0, none⟩) 1 crX) := reads_of_blk (Blk.new w9 _ _ rfl) rfl rfl
  have ZA := Lib.hid (Z9.out.alloc (.cells #[.int .i64 4, .int .i64 5, .int .i64 10, .int .i64 11, .int .i64 12, .int .i64 14] 111))
  have TA := Lib.hid (Blk.new (w9.alloc (.cells #[.int .i64 4, .int .i64 5, .int .i64 10, .int .i64 11, .int .i64 12, .int .i64 14] 111)) 25 #[.slice (some ⟨w6.heap.size, 0, none⟩) 6 6, .slice none 0 0, .int .i64 10, .slice (some ⟨w9.heap.size, 0, none⟩) 1 1] (g := w9.heap.size + 1) (by simp))
  have YA : Hid (Below (w9.heap.size + 1) (w9.alloc (.cells #[.int .i64 4, .int .i64 5, .int .i64 10, .int .i64 11, .int .i64 12, .int .i64 14] 111)) ((w9.alloc (.cells #[.int .i64 4, .int .i64 5, .int .i64 10, .int .i64 11, .int .i64 12, .int .i64 14] 111)).alloc (.cells #[.slice (some ⟨w6.heap.size, 0, none⟩) 6 6, .slice none 0 0, .int .i64 10, .slice (some ⟨w9.heap.size, 0, none⟩) 1 1] 25))) := (Below.refl _ _).alloc (by simp) _
  have hw9 : w9.heap.size + 1 = (w9.alloc (.cells #[.int .i64 4, .int .i64 5, .int .i64 10, .int .i64 11, .int .i64 12, .int .i64 14] 111)).heap.size := by simp
  have Hw9 := Lib.hid hw9
  clear hw9 P9 Z9 B9
  go_wp2_with fail
  generalize w9.alloc (.cells #[.int .i64 4, .int .i64 5, .int .i64 10, .int .i64 11, .int .i64 12, .int .i64 14] 111) = WA at *
  generalize w6.heap.size = gb at *
  generalize hgk : w9.heap.size = gk at *
  clear hgk
  have Hgt : Hid (w.heap.size < gk + 1) := Nat.lt_succ_of_lt Hgk.out
  generalize hgt : gk + 1 = gt at *
  clear hgt
  have HR : Hid (∀ k, flat2 (List.replicate (k + 1) ((30 : Int), (30 : Int))) = flat2 (List.replicate k (30, 30)) ++ [.int .i64 30, .int .i64 30]) := fun k => by
    rw [List.replicate_succ', flat2_append]; rfl
  go_loopw [2] (fun i wr => ∃ (k : Nat) (v : Value), k ≤ 6 ∧ i = .int .i64 k ∧ Blk wr gt 25 #[.slice (some ⟨gb, 0, none⟩) 6 6, v, .int .i64 10, .slice (some ⟨gk, 0, none⟩) 1 1] ∧ wr.ownsRow gt 98 2 v k (flat2 (List.replicate k (30, 30))) ∧ Below gt WA wr) (fun i _ => 6 - (intOf i).toNat)
  case atStart => exact ⟨0, .slice none 0 0, by omega, rfl, TA.out, World.ownsRow_nil _ _ _ _, YA.out⟩
  case round =>
    obtain ⟨k, v, hk, rfl, hT, hown, hbel⟩ := hrel
    have HT : Hid (Blk wr.drew gt 25 #[.slice (some ⟨gb, 0, none⟩) 6 6, v, .int .i64 10, .slice (some ⟨gk, 0, none⟩) 1 1]) := hT
    have HO : Hid (wr.drew.ownsRow gt 98 2 v k (flat2 (List.replicate k (30, 30)))) := hown
    have HB := Lib.hid hbel.drew
    have tc := hT.cell
    clear hT hown hbel TA YA
    by_cases hlt : k < 6
    · have hr := Lib.hid (HR.out k)
      go_wp2_with fail
      go_region_law (first
        | (go_simp; go_at_call 57; refine (HS.out _ _ _).mono ?_; rintro e w10 ⟨rfl, h10⟩; have T6 := Lib.hid (blk_keep h10 HT.out); have O6 := Lib.hid (ownsRow_below HO.out h10); have t6 := T6.out.cell; have D6 := Lib.hid (HB.out.trans (h10.mono (Nat.le_of_lt HT.out.lt))); have T6a := Lib.hid (T6.out.alloc (.cells #[.int .i64 30, .int .i64 30] 98)); have O6a := Lib.hid (O6.out.alloc (.cells #[.int .i64 30, .int .i64 30] 98)); have D6a := Lib.hid (D6.out.alloc (Nat.le_of_lt T6.out.lt) (.cells #[.int .i64 30, .int .i64 30] 98)); have N6a := Lib.hid (cell_two_at w10 (.int .i64 30) (.int .i64 30) 98); have L6a := Lib.hid (Nat.le_of_lt T6a.out.lt); have z6 := T6.out.lt; clear h10)
        | (refine step_append_mine rfl (.tmp 21) (.tmp 23) 22 rfl gt 98 i0 (.agg #[.int .i64 0, .int .i64 0]) 2 16 Try.underlying22 hi hz0 hz1 hz2 rfl (by decide) _ k _ (by simp [Act.eval]) O6a.out ⟨w10.heap.size, 0, none⟩ 1 1 [.int .i64 30, .int .i64 30] (by simp [Act.eval]) rfl N6a.out (by intro u hu; simp only [List.mem_cons, List.not_mem_nil, or_false] at hu; rcases hu with rfl | rfl <;> rfl) (by unfold maxLen; omega) (by omega) L6a.out ?_; intro v' w11 hown11 hgrow; have T11 := Lib.hid (T6a.out.grown hgrow (own_blk_ne O6a.out T6a.out (by decide))); have t11 := T11.out.cell; have f11 := T11.out.frozen 1; have O11 := Lib.hid hown11; have D11 := Lib.hid (D6a.out.grown hgrow L6a.out (fun q hq => (O6a.out.lt q hq).1)); obtain ⟨vg, vcap, rfl⟩ := own_form hown11 (Nat.succ_pos k); clear hown11 hgrow))
      all_goals
        have T12 := Lib.hid (T11.out.set_ 1 (.slice (some ⟨vg, 0, none⟩) (k + 1) vcap))
        have O12 := Lib.hid (own_setCell O11.out T11.out (by decide) 1 (.slice (some ⟨vg, 0, none⟩) (k + 1) vcap))
        have D12 := Lib.hid (D11.out.setCell (p := ⟨gt, 1, none⟩) (Nat.le_refl _) (.slice (some ⟨vg, 0, none⟩) (k + 1) vcap))
        clear t11 f11
        go_wp2
        go_roundw
        case rel => exact ⟨k + 1, _, by omega, by go_num, T12.out, by rw [hr.out]; exact O12.out, D12.out⟩
        case measure => simp [intOf]; omega
    · obtain rfl : k = 6 := by omega
      obtain ⟨vg, vcap, rfl⟩ := own_form HO.out (by omega)
      obtain ⟨cs, hV, hv1, hv2, hv3, hv4, hv5⟩ := own_blk HO.out
      have hcs : 12 ≤ cs.size := by omega
      have HV := Lib.hid hV
      have Hv3 := Lib.hid hv3
      have Hcs := Lib.hid hcs
      have Hne : Hid (vg ≠ gt) := by
        have := own_blk_ne HO.out HT.out (by decide)
        intro e; subst e; simp [Value.ownBlock] at this
      have Hv5 := Lib.hid hv5
      have HC4 : Hid (cs[4]? = some (.int .i64 30) ∧ cs[5]? = some (.int .i64 30)) := ⟨(cs_at hv3 4 (by decide)).trans rfl, (cs_at hv3 5 (by decide)).trans rfl⟩
      clear hV hv1 hv2 hv3 hv4 hv5 hcs
      go_wp2_with fail
      go_region_law (first
        | (go_simp; go_at_call 57; refine (HS.out _ _ _).mono ?_; rintro e w10 ⟨rfl, h10⟩; have T6 := Lib.hid (blk_keep h10 HT.out); have V6 := Lib.hid (blk_keep h10 HV.out); have t6 := T6.out.cell; have D6 := Lib.hid (HB.out.trans (h10.mono (Nat.le_of_lt HT.out.lt))); have v4 := (V6.out.cell 4).trans HC4.out.1; have v5 := (V6.out.cell 5).trans HC4.out.2; have f4 := V6.out.frozen 4; have f5 := V6.out.frozen 5; clear h10))
      all_goals
        have HP := Lib.hid (top_mem V6.out Hcs.out Hv3.out)
        have T7 := Lib.hid ((T6.out.far (p := ⟨vg, 4, none⟩) (fun e => Hne.out e.symm) (.int .i64 20)).far (p := ⟨vg, 5, none⟩) (fun e => Hne.out e.symm) (.int .i64 22))
        have D7 := Lib.hid ((D6.out.setCell (p := ⟨vg, 4, none⟩) Hv5.out (.int .i64 20)).setCell (p := ⟨vg, 5, none⟩) Hv5.out (.int .i64 22))
        clear v4 v5 f4 f5 t6 T6 V6 D6
        generalize (w10.setCell ⟨vg, 4, none⟩ (.int .i64 20)).setCell ⟨vg, 5, none⟩ (.int .i64 22) = W7 at *
        have D8 : Hid (Below WA.heap.size WA W7) := by unfold Hid; rw [← Hw9.out]; exact D7.out
        have ZW := Lib.hid (ZA.out.below D7.out Hgt.out)
        have PW := Lib.hid (Reads.below PA.out D8.out)
        have CW := Lib.hid (Reads.below CA.out D8.out)
        have BW := Lib.hid (below_then BA.out D8.out)
        have t7 := T7.out.cell
        go_wp2_with (refine wpList_store_row rfl 25 _ _ rfl w.heap.size _ rfl rfl 25 _ ZW.out (by kernel_rfl) rfl (by kernel_rfl) ?_)
        exact bodyPost_ret (results_c rfl _ _ _ _ _ _ _ rfl (ZW.out.setRow _) Try.underlying25 (by kernel_rfl)) rfl ⟨⟨some ⟨gb, 0, none⟩, some ⟨vg, 0, none⟩, some ⟨gk, 0, none⟩, 6, 6, 6, vcap, 1, 1, 10, botX, topX, crX⟩, rfl, ⟨Reads.setRow_far PW.out (Nat.ne_of_lt Hgb.out) _, Reads.setRow_far HP.out (Nat.ne_of_lt (Nat.lt_of_lt_of_le Hgt.out Hv5.out)) _, Reads.setRow_far CW.out (Nat.ne_of_lt Hgk.out) _, (by unfold maxLen; omega : (6 : Nat) ≤ maxLen), (by unfold maxLen; omega : (6 : Nat) ≤ maxLen), (by unfold maxLen; omega : (1 : Nat) ≤ maxLen)⟩, rfl, rfl, rfl, rfl, rfl, rfl, rfl, below_setR BW.out (Nat.le_refl _) _⟩
end Go.Proofs.Ytiflhimmieflpaa
