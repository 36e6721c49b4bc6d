/- Walks: the reference's Columns. -/
import Derived.Test.YtiflhimmieflpaaW100
namespace Go.Proofs.Ytiflhimmieflpaa
open Go.RowKit Go.Maps

def SB3 (w0 kb o : Nat) (V : Value) (a b : Int) (W : World) : Prop := W.cell? ⟨w0, 3, none⟩ = some V ∧ W.cell? ⟨kb, o, none⟩ = some (.int .i64 a) ∧ W.cell? ⟨kb, o + 1, none⟩ = some (.int .i64 b)
theorem colsFrom_len3 {n : Nat} (cs : List Crack) (p : List Int) (h : ∀ k ∈ cs, crackOk n k = true) (h3 : cs.length ≤ 3) : (colsFrom cs p).length ≤ 125 := by
  have h1 := colsFrom_len cs p h
  have h2 : 5 ^ cs.length ≤ 5 ^ 3 := Nat.pow_le_pow_right (by omega) h3
  omega
theorem colsTo_len {n : Nat} (cs : List Crack) (cl : Int) (p : List Int) (i : Nat) (hi : i ≤ 5) (h : ∀ k ∈ cs, crackOk n k = true) (h3 : cs.length ≤ 3) : (colsTo cs cl p i).length ≤ 625 := by
  unfold colsTo
  have h1 := flatMap_len (fun (j : Nat) => colsFrom cs (p ++ [cl + j])) 125 (List.range i) (fun j _ => colsFrom_len3 cs _ h h3)
  rw [List.length_range] at h1
  omega
theorem reads_one {W : World} {g : Nat} {t : TypeId} {v : Value} (h : Blk W g t #[v]) : Reads W 1 (some ⟨g, 0, none⟩) 1 [v] := by
  refine ⟨rfl, fun _ => ⟨g, 0, rfl, h.lt, fun j u hj => ?_⟩⟩
  rw [Nat.zero_add, h.cell]
  simpa using hj
def S7 (b : Nat) (V0 V1 V2 V3 : Value) (W : World) : Prop := W.cell? ⟨b, 0, none⟩ = some V0 ∧ W.cell? ⟨b, 1, none⟩ = some V1 ∧ W.cell? ⟨b, 2, none⟩ = some V2 ∧ W.cell? ⟨b, 3, none⟩ = some V3
theorem Try.infoInts : (Try.prog.info? 44).map (fun i => (i.zero, i.size, i.bytes)) = some (some (.slice none 0 0), 1, 24) := by kernel_rfl
theorem ones2c (a b : Int) : (#[Value.int .i64 a, Value.int .i64 b]).all (·.oneCell') = true := all_oneCell_toArray (cs := [.int .i64 a, .int .i64 b]) (fun v hv => by simp only [List.mem_cons, List.not_mem_nil, or_false] at hv; rcases hv with rfl | rfl <;> rfl)
set_option maxRecDepth 100000 in
set_option maxHeartbeats 8000000 in
theorem RefColumns_any (B : Bl) (kb ko : Nat) (hm : B.m ≤ 4) (hn30 : B.n ≤ 30) (hcr : ∀ k ∈ B.cr, crackOk B.n k = true) : ∀ (rest : List Crack) (p : List Int) (v : Value) (w : World), B.cr.drop p.length = rest → p.length + rest.length = B.m → Cracks w (some ⟨kb, ko, none⟩) B.m B.cr → kb < w.heap.size → IntRow w v p →
    Calls Try.prog 69 #[.agg #[.slice B.A B.n B.c, .slice B.A' B.n' B.c', .int .i64 B.bend, .slice (some ⟨kb, ko, none⟩) B.m B.d], v] w fun e w' => ∃ u, e = .returned u ∧ Lists w.heap.size w' u (colsFrom rest p) ∧ Below w.heap.size w w' := by
  intro rest
  induction rest with
  | nil =>
    intro p v w hdr hk hck hkb hrow
    obtain ⟨A, cv, rfl, hin, hty⟩ := hrow
    have hpm : p.length = B.m := by simpa using hk
    have HR : Hid (IntRow w (.slice A p.length cv) p) := ⟨A, cv, rfl, hin, hty⟩
    have he : ((p.length : Int) == (B.m : Int)) = true := by simp; omega
    clear hdr hk hck hin hty hpm
    go_enter Try.func69, Try.ntmps69
    go_wp2_with fail
    go_ret
    have HO := World.ownsRow_lit (base := w.heap.size) (e := 44) (size := 1) (w.alloc (.cells #[.slice B.A B.n B.c, .slice B.A' B.n' B.c', .int .i64 B.bend, .slice (some ⟨kb, ko, none⟩) B.m B.d] 25)) #[.slice A p.length cv] 1 (below_self _ _).size (by decide) rfl
    rw [World.size_alloc] at HO
    refine ⟨.slice (some ⟨w.heap.size + 1, 0, none⟩) 1 1, rfl, ⟨[.slice A p.length cv], HO, fun i hi => ?_⟩, below_alloc' (below_self _ _) _⟩
    obtain rfl : i = 0 := by simp [colsFrom] at hi; omega
    exact ⟨_, rfl, (HR.out.below (below_self _ _)).below (below_self _ _)⟩
  | cons c cs ih =>
    intro p v w hdr hk hck hkb hrow
    obtain ⟨A, cv, rfl, hin, hty⟩ := hrow
    have hpm : p.length < B.m := by simp at hk; omega
    have hlen : B.cr.length = B.m := hck.len
    have hcrg : B.cr.getD p.length Crack.zero = c := by
      have h := congrArg (·.head?) hdr
      simp only [List.head?_drop, List.head?_cons] at h
      simp [List.getD, h]
    have hdr' : B.cr.drop (p.length + 1) = cs := by
      have h := congrArg (·.tail) hdr
      simpa [List.tail_drop] using h
    have hsub : ∀ k ∈ c :: cs, crackOk B.n k = true := fun k hk' => hcr k (by rw [← hdr] at hk'; exact List.mem_of_mem_drop hk')
    have hc := crackOk_in (hsub c List.mem_cons_self)
    have hc5 : c.ch - c.cl < 5 := by
      have := hsub c List.mem_cons_self
      simp only [crackOk, Bool.and_eq_true, decide_eq_true_eq] at this
      exact this.1.1.2
    obtain ⟨q1, q2, q3, -⟩ := hc
    have q5 : c.ch ≤ 30 := by omega
    have HIH := Lib.hid (fun (x : Int) (v : Value) (w : World) h3 h4 h5 => ih (p ++ [x]) v w (by rw [List.length_append]; exact hdr') (by simp at hk ⊢; omega) h3 h4 h5)
    have HR : Hid (IntRow w (.slice A p.length cv) p) := ⟨A, cv, rfl, hin, hty⟩
    have HCK := Lib.hid hck
    have HKB := Lib.hid hkb
    have HIN := Lib.hid hin
    have HP4 : Hid (p.length ≤ 3) := by unfold Hid; omega
    have HSUB := Lib.hid hsub
    have HCS4 : Hid (cs.length ≤ 3) := by simp at hk; unfold Hid; omega
    obtain ⟨b', o', e', _, r0, r1, -⟩ := Cracks.at_ hck hpm
    simp only [Option.some.injEq, Addr.mk.injEq, and_true] at e'
    obtain ⟨rfl, rfl⟩ := e'
    rw [hcrg] at r0 r1
    have R0 := Lib.hid (And.intro r0 r1)
    have he : ((p.length : Int) == (B.m : Int)) = false := by simp; omega
    have hpm2 : (p.length : Int) < (B.m : Int) := by omega
    clear hdr hk hck hin hty hdr' hsub hcrg hlen ih hkb r0 r1
    go_enter Try.func69, Try.ntmps69
    go_upto_region 3 with (fail)
    have HB0 := Lib.hid (Blk.new w 25 #[.slice B.A B.n B.c, .slice B.A' B.n' B.c', .int .i64 B.bend, .slice (some ⟨kb, ko, none⟩) B.m B.d] (g := w.heap.size) rfl)
    have E0 : Hid (Below w.heap.size w (w.alloc (.cells #[.slice B.A B.n B.c, .slice B.A' B.n' B.c', .int .i64 B.bend, .slice (some ⟨kb, ko, none⟩) B.m B.d] 25))) := below_self _ _
    have HZ1 : Hid (w.heap.size < (w.alloc (.cells #[.slice B.A B.n B.c, .slice B.A' B.n' B.c', .int .i64 B.bend, .slice (some ⟨kb, ko, none⟩) B.m B.d] 25)).heap.size) := by simp [Hid]
    generalize (w.alloc (.cells #[.slice B.A B.n B.c, .slice B.A' B.n' B.c', .int .i64 B.bend, .slice (some ⟨kb, ko, none⟩) B.m B.d] 25)) = w0 at *
    have HZ0 : Hid (w.heap.size ≤ w0.heap.size) := Nat.le_of_lt HZ1.out
    go_cut [5, 6] (fun s5 s6 W => ∃ (u : Value) (gc : Nat), s5 = u ∧ s6 = .pointer (some ⟨gc, 0, none⟩) ∧ W.ownsRow w.heap.size 44 1 u 0 [] ∧ Blk W gc 98 #[.int .i64 c.cl, .int .i64 c.ch] ∧ w.heap.size < gc ∧ Below w0.heap.size w0 W)
    case first =>
      have HS3 : Hid (∀ V, Below w0.heap.size w0 V → SB3 w.heap.size kb (ko + p.length * 6) (.slice (some ⟨kb, ko, none⟩) B.m B.d) c.cl c.ch V) := fun V hV => ⟨(blk_keep hV HB0.out).cell 3, ((E0.out.trans (hV.mono HZ0.out)).cell (p := ⟨kb, _, none⟩) HKB.out).trans R0.out.1, ((E0.out.trans (hV.mono HZ0.out)).cell (p := ⟨kb, _, none⟩) HKB.out).trans R0.out.2⟩
      have D1 : Hid (Below w0.heap.size w0 w0.drew) := (Below.refl _ _).drew
      refine wp_region_held_drew (S := SB3 w.heap.size kb (ko + p.length * 6) (.slice (some ⟨kb, ko, none⟩) B.m B.d) c.cl c.ch) (by kernel_rfl) (HS3.out _ D1.out) (fun _ => ?_)
      generalize w0.drew = wd at *
      refine heldTake (i := 1) 17 (v := ?v1) rfl (by kernel_rfl) (by kernel_rfl) (by kernel_rfl) (by kernel_rfl) (fun _ _ _ h => h) (Or.inl ⟨by rfl, ?y1⟩) (by assumption) ?r1
      case y1 => (intro w hSw; obtain ⟨g0, g1, g2⟩ := hSw; go_simp; try with_reducible rfl)
      refine heldTake (i := 2) 18 (v := ?v2) rfl (by kernel_rfl) (by kernel_rfl) (by kernel_rfl) (by kernel_rfl) (fun _ _ _ h => h) (Or.inl ⟨by rfl, ?y2⟩) (by assumption) ?r2
      case y2 => (intro w hSw; obtain ⟨g0, g1, g2⟩ := hSw; go_simp; try with_reducible rfl)
      refine heldTake (i := 3) 19 (v := ?v3) rfl (by kernel_rfl) (by kernel_rfl) (by kernel_rfl) (by kernel_rfl) (fun _ _ _ h => h) (Or.inl ⟨by rfl, ?y3⟩) (by assumption) ?r3
      case y3 => (intro w hSw; obtain ⟨g0, g1, g2⟩ := hSw; go_simp; try with_reducible rfl)
      refine heldTake (i := 4) 20 (v := ?v4) rfl (by kernel_rfl) (by kernel_rfl) (by kernel_rfl) (by kernel_rfl) (fun _ _ _ h => h) (Or.inl ⟨by rfl, ?y4⟩) (by assumption) ?r4
      case y4 => (intro w hSw; obtain ⟨g0, g1, g2⟩ := hSw; go_simp; try with_reducible rfl)
      refine heldTake (i := 5) 21 (v := ?v5) rfl (by kernel_rfl) (by kernel_rfl) (by kernel_rfl) (by kernel_rfl) (fun _ _ _ h => h) (Or.inl ⟨by rfl, ?y5⟩) (by assumption) ?r5
      case y5 => (intro w hSw; obtain ⟨g0, g1, g2⟩ := hSw; go_simp; try with_reducible rfl)
      refine heldTake (i := 6) 22 (v := ?v6) rfl (by kernel_rfl) (by kernel_rfl) (by kernel_rfl) (by kernel_rfl) (fun _ _ _ h => h) (Or.inl ⟨by rfl, ?y6⟩) (by assumption) ?r6
      case y6 => (intro w hSw; obtain ⟨g0, g1, g2⟩ := hSw; go_simp; try with_reducible rfl)
      refine heldTake (i := 7) 23 (v := ?v7) rfl (by kernel_rfl) (by kernel_rfl) (by kernel_rfl) (by kernel_rfl) (fun _ _ _ h => h) (Or.inl ⟨by rfl, ?y7⟩) (by assumption) ?r7
      case y7 => (intro w hSw; obtain ⟨g0, g1, g2⟩ := hSw; go_simp; try with_reducible rfl)
      simp only [Act.put, List.setIfInBounds_toArray, List.set_cons_zero, List.set_cons_succ]
      refine wpAnyH_ready (rs := [0, 8]) (by kernel_rfl) (by simp) ?_
      refine AllReadyH.cons rfl (fun Ka0 hKa0 => ?_) ?_
      · skip
        go_simp
        have Ea0 : Hid (Below w0.heap.size w0 (wd.alloc (.cells #[] 44))) := below_then D1.out (below_self _ _)
        have Oa0 := Lib.hid (World.ownsRow_lit (base := w.heap.size) (e := 44) (size := 1) wd #[] 0 (Nat.le_trans HZ0.out D1.out.size) (by decide) rfl)
        refine hKa0.out _ _ (HS3.out _ Ea0.out) (fun _ => ?_)
        generalize wd.alloc (.cells #[] 44) = Wa0 at *
        refine wpAnyH_ready (rs := [8]) (by kernel_rfl) (by simp) ?_
        refine AllReadyH.cons rfl (fun Ka1 hKa1 => ?_) AllReadyH.nil
        go_simp
        have Ea1 : Hid (Below w0.heap.size w0 (Wa0.alloc (.cells #[.int .i64 0, .int .i64 0] 98))) := below_then Ea0.out (below_self _ _)
        have Na1 := Lib.hid (Blk.new Wa0 98 #[.int .i64 0, .int .i64 0] (g := Wa0.heap.size) rfl)
        have La1 : Hid (w0.heap.size ≤ Wa0.heap.size) := Ea0.out.size
        have Oa1 := Lib.hid (ownsRow_below Oa0.out (below_self _ (.cells #[.int .i64 0, .int .i64 0] 98)))
        refine hKa1.out _ _ (HS3.out _ Ea1.out) (fun _ => ?_)
        generalize Wa0.alloc (.cells #[.int .i64 0, .int .i64 0] 98) = Wa1 at *
        refine heldTake (i := 9) 5 (v := ?v15) rfl (by kernel_rfl) (by kernel_rfl) (by kernel_rfl) (by kernel_rfl) (fun _ _ _ h => h) (Or.inl ⟨by rfl, ?y15⟩) (by assumption) ?r15
        case y15 => (intro w hSw; obtain ⟨g0, g1, g2⟩ := hSw; go_simp; try with_reducible rfl)
        refine wpAnyH_ready (rs := [10]) (by kernel_rfl) (by simp) ?_
        refine AllReadyH.cons rfl (fun Ka9 hKa9 => ?_) AllReadyH.nil
        rw [if_pos (by rfl)]
        refine wp_store_rowN rfl _ _ _ rfl _ _ rfl rfl _ _ Na1.out (by kernel_rfl) rfl (ones2c _ _) ?_
        have Fa := Lib.hid (below_setR Ea1.out La1.out #[.int .i64 c.cl, .int .i64 c.ch])
        refine hKa9.out _ _ (HS3.out _ Fa.out) (fun _ => ?_)
        refine wpAnyH_done (by kernel_rfl) ?_ _
        go_wp2_with fail
        go_meet
        exact ⟨_, _, rfl, rfl, own_setRow Oa1.out Na1.out (by decide) #[.int .i64 c.cl, .int .i64 c.ch], Na1.out.setRow #[.int .i64 c.cl, .int .i64 c.ch], Nat.lt_of_lt_of_le HZ1.out La1.out, Fa.out⟩
      refine AllReadyH.cons rfl (fun Kb0 hKb0 => ?_) AllReadyH.nil
      go_simp
      have Eb0 : Hid (Below w0.heap.size w0 (wd.alloc (.cells #[.int .i64 0, .int .i64 0] 98))) := below_then D1.out (below_self _ _)
      have Nb0 := Lib.hid (Blk.new wd 98 #[.int .i64 0, .int .i64 0] (g := wd.heap.size) rfl)
      have Lb0 : Hid (w0.heap.size ≤ wd.heap.size) := D1.out.size
      refine hKb0.out _ _ (HS3.out _ Eb0.out) (fun _ => ?_)
      generalize wd.alloc (.cells #[.int .i64 0, .int .i64 0] 98) = Wb0 at *
      refine wpAnyH_ready (rs := [0]) (by kernel_rfl) (by simp) ?_
      refine AllReadyH.cons rfl (fun Kb1 hKb1 => ?_) AllReadyH.nil
      go_simp
      have Eb1 : Hid (Below w0.heap.size w0 (Wb0.alloc (.cells #[] 44))) := below_then Eb0.out (below_self _ _)
      have Ob1 := Lib.hid (World.ownsRow_lit (base := w.heap.size) (e := 44) (size := 1) Wb0 #[] 0 (Nat.le_trans HZ0.out Eb0.out.size) (by decide) rfl)
      have Nb1 := Lib.hid (blk_keep (below_self _ (.cells #[] 44)) Nb0.out)
      refine hKb1.out _ _ (HS3.out _ Eb1.out) (fun _ => ?_)
      generalize Wb0.alloc (.cells #[] 44) = Wb1 at *
      refine heldTake (i := 9) 5 (v := ?v16) rfl (by kernel_rfl) (by kernel_rfl) (by kernel_rfl) (by kernel_rfl) (fun _ _ _ h => h) (Or.inl ⟨by rfl, ?y16⟩) (by assumption) ?r16
      case y16 => (intro w hSw; obtain ⟨g0, g1, g2⟩ := hSw; go_simp; try with_reducible rfl)
      refine wpAnyH_ready (rs := [10]) (by kernel_rfl) (by simp) ?_
      refine AllReadyH.cons rfl (fun Kb9 hKb9 => ?_) AllReadyH.nil
      rw [if_pos (by rfl)]
      refine wp_store_rowN rfl _ _ _ rfl _ _ rfl rfl _ _ Nb1.out (by kernel_rfl) rfl (ones2c _ _) ?_
      have Fb := Lib.hid (below_setR Eb1.out Lb0.out #[.int .i64 c.cl, .int .i64 c.ch])
      refine hKb9.out _ _ (HS3.out _ Fb.out) (fun _ => ?_)
      refine wpAnyH_done (by kernel_rfl) ?_ _
      go_wp2_with fail
      go_meet
      exact ⟨_, _, rfl, rfl, own_setRow Ob1.out Nb1.out (by decide) #[.int .i64 c.cl, .int .i64 c.ch], Nb1.out.setRow #[.int .i64 c.cl, .int .i64 c.ch], Nat.lt_of_lt_of_le HZ1.out Lb0.out, Fb.out⟩
    case rest =>
      obtain ⟨u0, gc, rfl, rfl, ho0, hc0, hgc, hb0⟩ := hcut
      have HO0 := Lib.hid ho0
      have HC0 := Lib.hid hc0
      have HGC := Lib.hid hgc
      have BW := Lib.hid (E0.out.trans (hb0.mono HZ0.out))
      have HB1 := Lib.hid (blk_keep hb0 HB0.out)
      have HLN := Lib.hid (fun (i : Nat) (hi : i ≤ 5) => colsTo_len (n := B.n) cs c.cl p i hi (fun k hk => HSUB.out k (List.mem_cons_of_mem _ hk)) HCS4.out)
      have HLF := Lib.hid (fun (x : Int) => colsFrom_len3 (n := B.n) cs (p ++ [x]) (fun k hk => HSUB.out k (List.mem_cons_of_mem _ hk)) HCS4.out)
      have HALL : Hid (∀ i, i = (c.ch + 1 - c.cl).toNat → colsFrom (c :: cs) p = colsTo cs c.cl p i) := fun i e => by rw [e]; rfl
      have c4 := hc0.cell
      clear ho0 hc0 hgc hb0 HB0 E0 R0 HZ1 HZ0
      go_wp2_with fail
      clear c4
      go_loopw [5, 7] (fun s5 s7 wr => ∃ (i : Nat) (u : Value), i ≤ (c.ch + 1 - c.cl).toNat ∧ s7 = .int .i64 (c.cl + i) ∧ s5 = u ∧ Lists w.heap.size wr u (colsTo cs c.cl p i) ∧ Blk wr gc 98 #[.int .i64 c.cl, .int .i64 c.ch] ∧ Blk wr w.heap.size 25 #[.slice B.A B.n B.c, .slice B.A' B.n' B.c', .int .i64 B.bend, .slice (some ⟨kb, ko, none⟩) B.m B.d] ∧ Below w.heap.size w wr) (fun _ s7 _ => (c.ch + 1 - intOf s7).toNat)
      case atStart => exact ⟨0, _, Nat.zero_le _, by simp, rfl, ⟨[], HO0.out, fun i h => absurd h (by simp [colsTo])⟩, HC0.out, HB1.out, BW.out⟩
      case round =>
        obtain ⟨i, u, hi, rfl, rfl, hL, hC, hB, hW⟩ := hrel
        have HL := Lib.hid hL
        have HC := Lib.hid hC
        have HB := Lib.hid hB
        have HW := Lib.hid hW
        have c5 := hC.cell
        clear hL hC hB hW
        by_cases hlt : c.cl + i ≤ c.ch
        · go_wp2_with fail
          have HSS : Hid (∀ V, Blk V w.heap.size 25 #[.slice B.A B.n B.c, .slice B.A' B.n' B.c', .int .i64 B.bend, .slice (some ⟨kb, ko, none⟩) B.m B.d] → S7 w.heap.size (.slice B.A B.n B.c) (.slice B.A' B.n' B.c') (.int .i64 B.bend) (.slice (some ⟨kb, ko, none⟩) B.m B.d) V) := fun V h => ⟨h.cell 0, h.cell 1, h.cell 2, h.cell 3⟩
          have D1 : Hid (Below wr.heap.size wr wr.drew) := (Below.refl _ _).drew
          have HLT := Lib.hid hlt
          have B1 := Lib.hid (blk_keep D1.out HB.out)
          refine wp_region_held_drew (S := S7 w.heap.size (.slice B.A B.n B.c) (.slice B.A' B.n' B.c') (.int .i64 B.bend) (.slice (some ⟨kb, ko, none⟩) B.m B.d)) (by kernel_rfl) (HSS.out _ B1.out) (fun _ => ?_)
          generalize wr.drew = wd at *
          refine heldTake (i := 0) 32 (v := ?v8) rfl (by kernel_rfl) (by kernel_rfl) (by kernel_rfl) (by kernel_rfl) (fun _ _ _ h => h) (Or.inl ⟨by rfl, ?y8⟩) (by assumption) ?r8
          case y8 => (intro w hSw; obtain ⟨g0, g1, g2, g3⟩ := hSw; go_simp; try with_reducible rfl)
          refine heldTake (i := 1) 33 (v := ?v9) rfl (by kernel_rfl) (by kernel_rfl) (by kernel_rfl) (by kernel_rfl) (fun _ _ _ h => h) (Or.inl ⟨by rfl, ?y9⟩) (by assumption) ?r9
          case y9 => (intro w hSw; obtain ⟨g0, g1, g2, g3⟩ := hSw; go_simp; try with_reducible rfl)
          refine heldTake (i := 3) 35 (v := ?v10) rfl (by kernel_rfl) (by kernel_rfl) (by kernel_rfl) (by kernel_rfl) (fun _ _ _ h => h) (Or.inl ⟨by rfl, ?y10⟩) (by assumption) ?r10
          case y10 => (intro w hSw; obtain ⟨g0, g1, g2, g3⟩ := hSw; go_simp; try with_reducible rfl)
          refine heldTake (i := 5) 37 (v := ?v11) rfl (by kernel_rfl) (by kernel_rfl) (by kernel_rfl) (by kernel_rfl) (fun _ _ _ h => h) (Or.inl ⟨by rfl, ?y11⟩) (by assumption) ?r11
          case y11 => (intro w hSw; obtain ⟨g0, g1, g2, g3⟩ := hSw; go_simp; try with_reducible rfl)
          simp only [Act.put, List.setIfInBounds_toArray, List.set_cons_zero, List.set_cons_succ]
          obtain ⟨i0, hi0, hz0, hz1, hz2⟩ := info_parts Try.infoInt
          obtain ⟨k0, hk0, hy0, hy1, hy2⟩ := info_parts Try.infoInts
          refine wpAnyH_ready (rs := [2, 6]) (by kernel_rfl) (by simp) ?_
          refine AllReadyH.cons rfl (fun G1 hG1 => ?_) ?_
          · skip
            go_simp
            have D1' : Hid (Below wr.heap.size wr (wd.alloc (.cells #[] 3))) := below_then D1.out (below_self _ _)
            have B1' := Lib.hid (blk_keep (below_self wd (.cells #[] 3)) B1.out)
            have O1' := Lib.hid (World.ownsRow_lit (base := wr.heap.size) (e := 3) (size := 1) wd #[] 0 D1.out.size (by decide) rfl)
            refine hG1.out _ _ (HSS.out _ B1'.out) (fun _ => ?_)
            obtain ⟨V1, hV1⟩ : ∃ V, V = wd.alloc (.cells #[] 3) := ⟨_, rfl⟩
            have z1 : Hid (wd.heap.size < V1.heap.size) := by rw [hV1]; simp [Hid]
            rw [← hV1] at D1' B1' O1' ⊢
            have D1 := Lib.hid D1'
            clear D1'
            have B1 := Lib.hid B1'
            clear B1'
            have O1 := Lib.hid O1'
            clear O1'
            clear hV1
            generalize wd.heap.size = og1 at *
            refine wpAnyH_ready (rs := [4, 6]) (by kernel_rfl) (by simp) ?_
            refine AllReadyH.cons rfl (fun G2 hG2 => ?_) ?_
            · skip
              refine step_append_any rfl (.tmp 34) (.tmp 35) 44 rfl wr.heap.size 3 i0 (.int .i64 0) 1 8 Try.underlying44 hi0 hz0 hz1 hz2 rfl (by decide) (.slice (some ⟨og1, 0, none⟩) 0 0) 0 [] (by rfl) O1.out A p.length cv (by rfl) (p.map (Value.int .i64)) (HIN.out.below (HW.out.trans (D1.out.mono HW.out.size))) ?ca2 ?cb2 ?cc2 D1.out.size ?_
              case ca2 => intro u hu; obtain ⟨z, _, rfl⟩ := List.mem_map.1 hu; rfl
              case cb2 => have := HP4.out; unfold maxLen; omega
              case cc2 => have := HP4.out; omega
              intro v2 V2 hown hgrow
              have O2 : Hid (V2.ownsRow wr.heap.size 3 1 v2 p.length (p.map (Value.int .i64)))   := by unfold Hid; simpa using hown
              have D2 := Lib.hid (D1.out.grown hgrow D1.out.size (fun k e => (O1.out.lt k e.symm.symm).1))
              have B2 := Lib.hid (B1.out.grown hgrow (own_blk_ne O1.out B1.out (by decide)))
              clear hown hgrow
              refine hG2.out _ _ (HSS.out _ B2.out) (fun _ => ?_)
              refine wpAnyH_ready (rs := [6]) (by kernel_rfl) (by simp) ?_
              refine AllReadyH.cons rfl (fun G3 hG3 => ?_) AllReadyH.nil
              go_simp
              have D3' : Hid (Below wr.heap.size wr (V2.alloc (.cells #[.int .i64 (c.cl + (i : Int))] 3))) := below_then D2.out (below_self _ _)
              have B3' := Lib.hid (blk_keep (below_self V2 (.cells #[.int .i64 (c.cl + (i : Int))] 3)) B2.out)
              have N3' := Lib.hid (Blk.new V2 3 #[.int .i64 (c.cl + (i : Int))] (g := V2.heap.size) rfl)
              have O3' := Lib.hid (ownsRow_below O2.out (below_self V2 (.cells #[.int .i64 (c.cl + (i : Int))] 3)))
              refine hG3.out _ _ (HSS.out _ B3'.out) (fun _ => ?_)
              obtain ⟨V3, hV3⟩ : ∃ V, V = V2.alloc (.cells #[.int .i64 (c.cl + (i : Int))] 3) := ⟨_, rfl⟩
              have z3 : Hid (V2.heap.size < V3.heap.size) := by rw [hV3]; simp [Hid]
              rw [← hV3] at D3' B3' O3' N3' ⊢
              have D3 := Lib.hid D3'
              clear D3'
              have B3 := Lib.hid B3'
              clear B3'
              have O3 := Lib.hid O3'
              clear O3'
              have N3 := Lib.hid N3'
              clear N3'
              clear hV3
              generalize V2.heap.size = ng3 at *
              refine wpAnyH_ready (rs := [7]) (by kernel_rfl) (by simp) ?_
              refine AllReadyH.cons rfl (fun G4 hG4 => ?_) AllReadyH.nil
              refine step_append_any rfl (.tmp 36) (.tmp 38) 44 rfl wr.heap.size 3 i0 (.int .i64 0) 1 8 Try.underlying44 hi0 hz0 hz1 hz2 rfl (by decide) v2 p.length (p.map (Value.int .i64)) (by rfl) O3.out (some ⟨ng3, 0, none⟩) 1 1 (by rfl) [.int .i64 (c.cl + (i : Int))] (reads_one N3.out) ?ca4 ?cb4 ?cc4 D3.out.size ?_
              case ca4 => intro u hu; rw [List.mem_singleton.1 hu]; rfl
              case cb4 => have := HP4.out; unfold maxLen; omega
              case cc4 => have := HP4.out; omega
              intro v4 V4 hown hgrow
              have O4 : Hid (V4.ownsRow wr.heap.size 3 1 v4 (p ++ [(c.cl + (i : Int))]).length ((p ++ [(c.cl + (i : Int))]).map (Value.int .i64)))   := by unfold Hid; simpa using hown
              have D4 := Lib.hid (D3.out.grown hgrow D3.out.size (fun k e => (O3.out.lt k e.symm.symm).1))
              have B4 := Lib.hid (B3.out.grown hgrow (own_blk_ne O3.out B3.out (by decide)))
              clear hown hgrow
              refine hG4.out _ _ (HSS.out _ B4.out) (fun _ => ?_)
              refine wpAnyH_ready (rs := [8]) (by kernel_rfl) (by simp) ?_
              refine AllReadyH.cons rfl (fun G5 hG5 => ?_) AllReadyH.nil
              go_simp
              refine (HIH.out (c.cl + (i : Int)) v4 V4 (HCK.out.below (HW.out.trans (D4.out.mono HW.out.size))) (Nat.lt_of_lt_of_le HKB.out (HW.out.trans (D4.out.mono HW.out.size)).size) (intRow_of_own O4.out)).mono ?_
              rintro e V5 ⟨u8, rfl, hl8, hb8⟩
              have L5 := Lib.hid hl8
              have D5 := Lib.hid (below_then D4.out hb8)
              have B5 := Lib.hid (blk_keep hb8 B4.out)
              clear hl8 hb8
              refine hG5.out _ _ (HSS.out _ B5.out) (fun _ => ?_)
              refine wpAnyH_ready (rs := [9]) (by kernel_rfl) (by simp) ?_
              refine AllReadyH.cons rfl (fun G6 hG6 => ?_) AllReadyH.nil
              obtain ⟨vs, ho, hi1⟩ := HL.out.below D5.out
              obtain ⟨vs8, ho8, hi8⟩ := L5.out
              obtain ⟨A8, c8, rfl⟩ := own_slice ho8
              have HV8 := Lib.hid ho8.1
              refine step_append_any rfl (.tmp 32) (.tmp 40) 123 rfl w.heap.size 44 k0 (.slice none 0 0) 1 24 Try.underlying123 hk0 hy0 hy1 hy2 rfl (by decide) _ _ vs (by rfl) ho A8 _ c8 (by rfl) vs8 (reads_of_own ho8).r ?ca6 ?cb6 ?cc6 (HW.out.trans (D5.out.mono HW.out.size)).size ?_
              case ca6 =>
                intro z hz
                obtain ⟨j, hj, rfl⟩ := List.getElem_of_mem hz
                have hj2 : j < (colsFrom cs (p ++ [c.cl + (i : Int)])).length := by have := HV8.out; omega
                obtain ⟨q, e, A9, c9, e9, _⟩ := hi8 j hj2
                rw [List.getElem?_eq_getElem hj] at e
                rw [Option.some.inj e, e9]
                rfl
              case cb6 => have h1 := HLN.out i (by have := HLT.out; omega); have h2 := HLF.out (c.cl + (i : Int)); unfold maxLen; omega
              case cc6 => have h1 := HLN.out i (by have := HLT.out; omega); have h2 := HLF.out (c.cl + (i : Int)); omega
              intro v6 V6 hown hgrow
              have Z6 := Lib.hid (Lists.append ho hi1 hi8 (by have := ho.1; omega) hgrow hown)
              have B6 := Lib.hid (B5.out.grown hgrow (own_blk_ne ho B5.out (by decide)))
              have C6 := Lib.hid ((blk_keep D5.out HC.out).grown hgrow (own_blk_ne ho (blk_keep D5.out HC.out) (by decide)))
              have D6 : Hid (Below w.heap.size w V6) := (HW.out.trans (D5.out.mono HW.out.size)).grown hgrow (HW.out.trans (D5.out.mono HW.out.size)).size (fun k e => (ho.lt k e).1)
              clear hown hgrow ho hi1 ho8 hi8
              refine hG6.out _ _ (HSS.out _ B6.out) (fun _ => ?_)
              refine heldTake (i := 10) 5 (v := ?v12) rfl (by kernel_rfl) (by kernel_rfl) (by kernel_rfl) (by kernel_rfl) (fun _ _ _ h => h) (Or.inl ⟨by rfl, ?y12⟩) (by assumption) ?r12
              case y12 => (intro w hSw; obtain ⟨g0, g1, g2, g3⟩ := hSw; go_simp; try with_reducible rfl)
              refine wpAnyH_done (by kernel_rfl) ?_ _
              go_wp2_with fail
              go_roundw
              case rel => exact ⟨i + 1, _, by have := HLT.out; omega, by go_num, rfl, by rw [colsTo_succ]; exact Z6.out, C6.out, B6.out, D6.out⟩
              case measure => have := HLT.out; simp [intOf]; omega
            refine AllReadyH.cons rfl (fun G7 hG7 => ?_) AllReadyH.nil
            go_simp
            have D7' : Hid (Below wr.heap.size wr (V1.alloc (.cells #[.int .i64 (c.cl + (i : Int))] 3))) := below_then D1.out (below_self _ _)
            have B7' := Lib.hid (blk_keep (below_self V1 (.cells #[.int .i64 (c.cl + (i : Int))] 3)) B1.out)
            have N7' := Lib.hid (Blk.new V1 3 #[.int .i64 (c.cl + (i : Int))] (g := V1.heap.size) rfl)
            have O7' := Lib.hid (ownsRow_below O1.out (below_self V1 (.cells #[.int .i64 (c.cl + (i : Int))] 3)))
            have X7' : Hid (og1 ≠ V1.heap.size) := fun e => by have h9 := (O1.out.lt og1 rfl).2; rw [e] at h9; exact Nat.lt_irrefl _ h9
            refine hG7.out _ _ (HSS.out _ B7'.out) (fun _ => ?_)
            obtain ⟨V7, hV7⟩ : ∃ V, V = V1.alloc (.cells #[.int .i64 (c.cl + (i : Int))] 3) := ⟨_, rfl⟩
            have z7 : Hid (V1.heap.size < V7.heap.size) := by rw [hV7]; simp [Hid]
            rw [← hV7] at D7' B7' O7' N7' ⊢
            have D7 := Lib.hid D7'
            clear D7'
            have B7 := Lib.hid B7'
            clear B7'
            have O7 := Lib.hid O7'
            clear O7'
            have N7 := Lib.hid N7'
            clear N7'
            have X7 := Lib.hid X7'
            clear X7'
            clear hV7
            generalize V1.heap.size = ng7 at *
            refine wpAnyH_ready (rs := [4]) (by kernel_rfl) (by simp) ?_
            refine AllReadyH.cons rfl (fun G8 hG8 => ?_) AllReadyH.nil
            refine step_append_any rfl (.tmp 34) (.tmp 35) 44 rfl wr.heap.size 3 i0 (.int .i64 0) 1 8 Try.underlying44 hi0 hz0 hz1 hz2 rfl (by decide) (.slice (some ⟨og1, 0, none⟩) 0 0) 0 [] (by rfl) O7.out A p.length cv (by rfl) (p.map (Value.int .i64)) (HIN.out.below (HW.out.trans (D7.out.mono HW.out.size))) ?ca8 ?cb8 ?cc8 D7.out.size ?_
            case ca8 => intro u hu; obtain ⟨z, _, rfl⟩ := List.mem_map.1 hu; rfl
            case cb8 => have := HP4.out; unfold maxLen; omega
            case cc8 => have := HP4.out; omega
            intro v8 V8 hown hgrow
            have O8 : Hid (V8.ownsRow wr.heap.size 3 1 v8 p.length (p.map (Value.int .i64)))   := by unfold Hid; simpa using hown
            have D8 := Lib.hid (D7.out.grown hgrow D7.out.size (fun k e => (O7.out.lt k e.symm.symm).1))
            have B8 := Lib.hid (B7.out.grown hgrow (own_blk_ne O7.out B7.out (by decide)))
            have N8 := Lib.hid (N7.out.grown hgrow (fun e => X7.out (Option.some.inj e)))
            clear hown hgrow
            refine hG8.out _ _ (HSS.out _ B8.out) (fun _ => ?_)
            refine wpAnyH_ready (rs := [7]) (by kernel_rfl) (by simp) ?_
            refine AllReadyH.cons rfl (fun G9 hG9 => ?_) AllReadyH.nil
            refine step_append_any rfl (.tmp 36) (.tmp 38) 44 rfl wr.heap.size 3 i0 (.int .i64 0) 1 8 Try.underlying44 hi0 hz0 hz1 hz2 rfl (by decide) v8 p.length (p.map (Value.int .i64)) (by rfl) O8.out (some ⟨ng7, 0, none⟩) 1 1 (by rfl) [.int .i64 (c.cl + (i : Int))] (reads_one N8.out) ?ca9 ?cb9 ?cc9 D8.out.size ?_
            case ca9 => intro u hu; rw [List.mem_singleton.1 hu]; rfl
            case cb9 => have := HP4.out; unfold maxLen; omega
            case cc9 => have := HP4.out; omega
            intro v9 V9 hown hgrow
            have O9 : Hid (V9.ownsRow wr.heap.size 3 1 v9 (p ++ [(c.cl + (i : Int))]).length ((p ++ [(c.cl + (i : Int))]).map (Value.int .i64)))   := by unfold Hid; simpa using hown
            have D9 := Lib.hid (D8.out.grown hgrow D8.out.size (fun k e => (O8.out.lt k e.symm.symm).1))
            have B9 := Lib.hid (B8.out.grown hgrow (own_blk_ne O8.out B8.out (by decide)))
            clear hown hgrow
            refine hG9.out _ _ (HSS.out _ B9.out) (fun _ => ?_)
            refine wpAnyH_ready (rs := [8]) (by kernel_rfl) (by simp) ?_
            refine AllReadyH.cons rfl (fun G10 hG10 => ?_) AllReadyH.nil
            go_simp
            refine (HIH.out (c.cl + (i : Int)) v9 V9 (HCK.out.below (HW.out.trans (D9.out.mono HW.out.size))) (Nat.lt_of_lt_of_le HKB.out (HW.out.trans (D9.out.mono HW.out.size)).size) (intRow_of_own O9.out)).mono ?_
            rintro e V10 ⟨u8, rfl, hl8, hb8⟩
            have L10 := Lib.hid hl8
            have D10 := Lib.hid (below_then D9.out hb8)
            have B10 := Lib.hid (blk_keep hb8 B9.out)
            clear hl8 hb8
            refine hG10.out _ _ (HSS.out _ B10.out) (fun _ => ?_)
            refine wpAnyH_ready (rs := [9]) (by kernel_rfl) (by simp) ?_
            refine AllReadyH.cons rfl (fun G11 hG11 => ?_) AllReadyH.nil
            obtain ⟨vs, ho, hi1⟩ := HL.out.below D10.out
            obtain ⟨vs8, ho8, hi8⟩ := L10.out
            obtain ⟨A8, c8, rfl⟩ := own_slice ho8
            have HV8 := Lib.hid ho8.1
            refine step_append_any rfl (.tmp 32) (.tmp 40) 123 rfl w.heap.size 44 k0 (.slice none 0 0) 1 24 Try.underlying123 hk0 hy0 hy1 hy2 rfl (by decide) _ _ vs (by rfl) ho A8 _ c8 (by rfl) vs8 (reads_of_own ho8).r ?ca11 ?cb11 ?cc11 (HW.out.trans (D10.out.mono HW.out.size)).size ?_
            case ca11 =>
              intro z hz
              obtain ⟨j, hj, rfl⟩ := List.getElem_of_mem hz
              have hj2 : j < (colsFrom cs (p ++ [c.cl + (i : Int)])).length := by have := HV8.out; omega
              obtain ⟨q, e, A9, c9, e9, _⟩ := hi8 j hj2
              rw [List.getElem?_eq_getElem hj] at e
              rw [Option.some.inj e, e9]
              rfl
            case cb11 => have h1 := HLN.out i (by have := HLT.out; omega); have h2 := HLF.out (c.cl + (i : Int)); unfold maxLen; omega
            case cc11 => have h1 := HLN.out i (by have := HLT.out; omega); have h2 := HLF.out (c.cl + (i : Int)); omega
            intro v11 V11 hown hgrow
            have Z11 := Lib.hid (Lists.append ho hi1 hi8 (by have := ho.1; omega) hgrow hown)
            have B11 := Lib.hid (B10.out.grown hgrow (own_blk_ne ho B10.out (by decide)))
            have C11 := Lib.hid ((blk_keep D10.out HC.out).grown hgrow (own_blk_ne ho (blk_keep D10.out HC.out) (by decide)))
            have D11 : Hid (Below w.heap.size w V11) := (HW.out.trans (D10.out.mono HW.out.size)).grown hgrow (HW.out.trans (D10.out.mono HW.out.size)).size (fun k e => (ho.lt k e).1)
            clear hown hgrow ho hi1 ho8 hi8
            refine hG11.out _ _ (HSS.out _ B11.out) (fun _ => ?_)
            refine heldTake (i := 10) 5 (v := ?v13) rfl (by kernel_rfl) (by kernel_rfl) (by kernel_rfl) (by kernel_rfl) (fun _ _ _ h => h) (Or.inl ⟨by rfl, ?y13⟩) (by assumption) ?r13
            case y13 => (intro w hSw; obtain ⟨g0, g1, g2, g3⟩ := hSw; go_simp; try with_reducible rfl)
            refine wpAnyH_done (by kernel_rfl) ?_ _
            go_wp2_with fail
            go_roundw
            case rel => exact ⟨i + 1, _, by have := HLT.out; omega, by go_num, rfl, by rw [colsTo_succ]; exact Z11.out, C11.out, B11.out, D11.out⟩
            case measure => have := HLT.out; simp [intOf]; omega
          refine AllReadyH.cons rfl (fun G12 hG12 => ?_) AllReadyH.nil
          go_simp
          have D12' : Hid (Below wr.heap.size wr (wd.alloc (.cells #[.int .i64 (c.cl + (i : Int))] 3))) := below_then D1.out (below_self _ _)
          have B12' := Lib.hid (blk_keep (below_self wd (.cells #[.int .i64 (c.cl + (i : Int))] 3)) B1.out)
          have N12' := Lib.hid (Blk.new wd 3 #[.int .i64 (c.cl + (i : Int))] (g := wd.heap.size) rfl)
          refine hG12.out _ _ (HSS.out _ B12'.out) (fun _ => ?_)
          obtain ⟨V12, hV12⟩ : ∃ V, V = wd.alloc (.cells #[.int .i64 (c.cl + (i : Int))] 3) := ⟨_, rfl⟩
          have z12 : Hid (wd.heap.size < V12.heap.size) := by rw [hV12]; simp [Hid]
          rw [← hV12] at D12' B12' N12' ⊢
          have D12 := Lib.hid D12'
          clear D12'
          have B12 := Lib.hid B12'
          clear B12'
          have N12 := Lib.hid N12'
          clear N12'
          clear hV12
          generalize wd.heap.size = ng12 at *
          refine wpAnyH_ready (rs := [2]) (by kernel_rfl) (by simp) ?_
          refine AllReadyH.cons rfl (fun G13 hG13 => ?_) AllReadyH.nil
          go_simp
          have D13' : Hid (Below wr.heap.size wr (V12.alloc (.cells #[] 3))) := below_then D12.out (below_self _ _)
          have B13' := Lib.hid (blk_keep (below_self V12 (.cells #[] 3)) B12.out)
          have O13' := Lib.hid (World.ownsRow_lit (base := wr.heap.size) (e := 3) (size := 1) V12 #[] 0 D12.out.size (by decide) rfl)
          have N13' := Lib.hid (blk_keep (below_self V12 (.cells #[] 3)) N12.out)
          have X13' : Hid (V12.heap.size ≠ ng12) := fun e => by have h9 := N12.out.lt; rw [← e] at h9; exact Nat.lt_irrefl _ h9
          refine hG13.out _ _ (HSS.out _ B13'.out) (fun _ => ?_)
          obtain ⟨V13, hV13⟩ : ∃ V, V = V12.alloc (.cells #[] 3) := ⟨_, rfl⟩
          have z13 : Hid (V12.heap.size < V13.heap.size) := by rw [hV13]; simp [Hid]
          rw [← hV13] at D13' B13' O13' N13' ⊢
          have D13 := Lib.hid D13'
          clear D13'
          have B13 := Lib.hid B13'
          clear B13'
          have O13 := Lib.hid O13'
          clear O13'
          have N13 := Lib.hid N13'
          clear N13'
          have X13 := Lib.hid X13'
          clear X13'
          clear hV13
          generalize V12.heap.size = og13 at *
          refine wpAnyH_ready (rs := [4]) (by kernel_rfl) (by simp) ?_
          refine AllReadyH.cons rfl (fun G14 hG14 => ?_) AllReadyH.nil
          refine step_append_any rfl (.tmp 34) (.tmp 35) 44 rfl wr.heap.size 3 i0 (.int .i64 0) 1 8 Try.underlying44 hi0 hz0 hz1 hz2 rfl (by decide) (.slice (some ⟨og13, 0, none⟩) 0 0) 0 [] (by rfl) O13.out A p.length cv (by rfl) (p.map (Value.int .i64)) (HIN.out.below (HW.out.trans (D13.out.mono HW.out.size))) ?ca14 ?cb14 ?cc14 D13.out.size ?_
          case ca14 => intro u hu; obtain ⟨z, _, rfl⟩ := List.mem_map.1 hu; rfl
          case cb14 => have := HP4.out; unfold maxLen; omega
          case cc14 => have := HP4.out; omega
          intro v14 V14 hown hgrow
          have O14 : Hid (V14.ownsRow wr.heap.size 3 1 v14 p.length (p.map (Value.int .i64)))   := by unfold Hid; simpa using hown
          have D14 := Lib.hid (D13.out.grown hgrow D13.out.size (fun k e => (O13.out.lt k e.symm.symm).1))
          have B14 := Lib.hid (B13.out.grown hgrow (own_blk_ne O13.out B13.out (by decide)))
          have N14 := Lib.hid (N13.out.grown hgrow (fun e => X13.out (Option.some.inj e)))
          clear hown hgrow
          refine hG14.out _ _ (HSS.out _ B14.out) (fun _ => ?_)
          refine wpAnyH_ready (rs := [7]) (by kernel_rfl) (by simp) ?_
          refine AllReadyH.cons rfl (fun G15 hG15 => ?_) AllReadyH.nil
          refine step_append_any rfl (.tmp 36) (.tmp 38) 44 rfl wr.heap.size 3 i0 (.int .i64 0) 1 8 Try.underlying44 hi0 hz0 hz1 hz2 rfl (by decide) v14 p.length (p.map (Value.int .i64)) (by rfl) O14.out (some ⟨ng12, 0, none⟩) 1 1 (by rfl) [.int .i64 (c.cl + (i : Int))] (reads_one N14.out) ?ca15 ?cb15 ?cc15 D14.out.size ?_
          case ca15 => intro u hu; rw [List.mem_singleton.1 hu]; rfl
          case cb15 => have := HP4.out; unfold maxLen; omega
          case cc15 => have := HP4.out; omega
          intro v15 V15 hown hgrow
          have O15 : Hid (V15.ownsRow wr.heap.size 3 1 v15 (p ++ [(c.cl + (i : Int))]).length ((p ++ [(c.cl + (i : Int))]).map (Value.int .i64)))   := by unfold Hid; simpa using hown
          have D15 := Lib.hid (D14.out.grown hgrow D14.out.size (fun k e => (O14.out.lt k e.symm.symm).1))
          have B15 := Lib.hid (B14.out.grown hgrow (own_blk_ne O14.out B14.out (by decide)))
          clear hown hgrow
          refine hG15.out _ _ (HSS.out _ B15.out) (fun _ => ?_)
          refine wpAnyH_ready (rs := [8]) (by kernel_rfl) (by simp) ?_
          refine AllReadyH.cons rfl (fun G16 hG16 => ?_) AllReadyH.nil
          go_simp
          refine (HIH.out (c.cl + (i : Int)) v15 V15 (HCK.out.below (HW.out.trans (D15.out.mono HW.out.size))) (Nat.lt_of_lt_of_le HKB.out (HW.out.trans (D15.out.mono HW.out.size)).size) (intRow_of_own O15.out)).mono ?_
          rintro e V16 ⟨u8, rfl, hl8, hb8⟩
          have L16 := Lib.hid hl8
          have D16 := Lib.hid (below_then D15.out hb8)
          have B16 := Lib.hid (blk_keep hb8 B15.out)
          clear hl8 hb8
          refine hG16.out _ _ (HSS.out _ B16.out) (fun _ => ?_)
          refine wpAnyH_ready (rs := [9]) (by kernel_rfl) (by simp) ?_
          refine AllReadyH.cons rfl (fun G17 hG17 => ?_) AllReadyH.nil
          obtain ⟨vs, ho, hi1⟩ := HL.out.below D16.out
          obtain ⟨vs8, ho8, hi8⟩ := L16.out
          obtain ⟨A8, c8, rfl⟩ := own_slice ho8
          have HV8 := Lib.hid ho8.1
          refine step_append_any rfl (.tmp 32) (.tmp 40) 123 rfl w.heap.size 44 k0 (.slice none 0 0) 1 24 Try.underlying123 hk0 hy0 hy1 hy2 rfl (by decide) _ _ vs (by rfl) ho A8 _ c8 (by rfl) vs8 (reads_of_own ho8).r ?ca17 ?cb17 ?cc17 (HW.out.trans (D16.out.mono HW.out.size)).size ?_
          case ca17 =>
            intro z hz
            obtain ⟨j, hj, rfl⟩ := List.getElem_of_mem hz
            have hj2 : j < (colsFrom cs (p ++ [c.cl + (i : Int)])).length := by have := HV8.out; omega
            obtain ⟨q, e, A9, c9, e9, _⟩ := hi8 j hj2
            rw [List.getElem?_eq_getElem hj] at e
            rw [Option.some.inj e, e9]
            rfl
          case cb17 => have h1 := HLN.out i (by have := HLT.out; omega); have h2 := HLF.out (c.cl + (i : Int)); unfold maxLen; omega
          case cc17 => have h1 := HLN.out i (by have := HLT.out; omega); have h2 := HLF.out (c.cl + (i : Int)); omega
          intro v17 V17 hown hgrow
          have Z17 := Lib.hid (Lists.append ho hi1 hi8 (by have := ho.1; omega) hgrow hown)
          have B17 := Lib.hid (B16.out.grown hgrow (own_blk_ne ho B16.out (by decide)))
          have C17 := Lib.hid ((blk_keep D16.out HC.out).grown hgrow (own_blk_ne ho (blk_keep D16.out HC.out) (by decide)))
          have D17 : Hid (Below w.heap.size w V17) := (HW.out.trans (D16.out.mono HW.out.size)).grown hgrow (HW.out.trans (D16.out.mono HW.out.size)).size (fun k e => (ho.lt k e).1)
          clear hown hgrow ho hi1 ho8 hi8
          refine hG17.out _ _ (HSS.out _ B17.out) (fun _ => ?_)
          refine heldTake (i := 10) 5 (v := ?v14) rfl (by kernel_rfl) (by kernel_rfl) (by kernel_rfl) (by kernel_rfl) (fun _ _ _ h => h) (Or.inl ⟨by rfl, ?y14⟩) (by assumption) ?r14
          case y14 => (intro w hSw; obtain ⟨g0, g1, g2, g3⟩ := hSw; go_simp; try with_reducible rfl)
          refine wpAnyH_done (by kernel_rfl) ?_ _
          go_wp2_with fail
          go_roundw
          case rel => exact ⟨i + 1, _, by have := HLT.out; omega, by go_num, rfl, by rw [colsTo_succ]; exact Z17.out, C17.out, B17.out, D17.out⟩
          case measure => have := HLT.out; simp [intOf]; omega
        · have hlt' : c.ch < c.cl + i := by omega
          go_wp2_with fail
          go_ret
          exact ⟨_, rfl, by rw [HALL.out i (by omega)]; exact HL.out, HW.out⟩
end Go.Proofs.Ytiflhimmieflpaa
