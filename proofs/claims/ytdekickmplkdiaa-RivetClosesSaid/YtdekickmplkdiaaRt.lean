/- Walks: Balance. -/
import Derived.Test.YtdekickmplkdiaaRr
namespace Go.Proofs.Ytdekickmplkdiaa
open Go.RowKit

def ratsL (u : Bool) (l : List Stk) : List (Int × Int) := l.map fun s => (numB u s.pl l, denB u s.pl l)
def balL (u : Bool) (l : List Stk) : Int × Int := pickGo u (ratsL u l) (l.length - 1)
theorem rats_B {l : List Stk} (h : StkB l) (u : Bool) : ∀ r ∈ ratsL u l, RatB r := by
  intro r hr
  obtain ⟨s, _, rfl⟩ := List.mem_map.1 hr
  have h1 := numB_bd h u s.pl
  have h2 := denB_bd h u s.pl
  exact ⟨⟨h1.1, by omega⟩, by omega, by omega⟩
theorem rats_take (u : Bool) (l : List Stk) (k : Nat) (hk : k < l.length) : flat2 ((ratsL u l).take (k + 1)) = flat2 ((ratsL u l).take k) ++ [.int .i64 (numB u (l.getD k Stk.zero).pl l), .int .i64 (denB u (l.getD k Stk.zero).pl l)] := by
  have e : l.getD k Stk.zero = l[k] := by simp [List.getD, hk]
  rw [e, List.take_succ_eq_append_getElem (by simpa [ratsL] using hk)]
  simp [flat2, ratsL]
theorem own_pairs {W : World} {base n : Nat} {t : TypeId} {v : Value} {xs : List (Int × Int)} (h : W.ownsRow base t 2 v n (flat2 xs)) : ∃ A c, v = .slice A n c ∧ Pairs W A n xs := by
  rcases Nat.eq_zero_or_pos n with rfl | hp
  · obtain ⟨A, c, rfl⟩ := own_slice h
    have := h.1
    exact ⟨A, c, rfl, ⟨by simpa using this, fun h => absurd h (by omega)⟩⟩
  · obtain ⟨g, c, rfl⟩ := own_form h hp
    exact ⟨_, c, rfl, pairs_of_own h⟩

set_option maxRecDepth 100000 in
set_option maxHeartbeats 4000000 in
theorem balance_any (u : Bool) (l : List Stk) (A : Option Addr) (n c : Nat) (w : World) (hs : StkB l) (h : Stks w A n l) (h0 : 0 < n) :
    Calls Try.prog 90 #[.agg (endA u), .slice A n c] w fun e w' => e = .returned (.agg #[.int .i64 (balL u l).1, .int .i64 (balL u l).2]) ∧ Below w.heap.size w w' := by
  obtain ⟨i0, hi0, hz0, hz1, hz2⟩ := info_parts Try.infoRatio
  have hl := h.len
  have hn := hs.n
  rw [hl] at hn
  have HG := Lib.hid h
  have Hl := Lib.hid hl
  have E0 := Lib.hid (Env2.start w 117 77 (endA u) #[.int .i64 0, .int .i64 0])
  have HT := Lib.hid (fun k (hk : k < n) => rats_take u l k (by omega))
  have HC := Lib.hid (fun (p : Int) W (hb : Below w.heap.size w W) => behind_any u l p A n c W hs (h.below hb))
  have HPK : Hid (∀ (B : Option Addr) (d : Nat) (W : World), Pairs W B n (ratsL u l) → Calls Try.prog (bif u then 106 else 101) #[.slice B n d] W fun e w' => e = .returned (.agg #[.int .i64 (balL u l).1, .int .i64 (balL u l).2]) ∧ Below W.heap.size W w') := by
    intro B d W hP
    unfold balL
    rw [hl]
    cases u
    · exact pickfalse_any (ratsL false l) B n d W hP h0 (by omega) (rats_B hs false)
    · exact picktrue_any (ratsL true l) B n d W hP h0 (by omega) (rats_B hs true)
  have HA := Lib.hid (show (ratsL u l).take n = ratsL u l from List.take_of_length_le (by simp [ratsL, hl]))
  clear hl h hs
  generalize balL u l = z at *
  obtain ⟨z1, z2⟩ := z
  generalize ratsL u l = rs at *
  have HN : Hid (∀ p, numB u p l = numB u p l) := fun _ => rfl
  generalize hnum : (fun p => numB u p l) = num at *
  generalize hden : (fun p => denB u p l) = den at *
  have en : ∀ p, numB u p l = num p := fun p => by rw [← hnum]
  have ed : ∀ p, denB u p l = den p := fun p => by rw [← hden]
  simp only [en, ed] at HT HC
  clear en ed hnum hden HN
  cases u <;> simp only [endA, cond_true, cond_false] at *
  · go_enter Try.func90, Try.ntmps90
    go_wp2
    go_loopw [5, 10] (fun s i wr => ∃ (k : Nat) (v : Value), k ≤ n ∧ i = .int .i64 k ∧ s = v ∧ wr.ownsRow (w.heap.size + 2) 77 2 v k (flat2 (rs.take k)) ∧ Env2 w wr 117 77 #[.func (.func 99) #[] #[], .func (.func 100) #[] #[], .func (.func 101) #[] #[]] #[.int .i64 0, .int .i64 0]) (fun _ i _ => n - (intOf i).toNat)
    case atStart => exact ⟨0, _, Nat.zero_le _, rfl, rfl, World.ownsRow_nil _ _ _ _, E0.out⟩
    case round =>
      obtain ⟨k, v, hk, rfl, rfl, hown, hE⟩ := hrel
      have O1 := Lib.hid hown
      have E1 := Lib.hid hE
      clear hown hE
      by_cases hlt : k < n
      · obtain ⟨b, off, rfl, hb, hc0, hc1, hc2, hc3, hc4⟩ := (HG.out.below E1.out.bel).at_ hlt
        have HS := Lib.hid (HT.out k hlt)
        generalize l.getD k Stk.zero = y at *
        obtain ⟨yl, yh, zl, zh, pl⟩ := y
        simp only at hc0 hc1 hc2 hc3 hc4 HS
        have bs := below_self wr (.cells #[.int .i64 yl, .int .i64 yh, .int .i64 zl, .int .i64 zh, .int .i64 pl] 106)
        have E2 := Lib.hid (E1.out.below bs)
        have O2 := Lib.hid (ownsRow_below O1.out bs)
        have C := Lib.hid (HC.out pl _ E2.out.bel)
        have x2 := end_get E2.out.p
        clear bs
        generalize num pl = r1 at *
        generalize den pl = r2 at *
        go_wp2_with fail
        refine C.out.mono ?_
        rintro e W4 ⟨rfl, hb4⟩
        have E4 := Lib.hid (E2.out.below hb4)
        have O4 := Lib.hid (ownsRow_below O2.out hb4)
        clear hb4 x2 hc0 hc1 hc2 hc3 hc4
        go_wp2_with (at_builtin; refine wpList_append_any rfl _ _ 143 rfl (w.heap.size + 2) 77 i0 (.agg #[.int .i64 0, .int .i64 0]) 2 16 Try.underlying143 hi0 hz0 hz1 hz2 rfl (by decide) _ k _ rfl (O4.out.alloc _) (some ⟨W4.heap.size, 0, none⟩) 1 1 [.int .i64 r1, .int .i64 r2] rfl (pairs_new1 W4 r1 r2 _ rfl) ?cfalse1 ?cfalse2 ?cfalse3 ?cfalse4 ?_)
        case cfalse1 => intro u hu; simp only [List.mem_cons, List.not_mem_nil, or_false] at hu; rcases hu with rfl | rfl <;> rfl
        case cfalse2 => unfold maxLen; omega
        case cfalse3 => omega
        case cfalse4 => have := E4.out.q.lt; simp; omega
        intro v' W5 hown5 hgrow
        have O5 : Hid (W5.ownsRow (w.heap.size + 2) 77 2 v' (k + 1) (flat2 (rs.take (k + 1)))) := by unfold Hid; rw [HS.out]; exact hown5
        have hne5 : u5.ownBlock ≠ some (w.heap.size + 1) := fun e => by have := (O4.out.lt _ e).1; omega
        have hz4 := E4.out.q.lt
        have E5 : Hid (Env2 w W5 117 77 #[.func (.func 99) #[] #[], .func (.func 100) #[] #[], .func (.func 101) #[] #[]] #[.int .i64 0, .int .i64 0]) := ⟨(E4.out.p.alloc _).grown hgrow (own_blk_ne O4.out E4.out.p (by decide)), (E4.out.q.alloc _).grown hgrow hne5, (E4.out.bel.alloc E4.out.bel.size _).grown hgrow (by have := E4.out.bel.size; simp; omega) (fun q e => by have := (O4.out.lt q e.symm.symm).1; omega)⟩
        clear hown5 hgrow hne5 hz4
        go_wp2
        go_roundw
        case rel => exact ⟨k + 1, _, by omega, by go_num, rfl, O5.out, E5.out⟩
        case measure => simp [intOf]; omega
      · obtain rfl : k = n := by omega
        have ho := O1.out
        rw [HA.out] at ho
        obtain ⟨B, d, hv, hP⟩ := own_pairs ho
        subst hv
        have C := Lib.hid (HPK.out B d wr hP)
        have x1 := end_get E1.out.p
        clear ho hP
        go_wp2_with fail
        refine C.out.mono ?_
        rintro e W4 ⟨rfl, hb4⟩
        have E4 := Lib.hid (E1.out.below hb4)
        have q4 := rat_get E4.out.q
        clear hb4 x1
        go_wp2
        exact bodyPost_ret (results_c rfl _ _ _ (w.heap.size + 1) _ _ _ rfl ((E4.out.q.set_ 0 _).set_ 1 _) Try.underlying77 (by kernel_rfl)) rfl ⟨rfl, (E4.out.bel.setCell (p := ⟨w.heap.size + 1, 0, none⟩) (by simp) _).setCell (p := ⟨w.heap.size + 1, 1, none⟩) (by simp) _⟩
  · go_enter Try.func90, Try.ntmps90
    go_wp2
    go_loopw [5, 10] (fun s i wr => ∃ (k : Nat) (v : Value), k ≤ n ∧ i = .int .i64 k ∧ s = v ∧ wr.ownsRow (w.heap.size + 2) 77 2 v k (flat2 (rs.take k)) ∧ Env2 w wr 117 77 #[.func (.func 100) #[] #[], .func (.func 99) #[] #[], .func (.func 106) #[] #[]] #[.int .i64 0, .int .i64 0]) (fun _ i _ => n - (intOf i).toNat)
    case atStart => exact ⟨0, _, Nat.zero_le _, rfl, rfl, World.ownsRow_nil _ _ _ _, E0.out⟩
    case round =>
      obtain ⟨k, v, hk, rfl, rfl, hown, hE⟩ := hrel
      have O1 := Lib.hid hown
      have E1 := Lib.hid hE
      clear hown hE
      by_cases hlt : k < n
      · obtain ⟨b, off, rfl, hb, hc0, hc1, hc2, hc3, hc4⟩ := (HG.out.below E1.out.bel).at_ hlt
        have HS := Lib.hid (HT.out k hlt)
        generalize l.getD k Stk.zero = y at *
        obtain ⟨yl, yh, zl, zh, pl⟩ := y
        simp only at hc0 hc1 hc2 hc3 hc4 HS
        have bs := below_self wr (.cells #[.int .i64 yl, .int .i64 yh, .int .i64 zl, .int .i64 zh, .int .i64 pl] 106)
        have E2 := Lib.hid (E1.out.below bs)
        have O2 := Lib.hid (ownsRow_below O1.out bs)
        have C := Lib.hid (HC.out pl _ E2.out.bel)
        have x2 := end_get E2.out.p
        clear bs
        generalize num pl = r1 at *
        generalize den pl = r2 at *
        go_wp2_with fail
        refine C.out.mono ?_
        rintro e W4 ⟨rfl, hb4⟩
        have E4 := Lib.hid (E2.out.below hb4)
        have O4 := Lib.hid (ownsRow_below O2.out hb4)
        clear hb4 x2 hc0 hc1 hc2 hc3 hc4
        go_wp2_with (at_builtin; refine wpList_append_any rfl _ _ 143 rfl (w.heap.size + 2) 77 i0 (.agg #[.int .i64 0, .int .i64 0]) 2 16 Try.underlying143 hi0 hz0 hz1 hz2 rfl (by decide) _ k _ rfl (O4.out.alloc _) (some ⟨W4.heap.size, 0, none⟩) 1 1 [.int .i64 r1, .int .i64 r2] rfl (pairs_new1 W4 r1 r2 _ rfl) ?ctrue1 ?ctrue2 ?ctrue3 ?ctrue4 ?_)
        case ctrue1 => intro u hu; simp only [List.mem_cons, List.not_mem_nil, or_false] at hu; rcases hu with rfl | rfl <;> rfl
        case ctrue2 => unfold maxLen; omega
        case ctrue3 => omega
        case ctrue4 => have := E4.out.q.lt; simp; omega
        intro v' W5 hown5 hgrow
        have O5 : Hid (W5.ownsRow (w.heap.size + 2) 77 2 v' (k + 1) (flat2 (rs.take (k + 1)))) := by unfold Hid; rw [HS.out]; exact hown5
        have hne5 : u5.ownBlock ≠ some (w.heap.size + 1) := fun e => by have := (O4.out.lt _ e).1; omega
        have hz4 := E4.out.q.lt
        have E5 : Hid (Env2 w W5 117 77 #[.func (.func 100) #[] #[], .func (.func 99) #[] #[], .func (.func 106) #[] #[]] #[.int .i64 0, .int .i64 0]) := ⟨(E4.out.p.alloc _).grown hgrow (own_blk_ne O4.out E4.out.p (by decide)), (E4.out.q.alloc _).grown hgrow hne5, (E4.out.bel.alloc E4.out.bel.size _).grown hgrow (by have := E4.out.bel.size; simp; omega) (fun q e => by have := (O4.out.lt q e.symm.symm).1; omega)⟩
        clear hown5 hgrow hne5 hz4
        go_wp2
        go_roundw
        case rel => exact ⟨k + 1, _, by omega, by go_num, rfl, O5.out, E5.out⟩
        case measure => simp [intOf]; omega
      · obtain rfl : k = n := by omega
        have ho := O1.out
        rw [HA.out] at ho
        obtain ⟨B, d, hv, hP⟩ := own_pairs ho
        subst hv
        have C := Lib.hid (HPK.out B d wr hP)
        have x1 := end_get E1.out.p
        clear ho hP
        go_wp2_with fail
        refine C.out.mono ?_
        rintro e W4 ⟨rfl, hb4⟩
        have E4 := Lib.hid (E1.out.below hb4)
        have q4 := rat_get E4.out.q
        clear hb4 x1
        go_wp2
        exact bodyPost_ret (results_c rfl _ _ _ (w.heap.size + 1) _ _ _ rfl ((E4.out.q.set_ 0 _).set_ 1 _) Try.underlying77 (by kernel_rfl)) rfl ⟨rfl, (E4.out.bel.setCell (p := ⟨w.heap.size + 1, 0, none⟩) (by simp) _).setCell (p := ⟨w.heap.size + 1, 1, none⟩) (by simp) _⟩
end Go.Proofs.Ytdekickmplkdiaa
