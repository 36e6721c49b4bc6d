/- Walks: the law ToothFaults, of many places that are not outside. -/
import Derived.Test.YtiflhimmieflpaaW66
namespace Go.Proofs.Ytiflhimmieflpaa
open Go.RowKit Go.Maps

set_option maxRecDepth 100000 in
set_option maxHeartbeats 4000000 in
theorem tf_many (B : Bl) (s : Sw) (A : Option Addr) (n cp : Nat) (ps : List (Int × Int)) (w : World) (h : B.At w) (hp : Pairs w A n ps) (hlg : largeB B.n B.n' B.m = false) (h40 : n ≤ 400) (herr : B.err s = 0) (hin : holdsB B.n s.long ps = true) (h60 : 60 < n) : Calls Try.prog 7 #[B.val, s.val, .slice A n cp] w (Yes w) := by
  have L0 := Lib.hid (LV.new w B s)
  have H := Lib.hid h
  have HLG := Lib.hid (fun W => large_any B W)
  have HKN := Lib.hid (fun W => known_any W)
  have HPS := Lib.hid (fun W (hb : Below w.heap.size w W) => hp.below hb)
  have hlen := hp.len
  have HPC := Lib.hid (fun x y W (hb : Below w.heap.size w W) => place_any B s x y W (H.out.below hb) (by have := (large_no hlg).1; omega) (by have := (large_no hlg).2.1; omega) (by have := (large_no hlg).2.2; omega))
  have HPE : Hid (∀ x y, placeErr B s x y = if holdsB B.n s.long [(x, y)] = false then 2 else 0) := fun x y => by unfold placeErr; rw [if_neg (by simp [herr])]
  have HPR : Hid (∀ k, k < n → placeErr B s (ps.getD k (0, 0)).1 (ps.getD k (0, 0)).2 = 0) := fun k hk => by rw [HPE.out, holds_one (by omega) hin]; rfl
  have h61 : (60 : Int) < (n : Int) := by omega
  have h43 : ¬ (420 : Int) < (n : Int) := by omega
  have h44 : ¬ (400 : Int) < (n : Int) := by omega
  clear h hp HPE hin
  unfold Bl.val Sw.val at *
  go_enter Try.func7, Try.ntmps7
  have l0 := L0.out.get
  go_wp2_with fail
  refine (HLG.out _).mono ?_
  rintro e w1 ⟨rfl, b1⟩
  have L1 := Lib.hid (L0.out.below b1)
  have l1 := L1.out.get
  clear b1 HLG L0 l0
  rw [hlg]
  obtain ⟨k1, k2, k3⟩ := large_no hlg
  have HOP := Lib.hid (fun W (hb : Below w.heap.size w W) => open_any B s W (H.out.below hb) (by omega) (by omega) (by omega))
  have HPL1 := Lib.hid (HOP.out _ L1.out.bel)
  clear hlg HOP
  unfold Bl.val Sw.val at *
  go_wp2_with fail
  refine HPL1.out.mono ?_
  rintro e w2 ⟨rfl, b2⟩
  have L2 := Lib.hid (L1.out.below b2)
  clear b2 HPL1 l1 L1
  rw [herr] at *
  clear herr
  go_wp2_with fail
  go_loopw [7, 8] (fun ev iv wr => ∃ k : Nat, k ≤ n ∧ iv = .int .i64 k ∧ LV w B s wr ∧ ev = .int .i64 0) (fun _ iv _ => n - (intOf iv).toNat)
  case atStart => exact ⟨0, Nat.zero_le _, rfl, L2.out, rfl⟩
  case round =>
    obtain ⟨k, hk, rfl, hlv, rfl⟩ := hrel
    have LR := Lib.hid hlv
    clear hlv L2
    by_cases hkn : k < n
    · have HP1 := Lib.hid (HPR.out k hkn)
      obtain ⟨b, off, hA, hb, q0, q1⟩ := Pairs.at_ (HPS.out wr.drew LR.out.drewd.bel) hkn
      subst hA
      have RD := Lib.hid LR.out.drewd
      generalize (ps.getD k (0, 0)).1 = px at *
      generalize (ps.getD k (0, 0)).2 = py at *
      have KD : Hid ((fun W : World => ((W.cell? ⟨w.heap.size, 0, none⟩ = some (.slice B.A B.n B.c) ∧ W.cell? ⟨w.heap.size, 1, none⟩ = some (.slice B.A' B.n' B.c') ∧ W.cell? ⟨w.heap.size, 2, none⟩ = some (.int .i64 B.bend) ∧ W.cell? ⟨w.heap.size, 3, none⟩ = some (.slice B.K B.m B.d)) ∧
            W.cell? ⟨w.heap.size + 1, 0, none⟩ = some (.int .i64 s.long) ∧ W.cell? ⟨w.heap.size + 1, 1, none⟩ = some (.int .i64 s.wide) ∧ W.cell? ⟨w.heap.size + 1, 2, none⟩ = some (.int .i64 s.kerf) ∧ W.cell? ⟨w.heap.size + 1, 3, none⟩ = some (.int .i64 s.across)) ∧ W.cell? ⟨b, off + k * 2, none⟩ = some (.int .i64 px) ∧ W.cell? ⟨b, off + k * 2 + 1, none⟩ = some (.int .i64 py)) wr.drew) := ⟨RD.out.get, q0, q1⟩
      have HCL := Lib.hid (HPC.out px py _ RD.out.bel)
      rw [HP1.out] at HCL
      clear q0 q1
      go_upto_region 9 with (fail)
      go_region_held3 (fun W => ((W.cell? ⟨w.heap.size, 0, none⟩ = some (.slice B.A B.n B.c) ∧ W.cell? ⟨w.heap.size, 1, none⟩ = some (.slice B.A' B.n' B.c') ∧ W.cell? ⟨w.heap.size, 2, none⟩ = some (.int .i64 B.bend) ∧ W.cell? ⟨w.heap.size, 3, none⟩ = some (.slice B.K B.m B.d)) ∧
            W.cell? ⟨w.heap.size + 1, 0, none⟩ = some (.int .i64 s.long) ∧ W.cell? ⟨w.heap.size + 1, 1, none⟩ = some (.int .i64 s.wide) ∧ W.cell? ⟨w.heap.size + 1, 2, none⟩ = some (.int .i64 s.kerf) ∧ W.cell? ⟨w.heap.size + 1, 3, none⟩ = some (.int .i64 s.across)) ∧ W.cell? ⟨b, off + k * 2, none⟩ = some (.int .i64 px) ∧ W.cell? ⟨b, off + k * 2 + 1, none⟩ = some (.int .i64 py))
        (first | with_reducible exact KD.out | with_reducible exact KE.out)
        (first | (go_at_call 27; refine HCL.out.mono ?_; rintro e WP ⟨rfl, bP⟩; have RE := Lib.hid (RD.out.below bP); have KE := Lib.hid (And.intro RE.out.get (And.intro (cell_keep bP KD.out.2.1) (cell_keep bP KD.out.2.2))); clear bP))
      go_wp2
      go_roundw
      case rel => exact ⟨k + 1, by omega, by go_num, RE.out, rfl⟩
      case measure => simp [intOf]; omega
    · obtain rfl : n = k := by omega
      clear HPC HPR
      go_wp2_with fail
      refine (HKN.out _).mono ?_
      rintro e w9 ⟨rfl, b9⟩
      have D9 := Lib.hid (below_then LR.out.bel b9)
      clear b9 LR
      go_wp2
      go_ret
      exact ⟨rfl, D9.out⟩
end Go.Proofs.Ytiflhimmieflpaa
