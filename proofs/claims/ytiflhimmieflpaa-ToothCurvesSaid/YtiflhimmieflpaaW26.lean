/- Walks: sort.Search with Widest's closure. -/
import Derived.Test.YtiflhimmieflpaaW25
namespace Go.Proofs.Ytiflhimmieflpaa
open Go.RowKit Go.Maps

def searchGo (p : Nat → Bool) : Nat → Nat → Nat → Nat
  | 0, i, _ => i
  | f + 1, i, j => if i < j then (if p ((i + j) / 2) = true then searchGo p f i ((i + j) / 2) else searchGo p f ((i + j) / 2 + 1) j) else i
def searchL (p : Nat → Bool) (n : Nat) : Nat := searchGo p n 0 n
theorem searchGo_end {p : Nat → Bool} {f i j : Nat} (h : ¬ i < j) : searchGo p f i j = i := by
  cases f with
  | zero => rfl
  | succ f => rw [searchGo, if_neg h]
theorem searchGo_yes {p : Nat → Bool} {f i j : Nat} (h : i < j) (hp : p ((i + j) / 2) = true) : searchGo p (f + 1) i j = searchGo p f i ((i + j) / 2) := by
  rw [searchGo, if_pos h, if_pos hp]
theorem searchGo_no {p : Nat → Bool} {f i j : Nat} (h : i < j) (hp : p ((i + j) / 2) = false) : searchGo p (f + 1) i j = searchGo p f ((i + j) / 2 + 1) j := by
  rw [searchGo, if_pos h, if_neg (by simp [hp])]

set_option maxRecDepth 100000 in
theorem Search_any (p : Nat → Bool) (n : Nat) (I : World → Prop) (q0 q1 q2 : Value) (w : World) (hn : n ≤ 1000) (h0 : I w)
    (hf : ∀ (h : Nat) W, h < n → I W → Calls Try.prog 90 #[.int .i64 h, q0, q1, q2] W fun e W' => e = .returned (.bool (p h)) ∧ I W') :
    Calls Try.prog 89 #[.int .i64 n, .func (.func 90) #[] #[q0, q1, q2]] w fun e w' => e = .returned (.int .i64 (searchL p n)) ∧ I w' := by
  have Hf := Lib.hid hf
  have H0 := Lib.hid h0
  have HL : Hid (searchGo p n 0 n = searchL p n) := rfl
  clear hf h0
  go_enter Try.func89, Try.ntmps89
  go_wp2
  go_loopw [5, 6] (fun u v wr => ∃ i j f : Nat, i ≤ j ∧ j ≤ n ∧ j ≤ i + f ∧ u = .int .i64 i ∧ v = .int .i64 j ∧ searchGo p f i j = searchL p n ∧ I wr) (fun u v _ => (intOf v - intOf u).toNat)
  case atStart => exact ⟨0, n, n, by omega, by omega, by omega, rfl, rfl, HL.out, H0.out⟩
  case round =>
    obtain ⟨i, j, f, hij, hjn, hjf, rfl, rfl, hgo, hI⟩ := hrel
    have Hgo := Lib.hid hgo
    have HI := Lib.hid hI
    clear hgo hI HL H0
    by_cases hlt : i < j
    · obtain ⟨f, rfl⟩ : ∃ f', f = f' + 1 := ⟨f - 1, by omega⟩
      have hh : (i + j) / 2 < n := by omega
      have hcast : (((i + j) / 2 : Nat) : Int) = ((i : Int) + (j : Int)) / 2 := by omega
      have HC := Hf.out ((i + j) / 2) wr hh HI.out
      rw [hcast] at HC
      replace HC := Lib.hid HC
      clear hcast
      have HY := Lib.hid (searchGo_yes (p := p) (f := f) hlt)
      have HN := Lib.hid (searchGo_no (p := p) (f := f) hlt)
      cases hp : p ((i + j) / 2)
      · rw [hp] at HC
        have HG := Lib.hid (HN.out hp)
        clear HY HN hp
        go_wp2_with fail
        refine HC.out.mono ?_
        rintro e w2 ⟨rfl, hI2⟩
        have HI2 := Lib.hid hI2
        clear hI2
        go_wp2
        go_roundw
        case rel => exact ⟨(i + j) / 2 + 1, j, f, by omega, hjn, by omega, by go_num, rfl, by rw [← HG.out]; exact Hgo.out, HI2.out⟩
        case measure => simp [intOf]; omega
      · rw [hp] at HC
        have HG := Lib.hid (HY.out hp)
        clear HY HN hp
        go_wp2_with fail
        refine HC.out.mono ?_
        rintro e w2 ⟨rfl, hI2⟩
        have HI2 := Lib.hid hI2
        clear hI2
        go_wp2
        go_roundw
        case rel => exact ⟨i, (i + j) / 2, f, by omega, by omega, by omega, rfl, by go_num, by rw [← HG.out]; exact Hgo.out, HI2.out⟩
        case measure => simp [intOf]; omega
    · have hE : searchGo p f i j = i := searchGo_end hlt
      have HE : Hid ((i : Int) = (searchL p n : Int)) := by unfold Hid; rw [← Hgo.out, hE]
      clear hE
      go_wp2
      go_ret
      exact ⟨ret_int HE.out, HI.out⟩
end Go.Proofs.Ytiflhimmieflpaa
