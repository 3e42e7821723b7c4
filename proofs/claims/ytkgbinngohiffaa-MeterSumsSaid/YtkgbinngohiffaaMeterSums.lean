/-
  The law MeterSums, walked.
-/
import Derived.Test.YtkgbinngohiffaaMeterUse
namespace Go.Proofs.Ytkgbinngohiffaa.Meter
open Go.RowKit Go.Proofs.Ytkgbinngohiffaa.Sha

def sumK (l : List Int) : Nat → Int
  | 0 => 0
  | k + 1 => r64 (sumK l k + at_ l k)
def mostK (l : List Int) : Nat → Int
  | 0 => 0
  | k + 1 => gr (mostK l k) (at_ l k)
/-- counter 1 is a, counter 3 is b -/
def two (a b : Int) : List Int := [0, a, 0, b, 0, 0, 0, 0]
theorem two_set1 (a b x : Int) : setC (two a b) 1 x = two x b := rfl
theorem two_set3 (a b x : Int) : setC (two a b) 3 x = two a x := rfl
theorem two_get1 (a b : Int) : getC (two a b) 1 = a := rfl
theorem two_get3 (a b : Int) : getC (two a b) 3 = b := rfl

set_option maxRecDepth 100000 in
set_option maxHeartbeats 1000000 in
theorem sums_walk (A : Option Addr) (n cap : Nat) (l : List Int) (w : World) (hr : Ri w A n l) : Calls Try.prog 5 #[.slice A n cap] w (Holds w) := by
  have R := Kept.mk hr
  clear hr
  go_enter Try.func5, Try.ntmps5
  go_wp2_with fail
  refine (first_any w).mono ?_
  rintro e w1 ⟨rfl, b1⟩
  have B := Kept.mk b1
  clear b1
  go_wp2_with fail
  refine (new_any w1).mono ?_
  rintro e w2 ⟨m, rfl, m2, hm, b2⟩
  have M := Kept.mk m2
  have HM : w.heap.size ≤ m := Nat.le_trans B.out.size hm
  replace B := step_below B b2
  clear m2 b2 hm
  by_cases hn : n ≤ 200
  · have hn' : (n : Int) ≤ 200 := by omega
    go_wp2
    go_loopw [4, 5, 6] (fun s t i wr => ∃ k : Nat, k ≤ n ∧ s = .int .i64 (sumK l k) ∧ t = .int .i64 (mostK l k) ∧ i = .int .i64 k ∧ Kept (Me wr m (two (sumK l k) (mostK l k))) ∧ Kept (Below w.heap.size w wr)) (fun _ _ i _ => n - (intOf i).toNat)
    case atStart => exact ⟨0, by omega, rfl, rfl, rfl, M, B⟩
    case round =>
      clear M B
      obtain ⟨k, hk, rfl, rfl, rfl, M, B⟩ := hrel
      by_cases hkn : k < n
      · have hkn' : (k : Int) < n := by omega
        obtain ⟨b, o, rfl, CX⟩ := Ri.at_ R k hkn
        have HS := Kept.mk (show sumK l (k + 1) = r64 (sumK l k + at_ l k) from rfl)
        have HT := Kept.mk (show mostK l (k + 1) = gr (mostK l k) (at_ l k) from rfl)
        generalize sumK l k = a at *
        generalize mostK l k = c at *
        generalize at_ l k = x at *
        have x0 := CX.out _ B
        go_wp2_with fail
        refine (add_any m 1 x _ wr M.out).mono ?_
        rintro e w4 ⟨rfl, m4, b4⟩
        rw [two_get1, two_set1, ← HS.out] at m4
        replace M := Kept.mk m4
        replace B := step_bar B b4 HM
        clear m4 b4 x0
        have x0 := CX.out _ B
        go_wp2_with fail
        refine (most_any m 3 x _ w4 M.out).mono ?_
        rintro e w5 ⟨rfl, m5, b5⟩
        rw [two_get3, two_set3, ← HT.out] at m5
        replace M := Kept.mk m5
        replace B := step_bar B b5 HM
        clear m5 b5 x0
        have x0 := CX.out _ B
        rw [show (if inK 3 = true then gr (getC (two (sumK l (k + 1)) c) 3) x else 0) = gr c x from rfl]
        have HG := Kept.mk (get_any m 1 _ w5 M.out)
        rw [two_get1] at HG
        rw [HS.out, HT.out] at M
        rw [HS.out, show r64 (a + x) = wrap64 (a + x) from rfl] at HG
        by_cases hcx : c < x
        · rw [show gr c x = x from if_pos hcx] at M HT ⊢
          go_wp2_with fail
          refine HG.out.mono ?_
          rintro e w6 ⟨rfl, rfl⟩
          go_wp2
          go_roundw
          case rel => exact ⟨k + 1, by omega, by rw [HS.out]; rfl, by rw [HT.out], by go_num, by rw [HS.out, HT.out]; exact M, B⟩
          case measure => simp [intOf]; omega
        · rw [show gr c x = c from if_neg hcx] at M HT ⊢
          go_wp2_with fail
          refine HG.out.mono ?_
          rintro e w6 ⟨rfl, rfl⟩
          go_wp2
          go_roundw
          case rel => exact ⟨k + 1, by omega, by rw [HS.out]; rfl, by rw [HT.out], by go_num, by rw [HS.out, HT.out]; exact M, B⟩
          case measure => simp [intOf]; omega
      · have hkn' : ¬ (k : Int) < n := by omega
        obtain rfl : k = n := by omega
        generalize sumK l k = a at *
        generalize mostK l k = c at *
        go_wp2_with fail
        refine (all_any m _ wr M.out).mono ?_
        rintro e w4 ⟨C, rfl, hc, -, b4⟩
        have HC := Kept.mk hc
        replace M := Me.keep M b4
        replace B := step_below B b4
        clear hc b4
        go_wp2_with fail
        refine (first_any w4).mono ?_
        rintro e w5 ⟨rfl, b5⟩
        have y1 := (HC.out.below b5 HC.out.lt).at_ 1 (show 1 < 8 by omega)
        have y3 := (HC.out.below b5 HC.out.lt).at_ 3 (show 3 < 8 by omega)
        have y0 := (HC.out.below b5 HC.out.lt).at_ 0 (show 0 < 8 by omega)
        rw [show at_ (two a c) 1 = a from rfl] at y1
        rw [show at_ (two a c) 3 = c from rfl] at y3
        rw [show at_ (two a c) 0 = 0 from rfl] at y0
        replace M := Me.keep M b5
        replace B := step_below B b5
        clear b5
        go_wp2_with fail
        refine (swap_any m 1 (-3) _ w5 M.out).mono ?_
        rintro e w6 ⟨rfl, m6, b6⟩
        rw [two_get1]
        rw [two_set1] at m6
        replace M := Kept.mk m6
        replace B := step_bar B b6 HM
        clear m6 b6
        go_wp2_with fail
        refine (get_any m 1 _ w6 M.out).mono ?_
        rintro e w7 ⟨rfl, rfl⟩
        rw [two_get1]
        go_wp2
        go_ret
        exact ⟨rfl, B.out⟩
  · have hn' : ¬ (n : Int) ≤ 200 := by omega
    go_wp2_with fail
    refine (first_any w2).mono ?_
    rintro e w3 ⟨rfl, b3⟩
    replace B := step_below B b3
    go_wp2
    go_ret
    exact ⟨rfl, B.out⟩
end Go.Proofs.Ytkgbinngohiffaa.Meter
