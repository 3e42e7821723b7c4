/-
  The law MeterSwaps, walked.
-/
import Derived.Test.YtkgbinngohiffaaMeterUse
namespace Go.Proofs.Ytkgbinngohiffaa.Meter
open Go.RowKit Go.Proofs.Ytkgbinngohiffaa.Sha

theorem add_step (o c x : Int) : wrap64 (wrap64 (o + c) + x) = wrap64 (o + r64 (c + x)) := by unfold r64 wrap64; omega
theorem swap_step (o c : Int) : wrap64 (o + c) = wrap64 (wrap64 (o + c) + 0) := by unfold wrap64; omega

set_option maxRecDepth 100000 in
set_option maxHeartbeats 1000000 in
theorem swaps_walk (A : Option Addr) (n cap : Nat) (l : List Int) (q : Int) (w : World) (hr : Ri w A n l) : Calls Try.prog 6 #[.slice A n cap, .int .i64 q] w (Holds w) := by
  have R := Kept.mk hr
  clear hr
  go_enter Try.func6, Try.ntmps6
  go_wp2_with fail
  refine (first_any w).mono ?_
  rintro e w1 ⟨rfl, b1⟩
  have B := Kept.mk b1
  clear b1
  go_wp2_with fail
  refine (new_any w1).mono ?_
  rintro e w2 ⟨m, rfl, m2, hm, b2⟩
  have M := Kept.mk m2
  have HM : w.heap.size ≤ m := Nat.le_trans B.out.size hm
  replace B := step_below B b2
  clear m2 b2 hm
  by_cases hn : n ≤ 200 ∧ 0 ≤ q ∧ q ≤ 7
  · obtain ⟨hn, hq0, hq7⟩ := hn
    have hn' : (n : Int) ≤ 200 := by omega
    obtain ⟨i, rfl⟩ : ∃ i : Nat, q = i := ⟨q.toNat, by omega⟩
    have hi : i < 8 := by omega
    rw [← one_0 i] at M
    go_wp2
    go_loopw [6, 7, 8] (fun s t j wr => ∃ (k : Nat) (o c : Int), k ≤ n ∧ s = .int .i64 (wrap64 (o + c)) ∧ t = .int .i64 o ∧ j = .int .i64 k ∧ Kept (Me wr m (one i c)) ∧ Kept (Below w.heap.size w wr)) (fun _ _ j _ => n - (intOf j).toNat)
    case atStart => exact ⟨0, 0, 0, by omega, by rw [show wrap64 (0 + 0) = 0 by decide +kernel], rfl, rfl, M, B⟩
    case round =>
      clear M B
      obtain ⟨k, o, c, hk, rfl, rfl, rfl, M, B⟩ := hrel
      by_cases hkn : k < n
      · have hkn' : (k : Int) < n := by omega
        obtain ⟨b, g, rfl, CX⟩ := Ri.at_ R k hkn
        generalize at_ l k = x at *
        have x0 := CX.out _ B
        go_wp2_with fail
        refine (add_any m i x _ wr M.out).mono ?_
        rintro e w4 ⟨rfl, m4, b4⟩
        rw [one_get _ _ hi, one_set _ _ _ hi] at m4
        rw [inK_yes hq0 (by omega)]
        replace M := Kept.mk m4
        replace B := step_bar B b4 HM
        have ST := Kept.mk (add_step o c x)
        clear m4 b4 x0
        have x0 := CX.out _ B
        generalize r64 (c + x) = y at *
        have h30 : Int.tmod (k : Int) 3 = ((k % 3 : Nat) : Int) := by rw [Int.tmod_eq_emod_of_nonneg (by omega)]; omega
        by_cases h3 : k % 3 = 1
        · have h3' : Int.tmod (k : Int) 3 = 1 := by rw [h30, h3]; rfl
          clear h30
          go_wp2_with fail
          refine (swap_any m i 0 _ w4 M.out).mono ?_
          rintro e w5 ⟨rfl, m5, b5⟩
          rw [one_get _ _ hi]
          rw [one_set _ _ _ hi] at m5
          replace M := Kept.mk m5
          replace B := step_bar B b5 HM
          clear m5 b5 x0
          go_wp2
          go_roundw
          case rel => exact ⟨k + 1, wrap64 (o + y), 0, by omega, by rw [ST.out, ← swap_step], rfl, by go_num, M, B⟩
          case measure => simp [intOf]; omega
        · have h3' : ¬ Int.tmod (k : Int) 3 = 1 := by rw [h30]; omega
          clear h30
          go_wp2
          go_roundw
          case rel => exact ⟨k + 1, o, y, by omega, by rw [ST.out], rfl, by go_num, M, B⟩
          case measure => simp [intOf]; omega
      · have hkn' : ¬ (k : Int) < n := by omega
        obtain rfl : k = n := by omega
        go_wp2_with fail
        refine (first_any wr).mono ?_
        rintro e w5 ⟨rfl, b5⟩
        replace M := Me.keep M b5
        replace B := step_below B b5
        clear b5
        have HG := get_any m i _ w5 M.out
        rw [one_get _ _ hi] at HG
        replace HG := Kept.mk HG
        go_wp2_with fail
        refine HG.out.mono ?_
        rintro e w6 ⟨rfl, rfl⟩
        clear HG
        go_wp2_with fail
        refine (swap_any m 8 5 _ w5 M.out).mono ?_
        rintro e w6 ⟨rfl, m6, b6⟩
        rw [show getC (one i c) 8 = 0 from rfl]
        rw [show setC (one i c) 8 5 = one i c from rfl] at m6
        replace M := Kept.mk m6
        replace B := step_bar B b6 HM
        clear m6 b6
        go_wp2_with fail
        refine (get_any m 8 _ w6 M.out).mono ?_
        rintro e w7 ⟨rfl, rfl⟩
        rw [show getC (one i c) 8 = 0 from rfl]
        go_wp2_with fail
        refine (most_any m (-1) 3 _ w6 M.out).mono ?_
        rintro e w7 ⟨rfl, -, b7⟩
        replace B := step_bar B b7 HM
        rw [show (if inK (-1) = true then gr (getC (one i c) (-1)) 3 else 0) = 0 from rfl]
        clear b7
        go_wp2
        go_ret
        exact ⟨rfl, B.out⟩
  · by_cases hn2 : n ≤ 200
    · have hn' : (n : Int) ≤ 200 := by omega
      by_cases hq : q < 0
      · go_wp2_with fail
        refine (first_any w2).mono ?_
        rintro e w3 ⟨rfl, b3⟩
        replace B := step_below B b3
        go_wp2
        go_ret
        exact ⟨rfl, B.out⟩
      · have hq7 : 7 < q := by omega
        go_wp2_with fail
        refine (first_any w2).mono ?_
        rintro e w3 ⟨rfl, b3⟩
        replace B := step_below B b3
        go_wp2
        go_ret
        exact ⟨rfl, B.out⟩
    · have hn' : ¬ (n : Int) ≤ 200 := by omega
      go_wp2_with fail
      refine (first_any w2).mono ?_
      rintro e w3 ⟨rfl, b3⟩
      replace B := step_below B b3
      go_wp2
      go_ret
      exact ⟨rfl, B.out⟩
end Go.Proofs.Ytkgbinngohiffaa.Meter
