/-
  The law PurseSum, walked.
-/
import Derived.Test.YtlgeckgeiknmjaaPurseFirst
namespace Go.Proofs.Ytlgeckgeiknmjaa.Purse
open Go.RowKit Go.Proofs.Ytlgeckgeiknmjaa.Sha Go.Proofs.Ytlgeckgeiknmjaa.Num

theorem and1i : ∀ k : Fin 128, bits .and .i64 ((k.val : Nat) : Int) 1 = ((k.val % 2 : Nat) : Int) := by decide +kernel
theorem Pc.lts {w : World} {F : List Nat} {p : Nat} {s : PS} (h : Pc w F p s) : ∀ k ∈ F, k < w.heap.size := h.2.lts
theorem Pc.keep {w w' : World} {F G : List Nat} {p : Nat} {s : PS} (h : Pc w F p s) (b : Bar G w w') (j : Disj F G) : Pc w' F p s := ⟨h.1, h.2.keep b j⟩
theorem Pc.below {w w' : World} {F : List Nat} {p : Nat} {s : PS} (h : Kept (Pc w F p s)) (b : Below w.heap.size w w') : Kept (Pc w' F p s) := ⟨h.out.keep (barOf b []) (fun _ _ => by simp)⟩
set_option maxRecDepth 100000 in
set_option maxHeartbeats 2000000 in
theorem sum_walk (A : Option Addr) (len cap : Nat) (xs : List Int) (w : World) (hr : Ri w A len xs) (hlen : len ≤ 9223372036854775807) : Calls Try.prog 6 #[.slice A len cap] w (Holds w) := by
  have HR := Kept.mk hr
  clear hr
  go_enter Try.func6, Try.ntmps6
  go_wp2_with fail
  refine (first_any w).mono ?_
  rintro e w1 ⟨rfl, b1⟩
  have B := Kept.mk b1
  have N1 := Kept.mk (new_two w1 4611686018427387804 0 (w1.heap.size + 2) rfl (by decide))
  clear b1
  go_wp2_with fail
  refine N1.out.mono ?_
  rintro e w2 ⟨p, F, rfl, hp, fp⟩
  obtain ⟨B, L⟩ := step_fp B fp (none_least _)
  have P := Kept.mk hp
  clear fp hp N1
  by_cases hbig : 100 < len
  · have hbig' : 100 < (len : Int) := by omega
    go_wp2_with fail
    refine (first_any w2).mono ?_
    rintro e w3 ⟨rfl, b3⟩
    replace B := step_below B b3
    go_wp2
    go_ret
    exact ⟨rfl, B.out⟩
  · have hbig' : ¬ 100 < (len : Int) := by omega
    go_wp2
    go_loopw [5, 6] (fun t i wr => ∃ (k : Nat) (T : Int) (F : List Nat) (s : PS), k ≤ len ∧ i = .int .i64 k ∧ t = .int .i64 T ∧ Kept (totP s 0 = T) ∧ Kept (s.np = 2 ∧ s.na = 1) ∧ Kept (Pc wr F p s) ∧ Kept (Below w.heap.size w wr) ∧ Kept (∀ k ∈ F, w.heap.size ≤ k)) (fun _ i _ => len - (Go.RowKit.intOf i).toNat)
    case atStart => exact ⟨0, 4611686018427387804, F, _, by omega, rfl, rfl, ⟨by decide⟩, ⟨rfl, rfl⟩, P, B, L⟩
    case round =>
      clear P B L
      obtain ⟨k, T, F, s, hk, rfl, rfl, HT, HS, P, B, L⟩ := hrel
      by_cases hkn : k < len
      · have hkn' : (k : Int) < len := by omega
        obtain ⟨q1, h3⟩ := HR.out.below B.out
        obtain ⟨ab, ao, rfl, hc⟩ := h3.resolve_left (by omega)
        have ce := hc k hkn
        obtain ⟨x, hx⟩ : ∃ x, at_ xs k = x := ⟨_, rfl⟩
        rw [hx] at ce
        clear hx q1 h3 hc
        by_cases hx0 : x < 0
        · go_wp2_with fail
          refine (first_any wr).mono ?_
          rintro e w3 ⟨rfl, b3⟩
          replace B := step_below B b3
          go_wp2
          go_ret
          exact ⟨rfl, B.out⟩
        · by_cases hx1 : 1000 < x
          · go_wp2_with fail
            refine (first_any wr).mono ?_
            rintro e w3 ⟨rfl, b3⟩
            replace B := step_below B b3
            go_wp2
            go_ret
            exact ⟨rfl, B.out⟩
          · have np := HS.out.1
            have na := HS.out.2
            have hT0 := P.out.1.tot0 (a := 0) (by omega)
            have hT1 := P.out.1.sum 0 (by omega)
            rw [← totP_nat (s := s) (b := 0) (by omega)] at hT0 hT1
            have ht := HT.out
            have ht' : totP s ((0 : Nat) : Int) = T := ht
            rw [ht'] at hT0 hT1
            clear ht ht'
            by_cases hm : (k : Int) % 3 = 2
            · have hf := fitB_at (s := s) (i := 0) (b := 0) (n := x) (by omega) (by omega) (by omega) (by omega)
              by_cases hless : s.v 0 0 < x
              · have T1 := Kept.mk (take_any ((0 : Nat) : Int) ((0 : Nat) : Int) x P.out)
                rw [take_less hf hless] at T1
                clear hf hless np na
                go_wp2_with fail
                refine T1.out.mono ?_
                rintro e w3 ⟨rfl, F3, hp, fp⟩
                obtain ⟨B, L⟩ := step_fp B fp L
                have TT := Kept.mk (total_any hp 0)
                rw [HT.out] at TT
                have P := Kept.mk hp
                clear fp hp T1
                go_wp2_with (go_at_call 19; refine TT.out.mono ?_; rintro e w' ⟨rfl, rfl⟩)
                go_roundw
                case rel => exact ⟨k + 1, T, F3, s, by omega, by go_num, rfl, HT, HS, P, B, L⟩
                case measure => simp [Go.RowKit.intOf]; omega
              · have T1 := Kept.mk (take_any ((0 : Nat) : Int) ((0 : Nat) : Int) x P.out)
                rw [take_yes hf hless] at T1
                have h4 := totP_put (s := s) (i := 0) (b := 0) (by omega) (by omega) (s.v 0 0 - x)
                have hv := P.out.1.le (i := 0) (a := 0) (by omega) (by omega)
                have hv2 := le_tot (v := s.v) (a := 0) (i := 0) (n := s.np) (by omega) (fun j hj => P.out.1.pos j 0 hj (by omega))
                rw [← totP_nat (s := s) (b := 0) (by omega)] at hv2
                rw [show totP s ((0 : Nat) : Int) = T from HT.out] at h4 hv2
                have hT4 : totP (put s 0 0 (s.v 0 0 - x)) 0 = T - x := by
                  have : totP (put s 0 0 (s.v 0 0 - x)) ((0 : Nat) : Int) = T - x := by rw [h4]; omega
                  exact this
                have HT4 := Kept.mk hT4
                have hge : x ≤ T := by omega
                clear hf hless np na h4 hT4 hv2 hv
                go_wp2_with fail
                refine T1.out.mono ?_
                rintro e w3 ⟨rfl, F3, hp, fp⟩
                obtain ⟨B, L⟩ := step_fp B fp L
                have TT := Kept.mk (total_any hp 0)
                rw [HT4.out] at TT
                have P := Kept.mk hp
                clear fp hp T1
                go_wp2_with (go_at_call 19; refine TT.out.mono ?_; rintro e w' ⟨rfl, rfl⟩)
                go_roundw
                case rel => exact ⟨k + 1, T - x, F3, _, by omega, by go_num, rfl, HT4, HS, P, B, L⟩
                case measure => simp [Go.RowKit.intOf]; omega
            · have hand : bits .and .i64 (k : Int) 1 = ((k % 2 : Nat) : Int) := and1i ⟨k, by omega⟩
              obtain ⟨y, hy⟩ : ∃ y : Nat, k % 2 = y := ⟨_, rfl⟩
              have hy2 : y < 2 := by omega
              rw [hy] at hand
              have hf := fitB_at (s := s) (i := y) (b := 0) (n := x) (by omega) (by omega) (by omega) (by omega)
              clear hy
              by_cases hfit : T + x ≤ 4611686018427387904
              · have T1 := Kept.mk (give_any (y : Int) ((0 : Nat) : Int) x P.out)
                rw [give_yes hf (by rw [show totP s ((0 : Nat) : Int) = T from HT.out]; exact hfit)] at T1
                have h4 := totP_put (s := s) (i := y) (b := 0) (by omega) (by omega) (s.v y 0 + x)
                rw [show totP s ((0 : Nat) : Int) = T from HT.out] at h4
                have hT4 : totP (put s y 0 (s.v y 0 + x)) 0 = T + x := by
                  have : totP (put s y 0 (s.v y 0 + x)) ((0 : Nat) : Int) = T + x := by rw [h4]; omega
                  exact this
                have HT4 := Kept.mk hT4
                have hle : x ≤ 4611686018427387904 - T := by omega
                clear hf np na h4 hT4
                go_wp2_with fail
                refine T1.out.mono ?_
                rintro e w3 ⟨rfl, F3, hp, fp⟩
                obtain ⟨B, L⟩ := step_fp B fp L
                have TT := Kept.mk (total_any hp 0)
                rw [HT4.out] at TT
                have P := Kept.mk hp
                clear fp hp T1 hand
                go_wp2_with (go_at_call 19; refine TT.out.mono ?_; rintro e w' ⟨rfl, rfl⟩)
                go_roundw
                case rel => exact ⟨k + 1, T + x, F3, _, by omega, by go_num, rfl, HT4, HS, P, B, L⟩
                case measure => simp [Go.RowKit.intOf]; omega
              · have T1 := Kept.mk (give_any (y : Int) ((0 : Nat) : Int) x P.out)
                rw [give_no (.inr (by rw [show totP s ((0 : Nat) : Int) = T from HT.out]; exact hfit))] at T1
                have hle : ¬ x ≤ 4611686018427387904 - T := by omega
                clear hf np na hfit
                go_wp2_with fail
                refine T1.out.mono ?_
                rintro e w3 ⟨rfl, F3, hp, fp⟩
                obtain ⟨B, L⟩ := step_fp B fp L
                have TT := Kept.mk (total_any hp 0)
                rw [HT.out] at TT
                have P := Kept.mk hp
                clear fp hp T1 hand
                go_wp2_with (go_at_call 19; refine TT.out.mono ?_; rintro e w' ⟨rfl, rfl⟩)
                go_roundw
                case rel => exact ⟨k + 1, T, F3, s, by omega, by go_num, rfl, HT, HS, P, B, L⟩
                case measure => simp [Go.RowKit.intOf]; omega
      · have hkn' : ¬ (k : Int) < len := by omega
        have N2 := Kept.mk (new_two_no wr 4611686018427387904 1 (wr.heap.size + 2) rfl (by decide))
        go_wp2_with fail
        refine N2.out.mono ?_
        rintro e w3 ⟨rfl, b3⟩
        replace B := step_below B b3
        clear b3 N2
        go_wp2_with fail
        refine (first_any w3).mono ?_
        rintro e w4 ⟨rfl, b4⟩
        replace B := step_below B b4
        go_wp2
        go_ret
        exact ⟨rfl, B.out⟩
end Go.Proofs.Ytlgeckgeiknmjaa.Purse
