/-
  Parts laid together: PurseFew PurseCode3.
-/
import Derived.Test.YtcebjpfmpagfjaaPart6

namespace Go.Proofs.Ytcebjpfmpagfjaa.Purse
open Go.RowKit Go.Proofs.Ytcebjpfmpagfjaa.Sha

def FewPost (n : Nat) (w : World) (e : Ending) (w' : World) : Prop := ∃ t : Bool, e = .returned (.bool t) ∧ (t = true → n ≤ 100) ∧ w = w'
set_option maxRecDepth 100000 in
set_option maxHeartbeats 1000000 in
theorem few_any (A : Option Addr) (n cap : Nat) (X : Nat → List Int) (w : World) (hr : Rwi w A n X) (hn : n ≤ 9223372036854775807) :
    Calls Try.prog 7 #[.slice A n cap] w (FewPost n w) := by
  have HR := Kept.mk hr
  clear hr
  go_enter Try.func7, Try.ntmps7
  go_wp2
  go_loop [3, 4] (fun s i => ∃ k z : Nat, k ≤ n ∧ k ≤ 100 ∧ z ≤ 1001 * k ∧ s = .int .i64 z ∧ i = .int .i64 k) (fun _ i => 100 - (Go.RowKit.intOf i).toNat)
  case atStart => exact ⟨0, 0, by omega, by omega, by omega, rfl, rfl⟩
  case round =>
    obtain ⟨k, z, hk, hk1, hz, rfl, rfl⟩ := hrel
    by_cases hkn : k < n
    · have hkn' : (k : Int) < n := by omega
      by_cases hk2 : k < 100
      · have hk2' : (k : Int) < 100 := by omega
        obtain ⟨b, o, a, l, c, rfl, h1, h2, h3, h4⟩ := HR.out.row k hkn
        clear h4
        by_cases hlT : l ≤ 1001
        · have hlT' : (l : Int) ≤ 1001 := by omega
          go_wp2
          go_round
          case rel => exact ⟨k + 1, z + l, by omega, by omega, by omega, by go_num, by go_num⟩
          case measure => simp [Go.RowKit.intOf]; omega
        · have hlT' : ¬ (l : Int) ≤ 1001 := by omega
          go_wp2
          go_round
          case rel => exact ⟨k + 1, z + 1001, by omega, by omega, by omega, by go_num, by go_num⟩
          case measure => simp [Go.RowKit.intOf]; omega
      · have hn2 : ¬ (n : Int) ≤ 100 := by omega
        have hk2' : ¬ (k : Int) < 100 := by omega
        go_wp2
        go_ret
        exact ⟨_, rfl, by simp, rfl⟩
    · have hkn' : ¬ (k : Int) < n := by omega
      obtain rfl : k = n := by omega
      have hk3 : (k : Int) ≤ 100 := by omega
      go_wp2
      go_ret
      exact ⟨_, rfl, fun _ => hk1, rfl⟩
end Go.Proofs.Ytcebjpfmpagfjaa.Purse

namespace Go.Proofs.Ytcebjpfmpagfjaa.Purse
open Go.RowKit Go.Proofs.Ytcebjpfmpagfjaa.Sha Go.Proofs.Ytcebjpfmpagfjaa.Num

section
variable {w : World} {F : List Nat} {p : Nat} {s : PS}
set_option maxHeartbeats 1000000 in
theorem give_any (i a n : Int) (h : Pc w F p s) : Calls Try.prog 50 #[.pointer (some ⟨p, 0, none⟩), .int .i64 i, .int .i64 a, .int .i64 n] w (StepPost (fun w' F' s' => Pc w' F' p s') w F (giveP s i a n)) := by
  have P := Kept.mk (fits_any h i a n)
  have T := Kept.mk (total_any h a)
  have H := Kept.mk h
  clear h
  cases hf : fitB s i a n with
  | false =>
    rw [hf] at P
    rw [give_no (.inl hf)]
    clear hf
    go_enter Try.func50, Try.ntmps50
    go_wp2_with (go_at_call 45; refine P.out.mono ?_; rintro e w' ⟨rfl, rfl⟩)
    go_ret
    exact ⟨rfl, F, H.out, Fp.refl _ _⟩
  | true =>
    rw [hf] at P
    obtain ⟨⟨k, rfl, hk⟩, ⟨b, rfl, hb⟩, n0, n1⟩ := fitB_iff.1 hf
    have t0 := H.out.1.tot0 hb
    have t1 := H.out.1.sum b hb
    rw [← totP_nat hb] at t0 t1
    by_cases ht : totP s b + n ≤ 4611686018427387904
    · have A := Kept.mk (add_yes (totP s b) n w (add_iff.2 ⟨t0, n0, ht⟩))
      have hw := giveP_wf H.out.1 (k : Int) (b : Int) n
      rw [give_yes hf ht] at hw ⊢
      have hv := H.out.1.le hk hb
      obtain ⟨g, c, R, C, x1, x2, x3, x4, hput⟩ := H.out.at_ hk hb
      have PUT := Kept.mk (hput (s.v k b + n) hw)
      have hs : s.v k b + n ≤ 4611686018427387904 := by
        have := le_tot (v := s.v) (a := b) hk (fun j hj => H.out.1.pos j b hj hb)
        rw [totP_nat hb] at ht
        omega
      clear hf hput hw ht
      generalize s.v k b = x at *
      go_enter Try.func50, Try.ntmps50
      go_wp2_with (first | (go_at_call 45; refine P.out.mono ?_; rintro e w' ⟨rfl, rfl⟩) | (go_at_call 39; refine T.out.mono ?_; rintro e w' ⟨rfl, rfl⟩) | (go_at_call 52; refine A.out.mono ?_; rintro e w' ⟨rfl, rfl⟩))
      go_ret
      exact ⟨rfl, F, PUT.out.1, PUT.out.2⟩
    · have A := Kept.mk (add_no (totP s b) n w (by
        cases hq : addB (totP s b) n with
        | false => rfl
        | true => exact absurd (add_iff.1 hq).2.2 ht))
      rw [give_no (.inr ht)]
      clear hf ht
      go_enter Try.func50, Try.ntmps50
      go_wp2_with (first | (go_at_call 45; refine P.out.mono ?_; rintro e w' ⟨rfl, rfl⟩) | (go_at_call 39; refine T.out.mono ?_; rintro e w' ⟨rfl, rfl⟩) | (go_at_call 52; refine A.out.mono ?_; rintro e w' ⟨rfl, rfl⟩))
      go_ret
      exact ⟨rfl, F, H.out, Fp.refl _ _⟩
set_option maxHeartbeats 1000000 in
theorem take_any (i a n : Int) (h : Pc w F p s) : Calls Try.prog 31 #[.pointer (some ⟨p, 0, none⟩), .int .i64 i, .int .i64 a, .int .i64 n] w (StepPost (fun w' F' s' => Pc w' F' p s') w F (takeP s i a n)) := by
  have P := Kept.mk (fits_any h i a n)
  have H := Kept.mk h
  clear h
  cases hf : fitB s i a n with
  | false =>
    rw [hf] at P
    rw [take_no hf]
    clear hf
    go_enter Try.func31, Try.ntmps31
    go_wp2_with (go_at_call 45; refine P.out.mono ?_; rintro e w' ⟨rfl, rfl⟩)
    go_ret
    exact ⟨rfl, F, H.out, Fp.refl _ _⟩
  | true =>
    rw [hf] at P
    obtain ⟨⟨k, rfl, hk⟩, ⟨b, rfl, hb⟩, n0, n1⟩ := fitB_iff.1 hf
    have hv := H.out.1.le hk hb
    obtain ⟨g, c, R, C, x1, x2, x3, x4, hput⟩ := H.out.at_ hk hb
    by_cases ht : s.v k b < n
    · rw [take_less hf ht]
      clear hf hput
      generalize s.v k b = x at *
      go_enter Try.func31, Try.ntmps31
      go_wp2_with (go_at_call 45; refine P.out.mono ?_; rintro e w' ⟨rfl, rfl⟩)
      go_ret
      exact ⟨rfl, F, H.out, Fp.refl _ _⟩
    · have hw := takeP_wf H.out.1 (k : Int) (b : Int) n
      rw [take_yes hf ht] at hw ⊢
      have PUT := Kept.mk (hput (s.v k b - n) hw)
      clear hf hput hw
      generalize s.v k b = x at *
      go_enter Try.func31, Try.ntmps31
      go_wp2_with (go_at_call 45; refine P.out.mono ?_; rintro e w' ⟨rfl, rfl⟩)
      go_ret
      exact ⟨rfl, F, PUT.out.1, PUT.out.2⟩
end
end Go.Proofs.Ytcebjpfmpagfjaa.Purse
