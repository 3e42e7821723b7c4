/-
  Package purse: Give, Take, Move.
-/
import Derived.Test.YtlgeckgeiknmjaaPurseCode2
namespace Go.Proofs.Ytlgeckgeiknmjaa.Purse
open Go.RowKit Go.Proofs.Ytlgeckgeiknmjaa.Sha Go.Proofs.Ytlgeckgeiknmjaa.Num

section
variable {w : World} {F : List Nat} {p : Nat} {s : PS}
set_option maxHeartbeats 1000000 in
theorem give_any (i a n : Int) (h : Pc w F p s) : Calls Try.prog 11 #[.pointer (some ⟨p, 0, none⟩), .int .i64 i, .int .i64 a, .int .i64 n] w (StepPost (fun w' F' s' => Pc w' F' p s') w F (giveP s i a n)) := by
  have P := Kept.mk (fits_any h i a n)
  have T := Kept.mk (total_any h a)
  have H := Kept.mk h
  clear h
  cases hf : fitB s i a n with
  | false =>
    rw [hf] at P
    rw [give_no (.inl hf)]
    clear hf
    go_enter Try.func11, Try.ntmps11
    go_wp2_with (go_at_call 27; refine P.out.mono ?_; rintro e w' ⟨rfl, rfl⟩)
    go_ret
    exact ⟨rfl, F, H.out, Fp.refl _ _⟩
  | true =>
    rw [hf] at P
    obtain ⟨⟨k, rfl, hk⟩, ⟨b, rfl, hb⟩, n0, n1⟩ := fitB_iff.1 hf
    have t0 := H.out.1.tot0 hb
    have t1 := H.out.1.sum b hb
    rw [← totP_nat hb] at t0 t1
    by_cases ht : totP s b + n ≤ 4611686018427387904
    · have A := Kept.mk (add_yes (totP s b) n w (add_iff.2 ⟨t0, n0, ht⟩))
      have hw := giveP_wf H.out.1 (k : Int) (b : Int) n
      rw [give_yes hf ht] at hw ⊢
      have hv := H.out.1.le hk hb
      obtain ⟨g, c, R, C, x1, x2, x3, x4, hput⟩ := H.out.at_ hk hb
      have PUT := Kept.mk (hput (s.v k b + n) hw)
      have hs : s.v k b + n ≤ 4611686018427387904 := by
        have := le_tot (v := s.v) (a := b) hk (fun j hj => H.out.1.pos j b hj hb)
        rw [totP_nat hb] at ht
        omega
      clear hf hput hw ht
      generalize s.v k b = x at *
      go_enter Try.func11, Try.ntmps11
      go_wp2_with (first | (go_at_call 27; refine P.out.mono ?_; rintro e w' ⟨rfl, rfl⟩) | (go_at_call 19; refine T.out.mono ?_; rintro e w' ⟨rfl, rfl⟩) | (go_at_call 28; refine A.out.mono ?_; rintro e w' ⟨rfl, rfl⟩))
      go_ret
      exact ⟨rfl, F, PUT.out.1, PUT.out.2⟩
    · have A := Kept.mk (add_no (totP s b) n w (by
        cases hq : addB (totP s b) n with
        | false => rfl
        | true => exact absurd (add_iff.1 hq).2.2 ht))
      rw [give_no (.inr ht)]
      clear hf ht
      go_enter Try.func11, Try.ntmps11
      go_wp2_with (first | (go_at_call 27; refine P.out.mono ?_; rintro e w' ⟨rfl, rfl⟩) | (go_at_call 19; refine T.out.mono ?_; rintro e w' ⟨rfl, rfl⟩) | (go_at_call 28; refine A.out.mono ?_; rintro e w' ⟨rfl, rfl⟩))
      go_ret
      exact ⟨rfl, F, H.out, Fp.refl _ _⟩
set_option maxHeartbeats 1000000 in
theorem take_any (i a n : Int) (h : Pc w F p s) : Calls Try.prog 13 #[.pointer (some ⟨p, 0, none⟩), .int .i64 i, .int .i64 a, .int .i64 n] w (StepPost (fun w' F' s' => Pc w' F' p s') w F (takeP s i a n)) := by
  have P := Kept.mk (fits_any h i a n)
  have H := Kept.mk h
  clear h
  cases hf : fitB s i a n with
  | false =>
    rw [hf] at P
    rw [take_no hf]
    clear hf
    go_enter Try.func13, Try.ntmps13
    go_wp2_with (go_at_call 27; refine P.out.mono ?_; rintro e w' ⟨rfl, rfl⟩)
    go_ret
    exact ⟨rfl, F, H.out, Fp.refl _ _⟩
  | true =>
    rw [hf] at P
    obtain ⟨⟨k, rfl, hk⟩, ⟨b, rfl, hb⟩, n0, n1⟩ := fitB_iff.1 hf
    have hv := H.out.1.le hk hb
    obtain ⟨g, c, R, C, x1, x2, x3, x4, hput⟩ := H.out.at_ hk hb
    by_cases ht : s.v k b < n
    · rw [take_less hf ht]
      clear hf hput
      generalize s.v k b = x at *
      go_enter Try.func13, Try.ntmps13
      go_wp2_with (go_at_call 27; refine P.out.mono ?_; rintro e w' ⟨rfl, rfl⟩)
      go_ret
      exact ⟨rfl, F, H.out, Fp.refl _ _⟩
    · have hw := takeP_wf H.out.1 (k : Int) (b : Int) n
      rw [take_yes hf ht] at hw ⊢
      have PUT := Kept.mk (hput (s.v k b - n) hw)
      clear hf hput hw
      generalize s.v k b = x at *
      go_enter Try.func13, Try.ntmps13
      go_wp2_with (go_at_call 27; refine P.out.mono ?_; rintro e w' ⟨rfl, rfl⟩)
      go_ret
      exact ⟨rfl, F, PUT.out.1, PUT.out.2⟩
set_option maxHeartbeats 1000000 in
theorem move_any (i j a n : Int) (h : Pc w F p s) : Calls Try.prog 15 #[.pointer (some ⟨p, 0, none⟩), .int .i64 i, .int .i64 j, .int .i64 a, .int .i64 n] w (StepPost (fun w' F' s' => Pc w' F' p s') w F (moveP s i j a n)) := by
  have P := Kept.mk (fits_any h i a n)
  have Q := Kept.mk (party_any h j)
  have K := Kept.mk (take_any i a n h)
  have H := Kept.mk h
  clear h
  cases hf : fitB s i a n with
  | false =>
    rw [hf] at P
    rw [move_no (.inl hf)]
    clear hf
    go_enter Try.func15, Try.ntmps15
    go_wp2_with (first | (go_at_call 27; refine P.out.mono ?_; rintro e w' ⟨rfl, rfl⟩) | (go_at_call 31; refine Q.out.mono ?_; rintro e w' ⟨rfl, rfl⟩))
    go_ret
    exact ⟨rfl, F, H.out, Fp.refl _ _⟩
  | true =>
    rw [hf] at P
    cases hj : isP s j with
    | false =>
      rw [hj] at Q
      rw [move_no (.inr hj)]
      clear hf hj
      go_enter Try.func15, Try.ntmps15
      go_wp2_with (first | (go_at_call 27; refine P.out.mono ?_; rintro e w' ⟨rfl, rfl⟩) | (go_at_call 31; refine Q.out.mono ?_; rintro e w' ⟨rfl, rfl⟩))
      go_ret
      exact ⟨rfl, F, H.out, Fp.refl _ _⟩
    | true =>
      rw [hj] at Q
      by_cases hij : i = j
      · subst hij
        rw [move_same hf hj]
        clear hf hj
        go_enter Try.func15, Try.ntmps15
        go_wp2_with (first | (go_at_call 27; refine P.out.mono ?_; rintro e w' ⟨rfl, rfl⟩) | (go_at_call 31; refine Q.out.mono ?_; rintro e w' ⟨rfl, rfl⟩))
        go_ret
        exact ⟨rfl, F, H.out, Fp.refl _ _⟩
      · obtain ⟨⟨k, rfl, hk⟩, ⟨b, rfl, hb⟩, n0, n1⟩ := fitB_iff.1 hf
        obtain ⟨q, rfl, hq⟩ := isP_nat hj
        by_cases ht : s.v k b < n
        · rw [move_less hf hj hij ht]
          rw [take_less hf ht] at K
          clear hf hj ht
          go_enter Try.func15, Try.ntmps15
          go_wp2_with (first | (go_at_call 27; refine P.out.mono ?_; rintro e w' ⟨rfl, rfl⟩) | (go_at_call 31; refine Q.out.mono ?_; rintro e w' ⟨rfl, rfl⟩) | (go_at_call 13; refine K.out.mono ?_; rintro e w' ⟨rfl, F', h1, h2⟩))
          go_ret
          exact ⟨rfl, F', h1, h2⟩
        · have hw := moveP_wf H.out.1 (k : Int) (q : Int) (b : Int) n
          rw [move_yes hf hj hij ht] at hw ⊢
          rw [take_yes hf ht] at K
          have hv := H.out.1.le hq hb
          have hs : s.v q b + n ≤ 4611686018427387904 := by
            have := two_tot (v := s.v) (a := b) hk hq (by omega) (fun j hj => H.out.1.pos j b hj hb)
            have := H.out.1.sum b hb
            omega
          clear hf hj ht
          go_enter Try.func15, Try.ntmps15
          go_wp2_with (first | (go_at_call 27; refine P.out.mono ?_; rintro e w' ⟨rfl, rfl⟩) | (go_at_call 31; refine Q.out.mono ?_; rintro e w' ⟨rfl, rfl⟩))
          refine K.out.mono ?_
          rintro e w2 ⟨rfl, F2, h1, h2⟩
          obtain ⟨g, c, R, C, x1, x2, x3, x4, hput⟩ := h1.at_ (i := q) (a := b) hq hb
          rw [put_v, upd_other _ _ _ _ (by omega)] at x3
          have PUT := Kept.mk (hput (s.v q b + n) hw)
          have FP := Kept.mk h2
          rw [put_na] at x1
          rw [put_np] at x2
          obtain ⟨x, hx⟩ : ∃ x, s.v q b = x := ⟨_, rfl⟩
          rw [hx] at x3 hv hs
          have HX := Kept.mk hx
          clear hput hw h1 h2 P Q K H hx
          go_wp2
          go_ret
          have h1 := PUT.out
          rw [HX.out] at h1
          exact ⟨rfl, F2, by show Pc _ _ _ (put _ q b (s.v q b + n)); rw [HX.out]; exact h1.1, FP.out.trans h1.2⟩
end
end Go.Proofs.Ytlgeckgeiknmjaa.Purse
