/-
  The document's own Purse: Give, Take, Move.
-/
import Derived.Test.YtlgeckgeiknmjaaPurseRef
namespace Go.Proofs.Ytlgeckgeiknmjaa.Purse
open Go.RowKit Go.Proofs.Ytlgeckgeiknmjaa.Sha Go.Proofs.Ytlgeckgeiknmjaa.Num

section
variable {w : World} {F : List Nat} {p : Nat} {s : PS}
set_option maxHeartbeats 1000000 in
theorem rgive_any (i a n : Int) (h : Pr w F p s) : Calls Try.prog 12 #[.pointer (some ⟨p, 0, none⟩), .int .i64 i, .int .i64 a, .int .i64 n] w (StepPost (fun w' F' s' => Pr w' F' p s') w F (giveP s i a n)) := by
  have P := Kept.mk (ris_any h i a)
  have T := Kept.mk (rtotal_any h a)
  have M := Kept.mk (ramount_any n w)
  have H := Kept.mk h
  clear h
  cases hp : (isP s i && isA s a) with
  | false =>
    rw [hp] at P
    rw [give_no (.inl (by unfold fitB; rw [hp]; rfl))]
    clear hp
    go_enter Try.func12, Try.ntmps12
    go_wp2_with (first | (go_at_call 29; refine P.out.mono ?_; rintro e w' ⟨rfl, rfl⟩) | (go_at_call 30; refine M.out.mono ?_; rintro e w' ⟨rfl, rfl⟩) | (go_at_call 20; refine T.out.mono ?_; rintro e w' ⟨rfl, rfl⟩))
    go_ret
    exact ⟨rfl, F, H.out, Fp.refl _ _⟩
  | true =>
    rw [hp] at P
    cases hm : amtB n with
    | false =>
      rw [hm] at M
      rw [give_no (.inl (by unfold fitB; rw [hp, hm]; rfl))]
      clear hp hm
      go_enter Try.func12, Try.ntmps12
      go_wp2_with (first | (go_at_call 29; refine P.out.mono ?_; rintro e w' ⟨rfl, rfl⟩) | (go_at_call 30; refine M.out.mono ?_; rintro e w' ⟨rfl, rfl⟩) | (go_at_call 20; refine T.out.mono ?_; rintro e w' ⟨rfl, rfl⟩))
      go_ret
      exact ⟨rfl, F, H.out, Fp.refl _ _⟩
    | true =>
      rw [hm] at M
      have hf : fitB s i a n = true := by unfold fitB; rw [hp, hm]; rfl
      clear hp hm
      obtain ⟨⟨k, rfl, hk⟩, ⟨b, rfl, hb⟩, n0, n1⟩ := fitB_iff.1 hf
      have t0 := H.out.1.tot0 hb
      have t1 := H.out.1.sum b hb
      rw [← totP_nat hb] at t0 t1
      by_cases ht : totP s b + n ≤ 4611686018427387904
      · have hw := giveP_wf H.out.1 (k : Int) (b : Int) n
        rw [give_yes hf ht] at hw ⊢
        have hv := H.out.1.le hk hb
        obtain ⟨g, c, R, C, x1, x2, x3, x4, hput⟩ := H.out.at_ hk hb
        have PUT := Kept.mk (hput (s.v k b + n) hw)
        have hs : s.v k b + n ≤ 4611686018427387904 := by
          have := le_tot (v := s.v) (a := b) hk (fun j hj => H.out.1.pos j b hj hb)
          rw [totP_nat hb] at ht
          omega
        have ht' : ¬ 4611686018427387904 - totP s b < n := by omega
        clear hf hput hw ht
        generalize s.v k b = x at *
        generalize totP s b = t at *
        go_enter Try.func12, Try.ntmps12
        go_wp2_with (first | (go_at_call 29; refine P.out.mono ?_; rintro e w' ⟨rfl, rfl⟩) | (go_at_call 30; refine M.out.mono ?_; rintro e w' ⟨rfl, rfl⟩) | (go_at_call 20; refine T.out.mono ?_; rintro e w' ⟨rfl, rfl⟩))
        go_ret
        exact ⟨rfl, F, PUT.out.1, PUT.out.2⟩
      · rw [give_no (.inr ht)]
        have ht' : 4611686018427387904 - totP s b < n := by omega
        clear hf ht
        generalize totP s b = t at *
        go_enter Try.func12, Try.ntmps12
        go_wp2_with (first | (go_at_call 29; refine P.out.mono ?_; rintro e w' ⟨rfl, rfl⟩) | (go_at_call 30; refine M.out.mono ?_; rintro e w' ⟨rfl, rfl⟩) | (go_at_call 20; refine T.out.mono ?_; rintro e w' ⟨rfl, rfl⟩))
        go_ret
        exact ⟨rfl, F, H.out, Fp.refl _ _⟩
set_option maxHeartbeats 1000000 in
theorem rtake_any (i a n : Int) (h : Pr w F p s) : Calls Try.prog 14 #[.pointer (some ⟨p, 0, none⟩), .int .i64 i, .int .i64 a, .int .i64 n] w (StepPost (fun w' F' s' => Pr w' F' p s') w F (takeP s i a n)) := by
  have P := Kept.mk (ris_any h i a)
  have M := Kept.mk (ramount_any n w)
  have H := Kept.mk h
  clear h
  cases hp : (isP s i && isA s a) with
  | false =>
    rw [hp] at P
    rw [take_no (by unfold fitB; rw [hp]; rfl)]
    clear hp
    go_enter Try.func14, Try.ntmps14
    go_wp2_with (first | (go_at_call 29; refine P.out.mono ?_; rintro e w' ⟨rfl, rfl⟩) | (go_at_call 30; refine M.out.mono ?_; rintro e w' ⟨rfl, rfl⟩))
    go_ret
    exact ⟨rfl, F, H.out, Fp.refl _ _⟩
  | true =>
    rw [hp] at P
    cases hm : amtB n with
    | false =>
      rw [hm] at M
      rw [take_no (by unfold fitB; rw [hp, hm]; rfl)]
      clear hp hm
      go_enter Try.func14, Try.ntmps14
      go_wp2_with (first | (go_at_call 29; refine P.out.mono ?_; rintro e w' ⟨rfl, rfl⟩) | (go_at_call 30; refine M.out.mono ?_; rintro e w' ⟨rfl, rfl⟩))
      go_ret
      exact ⟨rfl, F, H.out, Fp.refl _ _⟩
    | true =>
      rw [hm] at M
      have hf : fitB s i a n = true := by unfold fitB; rw [hp, hm]; rfl
      clear hp hm
      obtain ⟨⟨k, rfl, hk⟩, ⟨b, rfl, hb⟩, n0, n1⟩ := fitB_iff.1 hf
      have hv := H.out.1.le hk hb
      obtain ⟨g, c, R, C, x1, x2, x3, x4, hput⟩ := H.out.at_ hk hb
      by_cases ht : s.v k b < n
      · rw [take_less hf ht]
        clear hf hput
        generalize s.v k b = x at *
        go_enter Try.func14, Try.ntmps14
        go_wp2_with (first | (go_at_call 29; refine P.out.mono ?_; rintro e w' ⟨rfl, rfl⟩) | (go_at_call 30; refine M.out.mono ?_; rintro e w' ⟨rfl, rfl⟩))
        go_ret
        exact ⟨rfl, F, H.out, Fp.refl _ _⟩
      · have hw := takeP_wf H.out.1 (k : Int) (b : Int) n
        rw [take_yes hf ht] at hw ⊢
        have PUT := Kept.mk (hput (s.v k b - n) hw)
        clear hf hput hw
        generalize s.v k b = x at *
        go_enter Try.func14, Try.ntmps14
        go_wp2_with (first | (go_at_call 29; refine P.out.mono ?_; rintro e w' ⟨rfl, rfl⟩) | (go_at_call 30; refine M.out.mono ?_; rintro e w' ⟨rfl, rfl⟩))
        go_ret
        exact ⟨rfl, F, PUT.out.1, PUT.out.2⟩
set_option maxHeartbeats 1000000 in
theorem rmove_any (i j a n : Int) (h : Pr w F p s) : Calls Try.prog 16 #[.pointer (some ⟨p, 0, none⟩), .int .i64 i, .int .i64 j, .int .i64 a, .int .i64 n] w (StepPost (fun w' F' s' => Pr w' F' p s') w F (moveP s i j a n)) := by
  have P := Kept.mk (ris_any h i a)
  have Q := Kept.mk (ris_any h j a)
  have M := Kept.mk (ramount_any n w)
  have H := Kept.mk h
  have PQ := Kept.mk (And.intro P.out Q.out)
  clear h P Q
  have Bad : (isP s i && isA s a) = false ∨ (isP s j && isA s a) = false ∨ amtB n = false → moveP s i j a n = (1, s) := by
    intro hb
    refine move_no ?_
    unfold fitB
    cases h1 : isP s i <;> cases h2 : isA s a <;> cases h3 : isP s j <;> cases h4 : amtB n <;> simp [h1, h2, h3, h4] at hb ⊢
  have P := Kept.mk PQ.out.1
  have Q := Kept.mk PQ.out.2
  clear PQ
  cases hp : (isP s i && isA s a) with
  | false =>
    rw [hp] at P
    rw [Bad (.inl hp)]
    clear hp Bad
    go_enter Try.func16, Try.ntmps16
    go_wp2_with (first | (go_at_call 29; (with_reducible refine P.out.mono ?_); rintro e w' ⟨rfl, rfl⟩) | (go_at_call 29; (with_reducible refine Q.out.mono ?_); rintro e w' ⟨rfl, rfl⟩) | (go_at_call 30; (with_reducible refine M.out.mono ?_); rintro e w' ⟨rfl, rfl⟩))
    go_ret
    exact ⟨rfl, F, H.out, Fp.refl _ _⟩
  | true =>
    rw [hp] at P
    cases hq : (isP s j && isA s a) with
    | false =>
      rw [hq] at Q
      rw [Bad (.inr (.inl hq))]
      clear hp hq Bad
      go_enter Try.func16, Try.ntmps16
      go_wp2_with (first | (go_at_call 29; (with_reducible refine P.out.mono ?_); rintro e w' ⟨rfl, rfl⟩) | (go_at_call 29; (with_reducible refine Q.out.mono ?_); rintro e w' ⟨rfl, rfl⟩) | (go_at_call 30; (with_reducible refine M.out.mono ?_); rintro e w' ⟨rfl, rfl⟩))
      go_ret
      exact ⟨rfl, F, H.out, Fp.refl _ _⟩
    | true =>
      rw [hq] at Q
      cases hm : amtB n with
      | false =>
        rw [hm] at M
        rw [Bad (.inr (.inr hm))]
        clear hp hq hm Bad
        go_enter Try.func16, Try.ntmps16
        go_wp2_with (first | (go_at_call 29; (with_reducible refine P.out.mono ?_); rintro e w' ⟨rfl, rfl⟩) | (go_at_call 29; (with_reducible refine Q.out.mono ?_); rintro e w' ⟨rfl, rfl⟩) | (go_at_call 30; (with_reducible refine M.out.mono ?_); rintro e w' ⟨rfl, rfl⟩))
        go_ret
        exact ⟨rfl, F, H.out, Fp.refl _ _⟩
      | true =>
        rw [hm] at M
        have hf : fitB s i a n = true := by unfold fitB; rw [hp, hm]; rfl
        rw [Bool.and_eq_true] at hq
        have hj := hq.1
        clear hp hq hm Bad
        by_cases hij : i = j
        · subst hij
          rw [move_same hf hj]
          clear hf hj Q
          go_enter Try.func16, Try.ntmps16
          go_wp2_with (first | (go_at_call 29; (with_reducible refine P.out.mono ?_); rintro e w' ⟨rfl, rfl⟩) | (go_at_call 30; (with_reducible refine M.out.mono ?_); rintro e w' ⟨rfl, rfl⟩))
          go_ret
          exact ⟨rfl, F, H.out, Fp.refl _ _⟩
        · obtain ⟨⟨k, rfl, hk⟩, ⟨b, rfl, hb⟩, n0, n1⟩ := fitB_iff.1 hf
          obtain ⟨q, rfl, hq⟩ := isP_nat hj
          have hv := H.out.1.le hk hb
          obtain ⟨g, c, R, C, x1, x2, x3, x4, hput⟩ := H.out.at_ hk hb
          by_cases ht : s.v k b < n
          · rw [move_less hf hj hij ht]
            clear hf hj hput
            generalize s.v k b = x at *
            go_enter Try.func16, Try.ntmps16
            go_wp2_with (first | (go_at_call 29; (with_reducible refine P.out.mono ?_); rintro e w' ⟨rfl, rfl⟩) | (go_at_call 29; (with_reducible refine Q.out.mono ?_); rintro e w' ⟨rfl, rfl⟩) | (go_at_call 30; (with_reducible refine M.out.mono ?_); rintro e w' ⟨rfl, rfl⟩))
            go_ret
            exact ⟨rfl, F, H.out, Fp.refl _ _⟩
          · have hw := moveP_wf H.out.1 (k : Int) (q : Int) (b : Int) n
            have hw1 := takeP_wf H.out.1 (k : Int) (b : Int) n
            rw [move_yes hf hj hij ht] at hw ⊢
            rw [take_yes hf ht] at hw1
            obtain ⟨h1, f1⟩ := hput (s.v k b - n) hw1
            have hv2 := H.out.1.le hq hb
            have hs : s.v q b + n ≤ 4611686018427387904 := by
              have := two_tot (v := s.v) (a := b) hk hq (by omega) (fun j hj => H.out.1.pos j b hj hb)
              have := H.out.1.sum b hb
              omega
            obtain ⟨g2, c2, R2, C2, y1, y2, y3, y4, hput2⟩ := h1.at_ (i := q) (a := b) hq hb
            rw [put_v, upd_other _ _ _ _ (by omega)] at y3
            obtain ⟨h2, f2⟩ := hput2 (s.v q b + n) hw
            have PUT := Kept.mk (And.intro h2 (f1.trans f2))
            rw [put_np] at y1
            rw [put_na] at y2
            obtain ⟨x, hx⟩ : ∃ x, s.v k b = x := ⟨_, rfl⟩
            obtain ⟨y, hy⟩ : ∃ y, s.v q b = y := ⟨_, rfl⟩
            rw [hy] at y3 hs hv2 PUT
            rw [hx] at x3 hv ht y1 y2 y3 y4 PUT
            rw [hx, hy]
            clear hput hput2 hw hw1 h1 h2 f1 f2 hf hj hx hy
            have Y := Kept.mk (And.intro y1 (And.intro y2 (And.intro y3 y4)))
            clear y1 y2 y3 y4
            go_enter Try.func16, Try.ntmps16
            go_upto_region 8 with (first | (go_at_call 29; (with_reducible refine P.out.mono ?_); rintro e w' ⟨rfl, rfl⟩) | (go_at_call 29; (with_reducible refine Q.out.mono ?_); rintro e w' ⟨rfl, rfl⟩) | (go_at_call 30; (with_reducible refine M.out.mono ?_); rintro e w' ⟨rfl, rfl⟩))
            obtain ⟨y1, y2, y3, y4⟩ := Y.out
            go_wp2
            go_ret
            exact ⟨rfl, F, PUT.out.1, PUT.out.2⟩
end
end Go.Proofs.Ytlgeckgeiknmjaa.Purse
