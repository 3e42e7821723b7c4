/-
  The law PurseBack, walked.
-/
import Derived.Test.YtlgeckgeiknmjaaPurseSum
import Derived.Test.YtlgeckgeiknmjaaPurseFew
import Derived.Test.YtlgeckgeiknmjaaPurseBackSpec
namespace Go.Proofs.Ytlgeckgeiknmjaa.Purse
open Go.RowKit Go.Proofs.Ytlgeckgeiknmjaa.Sha Go.Proofs.Ytlgeckgeiknmjaa.Num

set_option maxRecDepth 100000 in
set_option maxHeartbeats 2000000 in
theorem back_walk (A : Option Addr) (len cap : Nat) (X : Nat → List Int) (i j a n : Int) (w : World) (hr : Rwi w A len X) (hlen : len ≤ 9223372036854775807) : Calls Try.prog 5 #[.slice A len cap, .int .i64 i, .int .i64 j, .int .i64 a, .int .i64 n] w (Holds w) := by
  have HR := Kept.mk hr
  clear hr
  go_enter Try.func5, Try.ntmps5
  go_wp2_with fail
  refine (first_any w).mono ?_
  rintro e w1 ⟨rfl, b1⟩
  have B := Kept.mk b1
  have FW := Kept.mk (few_any A len cap X w1 (HR.out.below b1) hlen)
  have N1 := Kept.mk (new_any A len cap X w1 (HR.out.below b1))
  clear b1
  go_wp2_with fail
  refine FW.out.mono ?_
  rintro e w2 ⟨t, rfl, ht, rfl⟩
  cases t with
  | false =>
    go_wp2_with fail
    refine (first_any w1).mono ?_
    rintro e w3 ⟨rfl, b3⟩
    replace B := step_below B b3
    go_wp2
    go_ret
    exact ⟨rfl, B.out⟩
  | true =>
    clear ht FW
    go_wp2_with fail
    refine N1.out.mono ?_
    rintro e w2 (⟨-, rfl, b2⟩ | ⟨-, p, F, rfl, hp, fp⟩)
    · replace B := step_below B b2
      clear N1 b2
      go_wp2_with fail
      refine (first_any w2).mono ?_
      rintro e w3 ⟨rfl, b3⟩
      replace B := step_below B b3
      go_wp2
      go_ret
      exact ⟨rfl, B.out⟩
    · obtain ⟨B, L⟩ := step_fp B fp (none_least _)
      clear N1 fp
      have hwf := hp.1
      have P := Kept.mk hp
      have p16 := Kept.mk hwf.p16
      clear hp
      have TC := take_cases hwf i a n
      have MC := Kept.mk (move_cases hwf i j a n)
      generalize newP len X = s at *
      obtain ⟨x, hx⟩ : ∃ x, hasP s i a = x := ⟨_, rfl⟩
      obtain ⟨y, hy⟩ : ∃ y, hasP s j a = y := ⟨_, rfl⟩
      have HX := Kept.mk hx
      have HY := Kept.mk hy
      rw [hx] at TC
      rw [hx, hy] at MC
      clear hwf hx hy
      have X1 := Kept.mk (has_any P.out i a)
      have Y1 := Kept.mk (has_any P.out j a)
      rw [HX.out] at X1
      rw [HY.out] at Y1
      go_upto_region 9 with (first | (go_at_call 17; (with_reducible refine X1.out.mono ?_); rintro e w' ⟨rfl, rfl⟩) | (go_at_call 17; (with_reducible refine Y1.out.mono ?_); rintro e w' ⟨rfl, rfl⟩))
      clear X1 Y1
      -- THE WAYS
      have GN : Kept (giveP s (-1) 0 0 = (1, s)) := ⟨give_no (.inl (by unfold fitB isP; rw [decide_eq_false (by omega)]; rfl))⟩
      have HZ : Kept (hasP s 100 0 = 0) := ⟨by have := p16.out; unfold hasP isP; rw [decide_eq_false (by omega)]; rfl⟩
      rcases TC with ⟨f, hf, ht⟩ | ⟨s1, ht, h1, h2, n0, n1, n2⟩
      · have T1 := Kept.mk (take_any i a n P.out)
        rw [ht] at T1
        clear ht
        go_wp2_with fail
        refine T1.out.mono ?_
        rintro e w4 ⟨rfl, F4, hp, fp⟩
        obtain ⟨B, L⟩ := step_fp B fp L
        go_upto_region 11 with (fail)
        clear T1 hf
        have P := Kept.mk hp
        clear hp fp
        rcases MC.out with ⟨f, hf, hm⟩ | ⟨s2, hm, h1, h2, h3, hij, n0, n1, n2, y0, y1⟩
        · have M1 := Kept.mk (move_any i j a n P.out)
          rw [hm] at M1
          clear hm
          go_wp2_with fail
          refine M1.out.mono ?_
          rintro e w6 ⟨rfl, F6, hp, fp⟩
          obtain ⟨B, L⟩ := step_fp B fp L
          have P := Kept.mk hp
          clear hp fp M1
          go_wp2_with fail
          refine (first_any _).mono ?_
          rintro e w8 ⟨rfl, b8⟩
          replace B := step_below B b8
          replace P := Pc.below P b8
          clear b8
          have X3 := Kept.mk (has_any P.out i a)
          have Y3 := Kept.mk (has_any P.out j a)
          rw [HX.out] at X3
          rw [HY.out] at Y3
          have G3 := Kept.mk (give_any (-1) 0 0 P.out)
          rw [GN.out] at G3
          go_wp2_with (first | (go_at_call 17; (with_reducible refine X3.out.mono ?_); rintro e w' ⟨rfl, rfl⟩) | (go_at_call 17; (with_reducible refine Y3.out.mono ?_); rintro e w' ⟨rfl, rfl⟩))
          refine G3.out.mono ?_
          rintro e w9 ⟨rfl, F9, hp, fp⟩
          obtain ⟨B, L⟩ := step_fp B fp L
          have Z3 := Kept.mk (has_any hp 100 0)
          rw [HZ.out] at Z3
          clear hp fp G3 X3 Y3
          go_wp2_with (go_at_call 17; refine Z3.out.mono ?_; rintro e w' ⟨rfl, rfl⟩)
          go_ret
          exact ⟨rfl, B.out⟩
        · have M1 := Kept.mk (move_any i j a n P.out)
          rw [hm] at M1
          have H1 := Kept.mk h1; have H2 := Kept.mk h2; have H3 := Kept.mk h3
          have hijb : (i != j) = true := by simpa using hij
          clear hm h1 h2 h3 hij
          go_wp2_with fail
          refine M1.out.mono ?_
          rintro e w6 ⟨rfl, F6, hp, fp⟩
          obtain ⟨B, L⟩ := step_fp B fp L
          have X2 := Kept.mk (has_any hp i a)
          have Y2 := Kept.mk (has_any hp j a)
          have M2 := Kept.mk (move_any j i a n hp)
          rw [H1.out] at X2
          rw [H2.out] at Y2
          rw [H3.out] at M2
          clear hp fp M1 H1 H2 H3
          go_wp2_with (first | (go_at_call 17; (with_reducible refine X2.out.mono ?_); rintro e w' ⟨rfl, rfl⟩) | (go_at_call 17; (with_reducible refine Y2.out.mono ?_); rintro e w' ⟨rfl, rfl⟩))
          refine M2.out.mono ?_
          rintro e w7 ⟨rfl, F7, hp, fp⟩
          obtain ⟨B, L⟩ := step_fp B fp L
          have P := Kept.mk hp
          clear hp fp M2 X2 Y2
          go_wp2_with fail
          refine (first_any _).mono ?_
          rintro e w8 ⟨rfl, b8⟩
          replace B := step_below B b8
          replace P := Pc.below P b8
          clear b8
          have X3 := Kept.mk (has_any P.out i a)
          have Y3 := Kept.mk (has_any P.out j a)
          rw [HX.out] at X3
          rw [HY.out] at Y3
          have G3 := Kept.mk (give_any (-1) 0 0 P.out)
          rw [GN.out] at G3
          go_wp2_with (first | (go_at_call 17; (with_reducible refine X3.out.mono ?_); rintro e w' ⟨rfl, rfl⟩) | (go_at_call 17; (with_reducible refine Y3.out.mono ?_); rintro e w' ⟨rfl, rfl⟩))
          refine G3.out.mono ?_
          rintro e w9 ⟨rfl, F9, hp, fp⟩
          obtain ⟨B, L⟩ := step_fp B fp L
          have Z3 := Kept.mk (has_any hp 100 0)
          rw [HZ.out] at Z3
          clear hp fp G3 X3 Y3
          go_wp2_with (go_at_call 17; refine Z3.out.mono ?_; rintro e w' ⟨rfl, rfl⟩)
          go_ret
          exact ⟨rfl, B.out⟩
      · have T1 := Kept.mk (take_any i a n P.out)
        rw [ht] at T1
        have H1 := Kept.mk h1; have H2 := Kept.mk h2
        clear ht h1 h2
        go_wp2_with fail
        refine T1.out.mono ?_
        rintro e w4 ⟨rfl, F4, hp, fp⟩
        obtain ⟨B, L⟩ := step_fp B fp L
        have X2 := Kept.mk (has_any hp i a)
        have G2 := Kept.mk (give_any i a n hp)
        rw [H1.out] at X2
        rw [H2.out] at G2
        clear hp fp T1 H1 H2
        go_wp2_with (go_at_call 17; refine X2.out.mono ?_; rintro e w' ⟨rfl, rfl⟩)
        refine G2.out.mono ?_
        rintro e w5 ⟨rfl, F5, hp, fp⟩
        obtain ⟨B, L⟩ := step_fp B fp L
        go_upto_region 11 with (fail)
        clear G2 X2 n0 n1 n2
        have P := Kept.mk hp
        clear hp fp
        rcases MC.out with ⟨f, hf, hm⟩ | ⟨s2, hm, h1, h2, h3, hij, n0, n1, n2, y0, y1⟩
        · have M1 := Kept.mk (move_any i j a n P.out)
          rw [hm] at M1
          clear hm
          go_wp2_with fail
          refine M1.out.mono ?_
          rintro e w6 ⟨rfl, F6, hp, fp⟩
          obtain ⟨B, L⟩ := step_fp B fp L
          have P := Kept.mk hp
          clear hp fp M1
          go_wp2_with fail
          refine (first_any _).mono ?_
          rintro e w8 ⟨rfl, b8⟩
          replace B := step_below B b8
          replace P := Pc.below P b8
          clear b8
          have X3 := Kept.mk (has_any P.out i a)
          have Y3 := Kept.mk (has_any P.out j a)
          rw [HX.out] at X3
          rw [HY.out] at Y3
          have G3 := Kept.mk (give_any (-1) 0 0 P.out)
          rw [GN.out] at G3
          go_wp2_with (first | (go_at_call 17; (with_reducible refine X3.out.mono ?_); rintro e w' ⟨rfl, rfl⟩) | (go_at_call 17; (with_reducible refine Y3.out.mono ?_); rintro e w' ⟨rfl, rfl⟩))
          refine G3.out.mono ?_
          rintro e w9 ⟨rfl, F9, hp, fp⟩
          obtain ⟨B, L⟩ := step_fp B fp L
          have Z3 := Kept.mk (has_any hp 100 0)
          rw [HZ.out] at Z3
          clear hp fp G3 X3 Y3
          go_wp2_with (go_at_call 17; refine Z3.out.mono ?_; rintro e w' ⟨rfl, rfl⟩)
          go_ret
          exact ⟨rfl, B.out⟩
        · have M1 := Kept.mk (move_any i j a n P.out)
          rw [hm] at M1
          have H1 := Kept.mk h1; have H2 := Kept.mk h2; have H3 := Kept.mk h3
          have hijb : (i != j) = true := by simpa using hij
          clear hm h1 h2 h3 hij
          go_wp2_with fail
          refine M1.out.mono ?_
          rintro e w6 ⟨rfl, F6, hp, fp⟩
          obtain ⟨B, L⟩ := step_fp B fp L
          have X2 := Kept.mk (has_any hp i a)
          have Y2 := Kept.mk (has_any hp j a)
          have M2 := Kept.mk (move_any j i a n hp)
          rw [H1.out] at X2
          rw [H2.out] at Y2
          rw [H3.out] at M2
          clear hp fp M1 H1 H2 H3
          go_wp2_with (first | (go_at_call 17; (with_reducible refine X2.out.mono ?_); rintro e w' ⟨rfl, rfl⟩) | (go_at_call 17; (with_reducible refine Y2.out.mono ?_); rintro e w' ⟨rfl, rfl⟩))
          refine M2.out.mono ?_
          rintro e w7 ⟨rfl, F7, hp, fp⟩
          obtain ⟨B, L⟩ := step_fp B fp L
          have P := Kept.mk hp
          clear hp fp M2 X2 Y2
          go_wp2_with fail
          refine (first_any _).mono ?_
          rintro e w8 ⟨rfl, b8⟩
          replace B := step_below B b8
          replace P := Pc.below P b8
          clear b8
          have X3 := Kept.mk (has_any P.out i a)
          have Y3 := Kept.mk (has_any P.out j a)
          rw [HX.out] at X3
          rw [HY.out] at Y3
          have G3 := Kept.mk (give_any (-1) 0 0 P.out)
          rw [GN.out] at G3
          go_wp2_with (first | (go_at_call 17; (with_reducible refine X3.out.mono ?_); rintro e w' ⟨rfl, rfl⟩) | (go_at_call 17; (with_reducible refine Y3.out.mono ?_); rintro e w' ⟨rfl, rfl⟩))
          refine G3.out.mono ?_
          rintro e w9 ⟨rfl, F9, hp, fp⟩
          obtain ⟨B, L⟩ := step_fp B fp L
          have Z3 := Kept.mk (has_any hp 100 0)
          rw [HZ.out] at Z3
          clear hp fp G3 X3 Y3
          go_wp2_with (go_at_call 17; refine Z3.out.mono ?_; rintro e w' ⟨rfl, rfl⟩)
          go_ret
          exact ⟨rfl, B.out⟩
end Go.Proofs.Ytlgeckgeiknmjaa.Purse
