/-
  Package trade: May.
-/
import Derived.Test.YthhjmbbfibgjpaaTradeMem
import Derived.Test.YthhjmbbfibgjpaaNumAmt
import Derived.Lib.Hide
import Derived.OpenShut
import Derived.ProofKit
namespace Go.Proofs.Ythhjmbbfibgjpaa.Trade
open Go.RowKit Go.Proofs.Ythhjmbbfibgjpaa.Sha Go.Proofs.Ythhjmbbfibgjpaa.Num

set_option maxHeartbeats 400000 in
theorem below_any {n m : Int} {r : Bool} (h : belowB n m = r) (w : World) : Calls Try.prog 24 #[.int .i64 n, .int .i64 m] w fun e w' => e = .returned (.bool r) ∧ w = w' := by
  subst h
  by_cases h0 : 0 ≤ n
  · by_cases h1 : n < m
    · have e : belowB n m = true := decide_eq_true ⟨h0, h1⟩
      rw [e]
      go_enter Try.func24, Try.ntmps24
      go_wp2
      go_ret
      exact ⟨rfl, rfl⟩
    · have e : belowB n m = false := decide_eq_false (fun h => h1 h.2)
      rw [e]
      go_enter Try.func24, Try.ntmps24
      go_wp2
      go_ret
      exact ⟨rfl, rfl⟩
  · have e : belowB n m = false := decide_eq_false (fun h => h0 h.1)
    rw [e]
    go_enter Try.func24, Try.ntmps24
    go_wp2
    go_ret
    exact ⟨rfl, rfl⟩
set_option maxHeartbeats 400000 in
theorem some_any {n : Int} {r : Bool} (h : someB n = r) (w : World) : Calls Try.prog 25 #[.int .i64 n] w fun e w' => e = .returned (.bool r) ∧ w = w' := by
  subst h
  have CA := Kept.mk (amount_any n)
  by_cases h1 : amtB n = true
  · rw [h1] at CA
    have hn : 0 ≤ n ∧ n ≤ 4611686018427387904 := by simpa [amtB] using h1
    by_cases h0 : 0 < n
    · have e : someB n = true := decide_eq_true ⟨h0, hn.2⟩
      rw [e]
      clear h1
      go_enter Try.func25, Try.ntmps25
      go_wp2_with fail
      refine (CA.out _).mono ?_
      rintro e w1 ⟨rfl, rfl⟩
      go_wp2
      go_ret
      exact ⟨rfl, rfl⟩
    · have e : someB n = false := decide_eq_false (fun h => h0 h.1)
      rw [e]
      clear h1
      go_enter Try.func25, Try.ntmps25
      go_wp2_with fail
      refine (CA.out _).mono ?_
      rintro e w1 ⟨rfl, rfl⟩
      go_wp2
      go_ret
      exact ⟨by simp [h0], rfl⟩
  · have h2 : amtB n = false := by simpa using h1
    rw [h2] at CA
    have e : someB n = false := decide_eq_false (fun h => h1 (by simp [amtB]; omega))
    rw [e]
    clear h1 h2
    go_enter Try.func25, Try.ntmps25
    go_wp2_with fail
    refine (CA.out _).mono ?_
    rintro e w1 ⟨rfl, rfl⟩
    go_wp2
    go_ret
    exact ⟨rfl, rfl⟩
set_option maxRecDepth 100000 in
set_option maxHeartbeats 2000000 in
theorem may_any (t : TV) (p c a : Int) (w : World) : Calls Try.prog 10 #[tvV t, .int .i64 p, .int .i64 c, .int .i64 a] w fun e w' => e = .returned (.int .i64 (mayE t p c a)) ∧ Below w.heap.size w w' := by
  obtain ⟨t1, t2, t3, t4, t5, t6, t7⟩ := t
  unfold tvV
  dsimp only
  cases h0 : belowB t1 65536 with
  | false =>
    have e : mayE ⟨t1, t2, t3, t4, t5, t6, t7⟩ p c a = 1 := by simp [mayE, okT, h0]
    rw [e]
    go_enter Try.func10, Try.ntmps10
    go_wp2_with fail
    refine (below_any h0 _).mono ?_
    rintro e z ⟨rfl, rfl⟩
    go_wp2
    go_ret
    exact ⟨rfl, (Below.refl _ _).alloc (Nat.le_refl _) _⟩
  | true =>
    cases h1 : belowB t2 p with
    | false =>
      have e : mayE ⟨t1, t2, t3, t4, t5, t6, t7⟩ p c a = 1 := by simp [mayE, okT, h0, h1]
      rw [e]
      go_enter Try.func10, Try.ntmps10
      go_wp2_with fail
      refine (below_any h0 _).mono ?_
      rintro e z ⟨rfl, rfl⟩
      go_wp2_with fail
      refine (below_any h1 _).mono ?_
      rintro e z ⟨rfl, rfl⟩
      go_wp2
      go_ret
      exact ⟨rfl, (Below.refl _ _).alloc (Nat.le_refl _) _⟩
    | true =>
      cases h2 : belowB t3 p with
      | false =>
        have e : mayE ⟨t1, t2, t3, t4, t5, t6, t7⟩ p c a = 1 := by simp [mayE, okT, h0, h1, h2]
        rw [e]
        go_enter Try.func10, Try.ntmps10
        go_wp2_with fail
        refine (below_any h0 _).mono ?_
        rintro e z ⟨rfl, rfl⟩
        go_wp2_with fail
        refine (below_any h1 _).mono ?_
        rintro e z ⟨rfl, rfl⟩
        go_wp2_with fail
        refine (below_any h2 _).mono ?_
        rintro e z ⟨rfl, rfl⟩
        go_wp2
        go_ret
        exact ⟨rfl, (Below.refl _ _).alloc (Nat.le_refl _) _⟩
      | true =>
        cases h3 : belowB t4 c with
        | false =>
          have e : mayE ⟨t1, t2, t3, t4, t5, t6, t7⟩ p c a = 1 := by simp [mayE, okT, h0, h1, h2, h3]
          rw [e]
          go_enter Try.func10, Try.ntmps10
          go_wp2_with fail
          refine (below_any h0 _).mono ?_
          rintro e z ⟨rfl, rfl⟩
          go_wp2_with fail
          refine (below_any h1 _).mono ?_
          rintro e z ⟨rfl, rfl⟩
          go_wp2_with fail
          refine (below_any h2 _).mono ?_
          rintro e z ⟨rfl, rfl⟩
          go_wp2_with fail
          refine (below_any h3 _).mono ?_
          rintro e z ⟨rfl, rfl⟩
          go_wp2
          go_ret
          exact ⟨rfl, (Below.refl _ _).alloc (Nat.le_refl _) _⟩
        | true =>
          cases h4 : belowB t6 a with
          | false =>
            have e : mayE ⟨t1, t2, t3, t4, t5, t6, t7⟩ p c a = 1 := by simp [mayE, okT, h0, h1, h2, h3, h4]
            rw [e]
            go_enter Try.func10, Try.ntmps10
            go_wp2_with fail
            refine (below_any h0 _).mono ?_
            rintro e z ⟨rfl, rfl⟩
            go_wp2_with fail
            refine (below_any h1 _).mono ?_
            rintro e z ⟨rfl, rfl⟩
            go_wp2_with fail
            refine (below_any h2 _).mono ?_
            rintro e z ⟨rfl, rfl⟩
            go_wp2_with fail
            refine (below_any h3 _).mono ?_
            rintro e z ⟨rfl, rfl⟩
            go_wp2_with fail
            refine (below_any h4 _).mono ?_
            rintro e z ⟨rfl, rfl⟩
            go_wp2
            go_ret
            exact ⟨rfl, (Below.refl _ _).alloc (Nat.le_refl _) _⟩
          | true =>
            cases h5 : someB t5 with
            | false =>
              have e : mayE ⟨t1, t2, t3, t4, t5, t6, t7⟩ p c a = 1 := by simp [mayE, okT, h0, h1, h2, h3, h4, h5]
              rw [e]
              go_enter Try.func10, Try.ntmps10
              go_wp2_with fail
              refine (below_any h0 _).mono ?_
              rintro e z ⟨rfl, rfl⟩
              go_wp2_with fail
              refine (below_any h1 _).mono ?_
              rintro e z ⟨rfl, rfl⟩
              go_wp2_with fail
              refine (below_any h2 _).mono ?_
              rintro e z ⟨rfl, rfl⟩
              go_wp2_with fail
              refine (below_any h3 _).mono ?_
              rintro e z ⟨rfl, rfl⟩
              go_wp2_with fail
              refine (below_any h4 _).mono ?_
              rintro e z ⟨rfl, rfl⟩
              go_wp2_with fail
              refine (some_any h5 _).mono ?_
              rintro e z ⟨rfl, rfl⟩
              go_wp2
              go_ret
              exact ⟨rfl, (Below.refl _ _).alloc (Nat.le_refl _) _⟩
            | true =>
              cases h6 : someB t7 with
              | false =>
                have e : mayE ⟨t1, t2, t3, t4, t5, t6, t7⟩ p c a = 1 := by simp [mayE, okT, h0, h1, h2, h3, h4, h5, h6]
                rw [e]
                go_enter Try.func10, Try.ntmps10
                go_wp2_with fail
                refine (below_any h0 _).mono ?_
                rintro e z ⟨rfl, rfl⟩
                go_wp2_with fail
                refine (below_any h1 _).mono ?_
                rintro e z ⟨rfl, rfl⟩
                go_wp2_with fail
                refine (below_any h2 _).mono ?_
                rintro e z ⟨rfl, rfl⟩
                go_wp2_with fail
                refine (below_any h3 _).mono ?_
                rintro e z ⟨rfl, rfl⟩
                go_wp2_with fail
                refine (below_any h4 _).mono ?_
                rintro e z ⟨rfl, rfl⟩
                go_wp2_with fail
                refine (some_any h5 _).mono ?_
                rintro e z ⟨rfl, rfl⟩
                go_wp2_with fail
                refine (some_any h6 _).mono ?_
                rintro e z ⟨rfl, rfl⟩
                go_wp2
                go_ret
                exact ⟨rfl, (Below.refl _ _).alloc (Nat.le_refl _) _⟩
              | true =>
                by_cases hbs : t2 = t3
                · subst hbs
                  have e : mayE ⟨t1, t2, t2, t4, t5, t6, t7⟩ p c a = 14 := by simp [mayE, okT, h0, h1, h3, h4, h5, h6]
                  rw [e]
                  go_enter Try.func10, Try.ntmps10
                  go_wp2_with fail
                  refine (below_any h0 _).mono ?_
                  rintro e z ⟨rfl, rfl⟩
                  go_wp2_with fail
                  refine (below_any h1 _).mono ?_
                  rintro e z ⟨rfl, rfl⟩
                  go_wp2_with fail
                  refine (below_any h2 _).mono ?_
                  rintro e z ⟨rfl, rfl⟩
                  go_wp2_with fail
                  refine (below_any h3 _).mono ?_
                  rintro e z ⟨rfl, rfl⟩
                  go_wp2_with fail
                  refine (below_any h4 _).mono ?_
                  rintro e z ⟨rfl, rfl⟩
                  go_wp2_with fail
                  refine (some_any h5 _).mono ?_
                  rintro e z ⟨rfl, rfl⟩
                  go_wp2_with fail
                  refine (some_any h6 _).mono ?_
                  rintro e z ⟨rfl, rfl⟩
                  go_wp2
                  go_ret
                  exact ⟨rfl, (Below.refl _ _).alloc (Nat.le_refl _) _⟩
                · have e : mayE ⟨t1, t2, t3, t4, t5, t6, t7⟩ p c a = 0 := by simp [mayE, okT, h0, h1, h2, h3, h4, h5, h6, hbs]
                  rw [e]
                  have hq : (t2 == t3) = false := by simpa using hbs
                  go_enter Try.func10, Try.ntmps10
                  go_wp2_with fail
                  refine (below_any h0 _).mono ?_
                  rintro e z ⟨rfl, rfl⟩
                  go_wp2_with fail
                  refine (below_any h1 _).mono ?_
                  rintro e z ⟨rfl, rfl⟩
                  go_wp2_with fail
                  refine (below_any h2 _).mono ?_
                  rintro e z ⟨rfl, rfl⟩
                  go_wp2_with fail
                  refine (below_any h3 _).mono ?_
                  rintro e z ⟨rfl, rfl⟩
                  go_wp2_with fail
                  refine (below_any h4 _).mono ?_
                  rintro e z ⟨rfl, rfl⟩
                  go_wp2_with fail
                  refine (some_any h5 _).mono ?_
                  rintro e z ⟨rfl, rfl⟩
                  go_wp2_with fail
                  refine (some_any h6 _).mono ?_
                  rintro e z ⟨rfl, rfl⟩
                  go_wp2
                  go_ret
                  exact ⟨rfl, (Below.refl _ _).alloc (Nat.le_refl _) _⟩
end Go.Proofs.Ythhjmbbfibgjpaa.Trade
