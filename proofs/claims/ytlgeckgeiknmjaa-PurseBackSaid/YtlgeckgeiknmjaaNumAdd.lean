/-
  num.Add, in any seat that has it.
-/
import Derived.Test.YtlgeckgeiknmjaaNumMath
import Derived.Test.YtlgeckgeiknmjaaNumAmt
import Derived.Test.YtlgeckgeiknmjaaChecked
import Derived.WalkKit
import Derived.WalkSpells
import Derived.WalkLawsBesides
import Derived.OpenShut
import Derived.Lib.Hide
import Derived.ProofKit
namespace Go.Proofs.Ytlgeckgeiknmjaa.Num
open Go.RowKit

set_option maxHeartbeats 400000 in
theorem amounts_any (a b : Int) (w : World) : Calls Try.prog 36 #[.int .i64 a, .int .i64 b] w fun e w' => e = .returned (.bool (amtB a && amtB b)) ∧ w = w' := by
  cases ha : amtB a
  · go_enter Try.func36, Try.ntmps36
    go_wp2_with (go_at_call 35; refine (amount_any _ _).mono ?_; rintro e w' ⟨rfl, rfl⟩)
    go_ret
    exact ⟨rfl, rfl⟩
  · go_enter Try.func36, Try.ntmps36
    go_wp2_with (go_at_call 35; refine (amount_any _ _).mono ?_; rintro e w' ⟨rfl, rfl⟩)
    go_ret
    exact ⟨rfl, rfl⟩
set_option maxHeartbeats 400000 in
theorem add_any (a b : Int) (w : World) : Calls Try.prog 28 #[.int .i64 a, .int .i64 b] w fun e w' => e = .returned (.tuple #[.int .i64 (addN a b), .int .i64 (addE a b)]) ∧ w = w' := by
  cases ha : amtB a && amtB b
  · have hn : addB a b = false := by unfold addB; rw [ha]; rfl
    obtain ⟨e1, e2⟩ := add_not hn
    rw [e1, e2]
    clear e1 e2 hn
    go_enter Try.func28, Try.ntmps28
    go_wp2_with (go_at_call 36; refine (amounts_any _ _ _).mono ?_; rintro e w' ⟨rfl, rfl⟩)
    go_ret2
    exact ⟨rfl, rfl⟩
  · have hb := ha
    rw [Bool.and_eq_true, amt_iff, amt_iff] at hb
    obtain ⟨⟨a0, a1⟩, b0, b1⟩ := hb
    by_cases hs : a + b ≤ 4611686018427387904
    · obtain ⟨e1, e2⟩ := add_at (add_iff.2 ⟨a0, b0, hs⟩)
      rw [e1, e2]
      clear e1 e2
      have ht : ¬ (4611686018427387904 - b < a) := by omega
      go_enter Try.func28, Try.ntmps28
      go_wp2_with (go_at_call 36; refine (amounts_any _ _ _).mono ?_; rintro e w' ⟨rfl, rfl⟩)
      go_ret2
      exact ⟨rfl, rfl⟩
    · obtain ⟨e1, e2⟩ := add_not (bool_false (add_iff (a := a) (b := b)) (by omega))
      rw [e1, e2]
      clear e1 e2
      have ht : 4611686018427387904 - b < a := by omega
      go_enter Try.func28, Try.ntmps28
      go_wp2_with (go_at_call 36; refine (amounts_any _ _ _).mono ?_; rintro e w' ⟨rfl, rfl⟩)
      go_ret2
      exact ⟨rfl, rfl⟩
theorem add_yes (a b : Int) (w : World) (h : addB a b = true) : Calls Try.prog 28 #[.int .i64 a, .int .i64 b] w fun e w' => e = .returned (.tuple #[.int .i64 (a + b), .int .i64 0]) ∧ w = w' := by
  have := add_any a b w; rwa [(add_at h).1, (add_at h).2] at this
theorem add_no (a b : Int) (w : World) (h : addB a b = false) : Calls Try.prog 28 #[.int .i64 a, .int .i64 b] w fun e w' => e = .returned (.tuple #[.int .i64 0, .int .i64 1]) ∧ w = w' := by
  have := add_any a b w; rwa [(add_not h).1, (add_not h).2] at this
end Go.Proofs.Ytlgeckgeiknmjaa.Num
