/-
  The document's own Add, in any seat that has it.
-/
import Derived.Test.YtlgeckgeiknmjaaNumMath
import Derived.Test.YtlgeckgeiknmjaaNumRAmt
import Derived.Test.YtlgeckgeiknmjaaChecked
import Derived.WalkKit
import Derived.WalkSpells
import Derived.WalkLawsBesides
import Derived.OpenShut
import Derived.Lib.Hide
import Derived.ProofKit
namespace Go.Proofs.Ytlgeckgeiknmjaa.Num
open Go.RowKit

set_option maxHeartbeats 400000 in
theorem radd_any (a b : Int) (w : World) : Calls Try.prog 34 #[.int .i64 a, .int .i64 b] w fun e w' => e = .returned (.tuple #[.int .i64 (addN a b), .int .i64 (addE a b)]) ∧ w = w' := by
  cases ha : amtB a
  · have hn : addB a b = false := by unfold addB; rw [ha]; rfl
    obtain ⟨e1, e2⟩ := add_not hn
    rw [e1, e2]
    clear e1 e2 hn
    go_enter Try.func34, Try.ntmps34
    go_wp2_with (go_at_call 30; refine (ramount_any _ _).mono ?_; rintro e w' ⟨rfl, rfl⟩)
    go_ret2
    exact ⟨rfl, rfl⟩
  · cases hb : amtB b
    · have hn : addB a b = false := by unfold addB; rw [ha, hb]; rfl
      obtain ⟨e1, e2⟩ := add_not hn
      rw [e1, e2]
      clear e1 e2 hn
      go_enter Try.func34, Try.ntmps34
      go_wp2_with (go_at_call 30; refine (ramount_any _ _).mono ?_; rintro e w' ⟨rfl, rfl⟩)
      go_ret2
      exact ⟨rfl, rfl⟩
    · obtain ⟨a0, a1⟩ := amt_iff.1 ha
      obtain ⟨b0, b1⟩ := amt_iff.1 hb
      by_cases hs : a + b ≤ 4611686018427387904
      · obtain ⟨e1, e2⟩ := add_at (add_iff.2 ⟨a0, b0, hs⟩)
        rw [e1, e2]
        clear e1 e2
        have ht : ¬ (4611686018427387904 - a < b) := by omega
        go_enter Try.func34, Try.ntmps34
        go_wp2_with (go_at_call 30; refine (ramount_any _ _).mono ?_; rintro e w' ⟨rfl, rfl⟩)
        go_ret2
        exact ⟨rfl, rfl⟩
      · obtain ⟨e1, e2⟩ := add_not (bool_false (add_iff (a := a) (b := b)) (by omega))
        rw [e1, e2]
        clear e1 e2
        have ht : 4611686018427387904 - a < b := by omega
        go_enter Try.func34, Try.ntmps34
        go_wp2_with (go_at_call 30; refine (ramount_any _ _).mono ?_; rintro e w' ⟨rfl, rfl⟩)
        go_ret2
        exact ⟨rfl, rfl⟩
theorem radd_yes (a b : Int) (w : World) (h : addB a b = true) : Calls Try.prog 34 #[.int .i64 a, .int .i64 b] w fun e w' => e = .returned (.tuple #[.int .i64 (a + b), .int .i64 0]) ∧ w = w' := by
  have := radd_any a b w; rwa [(add_at h).1, (add_at h).2] at this
theorem radd_no (a b : Int) (w : World) (h : addB a b = false) : Calls Try.prog 34 #[.int .i64 a, .int .i64 b] w fun e w' => e = .returned (.tuple #[.int .i64 0, .int .i64 1]) ∧ w = w' := by
  have := radd_any a b w; rwa [(add_not h).1, (add_not h).2] at this
end Go.Proofs.Ytlgeckgeiknmjaa.Num
