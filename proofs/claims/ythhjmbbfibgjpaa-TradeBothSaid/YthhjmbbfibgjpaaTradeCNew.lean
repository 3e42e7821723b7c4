/-
  Package trade: New.
-/
import Derived.Test.YthhjmbbfibgjpaaTradeMem
import Derived.Lib.Hide
import Derived.OpenShut
import Derived.ProofKit
namespace Go.Proofs.Ythhjmbbfibgjpaa.Trade
open Go.RowKit Go.Proofs.Ythhjmbbfibgjpaa.Sha

set_option maxHeartbeats 400000 in
theorem held_any {n : Int} {r : Bool} (h : decide (1 ≤ n ∧ n ≤ 4) = r) (w : World) : Calls Try.prog 22 #[.int .i64 n] w fun e w' => e = .returned (.bool r) ∧ w = w' := by
  subst h
  by_cases h0 : 1 ≤ n
  · by_cases h1 : n ≤ 4
    · have e : decide (1 ≤ n ∧ n ≤ 4) = true := decide_eq_true ⟨h0, h1⟩
      rw [e]
      go_enter Try.func22, Try.ntmps22
      go_wp2
      go_ret
      exact ⟨rfl, rfl⟩
    · have e : decide (1 ≤ n ∧ n ≤ 4) = false := decide_eq_false (fun h => h1 h.2)
      rw [e]
      go_enter Try.func22, Try.ntmps22
      go_wp2
      go_ret
      exact ⟨by simp, rfl⟩
  · have e : decide (1 ≤ n ∧ n ≤ 4) = false := decide_eq_false (fun h => h0 h.1)
    rw [e]
    go_enter Try.func22, Try.ntmps22
    go_wp2
    go_ret
    exact ⟨rfl, rfl⟩
/-- a desk, or none -/
def NewP (p c a : Int) (w : World) (e : Ending) (w' : World) : Prop :=
  if newOk p c a = true then ∃ F, e = .returned (.tuple #[.pointer (some ⟨w.heap.size, 0, none⟩), .int .i64 0]) ∧ Td F w.heap.size w' w.heap.size p c a [] ∧ Below w.heap.size w w' else e = .returned (.tuple #[.pointer none, .int .i64 1]) ∧ w = w'
set_option maxRecDepth 100000 in
set_option maxHeartbeats 2000000 in
theorem new_any (p c a : Int) (w : World) : Calls Try.prog 8 #[.int .i64 p, .int .i64 c, .int .i64 a] w (NewP p c a w) := by
  skip
  by_cases h0 : 2 ≤ p
  · skip
    by_cases h1 : p ≤ 16
    · skip
      by_cases h2 : 1 ≤ c ∧ c ≤ 4
      · have q2 : decide (1 ≤ c ∧ c ≤ 4) = true := decide_eq_true h2
        by_cases h3 : 1 ≤ a ∧ a ≤ 4
        · have q3 : decide (1 ≤ a ∧ a ≤ 4) = true := decide_eq_true h3
          have e : newOk p c a = true := by simp [newOk]; omega
          have KE := Kept.mk e
          clear e
          go_enter Try.func8, Try.ntmps8
          go_wp2_with fail
          refine (held_any q2 _).mono ?_
          rintro e z ⟨rfl, rfl⟩
          go_wp2_with fail
          refine (held_any q3 _).mono ?_
          rintro e z ⟨rfl, rfl⟩
          go_wp2
          go_ret2
          unfold NewP
          rw [if_pos KE.out]
          refine ⟨_, rfl, ⟨_, ⟨Nat.le_refl _, Blk.new_at w _ _ _ rfl, World.ownsRow_nil _ _ _ _⟩, rfl⟩, (Below.refl _ _).alloc (Nat.le_refl _) _⟩
        · have e : newOk p c a = false := by simp [newOk]; omega
          have KE := Kept.mk e
          clear e
          have q3 : decide (1 ≤ a ∧ a ≤ 4) = false := decide_eq_false h3
          go_enter Try.func8, Try.ntmps8
          go_wp2_with fail
          refine (held_any q2 _).mono ?_
          rintro e z ⟨rfl, rfl⟩
          go_wp2_with fail
          refine (held_any q3 _).mono ?_
          rintro e z ⟨rfl, rfl⟩
          go_wp2
          go_ret2
          unfold NewP
          rw [if_neg (by rw [KE.out]; simp)]
          exact ⟨rfl, rfl⟩
      · have e : newOk p c a = false := by simp [newOk]; omega
        have KE := Kept.mk e
        clear e
        have q2 : decide (1 ≤ c ∧ c ≤ 4) = false := decide_eq_false h2
        go_enter Try.func8, Try.ntmps8
        go_wp2_with fail
        refine (held_any q2 _).mono ?_
        rintro e z ⟨rfl, rfl⟩
        go_wp2
        go_ret2
        unfold NewP
        rw [if_neg (by rw [KE.out]; simp)]
        exact ⟨rfl, rfl⟩
    · have e : newOk p c a = false := by simp [newOk]; omega
      have KE := Kept.mk e
      clear e
      go_enter Try.func8, Try.ntmps8
      go_wp2
      go_ret2
      unfold NewP
      rw [if_neg (by rw [KE.out]; simp)]
      exact ⟨rfl, rfl⟩
  · have e : newOk p c a = false := by simp [newOk]; omega
    have KE := Kept.mk e
    clear e
    go_enter Try.func8, Try.ntmps8
    go_wp2
    go_ret2
    unfold NewP
    rw [if_neg (by rw [KE.out]; simp)]
    exact ⟨rfl, rfl⟩
theorem new_yes {p c a : Int} {w : World} (h : newOk p c a = true) : Calls Try.prog 8 #[.int .i64 p, .int .i64 c, .int .i64 a] w fun e w' => ∃ F, e = .returned (.tuple #[.pointer (some ⟨w.heap.size, 0, none⟩), .int .i64 0]) ∧ Td F w.heap.size w' w.heap.size p c a [] ∧ Below w.heap.size w w' := (new_any p c a w).mono fun _ _ k => by unfold NewP at k; rwa [if_pos h] at k
theorem new_no {p c a : Int} {w : World} (h : newOk p c a = false) : Calls Try.prog 8 #[.int .i64 p, .int .i64 c, .int .i64 a] w fun e w' => e = .returned (.tuple #[.pointer none, .int .i64 1]) ∧ w = w' := (new_any p c a w).mono fun _ _ k => by unfold NewP at k; rwa [if_neg (by rw [h]; decide)] at k
end Go.Proofs.Ythhjmbbfibgjpaa.Trade
