/-
  The document's desk: NewDesk.
-/
import Derived.Test.YthhjmbbfibgjpaaTradeRMay
namespace Go.Proofs.Ythhjmbbfibgjpaa.Trade
open Go.RowKit Go.Proofs.Ythhjmbbfibgjpaa.Sha


/-- a desk, or none -/
def RNewP (p c a : Int) (w : World) (e : Ending) (w' : World) : Prop :=
  if newOk p c a = true then ∃ F, e = .returned (.tuple #[.pointer (some ⟨w.heap.size, 0, none⟩), .int .i64 0]) ∧ Rk F w.heap.size w' w.heap.size p c a [] ∧ Below w.heap.size w w' else e = .returned (.tuple #[.pointer none, .int .i64 1]) ∧ w = w'
set_option maxRecDepth 100000 in
set_option maxHeartbeats 2000000 in
theorem rnew_any (p c a : Int) (w : World) : Calls Try.prog 9 #[.int .i64 p, .int .i64 c, .int .i64 a] w (RNewP p c a w) := by
  skip
  by_cases h0 : 2 ≤ p ∧ p ≤ 16
  · have q0 : decide (2 ≤ p ∧ p ≤ 16) = true := decide_eq_true h0
    by_cases h1 : 1 ≤ c ∧ c ≤ 4
    · have q1 : decide (1 ≤ c ∧ c ≤ 4) = true := decide_eq_true h1
      by_cases h2 : 1 ≤ a ∧ a ≤ 4
      · have q2 : decide (1 ≤ a ∧ a ≤ 4) = true := decide_eq_true h2
        have e : newOk p c a = true := by simp [newOk]; omega
        have KE := Kept.mk e
        clear e
        go_enter Try.func9, Try.ntmps9
        go_wp2_with fail
        refine (in_any q0 _).mono ?_
        rintro e z ⟨rfl, rfl⟩
        go_wp2_with fail
        refine (in_any q1 _).mono ?_
        rintro e z ⟨rfl, rfl⟩
        go_wp2_with fail
        refine (in_any q2 _).mono ?_
        rintro e z ⟨rfl, rfl⟩
        go_wp2
        go_ret2
        unfold RNewP
        rw [if_pos KE.out]
        refine ⟨_, rfl, ⟨_, _, ⟨Nat.le_refl _, Blk.new_at w _ _ _ rfl, World.ownsRow_nil _ _ _ _, World.ownsRow_nil _ _ _ _⟩, rfl⟩, (Below.refl _ _).alloc (Nat.le_refl _) _⟩
      · have e : newOk p c a = false := by simp [newOk]; omega
        have KE := Kept.mk e
        clear e
        have q2 : decide (1 ≤ a ∧ a ≤ 4) = false := decide_eq_false h2
        go_enter Try.func9, Try.ntmps9
        go_wp2_with fail
        refine (in_any q0 _).mono ?_
        rintro e z ⟨rfl, rfl⟩
        go_wp2_with fail
        refine (in_any q1 _).mono ?_
        rintro e z ⟨rfl, rfl⟩
        go_wp2_with fail
        refine (in_any q2 _).mono ?_
        rintro e z ⟨rfl, rfl⟩
        go_wp2
        go_ret2
        unfold RNewP
        rw [if_neg (by rw [KE.out]; simp)]
        exact ⟨rfl, rfl⟩
    · have e : newOk p c a = false := by simp [newOk]; omega
      have KE := Kept.mk e
      clear e
      have q1 : decide (1 ≤ c ∧ c ≤ 4) = false := decide_eq_false h1
      go_enter Try.func9, Try.ntmps9
      go_wp2_with fail
      refine (in_any q0 _).mono ?_
      rintro e z ⟨rfl, rfl⟩
      go_wp2_with fail
      refine (in_any q1 _).mono ?_
      rintro e z ⟨rfl, rfl⟩
      go_wp2
      go_ret2
      unfold RNewP
      rw [if_neg (by rw [KE.out]; simp)]
      exact ⟨rfl, rfl⟩
  · have e : newOk p c a = false := by simp [newOk]; omega
    have KE := Kept.mk e
    clear e
    have q0 : decide (2 ≤ p ∧ p ≤ 16) = false := decide_eq_false h0
    go_enter Try.func9, Try.ntmps9
    go_wp2_with fail
    refine (in_any q0 _).mono ?_
    rintro e z ⟨rfl, rfl⟩
    go_wp2
    go_ret2
    unfold RNewP
    rw [if_neg (by rw [KE.out]; simp)]
    exact ⟨rfl, rfl⟩
theorem rnew_yes {p c a : Int} {w : World} (h : newOk p c a = true) : Calls Try.prog 9 #[.int .i64 p, .int .i64 c, .int .i64 a] w fun e w' => ∃ F, e = .returned (.tuple #[.pointer (some ⟨w.heap.size, 0, none⟩), .int .i64 0]) ∧ Rk F w.heap.size w' w.heap.size p c a [] ∧ Below w.heap.size w w' := (rnew_any p c a w).mono fun _ _ k => by unfold RNewP at k; rwa [if_pos h] at k
theorem rnew_no {p c a : Int} {w : World} (h : newOk p c a = false) : Calls Try.prog 9 #[.int .i64 p, .int .i64 c, .int .i64 a] w fun e w' => e = .returned (.tuple #[.pointer none, .int .i64 1]) ∧ w = w' := (rnew_any p c a w).mono fun _ _ k => by unfold RNewP at k; rwa [if_neg (by rw [h]; decide)] at k
end Go.Proofs.Ythhjmbbfibgjpaa.Trade
