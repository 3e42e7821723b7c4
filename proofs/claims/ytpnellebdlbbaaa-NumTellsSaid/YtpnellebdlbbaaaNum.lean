/-
  What each function of package num, and the document's own answer beside it, gives back: for every whole number; the world stays as it is.
-/
import Derived.Test.YtpnellebdlbbaaaChecked
import Derived.Test.YtpnellebdlbbaaaNumMath
import Derived.WalkKit
import Derived.WalkSpells
import Derived.WalkLawsBesides
import Derived.OpenShut
import Derived.Lib.Hide
namespace Go.Proofs.Ytpnellebdlbbaaa.Num
open Go.RowKit

def Wf (n : Int) : Prop := (Lit.int .i64 n).wf = true
theorem wf_bd {n : Int} (h : Wf n) : -9223372036854775808 ≤ n ∧ n ≤ 9223372036854775807 := by
  unfold Wf at h; exact bounds_i64 h


set_option maxHeartbeats 400000 in
theorem amount_any (n : Int) (w : World) : Calls Try.prog 19 #[.int .i64 n] w fun e w' => e = .returned (.bool (amtB n)) ∧ w = w' := by
  by_cases h0 : 0 ≤ n
  · by_cases h1 : n ≤ 4611686018427387904
    · rw [amt_yes h0 h1]
      go_enter Try.func19, Try.ntmps19
      go_wp2
      go_ret
      exact ⟨rfl, rfl⟩
    · rw [amt_no (by omega)]
      go_enter Try.func19, Try.ntmps19
      go_wp2
      go_ret
      exact ⟨rfl, rfl⟩
  · rw [amt_no (by omega)]
    go_enter Try.func19, Try.ntmps19
    go_wp2
    go_ret
    exact ⟨rfl, rfl⟩

set_option maxHeartbeats 400000 in
theorem tick_any (n : Int) (w : World) : Calls Try.prog 21 #[.int .i64 n] w fun e w' => e = .returned (.bool (tickB n)) ∧ w = w' := by
  by_cases h0 : 0 ≤ n
  · by_cases h1 : n ≤ 1099511627776
    · rw [tick_yes h0 h1]
      go_enter Try.func21, Try.ntmps21
      go_wp2
      go_ret
      exact ⟨rfl, rfl⟩
    · rw [tick_no (by omega)]
      go_enter Try.func21, Try.ntmps21
      go_wp2
      go_ret
      exact ⟨rfl, rfl⟩
  · rw [tick_no (by omega)]
    go_enter Try.func21, Try.ntmps21
    go_wp2
    go_ret
    exact ⟨rfl, rfl⟩

set_option maxHeartbeats 400000 in
theorem ramount_any (n : Int) (w : World) : Calls Try.prog 20 #[.int .i64 n] w fun e w' => e = .returned (.bool (amtB n)) ∧ w = w' := by
  by_cases h0 : 0 ≤ n
  · by_cases h1 : n ≤ 4611686018427387904
    · rw [amt_yes h0 h1]
      go_enter Try.func20, Try.ntmps20
      go_wp2
      go_ret
      exact ⟨rfl, rfl⟩
    · rw [amt_no (by omega)]
      go_enter Try.func20, Try.ntmps20
      go_wp2
      go_ret
      exact ⟨rfl, rfl⟩
  · rw [amt_no (by omega)]
    go_enter Try.func20, Try.ntmps20
    go_wp2
    go_ret
    exact ⟨rfl, rfl⟩

set_option maxHeartbeats 400000 in
theorem rtick_any (n : Int) (w : World) : Calls Try.prog 22 #[.int .i64 n] w fun e w' => e = .returned (.bool (tickB n)) ∧ w = w' := by
  by_cases h0 : 0 ≤ n
  · by_cases h1 : n ≤ 1099511627776
    · rw [tick_yes h0 h1]
      go_enter Try.func22, Try.ntmps22
      go_wp2
      go_ret
      exact ⟨rfl, rfl⟩
    · rw [tick_no (by omega)]
      go_enter Try.func22, Try.ntmps22
      go_wp2
      go_ret
      exact ⟨rfl, rfl⟩
  · rw [tick_no (by omega)]
    go_enter Try.func22, Try.ntmps22
    go_wp2
    go_ret
    exact ⟨rfl, rfl⟩

set_option maxHeartbeats 400000 in
theorem amounts_any (a b : Int) (w : World) : Calls Try.prog 23 #[.int .i64 a, .int .i64 b] w fun e w' => e = .returned (.bool (amtB a && amtB b)) ∧ w = w' := by
  cases ha : amtB a
  · go_enter Try.func23, Try.ntmps23
    go_wp2_with (go_at_call 19; refine (amount_any _ _).mono ?_; rintro e w' ⟨rfl, rfl⟩)
    go_ret
    exact ⟨rfl, rfl⟩
  · go_enter Try.func23, Try.ntmps23
    go_wp2_with (go_at_call 19; refine (amount_any _ _).mono ?_; rintro e w' ⟨rfl, rfl⟩)
    go_ret
    exact ⟨rfl, rfl⟩

set_option maxHeartbeats 400000 in
theorem add_any (a b : Int) (w : World) : Calls Try.prog 9 #[.int .i64 a, .int .i64 b] w fun e w' => e = .returned (.tuple #[.int .i64 (addN a b), .int .i64 (addE a b)]) ∧ w = w' := by
  cases ha : amtB a && amtB b
  · have hn : addB a b = false := by unfold addB; rw [ha]; rfl
    obtain ⟨e1, e2⟩ := add_not hn
    rw [e1, e2]
    clear e1 e2 hn
    go_enter Try.func9, Try.ntmps9
    go_wp2_with (go_at_call 23; refine (amounts_any _ _ _).mono ?_; rintro e w' ⟨rfl, rfl⟩)
    go_ret2
    exact ⟨rfl, rfl⟩
  · have hb := ha
    rw [Bool.and_eq_true, amt_iff, amt_iff] at hb
    obtain ⟨⟨a0, a1⟩, b0, b1⟩ := hb
    by_cases hs : a + b ≤ 4611686018427387904
    · obtain ⟨e1, e2⟩ := add_at (add_iff.2 ⟨a0, b0, hs⟩)
      rw [e1, e2]
      clear e1 e2
      have ht : ¬ (4611686018427387904 - b < a) := by omega
      go_enter Try.func9, Try.ntmps9
      go_wp2_with (go_at_call 23; refine (amounts_any _ _ _).mono ?_; rintro e w' ⟨rfl, rfl⟩)
      go_ret2
      exact ⟨rfl, rfl⟩
    · obtain ⟨e1, e2⟩ := add_not (bool_false (add_iff (a := a) (b := b)) (by omega))
      rw [e1, e2]
      clear e1 e2
      have ht : 4611686018427387904 - b < a := by omega
      go_enter Try.func9, Try.ntmps9
      go_wp2_with (go_at_call 23; refine (amounts_any _ _ _).mono ?_; rintro e w' ⟨rfl, rfl⟩)
      go_ret2
      exact ⟨rfl, rfl⟩

set_option maxHeartbeats 400000 in
theorem sub_any (a b : Int) (w : World) : Calls Try.prog 11 #[.int .i64 a, .int .i64 b] w fun e w' => e = .returned (.tuple #[.int .i64 (subN a b), .int .i64 (subE a b)]) ∧ w = w' := by
  cases ha : amtB a
  · have hn : subB a b = false := by unfold subB; rw [ha]; rfl
    obtain ⟨e1, e2⟩ := sub_not hn
    rw [e1, e2]
    clear e1 e2 hn
    go_enter Try.func11, Try.ntmps11
    go_wp2_with (go_at_call 23; refine (amounts_any _ _ _).mono ?_; rintro e w' ⟨rfl, rfl⟩)
    go_ret2
    exact ⟨rfl, rfl⟩
  · cases hb : amtB b
    · have hn : subB a b = false := by unfold subB; rw [ha, hb]; rfl
      obtain ⟨e1, e2⟩ := sub_not hn
      rw [e1, e2]
      clear e1 e2 hn
      go_enter Try.func11, Try.ntmps11
      go_wp2_with (go_at_call 23; refine (amounts_any _ _ _).mono ?_; rintro e w' ⟨rfl, rfl⟩)
      go_ret2
      exact ⟨rfl, rfl⟩
    · obtain ⟨a0, a1⟩ := amt_iff.1 ha
      obtain ⟨b0, b1⟩ := amt_iff.1 hb
      by_cases hs : b ≤ a
      · obtain ⟨e1, e2⟩ := sub_at (sub_iff.2 ⟨a1, b0, hs⟩)
        rw [e1, e2]
        clear e1 e2
        have ht : ¬ (a < b) := by omega
        go_enter Try.func11, Try.ntmps11
        go_wp2_with (go_at_call 23; refine (amounts_any _ _ _).mono ?_; rintro e w' ⟨rfl, rfl⟩)
        go_ret2
        exact ⟨rfl, rfl⟩
      · obtain ⟨e1, e2⟩ := sub_not (bool_false (sub_iff (a := a) (b := b)) (by omega))
        rw [e1, e2]
        clear e1 e2
        have ht : a < b := by omega
        go_enter Try.func11, Try.ntmps11
        go_wp2_with (go_at_call 23; refine (amounts_any _ _ _).mono ?_; rintro e w' ⟨rfl, rfl⟩)
        go_ret2
        exact ⟨rfl, rfl⟩

set_option maxHeartbeats 400000 in
theorem radd_any (a b : Int) (w : World) : Calls Try.prog 10 #[.int .i64 a, .int .i64 b] w fun e w' => e = .returned (.tuple #[.int .i64 (addN a b), .int .i64 (addE a b)]) ∧ w = w' := by
  cases ha : amtB a
  · have hn : addB a b = false := by unfold addB; rw [ha]; rfl
    obtain ⟨e1, e2⟩ := add_not hn
    rw [e1, e2]
    clear e1 e2 hn
    go_enter Try.func10, Try.ntmps10
    go_wp2_with (go_at_call 20; refine (ramount_any _ _).mono ?_; rintro e w' ⟨rfl, rfl⟩)
    go_ret2
    exact ⟨rfl, rfl⟩
  · cases hb : amtB b
    · have hn : addB a b = false := by unfold addB; rw [ha, hb]; rfl
      obtain ⟨e1, e2⟩ := add_not hn
      rw [e1, e2]
      clear e1 e2 hn
      go_enter Try.func10, Try.ntmps10
      go_wp2_with (go_at_call 20; refine (ramount_any _ _).mono ?_; rintro e w' ⟨rfl, rfl⟩)
      go_ret2
      exact ⟨rfl, rfl⟩
    · obtain ⟨a0, a1⟩ := amt_iff.1 ha
      obtain ⟨b0, b1⟩ := amt_iff.1 hb
      by_cases hs : a + b ≤ 4611686018427387904
      · obtain ⟨e1, e2⟩ := add_at (add_iff.2 ⟨a0, b0, hs⟩)
        rw [e1, e2]
        clear e1 e2
        have ht : ¬ (4611686018427387904 - a < b) := by omega
        go_enter Try.func10, Try.ntmps10
        go_wp2_with (go_at_call 20; refine (ramount_any _ _).mono ?_; rintro e w' ⟨rfl, rfl⟩)
        go_ret2
        exact ⟨rfl, rfl⟩
      · obtain ⟨e1, e2⟩ := add_not (bool_false (add_iff (a := a) (b := b)) (by omega))
        rw [e1, e2]
        clear e1 e2
        have ht : 4611686018427387904 - a < b := by omega
        go_enter Try.func10, Try.ntmps10
        go_wp2_with (go_at_call 20; refine (ramount_any _ _).mono ?_; rintro e w' ⟨rfl, rfl⟩)
        go_ret2
        exact ⟨rfl, rfl⟩

set_option maxHeartbeats 400000 in
theorem rsub_any (a b : Int) (w : World) : Calls Try.prog 12 #[.int .i64 a, .int .i64 b] w fun e w' => e = .returned (.tuple #[.int .i64 (subN a b), .int .i64 (subE a b)]) ∧ w = w' := by
  cases ha : amtB a
  · have hn : subB a b = false := by unfold subB; rw [ha]; rfl
    obtain ⟨e1, e2⟩ := sub_not hn
    rw [e1, e2]
    clear e1 e2 hn
    go_enter Try.func12, Try.ntmps12
    go_wp2_with (go_at_call 20; refine (ramount_any _ _).mono ?_; rintro e w' ⟨rfl, rfl⟩)
    go_ret2
    exact ⟨rfl, rfl⟩
  · cases hb : amtB b
    · have hn : subB a b = false := by unfold subB; rw [ha, hb]; rfl
      obtain ⟨e1, e2⟩ := sub_not hn
      rw [e1, e2]
      clear e1 e2 hn
      go_enter Try.func12, Try.ntmps12
      go_wp2_with (go_at_call 20; refine (ramount_any _ _).mono ?_; rintro e w' ⟨rfl, rfl⟩)
      go_ret2
      exact ⟨rfl, rfl⟩
    · obtain ⟨a0, a1⟩ := amt_iff.1 ha
      obtain ⟨b0, b1⟩ := amt_iff.1 hb
      by_cases hs : b ≤ a
      · obtain ⟨e1, e2⟩ := sub_at (sub_iff.2 ⟨a1, b0, hs⟩)
        rw [e1, e2]
        clear e1 e2
        have ht : ¬ (a < b) := by omega
        go_enter Try.func12, Try.ntmps12
        go_wp2_with (go_at_call 20; refine (ramount_any _ _).mono ?_; rintro e w' ⟨rfl, rfl⟩)
        go_ret2
        exact ⟨rfl, rfl⟩
      · obtain ⟨e1, e2⟩ := sub_not (bool_false (sub_iff (a := a) (b := b)) (by omega))
        rw [e1, e2]
        clear e1 e2
        have ht : a < b := by omega
        go_enter Try.func12, Try.ntmps12
        go_wp2_with (go_at_call 20; refine (ramount_any _ _).mono ?_; rintro e w' ⟨rfl, rfl⟩)
        go_ret2
        exact ⟨rfl, rfl⟩

set_option maxHeartbeats 400000 in
theorem mul_any (a b : Int) (w : World) : Calls Try.prog 13 #[.int .i64 a, .int .i64 b] w fun e w' => e = .returned (.tuple #[.int .i64 (mulN a b), .int .i64 (mulE a b)]) ∧ w = w' := by
  cases ha : amtB a
  · have hn : mulB a b = false := by unfold mulB; rw [ha]; rfl
    obtain ⟨e1, e2⟩ := mul_not hn
    rw [e1, e2]
    clear e1 e2 hn
    go_enter Try.func13, Try.ntmps13
    go_wp2_with (go_at_call 23; refine (amounts_any _ _ _).mono ?_; rintro e w' ⟨rfl, rfl⟩)
    go_ret2
    exact ⟨rfl, rfl⟩
  · cases hb : amtB b
    · have hn : mulB a b = false := by unfold mulB; rw [ha, hb]; rfl
      obtain ⟨e1, e2⟩ := mul_not hn
      rw [e1, e2]
      clear e1 e2 hn
      go_enter Try.func13, Try.ntmps13
      go_wp2_with (go_at_call 23; refine (amounts_any _ _ _).mono ?_; rintro e w' ⟨rfl, rfl⟩)
      go_ret2
      exact ⟨rfl, rfl⟩
    · obtain ⟨a0, a1⟩ := amt_iff.1 ha
      obtain ⟨b0, b1⟩ := amt_iff.1 hb
      by_cases hz : 0 < b
      · by_cases hs : a * b ≤ 4611686018427387904
        · obtain ⟨e1, e2⟩ := mul_at (mul_iff.2 ⟨⟨a0, a1⟩, ⟨b0, b1⟩, hs⟩)
          rw [e1, e2]
          clear e1 e2
          have ht : ¬ (4611686018427387904 / b < a) := by rw [quo_lt hz]; omega
          have hm : 0 ≤ a * b := Int.mul_nonneg a0 b0
          go_enter Try.func13, Try.ntmps13
          go_wp2_with (go_at_call 23; refine (amounts_any _ _ _).mono ?_; rintro e w' ⟨rfl, rfl⟩)
          go_ret2
          exact ⟨rfl, rfl⟩
        · obtain ⟨e1, e2⟩ := mul_not (bool_false mul_iff fun h => hs h.2.2)
          rw [e1, e2]
          clear e1 e2
          have ht : 4611686018427387904 / b < a := by rw [quo_lt hz]; omega
          go_enter Try.func13, Try.ntmps13
          go_wp2_with (go_at_call 23; refine (amounts_any _ _ _).mono ?_; rintro e w' ⟨rfl, rfl⟩)
          go_ret2
          exact ⟨rfl, rfl⟩
      · obtain rfl : b = 0 := by omega
        obtain ⟨e1, e2⟩ := mul_at (mul_iff.2 ⟨⟨a0, a1⟩, ⟨b0, b1⟩, by omega⟩)
        rw [e1, e2]
        clear e1 e2
        go_enter Try.func13, Try.ntmps13
        go_wp2_with (go_at_call 23; refine (amounts_any _ _ _).mono ?_; rintro e w' ⟨rfl, rfl⟩)
        go_ret2
        exact ⟨by simp, rfl⟩

set_option maxHeartbeats 400000 in
theorem rmul_any (a b : Int) (w : World) : Calls Try.prog 14 #[.int .i64 a, .int .i64 b] w fun e w' => e = .returned (.tuple #[.int .i64 (mulN a b), .int .i64 (mulE a b)]) ∧ w = w' := by
  cases ha : amtB a
  · have hn : mulB a b = false := by unfold mulB; rw [ha]; rfl
    obtain ⟨e1, e2⟩ := mul_not hn
    rw [e1, e2]
    clear e1 e2 hn
    go_enter Try.func14, Try.ntmps14
    go_wp2_with (go_at_call 20; refine (ramount_any _ _).mono ?_; rintro e w' ⟨rfl, rfl⟩)
    go_ret2
    exact ⟨rfl, rfl⟩
  · cases hb : amtB b
    · have hn : mulB a b = false := by unfold mulB; rw [ha, hb]; rfl
      obtain ⟨e1, e2⟩ := mul_not hn
      rw [e1, e2]
      clear e1 e2 hn
      go_enter Try.func14, Try.ntmps14
      go_wp2_with (go_at_call 20; refine (ramount_any _ _).mono ?_; rintro e w' ⟨rfl, rfl⟩)
      go_ret2
      exact ⟨rfl, rfl⟩
    · obtain ⟨a0, a1⟩ := amt_iff.1 ha
      obtain ⟨b0, b1⟩ := amt_iff.1 hb
      by_cases hz : 0 < b
      · by_cases hs : a * b ≤ 4611686018427387904
        · obtain ⟨e1, e2⟩ := mul_at (mul_iff.2 ⟨⟨a0, a1⟩, ⟨b0, b1⟩, hs⟩)
          rw [e1, e2]
          clear e1 e2
          have ht : ¬ (4611686018427387904 / b < a) := by rw [quo_lt hz]; omega
          have hm : 0 ≤ a * b := Int.mul_nonneg a0 b0
          go_enter Try.func14, Try.ntmps14
          go_wp2_with (go_at_call 20; refine (ramount_any _ _).mono ?_; rintro e w' ⟨rfl, rfl⟩)
          go_ret2
          exact ⟨rfl, rfl⟩
        · obtain ⟨e1, e2⟩ := mul_not (bool_false mul_iff fun h => hs h.2.2)
          rw [e1, e2]
          clear e1 e2
          have ht : 4611686018427387904 / b < a := by rw [quo_lt hz]; omega
          go_enter Try.func14, Try.ntmps14
          go_wp2_with (go_at_call 20; refine (ramount_any _ _).mono ?_; rintro e w' ⟨rfl, rfl⟩)
          go_ret2
          exact ⟨rfl, rfl⟩
      · obtain rfl : b = 0 := by omega
        obtain ⟨e1, e2⟩ := mul_at (mul_iff.2 ⟨⟨a0, a1⟩, ⟨b0, b1⟩, by omega⟩)
        rw [e1, e2]
        clear e1 e2
        go_enter Try.func14, Try.ntmps14
        go_wp2_with (go_at_call 20; refine (ramount_any _ _).mono ?_; rintro e w' ⟨rfl, rfl⟩)
        go_ret2
        exact ⟨by simp, rfl⟩

set_option maxHeartbeats 400000 in
theorem after_any (a b : Int) (w : World) : Calls Try.prog 17 #[.int .i64 a, .int .i64 b] w fun e w' => e = .returned (.tuple #[.int .i64 (aftN a b), .int .i64 (aftE a b)]) ∧ w = w' := by
  cases ha : tickB a
  · have hn : aftB a b = false := by unfold aftB; rw [ha]; rfl
    obtain ⟨e1, e2⟩ := aft_not hn
    rw [e1, e2]
    clear e1 e2 hn
    go_enter Try.func17, Try.ntmps17
    go_wp2_with (go_at_call 21; refine (tick_any _ _).mono ?_; rintro e w' ⟨rfl, rfl⟩)
    go_ret2
    exact ⟨rfl, rfl⟩
  · cases hb : tickB b
    · have hn : aftB a b = false := by unfold aftB; rw [ha, hb]; rfl
      obtain ⟨e1, e2⟩ := aft_not hn
      rw [e1, e2]
      clear e1 e2 hn
      go_enter Try.func17, Try.ntmps17
      go_wp2_with (go_at_call 21; refine (tick_any _ _).mono ?_; rintro e w' ⟨rfl, rfl⟩)
      go_ret2
      exact ⟨rfl, rfl⟩
    · obtain ⟨a0, a1⟩ := tick_iff.1 ha
      obtain ⟨b0, b1⟩ := tick_iff.1 hb
      cases hs : tickB (a + b)
      · obtain ⟨e1, e2⟩ := aft_not (a := a) (b := b) (by unfold aftB; rw [ha, hb, hs]; rfl)
        rw [e1, e2]
        clear e1 e2
        go_enter Try.func17, Try.ntmps17
        go_wp2_with (go_at_call 21; refine (tick_any _ _).mono ?_; rintro e w' ⟨rfl, rfl⟩)
        go_ret2
        exact ⟨rfl, rfl⟩
      · obtain ⟨e1, e2⟩ := aft_at (a := a) (b := b) (by unfold aftB; rw [ha, hb, hs]; rfl)
        rw [e1, e2]
        clear e1 e2
        go_enter Try.func17, Try.ntmps17
        go_wp2_with (go_at_call 21; refine (tick_any _ _).mono ?_; rintro e w' ⟨rfl, rfl⟩)
        go_ret2
        exact ⟨rfl, rfl⟩

set_option maxHeartbeats 400000 in
theorem rafter_any (a b : Int) (w : World) : Calls Try.prog 18 #[.int .i64 a, .int .i64 b] w fun e w' => e = .returned (.tuple #[.int .i64 (aftN a b), .int .i64 (aftE a b)]) ∧ w = w' := by
  cases ha : tickB a
  · have hn : aftB a b = false := by unfold aftB; rw [ha]; rfl
    obtain ⟨e1, e2⟩ := aft_not hn
    rw [e1, e2]
    clear e1 e2 hn
    go_enter Try.func18, Try.ntmps18
    go_wp2_with (go_at_call 22; refine (rtick_any _ _).mono ?_; rintro e w' ⟨rfl, rfl⟩)
    go_ret2
    exact ⟨rfl, rfl⟩
  · cases hb : tickB b
    · have hn : aftB a b = false := by unfold aftB; rw [ha, hb]; rfl
      obtain ⟨e1, e2⟩ := aft_not hn
      rw [e1, e2]
      clear e1 e2 hn
      go_enter Try.func18, Try.ntmps18
      go_wp2_with (go_at_call 22; refine (rtick_any _ _).mono ?_; rintro e w' ⟨rfl, rfl⟩)
      go_ret2
      exact ⟨rfl, rfl⟩
    · obtain ⟨a0, a1⟩ := tick_iff.1 ha
      obtain ⟨b0, b1⟩ := tick_iff.1 hb
      cases hs : tickB (a + b)
      · obtain ⟨e1, e2⟩ := aft_not (a := a) (b := b) (by unfold aftB; rw [ha, hb, hs]; rfl)
        rw [e1, e2]
        clear e1 e2
        go_enter Try.func18, Try.ntmps18
        go_wp2_with (go_at_call 22; refine (rtick_any _ _).mono ?_; rintro e w' ⟨rfl, rfl⟩)
        go_ret2
        exact ⟨rfl, rfl⟩
      · obtain ⟨e1, e2⟩ := aft_at (a := a) (b := b) (by unfold aftB; rw [ha, hb, hs]; rfl)
        rw [e1, e2]
        clear e1 e2
        go_enter Try.func18, Try.ntmps18
        go_wp2_with (go_at_call 22; refine (rtick_any _ _).mono ?_; rintro e w' ⟨rfl, rfl⟩)
        go_ret2
        exact ⟨rfl, rfl⟩

end Go.Proofs.Ytpnellebdlbbaaa.Num
