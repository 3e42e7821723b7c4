/-
  NumBack and NumTicks, walked: what is added is taken back; ticks go on up to the last one.
-/
import Derived.Test.YtpnellebdlbbaaaSum
namespace Go.Proofs.Ytpnellebdlbbaaa.Num
open Go.RowKit

theorem add_turned (a b : Int) (w : World) (h : addB a b = true) : Calls Try.prog 9 #[.int .i64 b, .int .i64 a] w fun e w' => e = .returned (.tuple #[.int .i64 (a + b), .int .i64 0]) ∧ w = w' := by
  have h' : addB b a = true := by rw [add_iff] at h ⊢; omega
  have := add_yes b a w h'
  rwa [Int.add_comm b a] at this
theorem add_turned_no (a b : Int) (w : World) (h : addB a b = false) : Calls Try.prog 9 #[.int .i64 b, .int .i64 a] w fun e w' => e = .returned (.tuple #[.int .i64 0, .int .i64 1]) ∧ w = w' := by
  have h' : addB b a = false := by
    refine bool_false add_iff fun k => ?_
    have : addB a b = true := add_iff.2 (by omega)
    rw [h] at this
    exact Bool.noConfusion this
  exact add_no b a w h'
theorem sub_back (a b : Int) (w : World) (h : addB a b = true) : Calls Try.prog 11 #[.int .i64 (a + b), .int .i64 b] w fun e w' => e = .returned (.tuple #[.int .i64 a, .int .i64 0]) ∧ w = w' := by
  have k := add_iff.1 h
  have h' : subB (a + b) b = true := sub_iff.2 (by omega)
  have := sub_any (a + b) b w
  rw [(sub_at h').1, (sub_at h').2] at this
  rwa [Int.add_sub_cancel] at this
theorem mul_one' (a b : Int) (w : World) (h : addB a b = true) : Calls Try.prog 13 #[.int .i64 a, .int .i64 1] w fun e w' => e = .returned (.tuple #[.int .i64 a, .int .i64 0]) ∧ w = w' := by
  have k := add_iff.1 h
  have h' : mulB a 1 = true := mul_iff.2 (by omega)
  have := mul_any a 1 w
  rw [(mul_at h').1, (mul_at h').2] at this
  rwa [Int.mul_one] at this
theorem mul_none (a b : Int) (w : World) (h : addB a b = true) : Calls Try.prog 13 #[.int .i64 a, .int .i64 0] w fun e w' => e = .returned (.tuple #[.int .i64 0, .int .i64 0]) ∧ w = w' := by
  have k := add_iff.1 h
  have h' : mulB a 0 = true := mul_iff.2 (by omega)
  have := mul_any a 0 w
  rw [(mul_at h').1, (mul_at h').2] at this
  rwa [Int.mul_zero] at this
theorem amount_of (a b : Int) (w : World) (h : addB a b = true) : Calls Try.prog 19 #[.int .i64 (a + b)] w fun e w' => e = .returned (.bool true) ∧ w = w' := by
  have k := add_iff.1 h
  have h' : amtB (a + b) = true := amt_iff.2 (by omega)
  have := amount_any (a + b) w
  rwa [h'] at this

set_option maxRecDepth 100000 in
set_option maxHeartbeats 1000000 in
theorem back_walk (a b : Int) (w : World) :
    Calls Try.prog 4 #[.int .i64 a, .int .i64 b] w fun e w' => e = .returned (.bool true) ∧ Below w.heap.size w w' := by
  cases hs : addB a b
  · have H := Lib.hid hs
    clear hs
    go_enter Try.func4, Try.ntmps4
    go_wp2_with fail
    refine (first_any _).mono ?_
    rintro e w1 ⟨rfl, hb1⟩
    go_wp2_with fail
    refine (add_no _ _ _ H.out).mono ?_
    rintro e w' ⟨rfl, rfl⟩
    go_wp2_with fail
    refine (add_turned_no _ _ _ H.out).mono ?_
    rintro e w' ⟨rfl, rfl⟩
    go_wp2_with fail
    refine (first_any _).mono ?_
    rintro e w2 ⟨rfl, hb2⟩
    go_wp2
    go_ret
    exact ⟨rfl, hb1.trans (hb2.mono hb1.size)⟩
  · have k := add_iff.1 hs
    have k1 : ¬ (a + b < a) := by omega
    have k2 : ¬ (a + b < b) := by omega
    have H := Lib.hid hs
    clear hs
    go_enter Try.func4, Try.ntmps4
    go_wp2_with fail
    refine (first_any _).mono ?_
    rintro e w1 ⟨rfl, hb1⟩
    go_wp2_with fail
    refine (add_yes _ _ _ H.out).mono ?_
    rintro e w' ⟨rfl, rfl⟩
    go_wp2_with fail
    refine (add_turned _ _ _ H.out).mono ?_
    rintro e w' ⟨rfl, rfl⟩
    go_wp2_with fail
    refine (amount_of _ _ _ H.out).mono ?_
    rintro e w' ⟨rfl, rfl⟩
    go_wp2_with fail
    refine (sub_back _ _ _ H.out).mono ?_
    rintro e w' ⟨rfl, rfl⟩
    go_wp2_with fail
    refine (mul_one' _ _ _ H.out).mono ?_
    rintro e w' ⟨rfl, rfl⟩
    go_wp2_with fail
    refine (mul_none _ _ _ H.out).mono ?_
    rintro e w' ⟨rfl, rfl⟩
    go_wp2_with fail
    refine (first_any _).mono ?_
    rintro e w2 ⟨rfl, hb2⟩
    go_wp2
    go_ret
    exact ⟨rfl, hb1.trans (hb2.mono hb1.size)⟩

theorem after_yes (a b : Int) (w : World) (h : aftB a b = true) : Calls Try.prog 17 #[.int .i64 a, .int .i64 b] w fun e w' => e = .returned (.tuple #[.int .i64 (a + b), .int .i64 0]) ∧ w = w' := by
  have := after_any a b w; rwa [(aft_at h).1, (aft_at h).2] at this
theorem after_no (a b : Int) (w : World) (h : aftB a b = false) : Calls Try.prog 17 #[.int .i64 a, .int .i64 b] w fun e w' => e = .returned (.tuple #[.int .i64 0, .int .i64 1]) ∧ w = w' := by
  have := after_any a b w; rwa [(aft_not h).1, (aft_not h).2] at this
theorem tick_sum (a b : Int) (w : World) (h : aftB a b = true) : Calls Try.prog 21 #[.int .i64 (a + b)] w fun e w' => e = .returned (.bool true) ∧ w = w' := by
  have k := aft_iff.1 h
  have h' : tickB (a + b) = true := tick_iff.2 (by omega)
  have := tick_any (a + b) w
  rwa [h'] at this
theorem tick_of (a : Int) (w : World) (v : Bool) (h : tickB a = v) : Calls Try.prog 21 #[.int .i64 a] w fun e w' => e = .returned (.bool v) ∧ w = w' := by
  have := tick_any a w
  rwa [h] at this

set_option maxRecDepth 100000 in
set_option maxHeartbeats 1000000 in
theorem ticks_walk (a b : Int) (w : World) :
    Calls Try.prog 6 #[.int .i64 a, .int .i64 b] w fun e w' => e = .returned (.bool true) ∧ Below w.heap.size w w' := by
  cases hs : aftB a b
  · have H := Lib.hid hs
    cases ha : tickB a
    · have Ha := Lib.hid ha
      clear hs ha
      go_enter Try.func6, Try.ntmps6
      go_wp2_with fail
      refine (first_any _).mono ?_
      rintro e w1 ⟨rfl, hb1⟩
      go_wp2_with fail
      refine (after_no _ _ _ H.out).mono ?_
      rintro e w' ⟨rfl, rfl⟩
      go_wp2_with fail
      refine (first_any _).mono ?_
      rintro e w2 ⟨rfl, hb2⟩
      go_wp2_with (refine (tick_of _ _ _ Ha.out).mono ?_; rintro e w' ⟨rfl, rfl⟩)
      go_ret
      exact ⟨rfl, hb1.trans (hb2.mono hb1.size)⟩
    · have Ha := Lib.hid ha
      cases hb : tickB b
      · have Hb := Lib.hid hb
        clear hs ha hb
        go_enter Try.func6, Try.ntmps6
        go_wp2_with fail
        refine (first_any _).mono ?_
        rintro e w1 ⟨rfl, hb1⟩
        go_wp2_with fail
        refine (after_no _ _ _ H.out).mono ?_
        rintro e w' ⟨rfl, rfl⟩
        go_wp2_with fail
        refine (first_any _).mono ?_
        rintro e w2 ⟨rfl, hb2⟩
        go_wp2_with fail
        refine (tick_of _ _ _ Ha.out).mono ?_
        rintro e w' ⟨rfl, rfl⟩
        go_wp2_with fail
        refine (tick_of _ _ _ Hb.out).mono ?_
        rintro e w' ⟨rfl, rfl⟩
        go_wp2
        go_ret
        exact ⟨rfl, hb1.trans (hb2.mono hb1.size)⟩
      · have Hb := Lib.hid hb
        have ka := tick_iff.1 ha
        have kb := tick_iff.1 hb
        have ks : ¬ (a + b ≤ 1099511627776) := fun k => by rw [aft_iff.2 ⟨ka.1, kb.1, k⟩] at hs; exact Bool.noConfusion hs
        have kt : 1099511627776 - b < a := by omega
        clear hs ha hb ks
        go_enter Try.func6, Try.ntmps6
        go_wp2_with fail
        refine (first_any _).mono ?_
        rintro e w1 ⟨rfl, hb1⟩
        go_wp2_with fail
        refine (after_no _ _ _ H.out).mono ?_
        rintro e w' ⟨rfl, rfl⟩
        go_wp2_with fail
        refine (first_any _).mono ?_
        rintro e w2 ⟨rfl, hb2⟩
        go_wp2_with fail
        refine (tick_of _ _ _ Ha.out).mono ?_
        rintro e w' ⟨rfl, rfl⟩
        go_wp2_with fail
        refine (tick_of _ _ _ Hb.out).mono ?_
        rintro e w' ⟨rfl, rfl⟩
        go_wp2
        go_ret
        exact ⟨rfl, hb1.trans (hb2.mono hb1.size)⟩
  · have H := Lib.hid hs
    have k := aft_iff.1 hs
    have ke : a + b - a = b := by omega
    have kE := Lib.hid ke
    have k1 : a ≤ a + b := by omega
    have k2 : b ≤ a + b := by omega
    have kd : (a + b - a == b) = true := by rw [ke]; simp
    clear hs ke
    go_enter Try.func6, Try.ntmps6
    go_wp2_with fail
    refine (first_any _).mono ?_
    rintro e w1 ⟨rfl, hb1⟩
    go_wp2_with fail
    refine (after_yes _ _ _ H.out).mono ?_
    rintro e w' ⟨rfl, rfl⟩
    go_wp2_with fail
    refine (first_any _).mono ?_
    rintro e w2 ⟨rfl, hb2⟩
    go_wp2_with fail
    refine (tick_sum _ _ _ H.out).mono ?_
    rintro e w' ⟨rfl, rfl⟩
    go_wp2
    go_ret
    exact ⟨rfl, hb1.trans (hb2.mono hb1.size)⟩

end Go.Proofs.Ytpnellebdlbbaaa.Num
