/-
  The law's own bound on a beginning.
-/
import Derived.Test.YtlgeckgeiknmjaaRowsI
namespace Go.Proofs.Ytlgeckgeiknmjaa.Purse
open Go.RowKit Go.Proofs.Ytlgeckgeiknmjaa.Sha

def FewPost (n : Nat) (w : World) (e : Ending) (w' : World) : Prop := ∃ t : Bool, e = .returned (.bool t) ∧ (t = true → n ≤ 100) ∧ w = w'
set_option maxRecDepth 100000 in
set_option maxHeartbeats 1000000 in
theorem few_any (A : Option Addr) (n cap : Nat) (X : Nat → List Int) (w : World) (hr : Rwi w A n X) (hn : n ≤ 9223372036854775807) :
    Calls Try.prog 8 #[.slice A n cap] w (FewPost n w) := by
  have HR := Kept.mk hr
  clear hr
  go_enter Try.func8, Try.ntmps8
  go_wp2
  go_loop [3, 4] (fun s i => ∃ k z : Nat, k ≤ n ∧ k ≤ 100 ∧ z ≤ 1001 * k ∧ s = .int .i64 z ∧ i = .int .i64 k) (fun _ i => 100 - (Go.RowKit.intOf i).toNat)
  case atStart => exact ⟨0, 0, by omega, by omega, by omega, rfl, rfl⟩
  case round =>
    obtain ⟨k, z, hk, hk1, hz, rfl, rfl⟩ := hrel
    by_cases hkn : k < n
    · have hkn' : (k : Int) < n := by omega
      by_cases hk2 : k < 100
      · have hk2' : (k : Int) < 100 := by omega
        obtain ⟨b, o, a, l, c, rfl, h1, h2, h3, h4⟩ := HR.out.row k hkn
        clear h4
        by_cases hlT : l ≤ 1001
        · have hlT' : (l : Int) ≤ 1001 := by omega
          go_wp2
          go_round
          case rel => exact ⟨k + 1, z + l, by omega, by omega, by omega, by go_num, by go_num⟩
          case measure => simp [Go.RowKit.intOf]; omega
        · have hlT' : ¬ (l : Int) ≤ 1001 := by omega
          go_wp2
          go_round
          case rel => exact ⟨k + 1, z + 1001, by omega, by omega, by omega, by go_num, by go_num⟩
          case measure => simp [Go.RowKit.intOf]; omega
      · have hn2 : ¬ (n : Int) ≤ 100 := by omega
        have hk2' : ¬ (k : Int) < 100 := by omega
        go_wp2
        go_ret
        exact ⟨_, rfl, by simp, rfl⟩
    · have hkn' : ¬ (k : Int) < n := by omega
      obtain rfl : k = n := by omega
      have hk3 : (k : Int) ≤ 100 := by omega
      go_wp2
      go_ret
      exact ⟨_, rfl, fun _ => hk1, rfl⟩
end Go.Proofs.Ytlgeckgeiknmjaa.Purse
